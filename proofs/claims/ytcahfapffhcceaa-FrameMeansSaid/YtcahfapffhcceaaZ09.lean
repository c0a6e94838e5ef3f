/- ref06.May: the walk. -/
import Derived.Test.YtcahfapffhcceaaZ05

set_option linter.unusedSimpArgs false
set_option linter.unusedVariables false
namespace Go.Proofs.Ytcahfapffhcceaa
open Go.RowKit
attribute [local go_sem ↓] Go.wp_at_zero Go.wp_at_succ

set_option maxHeartbeats 4000000 in
set_option maxRecDepth 100000 in
theorem mr0 (f : Fr) (a : Option Addr) (c m : Nat) (B : List UInt8) (w : World) (t0 : decide (1 ≤ f.n) = false) :
    Calls Try.prog 11 #[.agg #[.int .i64 f.k, .int .i64 f.n, .int .u64 (f.mb : Nat), .int .u64 (f.mt : Nat), .int .u64 (f.tb : Nat), .int .u64 (f.tt : Nat), .int .u64 (f.s : Nat), .int .u64 (f.a : Nat), .slice a m c]] w fun e w' => e = .returned (.bool (mayF f B)) ∧ Below w.heap.size w w' := by
  obtain ⟨w1, hw1⟩ : ∃ w1, w1 = w.alloc (.cells #[.int .i64 f.k, .int .i64 f.n, .int .u64 (f.mb : Nat), .int .u64 (f.mt : Nat), .int .u64 (f.tb : Nat), .int .u64 (f.tt : Nat), .int .u64 (f.s : Nat), .int .u64 (f.a : Nat), .slice a m c] 28) := ⟨_, rfl⟩
  have HB : Hid (Below w.heap.size w w1) := by rw [hw1]; exact (Below.refl _ _).alloc (Nat.le_refl _) _
  have HR : Hid (BlkAt 28 w.heap.size [.int .i64 f.k, .int .i64 f.n, .int .u64 (f.mb : Nat), .int .u64 (f.mt : Nat), .int .u64 (f.tb : Nat), .int .u64 (f.tt : Nat), .int .u64 (f.s : Nat), .int .u64 (f.a : Nat), .slice a m c] w1) := by rw [hw1]; exact BlkAt.new w _
  have q0 : f.n < 1 := by simpa using t0
  have HE : Hid (mayF f B = false) := by show _ = false; unfold mayF; rw [t0]; try simp
  clear t0
  go_enter Try.func11, Try.ntmps11
  go_wp2_with fail
  rw [← hw1]
  clear hw1
  obtain ⟨c0, c1, c2, c3, c4, c5, c6, c7, c8⟩ := blk9 HR.out
  go_wp2_with fail
  go_ret
  exact ⟨ret_b (by rw [HE.out]; try simp), HB.out⟩
set_option maxHeartbeats 4000000 in
set_option maxRecDepth 100000 in
theorem mr1 (f : Fr) (a : Option Addr) (c m : Nat) (B : List UInt8) (w : World) (t0 : decide (1 ≤ f.n) = true) (t1 : decide (f.n ≤ 16) = false) :
    Calls Try.prog 11 #[.agg #[.int .i64 f.k, .int .i64 f.n, .int .u64 (f.mb : Nat), .int .u64 (f.mt : Nat), .int .u64 (f.tb : Nat), .int .u64 (f.tt : Nat), .int .u64 (f.s : Nat), .int .u64 (f.a : Nat), .slice a m c]] w fun e w' => e = .returned (.bool (mayF f B)) ∧ Below w.heap.size w w' := by
  obtain ⟨w1, hw1⟩ : ∃ w1, w1 = w.alloc (.cells #[.int .i64 f.k, .int .i64 f.n, .int .u64 (f.mb : Nat), .int .u64 (f.mt : Nat), .int .u64 (f.tb : Nat), .int .u64 (f.tt : Nat), .int .u64 (f.s : Nat), .int .u64 (f.a : Nat), .slice a m c] 28) := ⟨_, rfl⟩
  have HB : Hid (Below w.heap.size w w1) := by rw [hw1]; exact (Below.refl _ _).alloc (Nat.le_refl _) _
  have HR : Hid (BlkAt 28 w.heap.size [.int .i64 f.k, .int .i64 f.n, .int .u64 (f.mb : Nat), .int .u64 (f.mt : Nat), .int .u64 (f.tb : Nat), .int .u64 (f.tt : Nat), .int .u64 (f.s : Nat), .int .u64 (f.a : Nat), .slice a m c] w1) := by rw [hw1]; exact BlkAt.new w _
  have q0 : (1 : Int) ≤ f.n := by simpa using t0
  have q1 : (16 : Int) < f.n := by simpa using t1
  have HE : Hid (mayF f B = false) := by show _ = false; unfold mayF; rw [t0, t1]; try simp
  clear t0 t1
  go_enter Try.func11, Try.ntmps11
  go_wp2_with fail
  rw [← hw1]
  clear hw1
  obtain ⟨c0, c1, c2, c3, c4, c5, c6, c7, c8⟩ := blk9 HR.out
  go_wp2_with fail
  go_ret
  exact ⟨ret_b (by rw [HE.out]; try simp), HB.out⟩
set_option maxHeartbeats 4000000 in
set_option maxRecDepth 100000 in
theorem mr2 (f : Fr) (a : Option Addr) (c m : Nat) (B : List UInt8) (w : World) (t0 : decide (1 ≤ f.n) = true) (t1 : decide (f.n ≤ 16) = true) (t2 : tagB f.mb f.mt = false) :
    Calls Try.prog 11 #[.agg #[.int .i64 f.k, .int .i64 f.n, .int .u64 (f.mb : Nat), .int .u64 (f.mt : Nat), .int .u64 (f.tb : Nat), .int .u64 (f.tt : Nat), .int .u64 (f.s : Nat), .int .u64 (f.a : Nat), .slice a m c]] w fun e w' => e = .returned (.bool (mayF f B)) ∧ Below w.heap.size w w' := by
  obtain ⟨w1, hw1⟩ : ∃ w1, w1 = w.alloc (.cells #[.int .i64 f.k, .int .i64 f.n, .int .u64 (f.mb : Nat), .int .u64 (f.mt : Nat), .int .u64 (f.tb : Nat), .int .u64 (f.tt : Nat), .int .u64 (f.s : Nat), .int .u64 (f.a : Nat), .slice a m c] 28) := ⟨_, rfl⟩
  have HB : Hid (Below w.heap.size w w1) := by rw [hw1]; exact (Below.refl _ _).alloc (Nat.le_refl _) _
  have HR : Hid (BlkAt 28 w.heap.size [.int .i64 f.k, .int .i64 f.n, .int .u64 (f.mb : Nat), .int .u64 (f.mt : Nat), .int .u64 (f.tb : Nat), .int .u64 (f.tt : Nat), .int .u64 (f.s : Nat), .int .u64 (f.a : Nat), .slice a m c] w1) := by rw [hw1]; exact BlkAt.new w _
  have q0 : (1 : Int) ≤ f.n := by simpa using t0
  have q1 : f.n ≤ (16 : Int) := by simpa using t1
  have H2 := Lib.hid t2
  have HE : Hid (mayF f B = false) := by show _ = false; unfold mayF; rw [t0, t1, t2]; try simp
  clear t0 t1 t2
  go_enter Try.func11, Try.ntmps11
  go_wp2_with fail
  rw [← hw1]
  clear hw1
  obtain ⟨c0, c1, c2, c3, c4, c5, c6, c7, c8⟩ := blk9 HR.out
  go_wp2_with fail
  refine (tagR_any _ _ _).mono ?_
  rintro e w' ⟨rfl, hb⟩
  rw [H2.out]
  have HB := Lib.hid (below_of HB.out hb)
  have HR := Lib.hid (HR.out.later hb)
  clear hb
  clear c0 c1 c2 c3 c4 c5 c6 c7 c8
  obtain ⟨c0, c1, c2, c3, c4, c5, c6, c7, c8⟩ := blk9 HR.out
  go_wp2_with fail
  go_ret
  exact ⟨ret_b (by rw [HE.out]; try simp), HB.out⟩
set_option maxHeartbeats 4000000 in
set_option maxRecDepth 100000 in
theorem mr3 (f : Fr) (a : Option Addr) (c m : Nat) (B : List UInt8) (w : World) (t0 : decide (1 ≤ f.n) = true) (t1 : decide (f.n ≤ 16) = true) (t2 : tagB f.mb f.mt = true) (t3 : tagB f.tb f.tt = false) :
    Calls Try.prog 11 #[.agg #[.int .i64 f.k, .int .i64 f.n, .int .u64 (f.mb : Nat), .int .u64 (f.mt : Nat), .int .u64 (f.tb : Nat), .int .u64 (f.tt : Nat), .int .u64 (f.s : Nat), .int .u64 (f.a : Nat), .slice a m c]] w fun e w' => e = .returned (.bool (mayF f B)) ∧ Below w.heap.size w w' := by
  obtain ⟨w1, hw1⟩ : ∃ w1, w1 = w.alloc (.cells #[.int .i64 f.k, .int .i64 f.n, .int .u64 (f.mb : Nat), .int .u64 (f.mt : Nat), .int .u64 (f.tb : Nat), .int .u64 (f.tt : Nat), .int .u64 (f.s : Nat), .int .u64 (f.a : Nat), .slice a m c] 28) := ⟨_, rfl⟩
  have HB : Hid (Below w.heap.size w w1) := by rw [hw1]; exact (Below.refl _ _).alloc (Nat.le_refl _) _
  have HR : Hid (BlkAt 28 w.heap.size [.int .i64 f.k, .int .i64 f.n, .int .u64 (f.mb : Nat), .int .u64 (f.mt : Nat), .int .u64 (f.tb : Nat), .int .u64 (f.tt : Nat), .int .u64 (f.s : Nat), .int .u64 (f.a : Nat), .slice a m c] w1) := by rw [hw1]; exact BlkAt.new w _
  have q0 : (1 : Int) ≤ f.n := by simpa using t0
  have q1 : f.n ≤ (16 : Int) := by simpa using t1
  have H2 := Lib.hid t2
  have H3 := Lib.hid t3
  have HE : Hid (mayF f B = false) := by show _ = false; unfold mayF; rw [t0, t1, t2, t3]; try simp
  clear t0 t1 t2 t3
  go_enter Try.func11, Try.ntmps11
  go_wp2_with fail
  rw [← hw1]
  clear hw1
  obtain ⟨c0, c1, c2, c3, c4, c5, c6, c7, c8⟩ := blk9 HR.out
  go_wp2_with fail
  refine (tagR_any _ _ _).mono ?_
  rintro e w' ⟨rfl, hb⟩
  rw [H2.out]
  have HB := Lib.hid (below_of HB.out hb)
  have HR := Lib.hid (HR.out.later hb)
  clear hb
  clear c0 c1 c2 c3 c4 c5 c6 c7 c8
  obtain ⟨c0, c1, c2, c3, c4, c5, c6, c7, c8⟩ := blk9 HR.out
  go_wp2_with fail
  refine (tagR_any _ _ _).mono ?_
  rintro e w' ⟨rfl, hb⟩
  rw [H3.out]
  have HB := Lib.hid (below_of HB.out hb)
  have HR := Lib.hid (HR.out.later hb)
  clear hb
  clear c0 c1 c2 c3 c4 c5 c6 c7 c8
  obtain ⟨c0, c1, c2, c3, c4, c5, c6, c7, c8⟩ := blk9 HR.out
  go_wp2_with fail
  go_ret
  exact ⟨ret_b (by rw [HE.out]; try simp), HB.out⟩
set_option maxHeartbeats 4000000 in
set_option maxRecDepth 100000 in
theorem mr4 (f : Fr) (a : Option Addr) (c m : Nat) (B : List UInt8) (w : World) (t0 : decide (1 ≤ f.n) = true) (t1 : decide (f.n ≤ 16) = true) (t2 : tagB f.mb f.mt = true) (t3 : tagB f.tb f.tt = true) (t4 : noneB f.mb f.mt = true) :
    Calls Try.prog 11 #[.agg #[.int .i64 f.k, .int .i64 f.n, .int .u64 (f.mb : Nat), .int .u64 (f.mt : Nat), .int .u64 (f.tb : Nat), .int .u64 (f.tt : Nat), .int .u64 (f.s : Nat), .int .u64 (f.a : Nat), .slice a m c]] w fun e w' => e = .returned (.bool (mayF f B)) ∧ Below w.heap.size w w' := by
  obtain ⟨w1, hw1⟩ : ∃ w1, w1 = w.alloc (.cells #[.int .i64 f.k, .int .i64 f.n, .int .u64 (f.mb : Nat), .int .u64 (f.mt : Nat), .int .u64 (f.tb : Nat), .int .u64 (f.tt : Nat), .int .u64 (f.s : Nat), .int .u64 (f.a : Nat), .slice a m c] 28) := ⟨_, rfl⟩
  have HB : Hid (Below w.heap.size w w1) := by rw [hw1]; exact (Below.refl _ _).alloc (Nat.le_refl _) _
  have HR : Hid (BlkAt 28 w.heap.size [.int .i64 f.k, .int .i64 f.n, .int .u64 (f.mb : Nat), .int .u64 (f.mt : Nat), .int .u64 (f.tb : Nat), .int .u64 (f.tt : Nat), .int .u64 (f.s : Nat), .int .u64 (f.a : Nat), .slice a m c] w1) := by rw [hw1]; exact BlkAt.new w _
  have q0 : (1 : Int) ≤ f.n := by simpa using t0
  have q1 : f.n ≤ (16 : Int) := by simpa using t1
  have H2 := Lib.hid t2
  have H3 := Lib.hid t3
  have H4 := Lib.hid t4
  have HE : Hid (mayF f B = false) := by show _ = false; unfold mayF; rw [t0, t1, t2, t3, t4]; try simp
  clear t0 t1 t2 t3 t4
  go_enter Try.func11, Try.ntmps11
  go_wp2_with fail
  rw [← hw1]
  clear hw1
  obtain ⟨c0, c1, c2, c3, c4, c5, c6, c7, c8⟩ := blk9 HR.out
  go_wp2_with fail
  refine (tagR_any _ _ _).mono ?_
  rintro e w' ⟨rfl, hb⟩
  rw [H2.out]
  have HB := Lib.hid (below_of HB.out hb)
  have HR := Lib.hid (HR.out.later hb)
  clear hb
  clear c0 c1 c2 c3 c4 c5 c6 c7 c8
  obtain ⟨c0, c1, c2, c3, c4, c5, c6, c7, c8⟩ := blk9 HR.out
  go_wp2_with fail
  refine (tagR_any _ _ _).mono ?_
  rintro e w' ⟨rfl, hb⟩
  rw [H3.out]
  have HB := Lib.hid (below_of HB.out hb)
  have HR := Lib.hid (HR.out.later hb)
  clear hb
  clear c0 c1 c2 c3 c4 c5 c6 c7 c8
  obtain ⟨c0, c1, c2, c3, c4, c5, c6, c7, c8⟩ := blk9 HR.out
  go_wp2_with fail
  refine (noneR_any _ _ _).mono ?_
  rintro e w' ⟨rfl, hb⟩
  rw [H4.out]
  have HB := Lib.hid (below_of HB.out hb)
  have HR := Lib.hid (HR.out.later hb)
  clear hb
  clear c0 c1 c2 c3 c4 c5 c6 c7 c8
  obtain ⟨c0, c1, c2, c3, c4, c5, c6, c7, c8⟩ := blk9 HR.out
  go_wp2_with fail
  go_ret
  exact ⟨ret_b (by rw [HE.out]; try simp), HB.out⟩
set_option maxHeartbeats 4000000 in
set_option maxRecDepth 100000 in
theorem mrk1a (f : Fr) (a : Option Addr) (c m : Nat) (B : List UInt8) (w : World) (t0 : decide (1 ≤ f.n) = true) (t1 : decide (f.n ≤ 16) = true) (t2 : tagB f.mb f.mt = true) (t3 : tagB f.tb f.tt = true) (t4 : noneB f.mb f.mt = false) (hm : m = B.length) (hB : Bytes w (.slice a B.length c) B) (hl : B.length ≤ 9000) (hk : f.k = 1) (hs : f.s ≠ 0) :
    Calls Try.prog 11 #[.agg #[.int .i64 f.k, .int .i64 f.n, .int .u64 (f.mb : Nat), .int .u64 (f.mt : Nat), .int .u64 (f.tb : Nat), .int .u64 (f.tt : Nat), .int .u64 (f.s : Nat), .int .u64 (f.a : Nat), .slice a m c]] w fun e w' => e = .returned (.bool (mayF f B)) ∧ Below w.heap.size w w' := by
  obtain ⟨w1, hw1⟩ : ∃ w1, w1 = w.alloc (.cells #[.int .i64 f.k, .int .i64 f.n, .int .u64 (f.mb : Nat), .int .u64 (f.mt : Nat), .int .u64 (f.tb : Nat), .int .u64 (f.tt : Nat), .int .u64 (f.s : Nat), .int .u64 (f.a : Nat), .slice a m c] 28) := ⟨_, rfl⟩
  have HB : Hid (Below w.heap.size w w1) := by rw [hw1]; exact (Below.refl _ _).alloc (Nat.le_refl _) _
  have HR : Hid (BlkAt 28 w.heap.size [.int .i64 f.k, .int .i64 f.n, .int .u64 (f.mb : Nat), .int .u64 (f.mt : Nat), .int .u64 (f.tb : Nat), .int .u64 (f.tt : Nat), .int .u64 (f.s : Nat), .int .u64 (f.a : Nat), .slice a m c] w1) := by rw [hw1]; exact BlkAt.new w _
  have q0 : (1 : Int) ≤ f.n := by simpa using t0
  have q1 : f.n ≤ (16 : Int) := by simpa using t1
  have H2 := Lib.hid t2
  have H3 := Lib.hid t3
  have H4 := Lib.hid t4
  have k1 : (f.k == 1) = true := by simp [hk]
  have k2 : (f.k == 2) = false := by simp [hk]
  have k3 : (f.k == 3) = false := by simp [hk]
  have z1 : ((f.s : Int) == 0) = false := beq_eq_false_iff_ne.2 (by omega)
  have HE : Hid (mayF f B = false) := by
    show _ = false
    unfold mayF namB
    rw [t0, t1, t2, t3, t4]
    rw [if_pos hk]; simp [hs]
  have HO := Lib.hid (fun W h => of5R_any _ B W (hB.later h) (by omega))
  rw [← hm] at HO
  clear t0 t1 t2 t3 t4 hm hB hl hk hs
  go_enter Try.func11, Try.ntmps11
  go_wp2_with fail
  rw [← hw1]
  clear hw1
  obtain ⟨c0, c1, c2, c3, c4, c5, c6, c7, c8⟩ := blk9 HR.out
  go_wp2_with fail
  refine (tagR_any _ _ _).mono ?_
  rintro e w' ⟨rfl, hb⟩
  rw [H2.out]
  have HB := Lib.hid (below_of HB.out hb)
  have HR := Lib.hid (HR.out.later hb)
  clear hb
  clear c0 c1 c2 c3 c4 c5 c6 c7 c8
  obtain ⟨c0, c1, c2, c3, c4, c5, c6, c7, c8⟩ := blk9 HR.out
  go_wp2_with fail
  refine (tagR_any _ _ _).mono ?_
  rintro e w' ⟨rfl, hb⟩
  rw [H3.out]
  have HB := Lib.hid (below_of HB.out hb)
  have HR := Lib.hid (HR.out.later hb)
  clear hb
  clear c0 c1 c2 c3 c4 c5 c6 c7 c8
  obtain ⟨c0, c1, c2, c3, c4, c5, c6, c7, c8⟩ := blk9 HR.out
  go_wp2_with fail
  refine (noneR_any _ _ _).mono ?_
  rintro e w' ⟨rfl, hb⟩
  rw [H4.out]
  have HB := Lib.hid (below_of HB.out hb)
  have HR := Lib.hid (HR.out.later hb)
  clear hb
  clear c0 c1 c2 c3 c4 c5 c6 c7 c8
  obtain ⟨c0, c1, c2, c3, c4, c5, c6, c7, c8⟩ := blk9 HR.out
  go_wp2_with fail
  refine (HO.out _ HB.out).mono ?_
  rintro e w' ⟨rfl, hb⟩
  have q := hb.alloc hb.size (.cells #[.int .u32 (ofA B : Int), .int .i64 (ofN B : Int), .int .i64 (ofD B : Int)] 47)
  have HB := Lib.hid (below_of HB.out q)
  have HR := Lib.hid (HR.out.later q)
  clear hb q
  clear c0 c1 c2 c3 c4 c5 c6 c7 c8
  obtain ⟨c0, c1, c2, c3, c4, c5, c6, c7, c8⟩ := blk9 HR.out
  go_wp2_with fail
  go_ret
  exact ⟨ret_b (by rw [HE.out]; (try simp); try omega), HB.out⟩
set_option maxHeartbeats 4000000 in
set_option maxRecDepth 100000 in
theorem mrk1b (f : Fr) (a : Option Addr) (c m : Nat) (B : List UInt8) (w : World) (t0 : decide (1 ≤ f.n) = true) (t1 : decide (f.n ≤ 16) = true) (t2 : tagB f.mb f.mt = true) (t3 : tagB f.tb f.tt = true) (t4 : noneB f.mb f.mt = false) (hm : m = B.length) (hB : Bytes w (.slice a B.length c) B) (hl : B.length ≤ 9000) (hk : f.k = 1) (hs : f.s = 0) (ha : f.a ≠ 0) :
    Calls Try.prog 11 #[.agg #[.int .i64 f.k, .int .i64 f.n, .int .u64 (f.mb : Nat), .int .u64 (f.mt : Nat), .int .u64 (f.tb : Nat), .int .u64 (f.tt : Nat), .int .u64 (f.s : Nat), .int .u64 (f.a : Nat), .slice a m c]] w fun e w' => e = .returned (.bool (mayF f B)) ∧ Below w.heap.size w w' := by
  obtain ⟨w1, hw1⟩ : ∃ w1, w1 = w.alloc (.cells #[.int .i64 f.k, .int .i64 f.n, .int .u64 (f.mb : Nat), .int .u64 (f.mt : Nat), .int .u64 (f.tb : Nat), .int .u64 (f.tt : Nat), .int .u64 (f.s : Nat), .int .u64 (f.a : Nat), .slice a m c] 28) := ⟨_, rfl⟩
  have HB : Hid (Below w.heap.size w w1) := by rw [hw1]; exact (Below.refl _ _).alloc (Nat.le_refl _) _
  have HR : Hid (BlkAt 28 w.heap.size [.int .i64 f.k, .int .i64 f.n, .int .u64 (f.mb : Nat), .int .u64 (f.mt : Nat), .int .u64 (f.tb : Nat), .int .u64 (f.tt : Nat), .int .u64 (f.s : Nat), .int .u64 (f.a : Nat), .slice a m c] w1) := by rw [hw1]; exact BlkAt.new w _
  have q0 : (1 : Int) ≤ f.n := by simpa using t0
  have q1 : f.n ≤ (16 : Int) := by simpa using t1
  have H2 := Lib.hid t2
  have H3 := Lib.hid t3
  have H4 := Lib.hid t4
  have k1 : (f.k == 1) = true := by simp [hk]
  have k2 : (f.k == 2) = false := by simp [hk]
  have k3 : (f.k == 3) = false := by simp [hk]
  have z1 : ((f.s : Int) == 0) = true := beq_iff_eq.2 (by omega)
  have z2 : ((f.a : Int) == 0) = false := beq_eq_false_iff_ne.2 (by omega)
  have HE : Hid (mayF f B = false) := by
    show _ = false
    unfold mayF namB
    rw [t0, t1, t2, t3, t4]
    rw [if_pos hk]; simp [hs, ha]
  have HO := Lib.hid (fun W h => of5R_any _ B W (hB.later h) (by omega))
  rw [← hm] at HO
  clear t0 t1 t2 t3 t4 hm hB hl hk hs ha
  go_enter Try.func11, Try.ntmps11
  go_wp2_with fail
  rw [← hw1]
  clear hw1
  obtain ⟨c0, c1, c2, c3, c4, c5, c6, c7, c8⟩ := blk9 HR.out
  go_wp2_with fail
  refine (tagR_any _ _ _).mono ?_
  rintro e w' ⟨rfl, hb⟩
  rw [H2.out]
  have HB := Lib.hid (below_of HB.out hb)
  have HR := Lib.hid (HR.out.later hb)
  clear hb
  clear c0 c1 c2 c3 c4 c5 c6 c7 c8
  obtain ⟨c0, c1, c2, c3, c4, c5, c6, c7, c8⟩ := blk9 HR.out
  go_wp2_with fail
  refine (tagR_any _ _ _).mono ?_
  rintro e w' ⟨rfl, hb⟩
  rw [H3.out]
  have HB := Lib.hid (below_of HB.out hb)
  have HR := Lib.hid (HR.out.later hb)
  clear hb
  clear c0 c1 c2 c3 c4 c5 c6 c7 c8
  obtain ⟨c0, c1, c2, c3, c4, c5, c6, c7, c8⟩ := blk9 HR.out
  go_wp2_with fail
  refine (noneR_any _ _ _).mono ?_
  rintro e w' ⟨rfl, hb⟩
  rw [H4.out]
  have HB := Lib.hid (below_of HB.out hb)
  have HR := Lib.hid (HR.out.later hb)
  clear hb
  clear c0 c1 c2 c3 c4 c5 c6 c7 c8
  obtain ⟨c0, c1, c2, c3, c4, c5, c6, c7, c8⟩ := blk9 HR.out
  go_wp2_with fail
  refine (HO.out _ HB.out).mono ?_
  rintro e w' ⟨rfl, hb⟩
  have q := hb.alloc hb.size (.cells #[.int .u32 (ofA B : Int), .int .i64 (ofN B : Int), .int .i64 (ofD B : Int)] 47)
  have HB := Lib.hid (below_of HB.out q)
  have HR := Lib.hid (HR.out.later q)
  clear hb q
  clear c0 c1 c2 c3 c4 c5 c6 c7 c8
  obtain ⟨c0, c1, c2, c3, c4, c5, c6, c7, c8⟩ := blk9 HR.out
  go_wp2_with fail
  go_ret
  exact ⟨ret_b (by rw [HE.out]; (try simp); try omega), HB.out⟩
set_option maxHeartbeats 4000000 in
set_option maxRecDepth 100000 in
theorem mrk1c (f : Fr) (a : Option Addr) (c m : Nat) (B : List UInt8) (w : World) (t0 : decide (1 ≤ f.n) = true) (t1 : decide (f.n ≤ 16) = true) (t2 : tagB f.mb f.mt = true) (t3 : tagB f.tb f.tt = true) (t4 : noneB f.mb f.mt = false) (hm : m = B.length) (hB : Bytes w (.slice a B.length c) B) (hl : B.length ≤ 9000) (hk : f.k = 1) (hs : f.s = 0) (ha : f.a = 0) (h0 : B.length ≠ 0) :
    Calls Try.prog 11 #[.agg #[.int .i64 f.k, .int .i64 f.n, .int .u64 (f.mb : Nat), .int .u64 (f.mt : Nat), .int .u64 (f.tb : Nat), .int .u64 (f.tt : Nat), .int .u64 (f.s : Nat), .int .u64 (f.a : Nat), .slice a m c]] w fun e w' => e = .returned (.bool (mayF f B)) ∧ Below w.heap.size w w' := by
  obtain ⟨w1, hw1⟩ : ∃ w1, w1 = w.alloc (.cells #[.int .i64 f.k, .int .i64 f.n, .int .u64 (f.mb : Nat), .int .u64 (f.mt : Nat), .int .u64 (f.tb : Nat), .int .u64 (f.tt : Nat), .int .u64 (f.s : Nat), .int .u64 (f.a : Nat), .slice a m c] 28) := ⟨_, rfl⟩
  have HB : Hid (Below w.heap.size w w1) := by rw [hw1]; exact (Below.refl _ _).alloc (Nat.le_refl _) _
  have HR : Hid (BlkAt 28 w.heap.size [.int .i64 f.k, .int .i64 f.n, .int .u64 (f.mb : Nat), .int .u64 (f.mt : Nat), .int .u64 (f.tb : Nat), .int .u64 (f.tt : Nat), .int .u64 (f.s : Nat), .int .u64 (f.a : Nat), .slice a m c] w1) := by rw [hw1]; exact BlkAt.new w _
  have q0 : (1 : Int) ≤ f.n := by simpa using t0
  have q1 : f.n ≤ (16 : Int) := by simpa using t1
  have H2 := Lib.hid t2
  have H3 := Lib.hid t3
  have H4 := Lib.hid t4
  have k1 : (f.k == 1) = true := by simp [hk]
  have k2 : (f.k == 2) = false := by simp [hk]
  have k3 : (f.k == 3) = false := by simp [hk]
  have z1 : ((f.s : Int) == 0) = true := beq_iff_eq.2 (by omega)
  have z2 : ((f.a : Int) == 0) = true := beq_iff_eq.2 (by omega)
  have z3 : ((m : Int) == 0) = false := beq_eq_false_iff_ne.2 (by omega)
  have HE : Hid (mayF f B = false) := by
    show _ = false
    unfold mayF namB
    rw [t0, t1, t2, t3, t4]
    rw [if_pos hk, decide_eq_false h0]; simp
  have HO := Lib.hid (fun W h => of5R_any _ B W (hB.later h) (by omega))
  rw [← hm] at HO
  clear t0 t1 t2 t3 t4 hm hB hl hk hs ha h0
  go_enter Try.func11, Try.ntmps11
  go_wp2_with fail
  rw [← hw1]
  clear hw1
  obtain ⟨c0, c1, c2, c3, c4, c5, c6, c7, c8⟩ := blk9 HR.out
  go_wp2_with fail
  refine (tagR_any _ _ _).mono ?_
  rintro e w' ⟨rfl, hb⟩
  rw [H2.out]
  have HB := Lib.hid (below_of HB.out hb)
  have HR := Lib.hid (HR.out.later hb)
  clear hb
  clear c0 c1 c2 c3 c4 c5 c6 c7 c8
  obtain ⟨c0, c1, c2, c3, c4, c5, c6, c7, c8⟩ := blk9 HR.out
  go_wp2_with fail
  refine (tagR_any _ _ _).mono ?_
  rintro e w' ⟨rfl, hb⟩
  rw [H3.out]
  have HB := Lib.hid (below_of HB.out hb)
  have HR := Lib.hid (HR.out.later hb)
  clear hb
  clear c0 c1 c2 c3 c4 c5 c6 c7 c8
  obtain ⟨c0, c1, c2, c3, c4, c5, c6, c7, c8⟩ := blk9 HR.out
  go_wp2_with fail
  refine (noneR_any _ _ _).mono ?_
  rintro e w' ⟨rfl, hb⟩
  rw [H4.out]
  have HB := Lib.hid (below_of HB.out hb)
  have HR := Lib.hid (HR.out.later hb)
  clear hb
  clear c0 c1 c2 c3 c4 c5 c6 c7 c8
  obtain ⟨c0, c1, c2, c3, c4, c5, c6, c7, c8⟩ := blk9 HR.out
  go_wp2_with fail
  refine (HO.out _ HB.out).mono ?_
  rintro e w' ⟨rfl, hb⟩
  have q := hb.alloc hb.size (.cells #[.int .u32 (ofA B : Int), .int .i64 (ofN B : Int), .int .i64 (ofD B : Int)] 47)
  have HB := Lib.hid (below_of HB.out q)
  have HR := Lib.hid (HR.out.later q)
  clear hb q
  clear c0 c1 c2 c3 c4 c5 c6 c7 c8
  obtain ⟨c0, c1, c2, c3, c4, c5, c6, c7, c8⟩ := blk9 HR.out
  go_wp2_with fail
  go_ret
  exact ⟨ret_b (by rw [HE.out]; (try simp); try omega), HB.out⟩
set_option maxHeartbeats 4000000 in
set_option maxRecDepth 100000 in
theorem mrk1d (f : Fr) (a : Option Addr) (c m : Nat) (B : List UInt8) (w : World) (t0 : decide (1 ≤ f.n) = true) (t1 : decide (f.n ≤ 16) = true) (t2 : tagB f.mb f.mt = true) (t3 : tagB f.tb f.tt = true) (t4 : noneB f.mb f.mt = false) (hm : m = B.length) (hB : Bytes w (.slice a B.length c) B) (hl : B.length ≤ 9000) (hk : f.k = 1) (hs : f.s = 0) (ha : f.a = 0) (h0 : B.length = 0) :
    Calls Try.prog 11 #[.agg #[.int .i64 f.k, .int .i64 f.n, .int .u64 (f.mb : Nat), .int .u64 (f.mt : Nat), .int .u64 (f.tb : Nat), .int .u64 (f.tt : Nat), .int .u64 (f.s : Nat), .int .u64 (f.a : Nat), .slice a m c]] w fun e w' => e = .returned (.bool (mayF f B)) ∧ Below w.heap.size w w' := by
  obtain ⟨w1, hw1⟩ : ∃ w1, w1 = w.alloc (.cells #[.int .i64 f.k, .int .i64 f.n, .int .u64 (f.mb : Nat), .int .u64 (f.mt : Nat), .int .u64 (f.tb : Nat), .int .u64 (f.tt : Nat), .int .u64 (f.s : Nat), .int .u64 (f.a : Nat), .slice a m c] 28) := ⟨_, rfl⟩
  have HB : Hid (Below w.heap.size w w1) := by rw [hw1]; exact (Below.refl _ _).alloc (Nat.le_refl _) _
  have HR : Hid (BlkAt 28 w.heap.size [.int .i64 f.k, .int .i64 f.n, .int .u64 (f.mb : Nat), .int .u64 (f.mt : Nat), .int .u64 (f.tb : Nat), .int .u64 (f.tt : Nat), .int .u64 (f.s : Nat), .int .u64 (f.a : Nat), .slice a m c] w1) := by rw [hw1]; exact BlkAt.new w _
  have q0 : (1 : Int) ≤ f.n := by simpa using t0
  have q1 : f.n ≤ (16 : Int) := by simpa using t1
  have H2 := Lib.hid t2
  have H3 := Lib.hid t3
  have H4 := Lib.hid t4
  have k1 : (f.k == 1) = true := by simp [hk]
  have k2 : (f.k == 2) = false := by simp [hk]
  have k3 : (f.k == 3) = false := by simp [hk]
  have z1 : ((f.s : Int) == 0) = true := beq_iff_eq.2 (by omega)
  have z2 : ((f.a : Int) == 0) = true := beq_iff_eq.2 (by omega)
  have z3 : ((m : Int) == 0) = true := beq_iff_eq.2 (by omega)
  have HE : Hid (mayF f B = true) := by
    show _ = true
    unfold mayF namB
    rw [t0, t1, t2, t3, t4]
    rw [if_pos hk, decide_eq_true h0, decide_eq_true hs, decide_eq_true ha]; rfl
  have HO := Lib.hid (fun W h => of5R_any _ B W (hB.later h) (by omega))
  rw [← hm] at HO
  clear t0 t1 t2 t3 t4 hm hB hl hk hs ha h0
  go_enter Try.func11, Try.ntmps11
  go_wp2_with fail
  rw [← hw1]
  clear hw1
  obtain ⟨c0, c1, c2, c3, c4, c5, c6, c7, c8⟩ := blk9 HR.out
  go_wp2_with fail
  refine (tagR_any _ _ _).mono ?_
  rintro e w' ⟨rfl, hb⟩
  rw [H2.out]
  have HB := Lib.hid (below_of HB.out hb)
  have HR := Lib.hid (HR.out.later hb)
  clear hb
  clear c0 c1 c2 c3 c4 c5 c6 c7 c8
  obtain ⟨c0, c1, c2, c3, c4, c5, c6, c7, c8⟩ := blk9 HR.out
  go_wp2_with fail
  refine (tagR_any _ _ _).mono ?_
  rintro e w' ⟨rfl, hb⟩
  rw [H3.out]
  have HB := Lib.hid (below_of HB.out hb)
  have HR := Lib.hid (HR.out.later hb)
  clear hb
  clear c0 c1 c2 c3 c4 c5 c6 c7 c8
  obtain ⟨c0, c1, c2, c3, c4, c5, c6, c7, c8⟩ := blk9 HR.out
  go_wp2_with fail
  refine (noneR_any _ _ _).mono ?_
  rintro e w' ⟨rfl, hb⟩
  rw [H4.out]
  have HB := Lib.hid (below_of HB.out hb)
  have HR := Lib.hid (HR.out.later hb)
  clear hb
  clear c0 c1 c2 c3 c4 c5 c6 c7 c8
  obtain ⟨c0, c1, c2, c3, c4, c5, c6, c7, c8⟩ := blk9 HR.out
  go_wp2_with fail
  refine (HO.out _ HB.out).mono ?_
  rintro e w' ⟨rfl, hb⟩
  have q := hb.alloc hb.size (.cells #[.int .u32 (ofA B : Int), .int .i64 (ofN B : Int), .int .i64 (ofD B : Int)] 47)
  have HB := Lib.hid (below_of HB.out q)
  have HR := Lib.hid (HR.out.later q)
  clear hb q
  clear c0 c1 c2 c3 c4 c5 c6 c7 c8
  obtain ⟨c0, c1, c2, c3, c4, c5, c6, c7, c8⟩ := blk9 HR.out
  go_wp2_with fail
  go_ret
  exact ⟨ret_b (by rw [HE.out]; (try simp); try omega), HB.out⟩
set_option maxHeartbeats 4000000 in
set_option maxRecDepth 100000 in
theorem mrk2a (f : Fr) (a : Option Addr) (c m : Nat) (B : List UInt8) (w : World) (t0 : decide (1 ≤ f.n) = true) (t1 : decide (f.n ≤ 16) = true) (t2 : tagB f.mb f.mt = true) (t3 : tagB f.tb f.tt = true) (t4 : noneB f.mb f.mt = false) (hm : m = B.length) (hB : Bytes w (.slice a B.length c) B) (hl : B.length ≤ 9000) (hk : f.k = 2) (hn : noneB f.tb f.tt = true) :
    Calls Try.prog 11 #[.agg #[.int .i64 f.k, .int .i64 f.n, .int .u64 (f.mb : Nat), .int .u64 (f.mt : Nat), .int .u64 (f.tb : Nat), .int .u64 (f.tt : Nat), .int .u64 (f.s : Nat), .int .u64 (f.a : Nat), .slice a m c]] w fun e w' => e = .returned (.bool (mayF f B)) ∧ Below w.heap.size w w' := by
  obtain ⟨w1, hw1⟩ : ∃ w1, w1 = w.alloc (.cells #[.int .i64 f.k, .int .i64 f.n, .int .u64 (f.mb : Nat), .int .u64 (f.mt : Nat), .int .u64 (f.tb : Nat), .int .u64 (f.tt : Nat), .int .u64 (f.s : Nat), .int .u64 (f.a : Nat), .slice a m c] 28) := ⟨_, rfl⟩
  have HB : Hid (Below w.heap.size w w1) := by rw [hw1]; exact (Below.refl _ _).alloc (Nat.le_refl _) _
  have HR : Hid (BlkAt 28 w.heap.size [.int .i64 f.k, .int .i64 f.n, .int .u64 (f.mb : Nat), .int .u64 (f.mt : Nat), .int .u64 (f.tb : Nat), .int .u64 (f.tt : Nat), .int .u64 (f.s : Nat), .int .u64 (f.a : Nat), .slice a m c] w1) := by rw [hw1]; exact BlkAt.new w _
  have q0 : (1 : Int) ≤ f.n := by simpa using t0
  have q1 : f.n ≤ (16 : Int) := by simpa using t1
  have H2 := Lib.hid t2
  have H3 := Lib.hid t3
  have H4 := Lib.hid t4
  have k1 : (f.k == 1) = false := by simp [hk]
  have k2 : (f.k == 2) = true := by simp [hk]
  have k3 : (f.k == 3) = false := by simp [hk]
  have HN := Lib.hid hn
  have HE : Hid (mayF f B = false) := by
    show _ = false
    unfold mayF namB
    rw [t0, t1, t2, t3, t4]
    rw [if_neg (by omega), if_pos hk, hn]; simp
  have HO := Lib.hid (fun W h => of5R_any _ B W (hB.later h) (by omega))
  rw [← hm] at HO
  clear t0 t1 t2 t3 t4 hm hB hl hk hn
  go_enter Try.func11, Try.ntmps11
  go_wp2_with fail
  rw [← hw1]
  clear hw1
  obtain ⟨c0, c1, c2, c3, c4, c5, c6, c7, c8⟩ := blk9 HR.out
  go_wp2_with fail
  refine (tagR_any _ _ _).mono ?_
  rintro e w' ⟨rfl, hb⟩
  rw [H2.out]
  have HB := Lib.hid (below_of HB.out hb)
  have HR := Lib.hid (HR.out.later hb)
  clear hb
  clear c0 c1 c2 c3 c4 c5 c6 c7 c8
  obtain ⟨c0, c1, c2, c3, c4, c5, c6, c7, c8⟩ := blk9 HR.out
  go_wp2_with fail
  refine (tagR_any _ _ _).mono ?_
  rintro e w' ⟨rfl, hb⟩
  rw [H3.out]
  have HB := Lib.hid (below_of HB.out hb)
  have HR := Lib.hid (HR.out.later hb)
  clear hb
  clear c0 c1 c2 c3 c4 c5 c6 c7 c8
  obtain ⟨c0, c1, c2, c3, c4, c5, c6, c7, c8⟩ := blk9 HR.out
  go_wp2_with fail
  refine (noneR_any _ _ _).mono ?_
  rintro e w' ⟨rfl, hb⟩
  rw [H4.out]
  have HB := Lib.hid (below_of HB.out hb)
  have HR := Lib.hid (HR.out.later hb)
  clear hb
  clear c0 c1 c2 c3 c4 c5 c6 c7 c8
  obtain ⟨c0, c1, c2, c3, c4, c5, c6, c7, c8⟩ := blk9 HR.out
  go_wp2_with fail
  refine (HO.out _ HB.out).mono ?_
  rintro e w' ⟨rfl, hb⟩
  have q := hb.alloc hb.size (.cells #[.int .u32 (ofA B : Int), .int .i64 (ofN B : Int), .int .i64 (ofD B : Int)] 47)
  have HB := Lib.hid (below_of HB.out q)
  have HR := Lib.hid (HR.out.later q)
  clear hb q
  clear c0 c1 c2 c3 c4 c5 c6 c7 c8
  obtain ⟨c0, c1, c2, c3, c4, c5, c6, c7, c8⟩ := blk9 HR.out
  go_wp2_with fail
  refine (noneR_any _ _ _).mono ?_
  rintro e w' ⟨rfl, hb⟩
  rw [HN.out]
  have HB := Lib.hid (below_of HB.out hb)
  have HR := Lib.hid (HR.out.later hb)
  clear hb
  clear c0 c1 c2 c3 c4 c5 c6 c7 c8
  obtain ⟨c0, c1, c2, c3, c4, c5, c6, c7, c8⟩ := blk9 HR.out
  go_wp2_with fail
  go_ret
  exact ⟨ret_b (by rw [HE.out]; (try simp); try omega), HB.out⟩
set_option maxHeartbeats 4000000 in
set_option maxRecDepth 100000 in
theorem mrk2b (f : Fr) (a : Option Addr) (c m : Nat) (B : List UInt8) (w : World) (t0 : decide (1 ≤ f.n) = true) (t1 : decide (f.n ≤ 16) = true) (t2 : tagB f.mb f.mt = true) (t3 : tagB f.tb f.tt = true) (t4 : noneB f.mb f.mt = false) (hm : m = B.length) (hB : Bytes w (.slice a B.length c) B) (hl : B.length ≤ 9000) (hk : f.k = 2) (hn : noneB f.tb f.tt = false) (ho : ofB B = true) (hs : f.s ≠ 0) :
    Calls Try.prog 11 #[.agg #[.int .i64 f.k, .int .i64 f.n, .int .u64 (f.mb : Nat), .int .u64 (f.mt : Nat), .int .u64 (f.tb : Nat), .int .u64 (f.tt : Nat), .int .u64 (f.s : Nat), .int .u64 (f.a : Nat), .slice a m c]] w fun e w' => e = .returned (.bool (mayF f B)) ∧ Below w.heap.size w w' := by
  obtain ⟨w1, hw1⟩ : ∃ w1, w1 = w.alloc (.cells #[.int .i64 f.k, .int .i64 f.n, .int .u64 (f.mb : Nat), .int .u64 (f.mt : Nat), .int .u64 (f.tb : Nat), .int .u64 (f.tt : Nat), .int .u64 (f.s : Nat), .int .u64 (f.a : Nat), .slice a m c] 28) := ⟨_, rfl⟩
  have HB : Hid (Below w.heap.size w w1) := by rw [hw1]; exact (Below.refl _ _).alloc (Nat.le_refl _) _
  have HR : Hid (BlkAt 28 w.heap.size [.int .i64 f.k, .int .i64 f.n, .int .u64 (f.mb : Nat), .int .u64 (f.mt : Nat), .int .u64 (f.tb : Nat), .int .u64 (f.tt : Nat), .int .u64 (f.s : Nat), .int .u64 (f.a : Nat), .slice a m c] w1) := by rw [hw1]; exact BlkAt.new w _
  have q0 : (1 : Int) ≤ f.n := by simpa using t0
  have q1 : f.n ≤ (16 : Int) := by simpa using t1
  have H2 := Lib.hid t2
  have H3 := Lib.hid t3
  have H4 := Lib.hid t4
  have k1 : (f.k == 1) = false := by simp [hk]
  have k2 : (f.k == 2) = true := by simp [hk]
  have k3 : (f.k == 3) = false := by simp [hk]
  have HN := Lib.hid hn
  have HOB := Lib.hid ho
  have z1 : ((f.s : Int) != 0) = true := bne_iff_ne.2 (by omega)
  have HE : Hid (mayF f B = true) := by
    show _ = true
    unfold mayF namB
    rw [t0, t1, t2, t3, t4]
    rw [if_neg (by omega), if_pos hk, hn, ho, decide_eq_true hs]; rfl
  have HO := Lib.hid (fun W h => of5R_any _ B W (hB.later h) (by omega))
  rw [← hm] at HO
  clear t0 t1 t2 t3 t4 hm hB hl hk hn ho hs
  go_enter Try.func11, Try.ntmps11
  go_wp2_with fail
  rw [← hw1]
  clear hw1
  obtain ⟨c0, c1, c2, c3, c4, c5, c6, c7, c8⟩ := blk9 HR.out
  go_wp2_with fail
  refine (tagR_any _ _ _).mono ?_
  rintro e w' ⟨rfl, hb⟩
  rw [H2.out]
  have HB := Lib.hid (below_of HB.out hb)
  have HR := Lib.hid (HR.out.later hb)
  clear hb
  clear c0 c1 c2 c3 c4 c5 c6 c7 c8
  obtain ⟨c0, c1, c2, c3, c4, c5, c6, c7, c8⟩ := blk9 HR.out
  go_wp2_with fail
  refine (tagR_any _ _ _).mono ?_
  rintro e w' ⟨rfl, hb⟩
  rw [H3.out]
  have HB := Lib.hid (below_of HB.out hb)
  have HR := Lib.hid (HR.out.later hb)
  clear hb
  clear c0 c1 c2 c3 c4 c5 c6 c7 c8
  obtain ⟨c0, c1, c2, c3, c4, c5, c6, c7, c8⟩ := blk9 HR.out
  go_wp2_with fail
  refine (noneR_any _ _ _).mono ?_
  rintro e w' ⟨rfl, hb⟩
  rw [H4.out]
  have HB := Lib.hid (below_of HB.out hb)
  have HR := Lib.hid (HR.out.later hb)
  clear hb
  clear c0 c1 c2 c3 c4 c5 c6 c7 c8
  obtain ⟨c0, c1, c2, c3, c4, c5, c6, c7, c8⟩ := blk9 HR.out
  go_wp2_with fail
  refine (HO.out _ HB.out).mono ?_
  rintro e w' ⟨rfl, hb⟩
  rw [HOB.out]
  have q := hb.alloc hb.size (.cells #[.int .u32 (ofA B : Int), .int .i64 (ofN B : Int), .int .i64 (ofD B : Int)] 47)
  have HB := Lib.hid (below_of HB.out q)
  have HR := Lib.hid (HR.out.later q)
  clear hb q
  clear c0 c1 c2 c3 c4 c5 c6 c7 c8
  obtain ⟨c0, c1, c2, c3, c4, c5, c6, c7, c8⟩ := blk9 HR.out
  go_wp2_with fail
  refine (noneR_any _ _ _).mono ?_
  rintro e w' ⟨rfl, hb⟩
  rw [HN.out]
  have HB := Lib.hid (below_of HB.out hb)
  have HR := Lib.hid (HR.out.later hb)
  clear hb
  clear c0 c1 c2 c3 c4 c5 c6 c7 c8
  obtain ⟨c0, c1, c2, c3, c4, c5, c6, c7, c8⟩ := blk9 HR.out
  go_wp2_with fail
  go_ret
  exact ⟨ret_b (by rw [HE.out]; (try simp); try omega), HB.out⟩
set_option maxHeartbeats 4000000 in
set_option maxRecDepth 100000 in
theorem mrk2c (f : Fr) (a : Option Addr) (c m : Nat) (B : List UInt8) (w : World) (t0 : decide (1 ≤ f.n) = true) (t1 : decide (f.n ≤ 16) = true) (t2 : tagB f.mb f.mt = true) (t3 : tagB f.tb f.tt = true) (t4 : noneB f.mb f.mt = false) (hm : m = B.length) (hB : Bytes w (.slice a B.length c) B) (hl : B.length ≤ 9000) (hk : f.k = 2) (hn : noneB f.tb f.tt = false) (ho : ofB B = true) (hs : f.s = 0) :
    Calls Try.prog 11 #[.agg #[.int .i64 f.k, .int .i64 f.n, .int .u64 (f.mb : Nat), .int .u64 (f.mt : Nat), .int .u64 (f.tb : Nat), .int .u64 (f.tt : Nat), .int .u64 (f.s : Nat), .int .u64 (f.a : Nat), .slice a m c]] w fun e w' => e = .returned (.bool (mayF f B)) ∧ Below w.heap.size w w' := by
  obtain ⟨w1, hw1⟩ : ∃ w1, w1 = w.alloc (.cells #[.int .i64 f.k, .int .i64 f.n, .int .u64 (f.mb : Nat), .int .u64 (f.mt : Nat), .int .u64 (f.tb : Nat), .int .u64 (f.tt : Nat), .int .u64 (f.s : Nat), .int .u64 (f.a : Nat), .slice a m c] 28) := ⟨_, rfl⟩
  have HB : Hid (Below w.heap.size w w1) := by rw [hw1]; exact (Below.refl _ _).alloc (Nat.le_refl _) _
  have HR : Hid (BlkAt 28 w.heap.size [.int .i64 f.k, .int .i64 f.n, .int .u64 (f.mb : Nat), .int .u64 (f.mt : Nat), .int .u64 (f.tb : Nat), .int .u64 (f.tt : Nat), .int .u64 (f.s : Nat), .int .u64 (f.a : Nat), .slice a m c] w1) := by rw [hw1]; exact BlkAt.new w _
  have q0 : (1 : Int) ≤ f.n := by simpa using t0
  have q1 : f.n ≤ (16 : Int) := by simpa using t1
  have H2 := Lib.hid t2
  have H3 := Lib.hid t3
  have H4 := Lib.hid t4
  have k1 : (f.k == 1) = false := by simp [hk]
  have k2 : (f.k == 2) = true := by simp [hk]
  have k3 : (f.k == 3) = false := by simp [hk]
  have HN := Lib.hid hn
  have HOB := Lib.hid ho
  have h6 : B.length ≠ 0 := by unfold ofB at ho; simp at ho; omega
  have z0 : ((f.s : Int) == 0) = true := beq_iff_eq.2 (by omega)
  have z1 : ((f.s : Int) != 0) = false := by simp [hs]
  have z3 : ((m : Int) == 0) = false := beq_eq_false_iff_ne.2 (by omega)
  have HE : Hid (mayF f B = false) := by
    show _ = false
    unfold mayF namB
    rw [t0, t1, t2, t3, t4]
    rw [if_neg (by omega), if_pos hk, hn, ho, decide_eq_false h6]; simp [hs]
  have HO := Lib.hid (fun W h => of5R_any _ B W (hB.later h) (by omega))
  rw [← hm] at HO
  clear t0 t1 t2 t3 t4 hm hB hl hk hn ho hs
  go_enter Try.func11, Try.ntmps11
  go_wp2_with fail
  rw [← hw1]
  clear hw1
  obtain ⟨c0, c1, c2, c3, c4, c5, c6, c7, c8⟩ := blk9 HR.out
  go_wp2_with fail
  refine (tagR_any _ _ _).mono ?_
  rintro e w' ⟨rfl, hb⟩
  rw [H2.out]
  have HB := Lib.hid (below_of HB.out hb)
  have HR := Lib.hid (HR.out.later hb)
  clear hb
  clear c0 c1 c2 c3 c4 c5 c6 c7 c8
  obtain ⟨c0, c1, c2, c3, c4, c5, c6, c7, c8⟩ := blk9 HR.out
  go_wp2_with fail
  refine (tagR_any _ _ _).mono ?_
  rintro e w' ⟨rfl, hb⟩
  rw [H3.out]
  have HB := Lib.hid (below_of HB.out hb)
  have HR := Lib.hid (HR.out.later hb)
  clear hb
  clear c0 c1 c2 c3 c4 c5 c6 c7 c8
  obtain ⟨c0, c1, c2, c3, c4, c5, c6, c7, c8⟩ := blk9 HR.out
  go_wp2_with fail
  refine (noneR_any _ _ _).mono ?_
  rintro e w' ⟨rfl, hb⟩
  rw [H4.out]
  have HB := Lib.hid (below_of HB.out hb)
  have HR := Lib.hid (HR.out.later hb)
  clear hb
  clear c0 c1 c2 c3 c4 c5 c6 c7 c8
  obtain ⟨c0, c1, c2, c3, c4, c5, c6, c7, c8⟩ := blk9 HR.out
  go_wp2_with fail
  refine (HO.out _ HB.out).mono ?_
  rintro e w' ⟨rfl, hb⟩
  rw [HOB.out]
  have q := hb.alloc hb.size (.cells #[.int .u32 (ofA B : Int), .int .i64 (ofN B : Int), .int .i64 (ofD B : Int)] 47)
  have HB := Lib.hid (below_of HB.out q)
  have HR := Lib.hid (HR.out.later q)
  clear hb q
  clear c0 c1 c2 c3 c4 c5 c6 c7 c8
  obtain ⟨c0, c1, c2, c3, c4, c5, c6, c7, c8⟩ := blk9 HR.out
  go_wp2_with fail
  refine (noneR_any _ _ _).mono ?_
  rintro e w' ⟨rfl, hb⟩
  rw [HN.out]
  have HB := Lib.hid (below_of HB.out hb)
  have HR := Lib.hid (HR.out.later hb)
  clear hb
  clear c0 c1 c2 c3 c4 c5 c6 c7 c8
  obtain ⟨c0, c1, c2, c3, c4, c5, c6, c7, c8⟩ := blk9 HR.out
  go_wp2_with fail
  go_ret
  exact ⟨ret_b (by rw [HE.out]; (try simp); try omega), HB.out⟩
set_option maxHeartbeats 4000000 in
set_option maxRecDepth 100000 in
theorem mrk2d (f : Fr) (a : Option Addr) (c m : Nat) (B : List UInt8) (w : World) (t0 : decide (1 ≤ f.n) = true) (t1 : decide (f.n ≤ 16) = true) (t2 : tagB f.mb f.mt = true) (t3 : tagB f.tb f.tt = true) (t4 : noneB f.mb f.mt = false) (hm : m = B.length) (hB : Bytes w (.slice a B.length c) B) (hl : B.length ≤ 9000) (hk : f.k = 2) (hn : noneB f.tb f.tt = false) (ho : ofB B = false) (h0 : B.length ≠ 0) :
    Calls Try.prog 11 #[.agg #[.int .i64 f.k, .int .i64 f.n, .int .u64 (f.mb : Nat), .int .u64 (f.mt : Nat), .int .u64 (f.tb : Nat), .int .u64 (f.tt : Nat), .int .u64 (f.s : Nat), .int .u64 (f.a : Nat), .slice a m c]] w fun e w' => e = .returned (.bool (mayF f B)) ∧ Below w.heap.size w w' := by
  obtain ⟨w1, hw1⟩ : ∃ w1, w1 = w.alloc (.cells #[.int .i64 f.k, .int .i64 f.n, .int .u64 (f.mb : Nat), .int .u64 (f.mt : Nat), .int .u64 (f.tb : Nat), .int .u64 (f.tt : Nat), .int .u64 (f.s : Nat), .int .u64 (f.a : Nat), .slice a m c] 28) := ⟨_, rfl⟩
  have HB : Hid (Below w.heap.size w w1) := by rw [hw1]; exact (Below.refl _ _).alloc (Nat.le_refl _) _
  have HR : Hid (BlkAt 28 w.heap.size [.int .i64 f.k, .int .i64 f.n, .int .u64 (f.mb : Nat), .int .u64 (f.mt : Nat), .int .u64 (f.tb : Nat), .int .u64 (f.tt : Nat), .int .u64 (f.s : Nat), .int .u64 (f.a : Nat), .slice a m c] w1) := by rw [hw1]; exact BlkAt.new w _
  have q0 : (1 : Int) ≤ f.n := by simpa using t0
  have q1 : f.n ≤ (16 : Int) := by simpa using t1
  have H2 := Lib.hid t2
  have H3 := Lib.hid t3
  have H4 := Lib.hid t4
  have k1 : (f.k == 1) = false := by simp [hk]
  have k2 : (f.k == 2) = true := by simp [hk]
  have k3 : (f.k == 3) = false := by simp [hk]
  have HN := Lib.hid hn
  have HOB := Lib.hid ho
  have z3 : ((m : Int) == 0) = false := beq_eq_false_iff_ne.2 (by omega)
  have HE : Hid (mayF f B = false) := by
    show _ = false
    unfold mayF namB
    rw [t0, t1, t2, t3, t4]
    rw [if_neg (by omega), if_pos hk, hn, ho, decide_eq_false h0]; rfl
  have HO := Lib.hid (fun W h => of5R_any _ B W (hB.later h) (by omega))
  rw [← hm] at HO
  clear t0 t1 t2 t3 t4 hm hB hl hk hn ho h0
  go_enter Try.func11, Try.ntmps11
  go_wp2_with fail
  rw [← hw1]
  clear hw1
  obtain ⟨c0, c1, c2, c3, c4, c5, c6, c7, c8⟩ := blk9 HR.out
  go_wp2_with fail
  refine (tagR_any _ _ _).mono ?_
  rintro e w' ⟨rfl, hb⟩
  rw [H2.out]
  have HB := Lib.hid (below_of HB.out hb)
  have HR := Lib.hid (HR.out.later hb)
  clear hb
  clear c0 c1 c2 c3 c4 c5 c6 c7 c8
  obtain ⟨c0, c1, c2, c3, c4, c5, c6, c7, c8⟩ := blk9 HR.out
  go_wp2_with fail
  refine (tagR_any _ _ _).mono ?_
  rintro e w' ⟨rfl, hb⟩
  rw [H3.out]
  have HB := Lib.hid (below_of HB.out hb)
  have HR := Lib.hid (HR.out.later hb)
  clear hb
  clear c0 c1 c2 c3 c4 c5 c6 c7 c8
  obtain ⟨c0, c1, c2, c3, c4, c5, c6, c7, c8⟩ := blk9 HR.out
  go_wp2_with fail
  refine (noneR_any _ _ _).mono ?_
  rintro e w' ⟨rfl, hb⟩
  rw [H4.out]
  have HB := Lib.hid (below_of HB.out hb)
  have HR := Lib.hid (HR.out.later hb)
  clear hb
  clear c0 c1 c2 c3 c4 c5 c6 c7 c8
  obtain ⟨c0, c1, c2, c3, c4, c5, c6, c7, c8⟩ := blk9 HR.out
  go_wp2_with fail
  refine (HO.out _ HB.out).mono ?_
  rintro e w' ⟨rfl, hb⟩
  rw [HOB.out]
  have q := hb.alloc hb.size (.cells #[.int .u32 (ofA B : Int), .int .i64 (ofN B : Int), .int .i64 (ofD B : Int)] 47)
  have HB := Lib.hid (below_of HB.out q)
  have HR := Lib.hid (HR.out.later q)
  clear hb q
  clear c0 c1 c2 c3 c4 c5 c6 c7 c8
  obtain ⟨c0, c1, c2, c3, c4, c5, c6, c7, c8⟩ := blk9 HR.out
  go_wp2_with fail
  refine (noneR_any _ _ _).mono ?_
  rintro e w' ⟨rfl, hb⟩
  rw [HN.out]
  have HB := Lib.hid (below_of HB.out hb)
  have HR := Lib.hid (HR.out.later hb)
  clear hb
  clear c0 c1 c2 c3 c4 c5 c6 c7 c8
  obtain ⟨c0, c1, c2, c3, c4, c5, c6, c7, c8⟩ := blk9 HR.out
  go_wp2_with fail
  go_ret
  exact ⟨ret_b (by rw [HE.out]; (try simp); try omega), HB.out⟩
set_option maxHeartbeats 4000000 in
set_option maxRecDepth 100000 in
theorem mrk2e (f : Fr) (a : Option Addr) (c m : Nat) (B : List UInt8) (w : World) (t0 : decide (1 ≤ f.n) = true) (t1 : decide (f.n ≤ 16) = true) (t2 : tagB f.mb f.mt = true) (t3 : tagB f.tb f.tt = true) (t4 : noneB f.mb f.mt = false) (hm : m = B.length) (hB : Bytes w (.slice a B.length c) B) (hl : B.length ≤ 9000) (hk : f.k = 2) (hn : noneB f.tb f.tt = false) (ho : ofB B = false) (h0 : B.length = 0) (hs : f.s = 0) :
    Calls Try.prog 11 #[.agg #[.int .i64 f.k, .int .i64 f.n, .int .u64 (f.mb : Nat), .int .u64 (f.mt : Nat), .int .u64 (f.tb : Nat), .int .u64 (f.tt : Nat), .int .u64 (f.s : Nat), .int .u64 (f.a : Nat), .slice a m c]] w fun e w' => e = .returned (.bool (mayF f B)) ∧ Below w.heap.size w w' := by
  obtain ⟨w1, hw1⟩ : ∃ w1, w1 = w.alloc (.cells #[.int .i64 f.k, .int .i64 f.n, .int .u64 (f.mb : Nat), .int .u64 (f.mt : Nat), .int .u64 (f.tb : Nat), .int .u64 (f.tt : Nat), .int .u64 (f.s : Nat), .int .u64 (f.a : Nat), .slice a m c] 28) := ⟨_, rfl⟩
  have HB : Hid (Below w.heap.size w w1) := by rw [hw1]; exact (Below.refl _ _).alloc (Nat.le_refl _) _
  have HR : Hid (BlkAt 28 w.heap.size [.int .i64 f.k, .int .i64 f.n, .int .u64 (f.mb : Nat), .int .u64 (f.mt : Nat), .int .u64 (f.tb : Nat), .int .u64 (f.tt : Nat), .int .u64 (f.s : Nat), .int .u64 (f.a : Nat), .slice a m c] w1) := by rw [hw1]; exact BlkAt.new w _
  have q0 : (1 : Int) ≤ f.n := by simpa using t0
  have q1 : f.n ≤ (16 : Int) := by simpa using t1
  have H2 := Lib.hid t2
  have H3 := Lib.hid t3
  have H4 := Lib.hid t4
  have k1 : (f.k == 1) = false := by simp [hk]
  have k2 : (f.k == 2) = true := by simp [hk]
  have k3 : (f.k == 3) = false := by simp [hk]
  have HN := Lib.hid hn
  have HOB := Lib.hid ho
  have z3 : ((m : Int) == 0) = true := beq_iff_eq.2 (by omega)
  have z1 : ((f.s : Int) == 0) = true := beq_iff_eq.2 (by omega)
  have HE : Hid (mayF f B = true) := by
    show _ = true
    unfold mayF namB
    rw [t0, t1, t2, t3, t4]
    rw [if_neg (by omega), if_pos hk, hn, ho, decide_eq_true h0, decide_eq_true hs]; rfl
  have HO := Lib.hid (fun W h => of5R_any _ B W (hB.later h) (by omega))
  rw [← hm] at HO
  clear t0 t1 t2 t3 t4 hm hB hl hk hn ho h0 hs
  go_enter Try.func11, Try.ntmps11
  go_wp2_with fail
  rw [← hw1]
  clear hw1
  obtain ⟨c0, c1, c2, c3, c4, c5, c6, c7, c8⟩ := blk9 HR.out
  go_wp2_with fail
  refine (tagR_any _ _ _).mono ?_
  rintro e w' ⟨rfl, hb⟩
  rw [H2.out]
  have HB := Lib.hid (below_of HB.out hb)
  have HR := Lib.hid (HR.out.later hb)
  clear hb
  clear c0 c1 c2 c3 c4 c5 c6 c7 c8
  obtain ⟨c0, c1, c2, c3, c4, c5, c6, c7, c8⟩ := blk9 HR.out
  go_wp2_with fail
  refine (tagR_any _ _ _).mono ?_
  rintro e w' ⟨rfl, hb⟩
  rw [H3.out]
  have HB := Lib.hid (below_of HB.out hb)
  have HR := Lib.hid (HR.out.later hb)
  clear hb
  clear c0 c1 c2 c3 c4 c5 c6 c7 c8
  obtain ⟨c0, c1, c2, c3, c4, c5, c6, c7, c8⟩ := blk9 HR.out
  go_wp2_with fail
  refine (noneR_any _ _ _).mono ?_
  rintro e w' ⟨rfl, hb⟩
  rw [H4.out]
  have HB := Lib.hid (below_of HB.out hb)
  have HR := Lib.hid (HR.out.later hb)
  clear hb
  clear c0 c1 c2 c3 c4 c5 c6 c7 c8
  obtain ⟨c0, c1, c2, c3, c4, c5, c6, c7, c8⟩ := blk9 HR.out
  go_wp2_with fail
  refine (HO.out _ HB.out).mono ?_
  rintro e w' ⟨rfl, hb⟩
  rw [HOB.out]
  have q := hb.alloc hb.size (.cells #[.int .u32 (ofA B : Int), .int .i64 (ofN B : Int), .int .i64 (ofD B : Int)] 47)
  have HB := Lib.hid (below_of HB.out q)
  have HR := Lib.hid (HR.out.later q)
  clear hb q
  clear c0 c1 c2 c3 c4 c5 c6 c7 c8
  obtain ⟨c0, c1, c2, c3, c4, c5, c6, c7, c8⟩ := blk9 HR.out
  go_wp2_with fail
  refine (noneR_any _ _ _).mono ?_
  rintro e w' ⟨rfl, hb⟩
  rw [HN.out]
  have HB := Lib.hid (below_of HB.out hb)
  have HR := Lib.hid (HR.out.later hb)
  clear hb
  clear c0 c1 c2 c3 c4 c5 c6 c7 c8
  obtain ⟨c0, c1, c2, c3, c4, c5, c6, c7, c8⟩ := blk9 HR.out
  go_wp2_with fail
  go_ret
  exact ⟨ret_b (by rw [HE.out]; (try simp); try omega), HB.out⟩
set_option maxHeartbeats 4000000 in
set_option maxRecDepth 100000 in
theorem mrk2f (f : Fr) (a : Option Addr) (c m : Nat) (B : List UInt8) (w : World) (t0 : decide (1 ≤ f.n) = true) (t1 : decide (f.n ≤ 16) = true) (t2 : tagB f.mb f.mt = true) (t3 : tagB f.tb f.tt = true) (t4 : noneB f.mb f.mt = false) (hm : m = B.length) (hB : Bytes w (.slice a B.length c) B) (hl : B.length ≤ 9000) (hk : f.k = 2) (hn : noneB f.tb f.tt = false) (ho : ofB B = false) (h0 : B.length = 0) (hs : f.s ≠ 0) :
    Calls Try.prog 11 #[.agg #[.int .i64 f.k, .int .i64 f.n, .int .u64 (f.mb : Nat), .int .u64 (f.mt : Nat), .int .u64 (f.tb : Nat), .int .u64 (f.tt : Nat), .int .u64 (f.s : Nat), .int .u64 (f.a : Nat), .slice a m c]] w fun e w' => e = .returned (.bool (mayF f B)) ∧ Below w.heap.size w w' := by
  obtain ⟨w1, hw1⟩ : ∃ w1, w1 = w.alloc (.cells #[.int .i64 f.k, .int .i64 f.n, .int .u64 (f.mb : Nat), .int .u64 (f.mt : Nat), .int .u64 (f.tb : Nat), .int .u64 (f.tt : Nat), .int .u64 (f.s : Nat), .int .u64 (f.a : Nat), .slice a m c] 28) := ⟨_, rfl⟩
  have HB : Hid (Below w.heap.size w w1) := by rw [hw1]; exact (Below.refl _ _).alloc (Nat.le_refl _) _
  have HR : Hid (BlkAt 28 w.heap.size [.int .i64 f.k, .int .i64 f.n, .int .u64 (f.mb : Nat), .int .u64 (f.mt : Nat), .int .u64 (f.tb : Nat), .int .u64 (f.tt : Nat), .int .u64 (f.s : Nat), .int .u64 (f.a : Nat), .slice a m c] w1) := by rw [hw1]; exact BlkAt.new w _
  have q0 : (1 : Int) ≤ f.n := by simpa using t0
  have q1 : f.n ≤ (16 : Int) := by simpa using t1
  have H2 := Lib.hid t2
  have H3 := Lib.hid t3
  have H4 := Lib.hid t4
  have k1 : (f.k == 1) = false := by simp [hk]
  have k2 : (f.k == 2) = true := by simp [hk]
  have k3 : (f.k == 3) = false := by simp [hk]
  have HN := Lib.hid hn
  have HOB := Lib.hid ho
  have z3 : ((m : Int) == 0) = true := beq_iff_eq.2 (by omega)
  have z1 : ((f.s : Int) == 0) = false := beq_eq_false_iff_ne.2 (by omega)
  have HE : Hid (mayF f B = false) := by
    show _ = false
    unfold mayF namB
    rw [t0, t1, t2, t3, t4]
    rw [if_neg (by omega), if_pos hk, hn, ho, decide_eq_true h0, decide_eq_false hs]; rfl
  have HO := Lib.hid (fun W h => of5R_any _ B W (hB.later h) (by omega))
  rw [← hm] at HO
  clear t0 t1 t2 t3 t4 hm hB hl hk hn ho h0 hs
  go_enter Try.func11, Try.ntmps11
  go_wp2_with fail
  rw [← hw1]
  clear hw1
  obtain ⟨c0, c1, c2, c3, c4, c5, c6, c7, c8⟩ := blk9 HR.out
  go_wp2_with fail
  refine (tagR_any _ _ _).mono ?_
  rintro e w' ⟨rfl, hb⟩
  rw [H2.out]
  have HB := Lib.hid (below_of HB.out hb)
  have HR := Lib.hid (HR.out.later hb)
  clear hb
  clear c0 c1 c2 c3 c4 c5 c6 c7 c8
  obtain ⟨c0, c1, c2, c3, c4, c5, c6, c7, c8⟩ := blk9 HR.out
  go_wp2_with fail
  refine (tagR_any _ _ _).mono ?_
  rintro e w' ⟨rfl, hb⟩
  rw [H3.out]
  have HB := Lib.hid (below_of HB.out hb)
  have HR := Lib.hid (HR.out.later hb)
  clear hb
  clear c0 c1 c2 c3 c4 c5 c6 c7 c8
  obtain ⟨c0, c1, c2, c3, c4, c5, c6, c7, c8⟩ := blk9 HR.out
  go_wp2_with fail
  refine (noneR_any _ _ _).mono ?_
  rintro e w' ⟨rfl, hb⟩
  rw [H4.out]
  have HB := Lib.hid (below_of HB.out hb)
  have HR := Lib.hid (HR.out.later hb)
  clear hb
  clear c0 c1 c2 c3 c4 c5 c6 c7 c8
  obtain ⟨c0, c1, c2, c3, c4, c5, c6, c7, c8⟩ := blk9 HR.out
  go_wp2_with fail
  refine (HO.out _ HB.out).mono ?_
  rintro e w' ⟨rfl, hb⟩
  rw [HOB.out]
  have q := hb.alloc hb.size (.cells #[.int .u32 (ofA B : Int), .int .i64 (ofN B : Int), .int .i64 (ofD B : Int)] 47)
  have HB := Lib.hid (below_of HB.out q)
  have HR := Lib.hid (HR.out.later q)
  clear hb q
  clear c0 c1 c2 c3 c4 c5 c6 c7 c8
  obtain ⟨c0, c1, c2, c3, c4, c5, c6, c7, c8⟩ := blk9 HR.out
  go_wp2_with fail
  refine (noneR_any _ _ _).mono ?_
  rintro e w' ⟨rfl, hb⟩
  rw [HN.out]
  have HB := Lib.hid (below_of HB.out hb)
  have HR := Lib.hid (HR.out.later hb)
  clear hb
  clear c0 c1 c2 c3 c4 c5 c6 c7 c8
  obtain ⟨c0, c1, c2, c3, c4, c5, c6, c7, c8⟩ := blk9 HR.out
  go_wp2_with fail
  go_ret
  exact ⟨ret_b (by rw [HE.out]; (try simp); try omega), HB.out⟩
set_option maxHeartbeats 4000000 in
set_option maxRecDepth 100000 in
theorem mrk3a (f : Fr) (a : Option Addr) (c m : Nat) (B : List UInt8) (w : World) (t0 : decide (1 ≤ f.n) = true) (t1 : decide (f.n ≤ 16) = true) (t2 : tagB f.mb f.mt = true) (t3 : tagB f.tb f.tt = true) (t4 : noneB f.mb f.mt = false) (hm : m = B.length) (hB : Bytes w (.slice a B.length c) B) (hl : B.length ≤ 9000) (hk : f.k = 3) (hn : noneB f.tb f.tt = true) :
    Calls Try.prog 11 #[.agg #[.int .i64 f.k, .int .i64 f.n, .int .u64 (f.mb : Nat), .int .u64 (f.mt : Nat), .int .u64 (f.tb : Nat), .int .u64 (f.tt : Nat), .int .u64 (f.s : Nat), .int .u64 (f.a : Nat), .slice a m c]] w fun e w' => e = .returned (.bool (mayF f B)) ∧ Below w.heap.size w w' := by
  obtain ⟨w1, hw1⟩ : ∃ w1, w1 = w.alloc (.cells #[.int .i64 f.k, .int .i64 f.n, .int .u64 (f.mb : Nat), .int .u64 (f.mt : Nat), .int .u64 (f.tb : Nat), .int .u64 (f.tt : Nat), .int .u64 (f.s : Nat), .int .u64 (f.a : Nat), .slice a m c] 28) := ⟨_, rfl⟩
  have HB : Hid (Below w.heap.size w w1) := by rw [hw1]; exact (Below.refl _ _).alloc (Nat.le_refl _) _
  have HR : Hid (BlkAt 28 w.heap.size [.int .i64 f.k, .int .i64 f.n, .int .u64 (f.mb : Nat), .int .u64 (f.mt : Nat), .int .u64 (f.tb : Nat), .int .u64 (f.tt : Nat), .int .u64 (f.s : Nat), .int .u64 (f.a : Nat), .slice a m c] w1) := by rw [hw1]; exact BlkAt.new w _
  have q0 : (1 : Int) ≤ f.n := by simpa using t0
  have q1 : f.n ≤ (16 : Int) := by simpa using t1
  have H2 := Lib.hid t2
  have H3 := Lib.hid t3
  have H4 := Lib.hid t4
  have k1 : (f.k == 1) = false := by simp [hk]
  have k2 : (f.k == 2) = false := by simp [hk]
  have k3 : (f.k == 3) = true := by simp [hk]
  have HN := Lib.hid hn
  have HE : Hid (mayF f B = false) := by
    show _ = false
    unfold mayF namB
    rw [t0, t1, t2, t3, t4]
    rw [if_neg (by omega), if_neg (by omega), if_pos hk, hn]; simp
  have HO := Lib.hid (fun W h => of5R_any _ B W (hB.later h) (by omega))
  rw [← hm] at HO
  clear t0 t1 t2 t3 t4 hm hB hl hk hn
  go_enter Try.func11, Try.ntmps11
  go_wp2_with fail
  rw [← hw1]
  clear hw1
  obtain ⟨c0, c1, c2, c3, c4, c5, c6, c7, c8⟩ := blk9 HR.out
  go_wp2_with fail
  refine (tagR_any _ _ _).mono ?_
  rintro e w' ⟨rfl, hb⟩
  rw [H2.out]
  have HB := Lib.hid (below_of HB.out hb)
  have HR := Lib.hid (HR.out.later hb)
  clear hb
  clear c0 c1 c2 c3 c4 c5 c6 c7 c8
  obtain ⟨c0, c1, c2, c3, c4, c5, c6, c7, c8⟩ := blk9 HR.out
  go_wp2_with fail
  refine (tagR_any _ _ _).mono ?_
  rintro e w' ⟨rfl, hb⟩
  rw [H3.out]
  have HB := Lib.hid (below_of HB.out hb)
  have HR := Lib.hid (HR.out.later hb)
  clear hb
  clear c0 c1 c2 c3 c4 c5 c6 c7 c8
  obtain ⟨c0, c1, c2, c3, c4, c5, c6, c7, c8⟩ := blk9 HR.out
  go_wp2_with fail
  refine (noneR_any _ _ _).mono ?_
  rintro e w' ⟨rfl, hb⟩
  rw [H4.out]
  have HB := Lib.hid (below_of HB.out hb)
  have HR := Lib.hid (HR.out.later hb)
  clear hb
  clear c0 c1 c2 c3 c4 c5 c6 c7 c8
  obtain ⟨c0, c1, c2, c3, c4, c5, c6, c7, c8⟩ := blk9 HR.out
  go_wp2_with fail
  refine (HO.out _ HB.out).mono ?_
  rintro e w' ⟨rfl, hb⟩
  have q := hb.alloc hb.size (.cells #[.int .u32 (ofA B : Int), .int .i64 (ofN B : Int), .int .i64 (ofD B : Int)] 47)
  have HB := Lib.hid (below_of HB.out q)
  have HR := Lib.hid (HR.out.later q)
  clear hb q
  clear c0 c1 c2 c3 c4 c5 c6 c7 c8
  obtain ⟨c0, c1, c2, c3, c4, c5, c6, c7, c8⟩ := blk9 HR.out
  go_wp2_with fail
  refine (noneR_any _ _ _).mono ?_
  rintro e w' ⟨rfl, hb⟩
  rw [HN.out]
  have HB := Lib.hid (below_of HB.out hb)
  have HR := Lib.hid (HR.out.later hb)
  clear hb
  clear c0 c1 c2 c3 c4 c5 c6 c7 c8
  obtain ⟨c0, c1, c2, c3, c4, c5, c6, c7, c8⟩ := blk9 HR.out
  go_wp2_with fail
  go_ret
  exact ⟨ret_b (by rw [HE.out]; (try simp); try omega), HB.out⟩
set_option maxHeartbeats 4000000 in
set_option maxRecDepth 100000 in
theorem mrk3b (f : Fr) (a : Option Addr) (c m : Nat) (B : List UInt8) (w : World) (t0 : decide (1 ≤ f.n) = true) (t1 : decide (f.n ≤ 16) = true) (t2 : tagB f.mb f.mt = true) (t3 : tagB f.tb f.tt = true) (t4 : noneB f.mb f.mt = false) (hm : m = B.length) (hB : Bytes w (.slice a B.length c) B) (hl : B.length ≤ 9000) (hk : f.k = 3) (hn : noneB f.tb f.tt = false) (hs : f.s ≠ 0) :
    Calls Try.prog 11 #[.agg #[.int .i64 f.k, .int .i64 f.n, .int .u64 (f.mb : Nat), .int .u64 (f.mt : Nat), .int .u64 (f.tb : Nat), .int .u64 (f.tt : Nat), .int .u64 (f.s : Nat), .int .u64 (f.a : Nat), .slice a m c]] w fun e w' => e = .returned (.bool (mayF f B)) ∧ Below w.heap.size w w' := by
  obtain ⟨w1, hw1⟩ : ∃ w1, w1 = w.alloc (.cells #[.int .i64 f.k, .int .i64 f.n, .int .u64 (f.mb : Nat), .int .u64 (f.mt : Nat), .int .u64 (f.tb : Nat), .int .u64 (f.tt : Nat), .int .u64 (f.s : Nat), .int .u64 (f.a : Nat), .slice a m c] 28) := ⟨_, rfl⟩
  have HB : Hid (Below w.heap.size w w1) := by rw [hw1]; exact (Below.refl _ _).alloc (Nat.le_refl _) _
  have HR : Hid (BlkAt 28 w.heap.size [.int .i64 f.k, .int .i64 f.n, .int .u64 (f.mb : Nat), .int .u64 (f.mt : Nat), .int .u64 (f.tb : Nat), .int .u64 (f.tt : Nat), .int .u64 (f.s : Nat), .int .u64 (f.a : Nat), .slice a m c] w1) := by rw [hw1]; exact BlkAt.new w _
  have q0 : (1 : Int) ≤ f.n := by simpa using t0
  have q1 : f.n ≤ (16 : Int) := by simpa using t1
  have H2 := Lib.hid t2
  have H3 := Lib.hid t3
  have H4 := Lib.hid t4
  have k1 : (f.k == 1) = false := by simp [hk]
  have k2 : (f.k == 2) = false := by simp [hk]
  have k3 : (f.k == 3) = true := by simp [hk]
  have HN := Lib.hid hn
  have z1 : ((f.s : Int) == 0) = false := beq_eq_false_iff_ne.2 (by omega)
  have HE : Hid (mayF f B = false) := by
    show _ = false
    unfold mayF namB
    rw [t0, t1, t2, t3, t4]
    rw [if_neg (by omega), if_neg (by omega), if_pos hk, hn]; simp [hs]
  have HO := Lib.hid (fun W h => of5R_any _ B W (hB.later h) (by omega))
  rw [← hm] at HO
  clear t0 t1 t2 t3 t4 hm hB hl hk hn hs
  go_enter Try.func11, Try.ntmps11
  go_wp2_with fail
  rw [← hw1]
  clear hw1
  obtain ⟨c0, c1, c2, c3, c4, c5, c6, c7, c8⟩ := blk9 HR.out
  go_wp2_with fail
  refine (tagR_any _ _ _).mono ?_
  rintro e w' ⟨rfl, hb⟩
  rw [H2.out]
  have HB := Lib.hid (below_of HB.out hb)
  have HR := Lib.hid (HR.out.later hb)
  clear hb
  clear c0 c1 c2 c3 c4 c5 c6 c7 c8
  obtain ⟨c0, c1, c2, c3, c4, c5, c6, c7, c8⟩ := blk9 HR.out
  go_wp2_with fail
  refine (tagR_any _ _ _).mono ?_
  rintro e w' ⟨rfl, hb⟩
  rw [H3.out]
  have HB := Lib.hid (below_of HB.out hb)
  have HR := Lib.hid (HR.out.later hb)
  clear hb
  clear c0 c1 c2 c3 c4 c5 c6 c7 c8
  obtain ⟨c0, c1, c2, c3, c4, c5, c6, c7, c8⟩ := blk9 HR.out
  go_wp2_with fail
  refine (noneR_any _ _ _).mono ?_
  rintro e w' ⟨rfl, hb⟩
  rw [H4.out]
  have HB := Lib.hid (below_of HB.out hb)
  have HR := Lib.hid (HR.out.later hb)
  clear hb
  clear c0 c1 c2 c3 c4 c5 c6 c7 c8
  obtain ⟨c0, c1, c2, c3, c4, c5, c6, c7, c8⟩ := blk9 HR.out
  go_wp2_with fail
  refine (HO.out _ HB.out).mono ?_
  rintro e w' ⟨rfl, hb⟩
  have q := hb.alloc hb.size (.cells #[.int .u32 (ofA B : Int), .int .i64 (ofN B : Int), .int .i64 (ofD B : Int)] 47)
  have HB := Lib.hid (below_of HB.out q)
  have HR := Lib.hid (HR.out.later q)
  clear hb q
  clear c0 c1 c2 c3 c4 c5 c6 c7 c8
  obtain ⟨c0, c1, c2, c3, c4, c5, c6, c7, c8⟩ := blk9 HR.out
  go_wp2_with fail
  refine (noneR_any _ _ _).mono ?_
  rintro e w' ⟨rfl, hb⟩
  rw [HN.out]
  have HB := Lib.hid (below_of HB.out hb)
  have HR := Lib.hid (HR.out.later hb)
  clear hb
  clear c0 c1 c2 c3 c4 c5 c6 c7 c8
  obtain ⟨c0, c1, c2, c3, c4, c5, c6, c7, c8⟩ := blk9 HR.out
  go_wp2_with fail
  go_ret
  exact ⟨ret_b (by rw [HE.out]; (try simp); try omega), HB.out⟩
set_option maxHeartbeats 4000000 in
set_option maxRecDepth 100000 in
theorem mrk3c (f : Fr) (a : Option Addr) (c m : Nat) (B : List UInt8) (w : World) (t0 : decide (1 ≤ f.n) = true) (t1 : decide (f.n ≤ 16) = true) (t2 : tagB f.mb f.mt = true) (t3 : tagB f.tb f.tt = true) (t4 : noneB f.mb f.mt = false) (hm : m = B.length) (hB : Bytes w (.slice a B.length c) B) (hl : B.length ≤ 9000) (hk : f.k = 3) (hn : noneB f.tb f.tt = false) (hs : f.s = 0) (ha : f.a ≠ 0) :
    Calls Try.prog 11 #[.agg #[.int .i64 f.k, .int .i64 f.n, .int .u64 (f.mb : Nat), .int .u64 (f.mt : Nat), .int .u64 (f.tb : Nat), .int .u64 (f.tt : Nat), .int .u64 (f.s : Nat), .int .u64 (f.a : Nat), .slice a m c]] w fun e w' => e = .returned (.bool (mayF f B)) ∧ Below w.heap.size w w' := by
  obtain ⟨w1, hw1⟩ : ∃ w1, w1 = w.alloc (.cells #[.int .i64 f.k, .int .i64 f.n, .int .u64 (f.mb : Nat), .int .u64 (f.mt : Nat), .int .u64 (f.tb : Nat), .int .u64 (f.tt : Nat), .int .u64 (f.s : Nat), .int .u64 (f.a : Nat), .slice a m c] 28) := ⟨_, rfl⟩
  have HB : Hid (Below w.heap.size w w1) := by rw [hw1]; exact (Below.refl _ _).alloc (Nat.le_refl _) _
  have HR : Hid (BlkAt 28 w.heap.size [.int .i64 f.k, .int .i64 f.n, .int .u64 (f.mb : Nat), .int .u64 (f.mt : Nat), .int .u64 (f.tb : Nat), .int .u64 (f.tt : Nat), .int .u64 (f.s : Nat), .int .u64 (f.a : Nat), .slice a m c] w1) := by rw [hw1]; exact BlkAt.new w _
  have q0 : (1 : Int) ≤ f.n := by simpa using t0
  have q1 : f.n ≤ (16 : Int) := by simpa using t1
  have H2 := Lib.hid t2
  have H3 := Lib.hid t3
  have H4 := Lib.hid t4
  have k1 : (f.k == 1) = false := by simp [hk]
  have k2 : (f.k == 2) = false := by simp [hk]
  have k3 : (f.k == 3) = true := by simp [hk]
  have HN := Lib.hid hn
  have z1 : ((f.s : Int) == 0) = true := beq_iff_eq.2 (by omega)
  have z2 : ((f.a : Int) == 0) = false := beq_eq_false_iff_ne.2 (by omega)
  have HE : Hid (mayF f B = false) := by
    show _ = false
    unfold mayF namB
    rw [t0, t1, t2, t3, t4]
    rw [if_neg (by omega), if_neg (by omega), if_pos hk, hn]; simp [ha]
  have HO := Lib.hid (fun W h => of5R_any _ B W (hB.later h) (by omega))
  rw [← hm] at HO
  clear t0 t1 t2 t3 t4 hm hB hl hk hn hs ha
  go_enter Try.func11, Try.ntmps11
  go_wp2_with fail
  rw [← hw1]
  clear hw1
  obtain ⟨c0, c1, c2, c3, c4, c5, c6, c7, c8⟩ := blk9 HR.out
  go_wp2_with fail
  refine (tagR_any _ _ _).mono ?_
  rintro e w' ⟨rfl, hb⟩
  rw [H2.out]
  have HB := Lib.hid (below_of HB.out hb)
  have HR := Lib.hid (HR.out.later hb)
  clear hb
  clear c0 c1 c2 c3 c4 c5 c6 c7 c8
  obtain ⟨c0, c1, c2, c3, c4, c5, c6, c7, c8⟩ := blk9 HR.out
  go_wp2_with fail
  refine (tagR_any _ _ _).mono ?_
  rintro e w' ⟨rfl, hb⟩
  rw [H3.out]
  have HB := Lib.hid (below_of HB.out hb)
  have HR := Lib.hid (HR.out.later hb)
  clear hb
  clear c0 c1 c2 c3 c4 c5 c6 c7 c8
  obtain ⟨c0, c1, c2, c3, c4, c5, c6, c7, c8⟩ := blk9 HR.out
  go_wp2_with fail
  refine (noneR_any _ _ _).mono ?_
  rintro e w' ⟨rfl, hb⟩
  rw [H4.out]
  have HB := Lib.hid (below_of HB.out hb)
  have HR := Lib.hid (HR.out.later hb)
  clear hb
  clear c0 c1 c2 c3 c4 c5 c6 c7 c8
  obtain ⟨c0, c1, c2, c3, c4, c5, c6, c7, c8⟩ := blk9 HR.out
  go_wp2_with fail
  refine (HO.out _ HB.out).mono ?_
  rintro e w' ⟨rfl, hb⟩
  have q := hb.alloc hb.size (.cells #[.int .u32 (ofA B : Int), .int .i64 (ofN B : Int), .int .i64 (ofD B : Int)] 47)
  have HB := Lib.hid (below_of HB.out q)
  have HR := Lib.hid (HR.out.later q)
  clear hb q
  clear c0 c1 c2 c3 c4 c5 c6 c7 c8
  obtain ⟨c0, c1, c2, c3, c4, c5, c6, c7, c8⟩ := blk9 HR.out
  go_wp2_with fail
  refine (noneR_any _ _ _).mono ?_
  rintro e w' ⟨rfl, hb⟩
  rw [HN.out]
  have HB := Lib.hid (below_of HB.out hb)
  have HR := Lib.hid (HR.out.later hb)
  clear hb
  clear c0 c1 c2 c3 c4 c5 c6 c7 c8
  obtain ⟨c0, c1, c2, c3, c4, c5, c6, c7, c8⟩ := blk9 HR.out
  go_wp2_with fail
  go_ret
  exact ⟨ret_b (by rw [HE.out]; (try simp); try omega), HB.out⟩
set_option maxHeartbeats 4000000 in
set_option maxRecDepth 100000 in
theorem mrk3d (f : Fr) (a : Option Addr) (c m : Nat) (B : List UInt8) (w : World) (t0 : decide (1 ≤ f.n) = true) (t1 : decide (f.n ≤ 16) = true) (t2 : tagB f.mb f.mt = true) (t3 : tagB f.tb f.tt = true) (t4 : noneB f.mb f.mt = false) (hm : m = B.length) (hB : Bytes w (.slice a B.length c) B) (hl : B.length ≤ 9000) (hk : f.k = 3) (hn : noneB f.tb f.tt = false) (hs : f.s = 0) (ha : f.a = 0) (h0 : B.length = 0) :
    Calls Try.prog 11 #[.agg #[.int .i64 f.k, .int .i64 f.n, .int .u64 (f.mb : Nat), .int .u64 (f.mt : Nat), .int .u64 (f.tb : Nat), .int .u64 (f.tt : Nat), .int .u64 (f.s : Nat), .int .u64 (f.a : Nat), .slice a m c]] w fun e w' => e = .returned (.bool (mayF f B)) ∧ Below w.heap.size w w' := by
  obtain ⟨w1, hw1⟩ : ∃ w1, w1 = w.alloc (.cells #[.int .i64 f.k, .int .i64 f.n, .int .u64 (f.mb : Nat), .int .u64 (f.mt : Nat), .int .u64 (f.tb : Nat), .int .u64 (f.tt : Nat), .int .u64 (f.s : Nat), .int .u64 (f.a : Nat), .slice a m c] 28) := ⟨_, rfl⟩
  have HB : Hid (Below w.heap.size w w1) := by rw [hw1]; exact (Below.refl _ _).alloc (Nat.le_refl _) _
  have HR : Hid (BlkAt 28 w.heap.size [.int .i64 f.k, .int .i64 f.n, .int .u64 (f.mb : Nat), .int .u64 (f.mt : Nat), .int .u64 (f.tb : Nat), .int .u64 (f.tt : Nat), .int .u64 (f.s : Nat), .int .u64 (f.a : Nat), .slice a m c] w1) := by rw [hw1]; exact BlkAt.new w _
  have q0 : (1 : Int) ≤ f.n := by simpa using t0
  have q1 : f.n ≤ (16 : Int) := by simpa using t1
  have H2 := Lib.hid t2
  have H3 := Lib.hid t3
  have H4 := Lib.hid t4
  have k1 : (f.k == 1) = false := by simp [hk]
  have k2 : (f.k == 2) = false := by simp [hk]
  have k3 : (f.k == 3) = true := by simp [hk]
  have HN := Lib.hid hn
  have z1 : ((f.s : Int) == 0) = true := beq_iff_eq.2 (by omega)
  have z2 : ((f.a : Int) == 0) = true := beq_iff_eq.2 (by omega)
  have z3 : (m : Int) ≤ 0 := by omega
  have HE : Hid (mayF f B = false) := by
    show _ = false
    unfold mayF namB
    rw [t0, t1, t2, t3, t4]
    rw [if_neg (by omega), if_neg (by omega), if_pos hk, hn, decide_eq_false (show ¬ 0 < B.length by omega)]; simp
  have HO := Lib.hid (fun W h => of5R_any _ B W (hB.later h) (by omega))
  rw [← hm] at HO
  clear t0 t1 t2 t3 t4 hm hB hl hk hn hs ha h0
  go_enter Try.func11, Try.ntmps11
  go_wp2_with fail
  rw [← hw1]
  clear hw1
  obtain ⟨c0, c1, c2, c3, c4, c5, c6, c7, c8⟩ := blk9 HR.out
  go_wp2_with fail
  refine (tagR_any _ _ _).mono ?_
  rintro e w' ⟨rfl, hb⟩
  rw [H2.out]
  have HB := Lib.hid (below_of HB.out hb)
  have HR := Lib.hid (HR.out.later hb)
  clear hb
  clear c0 c1 c2 c3 c4 c5 c6 c7 c8
  obtain ⟨c0, c1, c2, c3, c4, c5, c6, c7, c8⟩ := blk9 HR.out
  go_wp2_with fail
  refine (tagR_any _ _ _).mono ?_
  rintro e w' ⟨rfl, hb⟩
  rw [H3.out]
  have HB := Lib.hid (below_of HB.out hb)
  have HR := Lib.hid (HR.out.later hb)
  clear hb
  clear c0 c1 c2 c3 c4 c5 c6 c7 c8
  obtain ⟨c0, c1, c2, c3, c4, c5, c6, c7, c8⟩ := blk9 HR.out
  go_wp2_with fail
  refine (noneR_any _ _ _).mono ?_
  rintro e w' ⟨rfl, hb⟩
  rw [H4.out]
  have HB := Lib.hid (below_of HB.out hb)
  have HR := Lib.hid (HR.out.later hb)
  clear hb
  clear c0 c1 c2 c3 c4 c5 c6 c7 c8
  obtain ⟨c0, c1, c2, c3, c4, c5, c6, c7, c8⟩ := blk9 HR.out
  go_wp2_with fail
  refine (HO.out _ HB.out).mono ?_
  rintro e w' ⟨rfl, hb⟩
  have q := hb.alloc hb.size (.cells #[.int .u32 (ofA B : Int), .int .i64 (ofN B : Int), .int .i64 (ofD B : Int)] 47)
  have HB := Lib.hid (below_of HB.out q)
  have HR := Lib.hid (HR.out.later q)
  clear hb q
  clear c0 c1 c2 c3 c4 c5 c6 c7 c8
  obtain ⟨c0, c1, c2, c3, c4, c5, c6, c7, c8⟩ := blk9 HR.out
  go_wp2_with fail
  refine (noneR_any _ _ _).mono ?_
  rintro e w' ⟨rfl, hb⟩
  rw [HN.out]
  have HB := Lib.hid (below_of HB.out hb)
  have HR := Lib.hid (HR.out.later hb)
  clear hb
  clear c0 c1 c2 c3 c4 c5 c6 c7 c8
  obtain ⟨c0, c1, c2, c3, c4, c5, c6, c7, c8⟩ := blk9 HR.out
  go_wp2_with fail
  go_ret
  exact ⟨ret_b (by rw [HE.out]; (try simp); try omega), HB.out⟩
set_option maxHeartbeats 4000000 in
set_option maxRecDepth 100000 in
theorem mrk3e (f : Fr) (a : Option Addr) (c m : Nat) (B : List UInt8) (w : World) (t0 : decide (1 ≤ f.n) = true) (t1 : decide (f.n ≤ 16) = true) (t2 : tagB f.mb f.mt = true) (t3 : tagB f.tb f.tt = true) (t4 : noneB f.mb f.mt = false) (hm : m = B.length) (hB : Bytes w (.slice a B.length c) B) (hl : B.length ≤ 9000) (hk : f.k = 3) (hn : noneB f.tb f.tt = false) (hs : f.s = 0) (ha : f.a = 0) (h0 : 2048 < B.length) :
    Calls Try.prog 11 #[.agg #[.int .i64 f.k, .int .i64 f.n, .int .u64 (f.mb : Nat), .int .u64 (f.mt : Nat), .int .u64 (f.tb : Nat), .int .u64 (f.tt : Nat), .int .u64 (f.s : Nat), .int .u64 (f.a : Nat), .slice a m c]] w fun e w' => e = .returned (.bool (mayF f B)) ∧ Below w.heap.size w w' := by
  obtain ⟨w1, hw1⟩ : ∃ w1, w1 = w.alloc (.cells #[.int .i64 f.k, .int .i64 f.n, .int .u64 (f.mb : Nat), .int .u64 (f.mt : Nat), .int .u64 (f.tb : Nat), .int .u64 (f.tt : Nat), .int .u64 (f.s : Nat), .int .u64 (f.a : Nat), .slice a m c] 28) := ⟨_, rfl⟩
  have HB : Hid (Below w.heap.size w w1) := by rw [hw1]; exact (Below.refl _ _).alloc (Nat.le_refl _) _
  have HR : Hid (BlkAt 28 w.heap.size [.int .i64 f.k, .int .i64 f.n, .int .u64 (f.mb : Nat), .int .u64 (f.mt : Nat), .int .u64 (f.tb : Nat), .int .u64 (f.tt : Nat), .int .u64 (f.s : Nat), .int .u64 (f.a : Nat), .slice a m c] w1) := by rw [hw1]; exact BlkAt.new w _
  have q0 : (1 : Int) ≤ f.n := by simpa using t0
  have q1 : f.n ≤ (16 : Int) := by simpa using t1
  have H2 := Lib.hid t2
  have H3 := Lib.hid t3
  have H4 := Lib.hid t4
  have k1 : (f.k == 1) = false := by simp [hk]
  have k2 : (f.k == 2) = false := by simp [hk]
  have k3 : (f.k == 3) = true := by simp [hk]
  have HN := Lib.hid hn
  have z1 : ((f.s : Int) == 0) = true := beq_iff_eq.2 (by omega)
  have z2 : ((f.a : Int) == 0) = true := beq_iff_eq.2 (by omega)
  have z3 : (0 : Int) < m := by omega
  have z4 : (2048 : Int) < m := by omega
  have HE : Hid (mayF f B = false) := by
    show _ = false
    unfold mayF namB
    rw [t0, t1, t2, t3, t4]
    rw [if_neg (by omega), if_neg (by omega), if_pos hk, hn, decide_eq_false (show ¬ B.length ≤ 2048 by omega)]; simp
  have HO := Lib.hid (fun W h => of5R_any _ B W (hB.later h) (by omega))
  rw [← hm] at HO
  clear t0 t1 t2 t3 t4 hm hB hl hk hn hs ha h0
  go_enter Try.func11, Try.ntmps11
  go_wp2_with fail
  rw [← hw1]
  clear hw1
  obtain ⟨c0, c1, c2, c3, c4, c5, c6, c7, c8⟩ := blk9 HR.out
  go_wp2_with fail
  refine (tagR_any _ _ _).mono ?_
  rintro e w' ⟨rfl, hb⟩
  rw [H2.out]
  have HB := Lib.hid (below_of HB.out hb)
  have HR := Lib.hid (HR.out.later hb)
  clear hb
  clear c0 c1 c2 c3 c4 c5 c6 c7 c8
  obtain ⟨c0, c1, c2, c3, c4, c5, c6, c7, c8⟩ := blk9 HR.out
  go_wp2_with fail
  refine (tagR_any _ _ _).mono ?_
  rintro e w' ⟨rfl, hb⟩
  rw [H3.out]
  have HB := Lib.hid (below_of HB.out hb)
  have HR := Lib.hid (HR.out.later hb)
  clear hb
  clear c0 c1 c2 c3 c4 c5 c6 c7 c8
  obtain ⟨c0, c1, c2, c3, c4, c5, c6, c7, c8⟩ := blk9 HR.out
  go_wp2_with fail
  refine (noneR_any _ _ _).mono ?_
  rintro e w' ⟨rfl, hb⟩
  rw [H4.out]
  have HB := Lib.hid (below_of HB.out hb)
  have HR := Lib.hid (HR.out.later hb)
  clear hb
  clear c0 c1 c2 c3 c4 c5 c6 c7 c8
  obtain ⟨c0, c1, c2, c3, c4, c5, c6, c7, c8⟩ := blk9 HR.out
  go_wp2_with fail
  refine (HO.out _ HB.out).mono ?_
  rintro e w' ⟨rfl, hb⟩
  have q := hb.alloc hb.size (.cells #[.int .u32 (ofA B : Int), .int .i64 (ofN B : Int), .int .i64 (ofD B : Int)] 47)
  have HB := Lib.hid (below_of HB.out q)
  have HR := Lib.hid (HR.out.later q)
  clear hb q
  clear c0 c1 c2 c3 c4 c5 c6 c7 c8
  obtain ⟨c0, c1, c2, c3, c4, c5, c6, c7, c8⟩ := blk9 HR.out
  go_wp2_with fail
  refine (noneR_any _ _ _).mono ?_
  rintro e w' ⟨rfl, hb⟩
  rw [HN.out]
  have HB := Lib.hid (below_of HB.out hb)
  have HR := Lib.hid (HR.out.later hb)
  clear hb
  clear c0 c1 c2 c3 c4 c5 c6 c7 c8
  obtain ⟨c0, c1, c2, c3, c4, c5, c6, c7, c8⟩ := blk9 HR.out
  go_wp2_with fail
  go_ret
  exact ⟨ret_b (by rw [HE.out]; (try simp); try omega), HB.out⟩
set_option maxHeartbeats 4000000 in
set_option maxRecDepth 100000 in
theorem mrk3f (f : Fr) (a : Option Addr) (c m : Nat) (B : List UInt8) (w : World) (t0 : decide (1 ≤ f.n) = true) (t1 : decide (f.n ≤ 16) = true) (t2 : tagB f.mb f.mt = true) (t3 : tagB f.tb f.tt = true) (t4 : noneB f.mb f.mt = false) (hm : m = B.length) (hB : Bytes w (.slice a B.length c) B) (hl : B.length ≤ 9000) (hk : f.k = 3) (hn : noneB f.tb f.tt = false) (hs : f.s = 0) (ha : f.a = 0) (h0 : 0 < B.length) (h1 : B.length ≤ 2048) :
    Calls Try.prog 11 #[.agg #[.int .i64 f.k, .int .i64 f.n, .int .u64 (f.mb : Nat), .int .u64 (f.mt : Nat), .int .u64 (f.tb : Nat), .int .u64 (f.tt : Nat), .int .u64 (f.s : Nat), .int .u64 (f.a : Nat), .slice a m c]] w fun e w' => e = .returned (.bool (mayF f B)) ∧ Below w.heap.size w w' := by
  obtain ⟨w1, hw1⟩ : ∃ w1, w1 = w.alloc (.cells #[.int .i64 f.k, .int .i64 f.n, .int .u64 (f.mb : Nat), .int .u64 (f.mt : Nat), .int .u64 (f.tb : Nat), .int .u64 (f.tt : Nat), .int .u64 (f.s : Nat), .int .u64 (f.a : Nat), .slice a m c] 28) := ⟨_, rfl⟩
  have HB : Hid (Below w.heap.size w w1) := by rw [hw1]; exact (Below.refl _ _).alloc (Nat.le_refl _) _
  have HR : Hid (BlkAt 28 w.heap.size [.int .i64 f.k, .int .i64 f.n, .int .u64 (f.mb : Nat), .int .u64 (f.mt : Nat), .int .u64 (f.tb : Nat), .int .u64 (f.tt : Nat), .int .u64 (f.s : Nat), .int .u64 (f.a : Nat), .slice a m c] w1) := by rw [hw1]; exact BlkAt.new w _
  have q0 : (1 : Int) ≤ f.n := by simpa using t0
  have q1 : f.n ≤ (16 : Int) := by simpa using t1
  have H2 := Lib.hid t2
  have H3 := Lib.hid t3
  have H4 := Lib.hid t4
  have k1 : (f.k == 1) = false := by simp [hk]
  have k2 : (f.k == 2) = false := by simp [hk]
  have k3 : (f.k == 3) = true := by simp [hk]
  have HN := Lib.hid hn
  have z1 : ((f.s : Int) == 0) = true := beq_iff_eq.2 (by omega)
  have z2 : ((f.a : Int) == 0) = true := beq_iff_eq.2 (by omega)
  have z3 : (0 : Int) < m := by omega
  have z4 : (m : Int) ≤ 2048 := by omega
  have HE : Hid (mayF f B = true) := by
    show _ = true
    unfold mayF namB
    rw [t0, t1, t2, t3, t4]
    rw [if_neg (by omega), if_neg (by omega), if_pos hk, hn, decide_eq_true h0, decide_eq_true h1, decide_eq_true hs, decide_eq_true ha]; rfl
  have HO := Lib.hid (fun W h => of5R_any _ B W (hB.later h) (by omega))
  rw [← hm] at HO
  clear t0 t1 t2 t3 t4 hm hB hl hk hn hs ha h0 h1
  go_enter Try.func11, Try.ntmps11
  go_wp2_with fail
  rw [← hw1]
  clear hw1
  obtain ⟨c0, c1, c2, c3, c4, c5, c6, c7, c8⟩ := blk9 HR.out
  go_wp2_with fail
  refine (tagR_any _ _ _).mono ?_
  rintro e w' ⟨rfl, hb⟩
  rw [H2.out]
  have HB := Lib.hid (below_of HB.out hb)
  have HR := Lib.hid (HR.out.later hb)
  clear hb
  clear c0 c1 c2 c3 c4 c5 c6 c7 c8
  obtain ⟨c0, c1, c2, c3, c4, c5, c6, c7, c8⟩ := blk9 HR.out
  go_wp2_with fail
  refine (tagR_any _ _ _).mono ?_
  rintro e w' ⟨rfl, hb⟩
  rw [H3.out]
  have HB := Lib.hid (below_of HB.out hb)
  have HR := Lib.hid (HR.out.later hb)
  clear hb
  clear c0 c1 c2 c3 c4 c5 c6 c7 c8
  obtain ⟨c0, c1, c2, c3, c4, c5, c6, c7, c8⟩ := blk9 HR.out
  go_wp2_with fail
  refine (noneR_any _ _ _).mono ?_
  rintro e w' ⟨rfl, hb⟩
  rw [H4.out]
  have HB := Lib.hid (below_of HB.out hb)
  have HR := Lib.hid (HR.out.later hb)
  clear hb
  clear c0 c1 c2 c3 c4 c5 c6 c7 c8
  obtain ⟨c0, c1, c2, c3, c4, c5, c6, c7, c8⟩ := blk9 HR.out
  go_wp2_with fail
  refine (HO.out _ HB.out).mono ?_
  rintro e w' ⟨rfl, hb⟩
  have q := hb.alloc hb.size (.cells #[.int .u32 (ofA B : Int), .int .i64 (ofN B : Int), .int .i64 (ofD B : Int)] 47)
  have HB := Lib.hid (below_of HB.out q)
  have HR := Lib.hid (HR.out.later q)
  clear hb q
  clear c0 c1 c2 c3 c4 c5 c6 c7 c8
  obtain ⟨c0, c1, c2, c3, c4, c5, c6, c7, c8⟩ := blk9 HR.out
  go_wp2_with fail
  refine (noneR_any _ _ _).mono ?_
  rintro e w' ⟨rfl, hb⟩
  rw [HN.out]
  have HB := Lib.hid (below_of HB.out hb)
  have HR := Lib.hid (HR.out.later hb)
  clear hb
  clear c0 c1 c2 c3 c4 c5 c6 c7 c8
  obtain ⟨c0, c1, c2, c3, c4, c5, c6, c7, c8⟩ := blk9 HR.out
  go_wp2_with fail
  go_ret
  exact ⟨ret_b (by rw [HE.out]; (try simp); try omega), HB.out⟩
set_option maxHeartbeats 4000000 in
set_option maxRecDepth 100000 in
theorem mrk0 (f : Fr) (a : Option Addr) (c m : Nat) (B : List UInt8) (w : World) (t0 : decide (1 ≤ f.n) = true) (t1 : decide (f.n ≤ 16) = true) (t2 : tagB f.mb f.mt = true) (t3 : tagB f.tb f.tt = true) (t4 : noneB f.mb f.mt = false) (hm : m = B.length) (hB : Bytes w (.slice a B.length c) B) (hl : B.length ≤ 9000) (h1 : f.k ≠ 1) (h2 : f.k ≠ 2) (h3 : f.k ≠ 3) :
    Calls Try.prog 11 #[.agg #[.int .i64 f.k, .int .i64 f.n, .int .u64 (f.mb : Nat), .int .u64 (f.mt : Nat), .int .u64 (f.tb : Nat), .int .u64 (f.tt : Nat), .int .u64 (f.s : Nat), .int .u64 (f.a : Nat), .slice a m c]] w fun e w' => e = .returned (.bool (mayF f B)) ∧ Below w.heap.size w w' := by
  obtain ⟨w1, hw1⟩ : ∃ w1, w1 = w.alloc (.cells #[.int .i64 f.k, .int .i64 f.n, .int .u64 (f.mb : Nat), .int .u64 (f.mt : Nat), .int .u64 (f.tb : Nat), .int .u64 (f.tt : Nat), .int .u64 (f.s : Nat), .int .u64 (f.a : Nat), .slice a m c] 28) := ⟨_, rfl⟩
  have HB : Hid (Below w.heap.size w w1) := by rw [hw1]; exact (Below.refl _ _).alloc (Nat.le_refl _) _
  have HR : Hid (BlkAt 28 w.heap.size [.int .i64 f.k, .int .i64 f.n, .int .u64 (f.mb : Nat), .int .u64 (f.mt : Nat), .int .u64 (f.tb : Nat), .int .u64 (f.tt : Nat), .int .u64 (f.s : Nat), .int .u64 (f.a : Nat), .slice a m c] w1) := by rw [hw1]; exact BlkAt.new w _
  have q0 : (1 : Int) ≤ f.n := by simpa using t0
  have q1 : f.n ≤ (16 : Int) := by simpa using t1
  have H2 := Lib.hid t2
  have H3 := Lib.hid t3
  have H4 := Lib.hid t4
  have k1 : (f.k == 1) = false := by simp [h1]
  have k2 : (f.k == 2) = false := by simp [h2]
  have k3 : (f.k == 3) = false := by simp [h3]
  have HE : Hid (mayF f B = false) := by
    show _ = false
    unfold mayF namB
    rw [t0, t1, t2, t3, t4]
    rw [if_neg h1, if_neg h2, if_neg h3]; rfl
  have HO := Lib.hid (fun W h => of5R_any _ B W (hB.later h) (by omega))
  rw [← hm] at HO
  clear t0 t1 t2 t3 t4 hm hB hl h1 h2 h3
  go_enter Try.func11, Try.ntmps11
  go_wp2_with fail
  rw [← hw1]
  clear hw1
  obtain ⟨c0, c1, c2, c3, c4, c5, c6, c7, c8⟩ := blk9 HR.out
  go_wp2_with fail
  refine (tagR_any _ _ _).mono ?_
  rintro e w' ⟨rfl, hb⟩
  rw [H2.out]
  have HB := Lib.hid (below_of HB.out hb)
  have HR := Lib.hid (HR.out.later hb)
  clear hb
  clear c0 c1 c2 c3 c4 c5 c6 c7 c8
  obtain ⟨c0, c1, c2, c3, c4, c5, c6, c7, c8⟩ := blk9 HR.out
  go_wp2_with fail
  refine (tagR_any _ _ _).mono ?_
  rintro e w' ⟨rfl, hb⟩
  rw [H3.out]
  have HB := Lib.hid (below_of HB.out hb)
  have HR := Lib.hid (HR.out.later hb)
  clear hb
  clear c0 c1 c2 c3 c4 c5 c6 c7 c8
  obtain ⟨c0, c1, c2, c3, c4, c5, c6, c7, c8⟩ := blk9 HR.out
  go_wp2_with fail
  refine (noneR_any _ _ _).mono ?_
  rintro e w' ⟨rfl, hb⟩
  rw [H4.out]
  have HB := Lib.hid (below_of HB.out hb)
  have HR := Lib.hid (HR.out.later hb)
  clear hb
  clear c0 c1 c2 c3 c4 c5 c6 c7 c8
  obtain ⟨c0, c1, c2, c3, c4, c5, c6, c7, c8⟩ := blk9 HR.out
  go_wp2_with fail
  refine (HO.out _ HB.out).mono ?_
  rintro e w' ⟨rfl, hb⟩
  have q := hb.alloc hb.size (.cells #[.int .u32 (ofA B : Int), .int .i64 (ofN B : Int), .int .i64 (ofD B : Int)] 47)
  have HB := Lib.hid (below_of HB.out q)
  have HR := Lib.hid (HR.out.later q)
  clear hb q
  clear c0 c1 c2 c3 c4 c5 c6 c7 c8
  obtain ⟨c0, c1, c2, c3, c4, c5, c6, c7, c8⟩ := blk9 HR.out
  go_wp2_with fail
  go_ret
  exact ⟨ret_b (by rw [HE.out]; (try simp); try omega), HB.out⟩
theorem mayR6_any (f : Fr) (v : Value) (B : List UInt8) (w : World) (hB : Bytes w v B) (hl : B.length ≤ 9000) : Calls Try.prog 11 #[.agg #[.int .i64 f.k, .int .i64 f.n, .int .u64 (f.mb : Nat), .int .u64 (f.mt : Nat), .int .u64 (f.tb : Nat), .int .u64 (f.tt : Nat), .int .u64 (f.s : Nat), .int .u64 (f.a : Nat), v]] w fun e w' => e = .returned (.bool (mayF f B)) ∧ Below w.heap.size w w' := by
  obtain ⟨a, c, rfl⟩ := hB.form
  cases e0 : decide (1 ≤ f.n) with
  | false => exact mr0 f a c _ B w e0
  | true =>
  cases e1 : decide (f.n ≤ 16) with
  | false => exact mr1 f a c _ B w e0 e1
  | true =>
  cases e2 : tagB f.mb f.mt with
  | false => exact mr2 f a c _ B w e0 e1 e2
  | true =>
  cases e3 : tagB f.tb f.tt with
  | false => exact mr3 f a c _ B w e0 e1 e2 e3
  | true =>
  cases e4 : noneB f.mb f.mt with
  | true => exact mr4 f a c _ B w e0 e1 e2 e3 e4
  | false =>
  by_cases k1 : f.k = 1
  · by_cases hs : f.s = 0
    · by_cases ha : f.a = 0
      · by_cases h0 : B.length = 0
        · exact mrk1d f a c _ B w e0 e1 e2 e3 e4 rfl hB hl k1 hs ha h0
        · exact mrk1c f a c _ B w e0 e1 e2 e3 e4 rfl hB hl k1 hs ha h0
      · exact mrk1b f a c _ B w e0 e1 e2 e3 e4 rfl hB hl k1 hs ha
    · exact mrk1a f a c _ B w e0 e1 e2 e3 e4 rfl hB hl k1 hs
  by_cases k2 : f.k = 2
  · cases hn : noneB f.tb f.tt with
    | true => exact mrk2a f a c _ B w e0 e1 e2 e3 e4 rfl hB hl k2 hn
    | false =>
      cases ho : ofB B with
      | true =>
        by_cases hs : f.s = 0
        · exact mrk2c f a c _ B w e0 e1 e2 e3 e4 rfl hB hl k2 hn ho hs
        · exact mrk2b f a c _ B w e0 e1 e2 e3 e4 rfl hB hl k2 hn ho hs
      | false =>
        by_cases h0 : B.length = 0
        · by_cases hs : f.s = 0
          · exact mrk2e f a c _ B w e0 e1 e2 e3 e4 rfl hB hl k2 hn ho h0 hs
          · exact mrk2f f a c _ B w e0 e1 e2 e3 e4 rfl hB hl k2 hn ho h0 hs
        · exact mrk2d f a c _ B w e0 e1 e2 e3 e4 rfl hB hl k2 hn ho h0
  by_cases k3 : f.k = 3
  · cases hn : noneB f.tb f.tt with
    | true => exact mrk3a f a c _ B w e0 e1 e2 e3 e4 rfl hB hl k3 hn
    | false =>
      by_cases hs : f.s = 0
      · by_cases ha : f.a = 0
        · by_cases h0 : B.length = 0
          · exact mrk3d f a c _ B w e0 e1 e2 e3 e4 rfl hB hl k3 hn hs ha h0
          · rcases Nat.lt_or_ge 2048 B.length with h1 | h1
            · exact mrk3e f a c _ B w e0 e1 e2 e3 e4 rfl hB hl k3 hn hs ha h1
            · exact mrk3f f a c _ B w e0 e1 e2 e3 e4 rfl hB hl k3 hn hs ha (by omega) h1
        · exact mrk3c f a c _ B w e0 e1 e2 e3 e4 rfl hB hl k3 hn hs ha
      · exact mrk3b f a c _ B w e0 e1 e2 e3 e4 rfl hB hl k3 hn hs
  exact mrk0 f a c _ B w e0 e1 e2 e3 e4 rfl hB hl k1 k2 k3
end Go.Proofs.Ytcahfapffhcceaa
