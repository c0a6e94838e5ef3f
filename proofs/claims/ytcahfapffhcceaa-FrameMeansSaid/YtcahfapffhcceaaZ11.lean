/- Session, the program's and the reference's: the walks. -/
import Derived.Test.YtcahfapffhcceaaZ10

set_option linter.unusedSimpArgs false
set_option linter.unusedVariables false
namespace Go.Proofs.Ytcahfapffhcceaa
open Go.RowKit
attribute [local go_sem ↓] Go.wp_at_zero Go.wp_at_succ

/-- Is a frame of a session? -/
def sesF (f : Fr) (B : List UInt8) (a b c d : Nat) : Bool := mayF f B && ((f.k != 1) && (sameT f.mb f.mt c d && sameT f.tb f.tt a b))
/-- One that may be, and is no hello, has tags that are not zero. -/
theorem may_tags {f : Fr} {B : List UInt8} (h : mayF f B = true) (hk : (f.k != 1) = true) : noneB f.mb f.mt = false ∧ noneB f.tb f.tt = false := by
  unfold mayF at h
  simp only [Bool.and_eq_true, Bool.not_eq_true'] at h
  obtain ⟨_, _, _, _, h1, h2⟩ := h
  refine ⟨h1, ?_⟩
  unfold namB at h2
  rw [if_neg (by simpa using hk)] at h2
  split at h2
  · simp only [Bool.and_eq_true, Bool.not_eq_true'] at h2; exact h2.1
  · split at h2
    · simp only [Bool.and_eq_true, Bool.not_eq_true'] at h2; exact h2.1
    · cases h2
set_option maxHeartbeats 4000000 in
set_option maxRecDepth 100000 in
theorem seW0 (f : Fr) (a : Option Addr) (c m x y z t : Nat) (B : List UInt8) (wm : World) (hm : m = B.length) (hB : Bytes wm (.slice a B.length c) B) (hl : B.length ≤ 9000) (t0 : mayF f B = false) :
    Calls Try.prog 19 #[.agg #[.int .i64 f.k, .int .i64 f.n, .int .u64 (f.mb : Nat), .int .u64 (f.mt : Nat), .int .u64 (f.tb : Nat), .int .u64 (f.tt : Nat), .int .u64 (f.s : Nat), .int .u64 (f.a : Nat), .slice a m c], .agg #[.int .u64 (x : Nat), .int .u64 (y : Nat)], .agg #[.int .u64 (z : Nat), .int .u64 (t : Nat)]] wm fun e w' => e = .returned (.bool (sesF f B x y z t)) ∧ Below wm.heap.size wm w' := by
  obtain ⟨w, hw⟩ : ∃ w, w = ((wm.alloc (.cells #[.int .i64 f.k, .int .i64 f.n, .int .u64 (f.mb : Nat), .int .u64 (f.mt : Nat), .int .u64 (f.tb : Nat), .int .u64 (f.tt : Nat), .int .u64 (f.s : Nat), .int .u64 (f.a : Nat), .slice a m c] 28)).alloc (.cells #[.int .u64 (x : Nat), .int .u64 (y : Nat)] 25)).alloc (.cells #[.int .u64 (z : Nat), .int .u64 (t : Nat)] 25) := ⟨_, rfl⟩
  have HB := Lib.hid (show Below wm.heap.size wm w by rw [hw]; go_grown)
  have HR : Hid (BlkAt 28 wm.heap.size [.int .i64 f.k, .int .i64 f.n, .int .u64 (f.mb : Nat), .int .u64 (f.mt : Nat), .int .u64 (f.tb : Nat), .int .u64 (f.tt : Nat), .int .u64 (f.s : Nat), .int .u64 (f.a : Nat), .slice a m c] w) := by rw [hw]; exact (BlkAt.later (BlkAt.new wm _) ((Below.refl _ _).alloc (Nat.le_refl _) _)).later ((Below.refl _ _).alloc (Nat.le_refl _) _)
  have HX := Lib.hid (show BlkAt 25 (wm.heap.size + 1) [.int .u64 (x : Nat), .int .u64 (y : Nat)] w by
    have h9 := (BlkAt.new (t := 25) (wm.alloc (.cells #[.int .i64 f.k, .int .i64 f.n, .int .u64 (f.mb : Nat), .int .u64 (f.mt : Nat), .int .u64 (f.tb : Nat), .int .u64 (f.tt : Nat), .int .u64 (f.s : Nat), .int .u64 (f.a : Nat), .slice a m c] 28)) [.int .u64 (x : Nat), .int .u64 (y : Nat)]).later ((Below.refl _ _).alloc (Nat.le_refl _) (.cells #[.int .u64 (z : Nat), .int .u64 (t : Nat)] 25))
    rw [hw]; simpa using h9)
  have HY := Lib.hid (show BlkAt 25 (wm.heap.size + 1 + 1) [.int .u64 (z : Nat), .int .u64 (t : Nat)] w by
    have h9 := BlkAt.new (t := 25) ((wm.alloc (.cells #[.int .i64 f.k, .int .i64 f.n, .int .u64 (f.mb : Nat), .int .u64 (f.mt : Nat), .int .u64 (f.tb : Nat), .int .u64 (f.tt : Nat), .int .u64 (f.s : Nat), .int .u64 (f.a : Nat), .slice a m c] 28)).alloc (.cells #[.int .u64 (x : Nat), .int .u64 (y : Nat)] 25)) [.int .u64 (z : Nat), .int .u64 (t : Nat)]
    rw [hw]; simpa using h9)
  have HMY : Hid (∀ W, Below wm.heap.size wm W → Calls Try.prog 10 #[.agg #[.int .i64 f.k, .int .i64 f.n, .int .u64 (f.mb : Nat), .int .u64 (f.mt : Nat), .int .u64 (f.tb : Nat), .int .u64 (f.tt : Nat), .int .u64 (f.s : Nat), .int .u64 (f.a : Nat), .slice a m c]] W fun e w' => e = .returned (.bool false) ∧ Below W.heap.size W w') := fun W hW => by
    have h9 := mayW6_any f _ B W (hB.later hW) hl
    rw [t0, ← hm] at h9; exact h9
  have HE : Hid (sesF f B x y z t = false) := by
    show _ = false
    unfold sesF
    rw [t0]; try rfl
  clear t0 hm hB hl
  go_enter Try.func19, Try.ntmps19
  go_wp2_with fail
  rw [← hw]
  clear hw
  refine (HMY.out _ HB.out).mono ?_
  rintro e w1 ⟨rfl, hb⟩
  have HB := Lib.hid (below_of HB.out hb)
  have HR := Lib.hid (HR.out.later hb)
  have HX := Lib.hid (HX.out.later hb)
  have HY := Lib.hid (HY.out.later hb)
  clear hb
  obtain ⟨c0, c1, c2, c3, c4, c5, c6, c7, c8⟩ := blk9 HR.out
  have x0 := BlkAt.cell HX.out (j := 0) rfl
  have x1 := BlkAt.cell HX.out (j := 1) rfl
  have y0 := BlkAt.cell HY.out (j := 0) rfl
  have y1 := BlkAt.cell HY.out (j := 1) rfl
  go_wp2_with fail
  go_ret
  exact ⟨ret_b (by rw [HE.out]; try rfl), HB.out⟩
set_option maxHeartbeats 4000000 in
set_option maxRecDepth 100000 in
theorem seW1 (f : Fr) (a : Option Addr) (c m x y z t : Nat) (B : List UInt8) (wm : World) (hm : m = B.length) (hB : Bytes wm (.slice a B.length c) B) (hl : B.length ≤ 9000) (t0 : mayF f B = true) (t1 : (f.k != 1) = false) :
    Calls Try.prog 19 #[.agg #[.int .i64 f.k, .int .i64 f.n, .int .u64 (f.mb : Nat), .int .u64 (f.mt : Nat), .int .u64 (f.tb : Nat), .int .u64 (f.tt : Nat), .int .u64 (f.s : Nat), .int .u64 (f.a : Nat), .slice a m c], .agg #[.int .u64 (x : Nat), .int .u64 (y : Nat)], .agg #[.int .u64 (z : Nat), .int .u64 (t : Nat)]] wm fun e w' => e = .returned (.bool (sesF f B x y z t)) ∧ Below wm.heap.size wm w' := by
  obtain ⟨w, hw⟩ : ∃ w, w = ((wm.alloc (.cells #[.int .i64 f.k, .int .i64 f.n, .int .u64 (f.mb : Nat), .int .u64 (f.mt : Nat), .int .u64 (f.tb : Nat), .int .u64 (f.tt : Nat), .int .u64 (f.s : Nat), .int .u64 (f.a : Nat), .slice a m c] 28)).alloc (.cells #[.int .u64 (x : Nat), .int .u64 (y : Nat)] 25)).alloc (.cells #[.int .u64 (z : Nat), .int .u64 (t : Nat)] 25) := ⟨_, rfl⟩
  have HB := Lib.hid (show Below wm.heap.size wm w by rw [hw]; go_grown)
  have HR : Hid (BlkAt 28 wm.heap.size [.int .i64 f.k, .int .i64 f.n, .int .u64 (f.mb : Nat), .int .u64 (f.mt : Nat), .int .u64 (f.tb : Nat), .int .u64 (f.tt : Nat), .int .u64 (f.s : Nat), .int .u64 (f.a : Nat), .slice a m c] w) := by rw [hw]; exact (BlkAt.later (BlkAt.new wm _) ((Below.refl _ _).alloc (Nat.le_refl _) _)).later ((Below.refl _ _).alloc (Nat.le_refl _) _)
  have HX := Lib.hid (show BlkAt 25 (wm.heap.size + 1) [.int .u64 (x : Nat), .int .u64 (y : Nat)] w by
    have h9 := (BlkAt.new (t := 25) (wm.alloc (.cells #[.int .i64 f.k, .int .i64 f.n, .int .u64 (f.mb : Nat), .int .u64 (f.mt : Nat), .int .u64 (f.tb : Nat), .int .u64 (f.tt : Nat), .int .u64 (f.s : Nat), .int .u64 (f.a : Nat), .slice a m c] 28)) [.int .u64 (x : Nat), .int .u64 (y : Nat)]).later ((Below.refl _ _).alloc (Nat.le_refl _) (.cells #[.int .u64 (z : Nat), .int .u64 (t : Nat)] 25))
    rw [hw]; simpa using h9)
  have HY := Lib.hid (show BlkAt 25 (wm.heap.size + 1 + 1) [.int .u64 (z : Nat), .int .u64 (t : Nat)] w by
    have h9 := BlkAt.new (t := 25) ((wm.alloc (.cells #[.int .i64 f.k, .int .i64 f.n, .int .u64 (f.mb : Nat), .int .u64 (f.mt : Nat), .int .u64 (f.tb : Nat), .int .u64 (f.tt : Nat), .int .u64 (f.s : Nat), .int .u64 (f.a : Nat), .slice a m c] 28)).alloc (.cells #[.int .u64 (x : Nat), .int .u64 (y : Nat)] 25)) [.int .u64 (z : Nat), .int .u64 (t : Nat)]
    rw [hw]; simpa using h9)
  have hk1 : (f.k != 1) = false := t1
  have HMY : Hid (∀ W, Below wm.heap.size wm W → Calls Try.prog 10 #[.agg #[.int .i64 f.k, .int .i64 f.n, .int .u64 (f.mb : Nat), .int .u64 (f.mt : Nat), .int .u64 (f.tb : Nat), .int .u64 (f.tt : Nat), .int .u64 (f.s : Nat), .int .u64 (f.a : Nat), .slice a m c]] W fun e w' => e = .returned (.bool true) ∧ Below W.heap.size W w') := fun W hW => by
    have h9 := mayW6_any f _ B W (hB.later hW) hl
    rw [t0, ← hm] at h9; exact h9
  have HE : Hid (sesF f B x y z t = false) := by
    show _ = false
    unfold sesF
    rw [t0, t1]; try rfl
  clear t0 t1 hm hB hl
  go_enter Try.func19, Try.ntmps19
  go_wp2_with fail
  rw [← hw]
  clear hw
  refine (HMY.out _ HB.out).mono ?_
  rintro e w1 ⟨rfl, hb⟩
  have HB := Lib.hid (below_of HB.out hb)
  have HR := Lib.hid (HR.out.later hb)
  have HX := Lib.hid (HX.out.later hb)
  have HY := Lib.hid (HY.out.later hb)
  clear hb
  obtain ⟨c0, c1, c2, c3, c4, c5, c6, c7, c8⟩ := blk9 HR.out
  have x0 := BlkAt.cell HX.out (j := 0) rfl
  have x1 := BlkAt.cell HX.out (j := 1) rfl
  have y0 := BlkAt.cell HY.out (j := 0) rfl
  have y1 := BlkAt.cell HY.out (j := 1) rfl
  go_wp2_with fail
  go_ret
  exact ⟨ret_b (by rw [HE.out]; try rfl), HB.out⟩
set_option maxHeartbeats 4000000 in
set_option maxRecDepth 100000 in
theorem seW2 (f : Fr) (a : Option Addr) (c m x y z t : Nat) (B : List UInt8) (wm : World) (hm : m = B.length) (hB : Bytes wm (.slice a B.length c) B) (hl : B.length ≤ 9000) (t0 : mayF f B = true) (t1 : (f.k != 1) = true) (t2 : sameT f.mb f.mt z t = false) :
    Calls Try.prog 19 #[.agg #[.int .i64 f.k, .int .i64 f.n, .int .u64 (f.mb : Nat), .int .u64 (f.mt : Nat), .int .u64 (f.tb : Nat), .int .u64 (f.tt : Nat), .int .u64 (f.s : Nat), .int .u64 (f.a : Nat), .slice a m c], .agg #[.int .u64 (x : Nat), .int .u64 (y : Nat)], .agg #[.int .u64 (z : Nat), .int .u64 (t : Nat)]] wm fun e w' => e = .returned (.bool (sesF f B x y z t)) ∧ Below wm.heap.size wm w' := by
  obtain ⟨w, hw⟩ : ∃ w, w = ((wm.alloc (.cells #[.int .i64 f.k, .int .i64 f.n, .int .u64 (f.mb : Nat), .int .u64 (f.mt : Nat), .int .u64 (f.tb : Nat), .int .u64 (f.tt : Nat), .int .u64 (f.s : Nat), .int .u64 (f.a : Nat), .slice a m c] 28)).alloc (.cells #[.int .u64 (x : Nat), .int .u64 (y : Nat)] 25)).alloc (.cells #[.int .u64 (z : Nat), .int .u64 (t : Nat)] 25) := ⟨_, rfl⟩
  have HB := Lib.hid (show Below wm.heap.size wm w by rw [hw]; go_grown)
  have HR : Hid (BlkAt 28 wm.heap.size [.int .i64 f.k, .int .i64 f.n, .int .u64 (f.mb : Nat), .int .u64 (f.mt : Nat), .int .u64 (f.tb : Nat), .int .u64 (f.tt : Nat), .int .u64 (f.s : Nat), .int .u64 (f.a : Nat), .slice a m c] w) := by rw [hw]; exact (BlkAt.later (BlkAt.new wm _) ((Below.refl _ _).alloc (Nat.le_refl _) _)).later ((Below.refl _ _).alloc (Nat.le_refl _) _)
  have HX := Lib.hid (show BlkAt 25 (wm.heap.size + 1) [.int .u64 (x : Nat), .int .u64 (y : Nat)] w by
    have h9 := (BlkAt.new (t := 25) (wm.alloc (.cells #[.int .i64 f.k, .int .i64 f.n, .int .u64 (f.mb : Nat), .int .u64 (f.mt : Nat), .int .u64 (f.tb : Nat), .int .u64 (f.tt : Nat), .int .u64 (f.s : Nat), .int .u64 (f.a : Nat), .slice a m c] 28)) [.int .u64 (x : Nat), .int .u64 (y : Nat)]).later ((Below.refl _ _).alloc (Nat.le_refl _) (.cells #[.int .u64 (z : Nat), .int .u64 (t : Nat)] 25))
    rw [hw]; simpa using h9)
  have HY := Lib.hid (show BlkAt 25 (wm.heap.size + 1 + 1) [.int .u64 (z : Nat), .int .u64 (t : Nat)] w by
    have h9 := BlkAt.new (t := 25) ((wm.alloc (.cells #[.int .i64 f.k, .int .i64 f.n, .int .u64 (f.mb : Nat), .int .u64 (f.mt : Nat), .int .u64 (f.tb : Nat), .int .u64 (f.tt : Nat), .int .u64 (f.s : Nat), .int .u64 (f.a : Nat), .slice a m c] 28)).alloc (.cells #[.int .u64 (x : Nat), .int .u64 (y : Nat)] 25)) [.int .u64 (z : Nat), .int .u64 (t : Nat)]
    rw [hw]; simpa using h9)
  have hk1 : (f.k != 1) = true := t1
  have Q2 : Hid (EqT f.mb f.mt z t false) := eqT_of t2
  have HMY : Hid (∀ W, Below wm.heap.size wm W → Calls Try.prog 10 #[.agg #[.int .i64 f.k, .int .i64 f.n, .int .u64 (f.mb : Nat), .int .u64 (f.mt : Nat), .int .u64 (f.tb : Nat), .int .u64 (f.tt : Nat), .int .u64 (f.s : Nat), .int .u64 (f.a : Nat), .slice a m c]] W fun e w' => e = .returned (.bool true) ∧ Below W.heap.size W w') := fun W hW => by
    have h9 := mayW6_any f _ B W (hB.later hW) hl
    rw [t0, ← hm] at h9; exact h9
  have HE : Hid (sesF f B x y z t = false) := by
    show _ = false
    unfold sesF
    rw [t0, t1, t2]; try rfl
  clear t0 t1 t2 hm hB hl
  go_enter Try.func19, Try.ntmps19
  go_wp2_with fail
  rw [← hw]
  clear hw
  refine (HMY.out _ HB.out).mono ?_
  rintro e w1 ⟨rfl, hb⟩
  have HB := Lib.hid (below_of HB.out hb)
  have HR := Lib.hid (HR.out.later hb)
  have HX := Lib.hid (HX.out.later hb)
  have HY := Lib.hid (HY.out.later hb)
  clear hb
  obtain ⟨c0, c1, c2, c3, c4, c5, c6, c7, c8⟩ := blk9 HR.out
  have x0 := BlkAt.cell HX.out (j := 0) rfl
  have x1 := BlkAt.cell HX.out (j := 1) rfl
  have y0 := BlkAt.cell HY.out (j := 0) rfl
  have y1 := BlkAt.cell HY.out (j := 1) rfl
  have q2 := Q2.out
  unfold EqT at q2
  go_wp2_with fail
  go_ret
  exact ⟨ret_b (by rw [HE.out]; try rfl), HB.out⟩
set_option maxHeartbeats 4000000 in
set_option maxRecDepth 100000 in
theorem seW3 (f : Fr) (a : Option Addr) (c m x y z t : Nat) (B : List UInt8) (wm : World) (hm : m = B.length) (hB : Bytes wm (.slice a B.length c) B) (hl : B.length ≤ 9000) (t0 : mayF f B = true) (t1 : (f.k != 1) = true) (t2 : sameT f.mb f.mt z t = true) (t3 : sameT f.tb f.tt x y = false) :
    Calls Try.prog 19 #[.agg #[.int .i64 f.k, .int .i64 f.n, .int .u64 (f.mb : Nat), .int .u64 (f.mt : Nat), .int .u64 (f.tb : Nat), .int .u64 (f.tt : Nat), .int .u64 (f.s : Nat), .int .u64 (f.a : Nat), .slice a m c], .agg #[.int .u64 (x : Nat), .int .u64 (y : Nat)], .agg #[.int .u64 (z : Nat), .int .u64 (t : Nat)]] wm fun e w' => e = .returned (.bool (sesF f B x y z t)) ∧ Below wm.heap.size wm w' := by
  obtain ⟨w, hw⟩ : ∃ w, w = ((wm.alloc (.cells #[.int .i64 f.k, .int .i64 f.n, .int .u64 (f.mb : Nat), .int .u64 (f.mt : Nat), .int .u64 (f.tb : Nat), .int .u64 (f.tt : Nat), .int .u64 (f.s : Nat), .int .u64 (f.a : Nat), .slice a m c] 28)).alloc (.cells #[.int .u64 (x : Nat), .int .u64 (y : Nat)] 25)).alloc (.cells #[.int .u64 (z : Nat), .int .u64 (t : Nat)] 25) := ⟨_, rfl⟩
  have HB := Lib.hid (show Below wm.heap.size wm w by rw [hw]; go_grown)
  have HR : Hid (BlkAt 28 wm.heap.size [.int .i64 f.k, .int .i64 f.n, .int .u64 (f.mb : Nat), .int .u64 (f.mt : Nat), .int .u64 (f.tb : Nat), .int .u64 (f.tt : Nat), .int .u64 (f.s : Nat), .int .u64 (f.a : Nat), .slice a m c] w) := by rw [hw]; exact (BlkAt.later (BlkAt.new wm _) ((Below.refl _ _).alloc (Nat.le_refl _) _)).later ((Below.refl _ _).alloc (Nat.le_refl _) _)
  have HX := Lib.hid (show BlkAt 25 (wm.heap.size + 1) [.int .u64 (x : Nat), .int .u64 (y : Nat)] w by
    have h9 := (BlkAt.new (t := 25) (wm.alloc (.cells #[.int .i64 f.k, .int .i64 f.n, .int .u64 (f.mb : Nat), .int .u64 (f.mt : Nat), .int .u64 (f.tb : Nat), .int .u64 (f.tt : Nat), .int .u64 (f.s : Nat), .int .u64 (f.a : Nat), .slice a m c] 28)) [.int .u64 (x : Nat), .int .u64 (y : Nat)]).later ((Below.refl _ _).alloc (Nat.le_refl _) (.cells #[.int .u64 (z : Nat), .int .u64 (t : Nat)] 25))
    rw [hw]; simpa using h9)
  have HY := Lib.hid (show BlkAt 25 (wm.heap.size + 1 + 1) [.int .u64 (z : Nat), .int .u64 (t : Nat)] w by
    have h9 := BlkAt.new (t := 25) ((wm.alloc (.cells #[.int .i64 f.k, .int .i64 f.n, .int .u64 (f.mb : Nat), .int .u64 (f.mt : Nat), .int .u64 (f.tb : Nat), .int .u64 (f.tt : Nat), .int .u64 (f.s : Nat), .int .u64 (f.a : Nat), .slice a m c] 28)).alloc (.cells #[.int .u64 (x : Nat), .int .u64 (y : Nat)] 25)) [.int .u64 (z : Nat), .int .u64 (t : Nat)]
    rw [hw]; simpa using h9)
  have hk1 : (f.k != 1) = true := t1
  have Q2 : Hid (EqT f.mb f.mt z t true) := eqT_of t2
  have Q3 : Hid (EqT f.tb f.tt x y false) := eqT_of t3
  have HMY : Hid (∀ W, Below wm.heap.size wm W → Calls Try.prog 10 #[.agg #[.int .i64 f.k, .int .i64 f.n, .int .u64 (f.mb : Nat), .int .u64 (f.mt : Nat), .int .u64 (f.tb : Nat), .int .u64 (f.tt : Nat), .int .u64 (f.s : Nat), .int .u64 (f.a : Nat), .slice a m c]] W fun e w' => e = .returned (.bool true) ∧ Below W.heap.size W w') := fun W hW => by
    have h9 := mayW6_any f _ B W (hB.later hW) hl
    rw [t0, ← hm] at h9; exact h9
  have HE : Hid (sesF f B x y z t = false) := by
    show _ = false
    unfold sesF
    rw [t0, t1, t2, t3]; try rfl
  clear t0 t1 t2 t3 hm hB hl
  go_enter Try.func19, Try.ntmps19
  go_wp2_with fail
  rw [← hw]
  clear hw
  refine (HMY.out _ HB.out).mono ?_
  rintro e w1 ⟨rfl, hb⟩
  have HB := Lib.hid (below_of HB.out hb)
  have HR := Lib.hid (HR.out.later hb)
  have HX := Lib.hid (HX.out.later hb)
  have HY := Lib.hid (HY.out.later hb)
  clear hb
  obtain ⟨c0, c1, c2, c3, c4, c5, c6, c7, c8⟩ := blk9 HR.out
  have x0 := BlkAt.cell HX.out (j := 0) rfl
  have x1 := BlkAt.cell HX.out (j := 1) rfl
  have y0 := BlkAt.cell HY.out (j := 0) rfl
  have y1 := BlkAt.cell HY.out (j := 1) rfl
  have q2 := Q2.out
  unfold EqT at q2
  have q3 := Q3.out
  unfold EqT at q3
  go_wp2_with fail
  go_ret
  exact ⟨ret_b (by rw [HE.out]; try rfl), HB.out⟩
set_option maxHeartbeats 4000000 in
set_option maxRecDepth 100000 in
theorem seW4 (f : Fr) (a : Option Addr) (c m x y z t : Nat) (B : List UInt8) (wm : World) (hm : m = B.length) (hB : Bytes wm (.slice a B.length c) B) (hl : B.length ≤ 9000) (t0 : mayF f B = true) (t1 : (f.k != 1) = true) (t2 : sameT f.mb f.mt z t = true) (t3 : sameT f.tb f.tt x y = true) :
    Calls Try.prog 19 #[.agg #[.int .i64 f.k, .int .i64 f.n, .int .u64 (f.mb : Nat), .int .u64 (f.mt : Nat), .int .u64 (f.tb : Nat), .int .u64 (f.tt : Nat), .int .u64 (f.s : Nat), .int .u64 (f.a : Nat), .slice a m c], .agg #[.int .u64 (x : Nat), .int .u64 (y : Nat)], .agg #[.int .u64 (z : Nat), .int .u64 (t : Nat)]] wm fun e w' => e = .returned (.bool (sesF f B x y z t)) ∧ Below wm.heap.size wm w' := by
  obtain ⟨w, hw⟩ : ∃ w, w = ((wm.alloc (.cells #[.int .i64 f.k, .int .i64 f.n, .int .u64 (f.mb : Nat), .int .u64 (f.mt : Nat), .int .u64 (f.tb : Nat), .int .u64 (f.tt : Nat), .int .u64 (f.s : Nat), .int .u64 (f.a : Nat), .slice a m c] 28)).alloc (.cells #[.int .u64 (x : Nat), .int .u64 (y : Nat)] 25)).alloc (.cells #[.int .u64 (z : Nat), .int .u64 (t : Nat)] 25) := ⟨_, rfl⟩
  have HB := Lib.hid (show Below wm.heap.size wm w by rw [hw]; go_grown)
  have HR : Hid (BlkAt 28 wm.heap.size [.int .i64 f.k, .int .i64 f.n, .int .u64 (f.mb : Nat), .int .u64 (f.mt : Nat), .int .u64 (f.tb : Nat), .int .u64 (f.tt : Nat), .int .u64 (f.s : Nat), .int .u64 (f.a : Nat), .slice a m c] w) := by rw [hw]; exact (BlkAt.later (BlkAt.new wm _) ((Below.refl _ _).alloc (Nat.le_refl _) _)).later ((Below.refl _ _).alloc (Nat.le_refl _) _)
  have HX := Lib.hid (show BlkAt 25 (wm.heap.size + 1) [.int .u64 (x : Nat), .int .u64 (y : Nat)] w by
    have h9 := (BlkAt.new (t := 25) (wm.alloc (.cells #[.int .i64 f.k, .int .i64 f.n, .int .u64 (f.mb : Nat), .int .u64 (f.mt : Nat), .int .u64 (f.tb : Nat), .int .u64 (f.tt : Nat), .int .u64 (f.s : Nat), .int .u64 (f.a : Nat), .slice a m c] 28)) [.int .u64 (x : Nat), .int .u64 (y : Nat)]).later ((Below.refl _ _).alloc (Nat.le_refl _) (.cells #[.int .u64 (z : Nat), .int .u64 (t : Nat)] 25))
    rw [hw]; simpa using h9)
  have HY := Lib.hid (show BlkAt 25 (wm.heap.size + 1 + 1) [.int .u64 (z : Nat), .int .u64 (t : Nat)] w by
    have h9 := BlkAt.new (t := 25) ((wm.alloc (.cells #[.int .i64 f.k, .int .i64 f.n, .int .u64 (f.mb : Nat), .int .u64 (f.mt : Nat), .int .u64 (f.tb : Nat), .int .u64 (f.tt : Nat), .int .u64 (f.s : Nat), .int .u64 (f.a : Nat), .slice a m c] 28)).alloc (.cells #[.int .u64 (x : Nat), .int .u64 (y : Nat)] 25)) [.int .u64 (z : Nat), .int .u64 (t : Nat)]
    rw [hw]; simpa using h9)
  have hk1 : (f.k != 1) = true := t1
  have Q2 : Hid (EqT f.mb f.mt z t true) := eqT_of t2
  have Q3 : Hid (EqT f.tb f.tt x y true) := eqT_of t3
  have HMY : Hid (∀ W, Below wm.heap.size wm W → Calls Try.prog 10 #[.agg #[.int .i64 f.k, .int .i64 f.n, .int .u64 (f.mb : Nat), .int .u64 (f.mt : Nat), .int .u64 (f.tb : Nat), .int .u64 (f.tt : Nat), .int .u64 (f.s : Nat), .int .u64 (f.a : Nat), .slice a m c]] W fun e w' => e = .returned (.bool true) ∧ Below W.heap.size W w') := fun W hW => by
    have h9 := mayW6_any f _ B W (hB.later hW) hl
    rw [t0, ← hm] at h9; exact h9
  have HE : Hid (sesF f B x y z t = true) := by
    show _ = true
    unfold sesF
    rw [t0, t1, t2, t3]; try rfl
  clear t0 t1 t2 t3 hm hB hl
  go_enter Try.func19, Try.ntmps19
  go_wp2_with fail
  rw [← hw]
  clear hw
  refine (HMY.out _ HB.out).mono ?_
  rintro e w1 ⟨rfl, hb⟩
  have HB := Lib.hid (below_of HB.out hb)
  have HR := Lib.hid (HR.out.later hb)
  have HX := Lib.hid (HX.out.later hb)
  have HY := Lib.hid (HY.out.later hb)
  clear hb
  obtain ⟨c0, c1, c2, c3, c4, c5, c6, c7, c8⟩ := blk9 HR.out
  have x0 := BlkAt.cell HX.out (j := 0) rfl
  have x1 := BlkAt.cell HX.out (j := 1) rfl
  have y0 := BlkAt.cell HY.out (j := 0) rfl
  have y1 := BlkAt.cell HY.out (j := 1) rfl
  have q2 := Q2.out
  unfold EqT at q2
  have q3 := Q3.out
  unfold EqT at q3
  go_wp2_with fail
  go_ret
  exact ⟨ret_b (by rw [HE.out]; try rfl), HB.out⟩
theorem sesW_any (f : Fr) (v : Value) (B : List UInt8) (x y z t : Nat) (wm : World) (hB : Bytes wm v B) (hl : B.length ≤ 9000) : Calls Try.prog 19 #[.agg #[.int .i64 f.k, .int .i64 f.n, .int .u64 (f.mb : Nat), .int .u64 (f.mt : Nat), .int .u64 (f.tb : Nat), .int .u64 (f.tt : Nat), .int .u64 (f.s : Nat), .int .u64 (f.a : Nat), v], .agg #[.int .u64 (x : Nat), .int .u64 (y : Nat)], .agg #[.int .u64 (z : Nat), .int .u64 (t : Nat)]] wm fun e w' => e = .returned (.bool (sesF f B x y z t)) ∧ Below wm.heap.size wm w' := by
  obtain ⟨a, c, rfl⟩ := hB.form
  cases e0 : mayF f B with
  | false => exact seW0 f a c _ x y z t B wm rfl hB hl e0
  | true =>
  cases e1 : (f.k != 1) with
  | false => exact seW1 f a c _ x y z t B wm rfl hB hl e0 e1
  | true =>
  cases e2 : sameT f.mb f.mt z t with
  | false => exact seW2 f a c _ x y z t B wm rfl hB hl e0 e1 e2
  | true =>
  cases e3 : sameT f.tb f.tt x y with
  | false => exact seW3 f a c _ x y z t B wm rfl hB hl e0 e1 e2 e3
  | true =>
  exact seW4 f a c _ x y z t B wm rfl hB hl e0 e1 e2 e3
set_option maxHeartbeats 4000000 in
set_option maxRecDepth 100000 in
theorem seR0 (f : Fr) (a : Option Addr) (c m x y z t : Nat) (B : List UInt8) (wm : World) (hm : m = B.length) (hB : Bytes wm (.slice a B.length c) B) (hl : B.length ≤ 9000) (t0 : mayF f B = false) :
    Calls Try.prog 20 #[.agg #[.int .i64 f.k, .int .i64 f.n, .int .u64 (f.mb : Nat), .int .u64 (f.mt : Nat), .int .u64 (f.tb : Nat), .int .u64 (f.tt : Nat), .int .u64 (f.s : Nat), .int .u64 (f.a : Nat), .slice a m c], .agg #[.int .u64 (x : Nat), .int .u64 (y : Nat)], .agg #[.int .u64 (z : Nat), .int .u64 (t : Nat)]] wm fun e w' => e = .returned (.bool (sesF f B x y z t)) ∧ Below wm.heap.size wm w' := by
  obtain ⟨w, hw⟩ : ∃ w, w = ((wm.alloc (.cells #[.int .i64 f.k, .int .i64 f.n, .int .u64 (f.mb : Nat), .int .u64 (f.mt : Nat), .int .u64 (f.tb : Nat), .int .u64 (f.tt : Nat), .int .u64 (f.s : Nat), .int .u64 (f.a : Nat), .slice a m c] 28)).alloc (.cells #[.int .u64 (x : Nat), .int .u64 (y : Nat)] 25)).alloc (.cells #[.int .u64 (z : Nat), .int .u64 (t : Nat)] 25) := ⟨_, rfl⟩
  have HB := Lib.hid (show Below wm.heap.size wm w by rw [hw]; go_grown)
  have HR : Hid (BlkAt 28 wm.heap.size [.int .i64 f.k, .int .i64 f.n, .int .u64 (f.mb : Nat), .int .u64 (f.mt : Nat), .int .u64 (f.tb : Nat), .int .u64 (f.tt : Nat), .int .u64 (f.s : Nat), .int .u64 (f.a : Nat), .slice a m c] w) := by rw [hw]; exact (BlkAt.later (BlkAt.new wm _) ((Below.refl _ _).alloc (Nat.le_refl _) _)).later ((Below.refl _ _).alloc (Nat.le_refl _) _)
  have HX := Lib.hid (show BlkAt 25 (wm.heap.size + 1) [.int .u64 (x : Nat), .int .u64 (y : Nat)] w by
    have h9 := (BlkAt.new (t := 25) (wm.alloc (.cells #[.int .i64 f.k, .int .i64 f.n, .int .u64 (f.mb : Nat), .int .u64 (f.mt : Nat), .int .u64 (f.tb : Nat), .int .u64 (f.tt : Nat), .int .u64 (f.s : Nat), .int .u64 (f.a : Nat), .slice a m c] 28)) [.int .u64 (x : Nat), .int .u64 (y : Nat)]).later ((Below.refl _ _).alloc (Nat.le_refl _) (.cells #[.int .u64 (z : Nat), .int .u64 (t : Nat)] 25))
    rw [hw]; simpa using h9)
  have HY := Lib.hid (show BlkAt 25 (wm.heap.size + 1 + 1) [.int .u64 (z : Nat), .int .u64 (t : Nat)] w by
    have h9 := BlkAt.new (t := 25) ((wm.alloc (.cells #[.int .i64 f.k, .int .i64 f.n, .int .u64 (f.mb : Nat), .int .u64 (f.mt : Nat), .int .u64 (f.tb : Nat), .int .u64 (f.tt : Nat), .int .u64 (f.s : Nat), .int .u64 (f.a : Nat), .slice a m c] 28)).alloc (.cells #[.int .u64 (x : Nat), .int .u64 (y : Nat)] 25)) [.int .u64 (z : Nat), .int .u64 (t : Nat)]
    rw [hw]; simpa using h9)
  have HMY : Hid (∀ W, Below wm.heap.size wm W → Calls Try.prog 11 #[.agg #[.int .i64 f.k, .int .i64 f.n, .int .u64 (f.mb : Nat), .int .u64 (f.mt : Nat), .int .u64 (f.tb : Nat), .int .u64 (f.tt : Nat), .int .u64 (f.s : Nat), .int .u64 (f.a : Nat), .slice a m c]] W fun e w' => e = .returned (.bool false) ∧ Below W.heap.size W w') := fun W hW => by
    have h9 := mayR6_any f _ B W (hB.later hW) hl
    rw [t0, ← hm] at h9; exact h9
  have HE : Hid (sesF f B x y z t = false) := by
    show _ = false
    unfold sesF
    rw [t0]; try rfl
  clear t0 hm hB hl
  go_enter Try.func20, Try.ntmps20
  go_wp2_with fail
  rw [← hw]
  clear hw
  refine (HMY.out _ HB.out).mono ?_
  rintro e w1 ⟨rfl, hb⟩
  have HB := Lib.hid (below_of HB.out hb)
  have HR := Lib.hid (HR.out.later hb)
  have HX := Lib.hid (HX.out.later hb)
  have HY := Lib.hid (HY.out.later hb)
  clear hb
  obtain ⟨c0, c1, c2, c3, c4, c5, c6, c7, c8⟩ := blk9 HR.out
  have x0 := BlkAt.cell HX.out (j := 0) rfl
  have x1 := BlkAt.cell HX.out (j := 1) rfl
  have y0 := BlkAt.cell HY.out (j := 0) rfl
  have y1 := BlkAt.cell HY.out (j := 1) rfl
  go_wp2_with fail
  go_ret
  exact ⟨ret_b (by rw [HE.out]; try rfl), HB.out⟩
set_option maxHeartbeats 4000000 in
set_option maxRecDepth 100000 in
theorem seR1 (f : Fr) (a : Option Addr) (c m x y z t : Nat) (B : List UInt8) (wm : World) (hm : m = B.length) (hB : Bytes wm (.slice a B.length c) B) (hl : B.length ≤ 9000) (t0 : mayF f B = true) (t1 : (f.k != 1) = false) :
    Calls Try.prog 20 #[.agg #[.int .i64 f.k, .int .i64 f.n, .int .u64 (f.mb : Nat), .int .u64 (f.mt : Nat), .int .u64 (f.tb : Nat), .int .u64 (f.tt : Nat), .int .u64 (f.s : Nat), .int .u64 (f.a : Nat), .slice a m c], .agg #[.int .u64 (x : Nat), .int .u64 (y : Nat)], .agg #[.int .u64 (z : Nat), .int .u64 (t : Nat)]] wm fun e w' => e = .returned (.bool (sesF f B x y z t)) ∧ Below wm.heap.size wm w' := by
  obtain ⟨w, hw⟩ : ∃ w, w = ((wm.alloc (.cells #[.int .i64 f.k, .int .i64 f.n, .int .u64 (f.mb : Nat), .int .u64 (f.mt : Nat), .int .u64 (f.tb : Nat), .int .u64 (f.tt : Nat), .int .u64 (f.s : Nat), .int .u64 (f.a : Nat), .slice a m c] 28)).alloc (.cells #[.int .u64 (x : Nat), .int .u64 (y : Nat)] 25)).alloc (.cells #[.int .u64 (z : Nat), .int .u64 (t : Nat)] 25) := ⟨_, rfl⟩
  have HB := Lib.hid (show Below wm.heap.size wm w by rw [hw]; go_grown)
  have HR : Hid (BlkAt 28 wm.heap.size [.int .i64 f.k, .int .i64 f.n, .int .u64 (f.mb : Nat), .int .u64 (f.mt : Nat), .int .u64 (f.tb : Nat), .int .u64 (f.tt : Nat), .int .u64 (f.s : Nat), .int .u64 (f.a : Nat), .slice a m c] w) := by rw [hw]; exact (BlkAt.later (BlkAt.new wm _) ((Below.refl _ _).alloc (Nat.le_refl _) _)).later ((Below.refl _ _).alloc (Nat.le_refl _) _)
  have HX := Lib.hid (show BlkAt 25 (wm.heap.size + 1) [.int .u64 (x : Nat), .int .u64 (y : Nat)] w by
    have h9 := (BlkAt.new (t := 25) (wm.alloc (.cells #[.int .i64 f.k, .int .i64 f.n, .int .u64 (f.mb : Nat), .int .u64 (f.mt : Nat), .int .u64 (f.tb : Nat), .int .u64 (f.tt : Nat), .int .u64 (f.s : Nat), .int .u64 (f.a : Nat), .slice a m c] 28)) [.int .u64 (x : Nat), .int .u64 (y : Nat)]).later ((Below.refl _ _).alloc (Nat.le_refl _) (.cells #[.int .u64 (z : Nat), .int .u64 (t : Nat)] 25))
    rw [hw]; simpa using h9)
  have HY := Lib.hid (show BlkAt 25 (wm.heap.size + 1 + 1) [.int .u64 (z : Nat), .int .u64 (t : Nat)] w by
    have h9 := BlkAt.new (t := 25) ((wm.alloc (.cells #[.int .i64 f.k, .int .i64 f.n, .int .u64 (f.mb : Nat), .int .u64 (f.mt : Nat), .int .u64 (f.tb : Nat), .int .u64 (f.tt : Nat), .int .u64 (f.s : Nat), .int .u64 (f.a : Nat), .slice a m c] 28)).alloc (.cells #[.int .u64 (x : Nat), .int .u64 (y : Nat)] 25)) [.int .u64 (z : Nat), .int .u64 (t : Nat)]
    rw [hw]; simpa using h9)
  have hk1 : (f.k != 1) = false := t1
  have HMY : Hid (∀ W, Below wm.heap.size wm W → Calls Try.prog 11 #[.agg #[.int .i64 f.k, .int .i64 f.n, .int .u64 (f.mb : Nat), .int .u64 (f.mt : Nat), .int .u64 (f.tb : Nat), .int .u64 (f.tt : Nat), .int .u64 (f.s : Nat), .int .u64 (f.a : Nat), .slice a m c]] W fun e w' => e = .returned (.bool true) ∧ Below W.heap.size W w') := fun W hW => by
    have h9 := mayR6_any f _ B W (hB.later hW) hl
    rw [t0, ← hm] at h9; exact h9
  have HE : Hid (sesF f B x y z t = false) := by
    show _ = false
    unfold sesF
    rw [t0, t1]; try rfl
  clear t0 t1 hm hB hl
  go_enter Try.func20, Try.ntmps20
  go_wp2_with fail
  rw [← hw]
  clear hw
  refine (HMY.out _ HB.out).mono ?_
  rintro e w1 ⟨rfl, hb⟩
  have HB := Lib.hid (below_of HB.out hb)
  have HR := Lib.hid (HR.out.later hb)
  have HX := Lib.hid (HX.out.later hb)
  have HY := Lib.hid (HY.out.later hb)
  clear hb
  obtain ⟨c0, c1, c2, c3, c4, c5, c6, c7, c8⟩ := blk9 HR.out
  have x0 := BlkAt.cell HX.out (j := 0) rfl
  have x1 := BlkAt.cell HX.out (j := 1) rfl
  have y0 := BlkAt.cell HY.out (j := 0) rfl
  have y1 := BlkAt.cell HY.out (j := 1) rfl
  go_wp2_with fail
  go_ret
  exact ⟨ret_b (by rw [HE.out]; try rfl), HB.out⟩
set_option maxHeartbeats 4000000 in
set_option maxRecDepth 100000 in
theorem seR2 (f : Fr) (a : Option Addr) (c m x y z t : Nat) (B : List UInt8) (wm : World) (hm : m = B.length) (hB : Bytes wm (.slice a B.length c) B) (hl : B.length ≤ 9000) (t0 : mayF f B = true) (t1 : (f.k != 1) = true) (t2 : noneB x y = true) :
    Calls Try.prog 20 #[.agg #[.int .i64 f.k, .int .i64 f.n, .int .u64 (f.mb : Nat), .int .u64 (f.mt : Nat), .int .u64 (f.tb : Nat), .int .u64 (f.tt : Nat), .int .u64 (f.s : Nat), .int .u64 (f.a : Nat), .slice a m c], .agg #[.int .u64 (x : Nat), .int .u64 (y : Nat)], .agg #[.int .u64 (z : Nat), .int .u64 (t : Nat)]] wm fun e w' => e = .returned (.bool (sesF f B x y z t)) ∧ Below wm.heap.size wm w' := by
  obtain ⟨w, hw⟩ : ∃ w, w = ((wm.alloc (.cells #[.int .i64 f.k, .int .i64 f.n, .int .u64 (f.mb : Nat), .int .u64 (f.mt : Nat), .int .u64 (f.tb : Nat), .int .u64 (f.tt : Nat), .int .u64 (f.s : Nat), .int .u64 (f.a : Nat), .slice a m c] 28)).alloc (.cells #[.int .u64 (x : Nat), .int .u64 (y : Nat)] 25)).alloc (.cells #[.int .u64 (z : Nat), .int .u64 (t : Nat)] 25) := ⟨_, rfl⟩
  have HB := Lib.hid (show Below wm.heap.size wm w by rw [hw]; go_grown)
  have HR : Hid (BlkAt 28 wm.heap.size [.int .i64 f.k, .int .i64 f.n, .int .u64 (f.mb : Nat), .int .u64 (f.mt : Nat), .int .u64 (f.tb : Nat), .int .u64 (f.tt : Nat), .int .u64 (f.s : Nat), .int .u64 (f.a : Nat), .slice a m c] w) := by rw [hw]; exact (BlkAt.later (BlkAt.new wm _) ((Below.refl _ _).alloc (Nat.le_refl _) _)).later ((Below.refl _ _).alloc (Nat.le_refl _) _)
  have HX := Lib.hid (show BlkAt 25 (wm.heap.size + 1) [.int .u64 (x : Nat), .int .u64 (y : Nat)] w by
    have h9 := (BlkAt.new (t := 25) (wm.alloc (.cells #[.int .i64 f.k, .int .i64 f.n, .int .u64 (f.mb : Nat), .int .u64 (f.mt : Nat), .int .u64 (f.tb : Nat), .int .u64 (f.tt : Nat), .int .u64 (f.s : Nat), .int .u64 (f.a : Nat), .slice a m c] 28)) [.int .u64 (x : Nat), .int .u64 (y : Nat)]).later ((Below.refl _ _).alloc (Nat.le_refl _) (.cells #[.int .u64 (z : Nat), .int .u64 (t : Nat)] 25))
    rw [hw]; simpa using h9)
  have HY := Lib.hid (show BlkAt 25 (wm.heap.size + 1 + 1) [.int .u64 (z : Nat), .int .u64 (t : Nat)] w by
    have h9 := BlkAt.new (t := 25) ((wm.alloc (.cells #[.int .i64 f.k, .int .i64 f.n, .int .u64 (f.mb : Nat), .int .u64 (f.mt : Nat), .int .u64 (f.tb : Nat), .int .u64 (f.tt : Nat), .int .u64 (f.s : Nat), .int .u64 (f.a : Nat), .slice a m c] 28)).alloc (.cells #[.int .u64 (x : Nat), .int .u64 (y : Nat)] 25)) [.int .u64 (z : Nat), .int .u64 (t : Nat)]
    rw [hw]; simpa using h9)
  have hk1 : (f.k != 1) = true := t1
  have H2 := Lib.hid t2
  have HMY : Hid (∀ W, Below wm.heap.size wm W → Calls Try.prog 11 #[.agg #[.int .i64 f.k, .int .i64 f.n, .int .u64 (f.mb : Nat), .int .u64 (f.mt : Nat), .int .u64 (f.tb : Nat), .int .u64 (f.tt : Nat), .int .u64 (f.s : Nat), .int .u64 (f.a : Nat), .slice a m c]] W fun e w' => e = .returned (.bool true) ∧ Below W.heap.size W w') := fun W hW => by
    have h9 := mayR6_any f _ B W (hB.later hW) hl
    rw [t0, ← hm] at h9; exact h9
  have HE : Hid (sesF f B x y z t = false) := by
    show _ = false
    obtain ⟨g1, g2⟩ := may_tags t0 t1
    unfold sesF
    rw [t0, t1]
    cases h1 : sameT f.mb f.mt z t with
    | false => rfl
    | true =>
      cases h2 : sameT f.tb f.tt x y with
      | false => rfl
      | true =>
        obtain ⟨r1, r2⟩ := sameT_iff.1 h1
        obtain ⟨r3, r4⟩ := sameT_iff.1 h2
        rw [r3, r4, t2] at g2; cases g2
  clear t0 t1 t2 hm hB hl
  go_enter Try.func20, Try.ntmps20
  go_wp2_with fail
  rw [← hw]
  clear hw
  refine (HMY.out _ HB.out).mono ?_
  rintro e w1 ⟨rfl, hb⟩
  have HB := Lib.hid (below_of HB.out hb)
  have HR := Lib.hid (HR.out.later hb)
  have HX := Lib.hid (HX.out.later hb)
  have HY := Lib.hid (HY.out.later hb)
  clear hb
  obtain ⟨c0, c1, c2, c3, c4, c5, c6, c7, c8⟩ := blk9 HR.out
  have x0 := BlkAt.cell HX.out (j := 0) rfl
  have x1 := BlkAt.cell HX.out (j := 1) rfl
  have y0 := BlkAt.cell HY.out (j := 0) rfl
  have y1 := BlkAt.cell HY.out (j := 1) rfl
  go_wp2_with fail
  refine (noneR_any _ _ _).mono ?_
  rintro e w1 ⟨rfl, hb⟩
  rw [H2.out]
  have HB := Lib.hid (below_of HB.out hb)
  have HR := Lib.hid (HR.out.later hb)
  have HX := Lib.hid (HX.out.later hb)
  have HY := Lib.hid (HY.out.later hb)
  clear hb
  clear c0 c1 c2 c3 c4 c5 c6 c7 c8 x0 x1 y0 y1
  obtain ⟨c0, c1, c2, c3, c4, c5, c6, c7, c8⟩ := blk9 HR.out
  have x0 := BlkAt.cell HX.out (j := 0) rfl
  have x1 := BlkAt.cell HX.out (j := 1) rfl
  have y0 := BlkAt.cell HY.out (j := 0) rfl
  have y1 := BlkAt.cell HY.out (j := 1) rfl
  go_wp2_with fail
  go_ret
  exact ⟨ret_b (by rw [HE.out]; try rfl), HB.out⟩
set_option maxHeartbeats 4000000 in
set_option maxRecDepth 100000 in
theorem seR3 (f : Fr) (a : Option Addr) (c m x y z t : Nat) (B : List UInt8) (wm : World) (hm : m = B.length) (hB : Bytes wm (.slice a B.length c) B) (hl : B.length ≤ 9000) (t0 : mayF f B = true) (t1 : (f.k != 1) = true) (t2 : noneB x y = false) (t3 : noneB z t = true) :
    Calls Try.prog 20 #[.agg #[.int .i64 f.k, .int .i64 f.n, .int .u64 (f.mb : Nat), .int .u64 (f.mt : Nat), .int .u64 (f.tb : Nat), .int .u64 (f.tt : Nat), .int .u64 (f.s : Nat), .int .u64 (f.a : Nat), .slice a m c], .agg #[.int .u64 (x : Nat), .int .u64 (y : Nat)], .agg #[.int .u64 (z : Nat), .int .u64 (t : Nat)]] wm fun e w' => e = .returned (.bool (sesF f B x y z t)) ∧ Below wm.heap.size wm w' := by
  obtain ⟨w, hw⟩ : ∃ w, w = ((wm.alloc (.cells #[.int .i64 f.k, .int .i64 f.n, .int .u64 (f.mb : Nat), .int .u64 (f.mt : Nat), .int .u64 (f.tb : Nat), .int .u64 (f.tt : Nat), .int .u64 (f.s : Nat), .int .u64 (f.a : Nat), .slice a m c] 28)).alloc (.cells #[.int .u64 (x : Nat), .int .u64 (y : Nat)] 25)).alloc (.cells #[.int .u64 (z : Nat), .int .u64 (t : Nat)] 25) := ⟨_, rfl⟩
  have HB := Lib.hid (show Below wm.heap.size wm w by rw [hw]; go_grown)
  have HR : Hid (BlkAt 28 wm.heap.size [.int .i64 f.k, .int .i64 f.n, .int .u64 (f.mb : Nat), .int .u64 (f.mt : Nat), .int .u64 (f.tb : Nat), .int .u64 (f.tt : Nat), .int .u64 (f.s : Nat), .int .u64 (f.a : Nat), .slice a m c] w) := by rw [hw]; exact (BlkAt.later (BlkAt.new wm _) ((Below.refl _ _).alloc (Nat.le_refl _) _)).later ((Below.refl _ _).alloc (Nat.le_refl _) _)
  have HX := Lib.hid (show BlkAt 25 (wm.heap.size + 1) [.int .u64 (x : Nat), .int .u64 (y : Nat)] w by
    have h9 := (BlkAt.new (t := 25) (wm.alloc (.cells #[.int .i64 f.k, .int .i64 f.n, .int .u64 (f.mb : Nat), .int .u64 (f.mt : Nat), .int .u64 (f.tb : Nat), .int .u64 (f.tt : Nat), .int .u64 (f.s : Nat), .int .u64 (f.a : Nat), .slice a m c] 28)) [.int .u64 (x : Nat), .int .u64 (y : Nat)]).later ((Below.refl _ _).alloc (Nat.le_refl _) (.cells #[.int .u64 (z : Nat), .int .u64 (t : Nat)] 25))
    rw [hw]; simpa using h9)
  have HY := Lib.hid (show BlkAt 25 (wm.heap.size + 1 + 1) [.int .u64 (z : Nat), .int .u64 (t : Nat)] w by
    have h9 := BlkAt.new (t := 25) ((wm.alloc (.cells #[.int .i64 f.k, .int .i64 f.n, .int .u64 (f.mb : Nat), .int .u64 (f.mt : Nat), .int .u64 (f.tb : Nat), .int .u64 (f.tt : Nat), .int .u64 (f.s : Nat), .int .u64 (f.a : Nat), .slice a m c] 28)).alloc (.cells #[.int .u64 (x : Nat), .int .u64 (y : Nat)] 25)) [.int .u64 (z : Nat), .int .u64 (t : Nat)]
    rw [hw]; simpa using h9)
  have hk1 : (f.k != 1) = true := t1
  have H2 := Lib.hid t2
  have H3 := Lib.hid t3
  have HMY : Hid (∀ W, Below wm.heap.size wm W → Calls Try.prog 11 #[.agg #[.int .i64 f.k, .int .i64 f.n, .int .u64 (f.mb : Nat), .int .u64 (f.mt : Nat), .int .u64 (f.tb : Nat), .int .u64 (f.tt : Nat), .int .u64 (f.s : Nat), .int .u64 (f.a : Nat), .slice a m c]] W fun e w' => e = .returned (.bool true) ∧ Below W.heap.size W w') := fun W hW => by
    have h9 := mayR6_any f _ B W (hB.later hW) hl
    rw [t0, ← hm] at h9; exact h9
  have HE : Hid (sesF f B x y z t = false) := by
    show _ = false
    obtain ⟨g1, g2⟩ := may_tags t0 t1
    unfold sesF
    rw [t0, t1]
    cases h1 : sameT f.mb f.mt z t with
    | false => rfl
    | true =>
      cases h2 : sameT f.tb f.tt x y with
      | false => rfl
      | true =>
        obtain ⟨r1, r2⟩ := sameT_iff.1 h1
        obtain ⟨r3, r4⟩ := sameT_iff.1 h2
        rw [r1, r2, t3] at g1; cases g1
  clear t0 t1 t2 t3 hm hB hl
  go_enter Try.func20, Try.ntmps20
  go_wp2_with fail
  rw [← hw]
  clear hw
  refine (HMY.out _ HB.out).mono ?_
  rintro e w1 ⟨rfl, hb⟩
  have HB := Lib.hid (below_of HB.out hb)
  have HR := Lib.hid (HR.out.later hb)
  have HX := Lib.hid (HX.out.later hb)
  have HY := Lib.hid (HY.out.later hb)
  clear hb
  obtain ⟨c0, c1, c2, c3, c4, c5, c6, c7, c8⟩ := blk9 HR.out
  have x0 := BlkAt.cell HX.out (j := 0) rfl
  have x1 := BlkAt.cell HX.out (j := 1) rfl
  have y0 := BlkAt.cell HY.out (j := 0) rfl
  have y1 := BlkAt.cell HY.out (j := 1) rfl
  go_wp2_with fail
  refine (noneR_any _ _ _).mono ?_
  rintro e w1 ⟨rfl, hb⟩
  rw [H2.out]
  have HB := Lib.hid (below_of HB.out hb)
  have HR := Lib.hid (HR.out.later hb)
  have HX := Lib.hid (HX.out.later hb)
  have HY := Lib.hid (HY.out.later hb)
  clear hb
  clear c0 c1 c2 c3 c4 c5 c6 c7 c8 x0 x1 y0 y1
  obtain ⟨c0, c1, c2, c3, c4, c5, c6, c7, c8⟩ := blk9 HR.out
  have x0 := BlkAt.cell HX.out (j := 0) rfl
  have x1 := BlkAt.cell HX.out (j := 1) rfl
  have y0 := BlkAt.cell HY.out (j := 0) rfl
  have y1 := BlkAt.cell HY.out (j := 1) rfl
  go_wp2_with fail
  refine (noneR_any _ _ _).mono ?_
  rintro e w1 ⟨rfl, hb⟩
  rw [H3.out]
  have HB := Lib.hid (below_of HB.out hb)
  have HR := Lib.hid (HR.out.later hb)
  have HX := Lib.hid (HX.out.later hb)
  have HY := Lib.hid (HY.out.later hb)
  clear hb
  clear c0 c1 c2 c3 c4 c5 c6 c7 c8 x0 x1 y0 y1
  obtain ⟨c0, c1, c2, c3, c4, c5, c6, c7, c8⟩ := blk9 HR.out
  have x0 := BlkAt.cell HX.out (j := 0) rfl
  have x1 := BlkAt.cell HX.out (j := 1) rfl
  have y0 := BlkAt.cell HY.out (j := 0) rfl
  have y1 := BlkAt.cell HY.out (j := 1) rfl
  go_wp2_with fail
  go_ret
  exact ⟨ret_b (by rw [HE.out]; try rfl), HB.out⟩
set_option maxHeartbeats 4000000 in
set_option maxRecDepth 100000 in
theorem seR4 (f : Fr) (a : Option Addr) (c m x y z t : Nat) (B : List UInt8) (wm : World) (hm : m = B.length) (hB : Bytes wm (.slice a B.length c) B) (hl : B.length ≤ 9000) (t0 : mayF f B = true) (t1 : (f.k != 1) = true) (t2 : noneB x y = false) (t3 : noneB z t = false) (t4 : sameT f.mb f.mt z t = false) :
    Calls Try.prog 20 #[.agg #[.int .i64 f.k, .int .i64 f.n, .int .u64 (f.mb : Nat), .int .u64 (f.mt : Nat), .int .u64 (f.tb : Nat), .int .u64 (f.tt : Nat), .int .u64 (f.s : Nat), .int .u64 (f.a : Nat), .slice a m c], .agg #[.int .u64 (x : Nat), .int .u64 (y : Nat)], .agg #[.int .u64 (z : Nat), .int .u64 (t : Nat)]] wm fun e w' => e = .returned (.bool (sesF f B x y z t)) ∧ Below wm.heap.size wm w' := by
  obtain ⟨w, hw⟩ : ∃ w, w = ((wm.alloc (.cells #[.int .i64 f.k, .int .i64 f.n, .int .u64 (f.mb : Nat), .int .u64 (f.mt : Nat), .int .u64 (f.tb : Nat), .int .u64 (f.tt : Nat), .int .u64 (f.s : Nat), .int .u64 (f.a : Nat), .slice a m c] 28)).alloc (.cells #[.int .u64 (x : Nat), .int .u64 (y : Nat)] 25)).alloc (.cells #[.int .u64 (z : Nat), .int .u64 (t : Nat)] 25) := ⟨_, rfl⟩
  have HB := Lib.hid (show Below wm.heap.size wm w by rw [hw]; go_grown)
  have HR : Hid (BlkAt 28 wm.heap.size [.int .i64 f.k, .int .i64 f.n, .int .u64 (f.mb : Nat), .int .u64 (f.mt : Nat), .int .u64 (f.tb : Nat), .int .u64 (f.tt : Nat), .int .u64 (f.s : Nat), .int .u64 (f.a : Nat), .slice a m c] w) := by rw [hw]; exact (BlkAt.later (BlkAt.new wm _) ((Below.refl _ _).alloc (Nat.le_refl _) _)).later ((Below.refl _ _).alloc (Nat.le_refl _) _)
  have HX := Lib.hid (show BlkAt 25 (wm.heap.size + 1) [.int .u64 (x : Nat), .int .u64 (y : Nat)] w by
    have h9 := (BlkAt.new (t := 25) (wm.alloc (.cells #[.int .i64 f.k, .int .i64 f.n, .int .u64 (f.mb : Nat), .int .u64 (f.mt : Nat), .int .u64 (f.tb : Nat), .int .u64 (f.tt : Nat), .int .u64 (f.s : Nat), .int .u64 (f.a : Nat), .slice a m c] 28)) [.int .u64 (x : Nat), .int .u64 (y : Nat)]).later ((Below.refl _ _).alloc (Nat.le_refl _) (.cells #[.int .u64 (z : Nat), .int .u64 (t : Nat)] 25))
    rw [hw]; simpa using h9)
  have HY := Lib.hid (show BlkAt 25 (wm.heap.size + 1 + 1) [.int .u64 (z : Nat), .int .u64 (t : Nat)] w by
    have h9 := BlkAt.new (t := 25) ((wm.alloc (.cells #[.int .i64 f.k, .int .i64 f.n, .int .u64 (f.mb : Nat), .int .u64 (f.mt : Nat), .int .u64 (f.tb : Nat), .int .u64 (f.tt : Nat), .int .u64 (f.s : Nat), .int .u64 (f.a : Nat), .slice a m c] 28)).alloc (.cells #[.int .u64 (x : Nat), .int .u64 (y : Nat)] 25)) [.int .u64 (z : Nat), .int .u64 (t : Nat)]
    rw [hw]; simpa using h9)
  have hk1 : (f.k != 1) = true := t1
  have H2 := Lib.hid t2
  have H3 := Lib.hid t3
  have Q4 : Hid (EqT f.mb f.mt z t false) := eqT_of t4
  have HMY : Hid (∀ W, Below wm.heap.size wm W → Calls Try.prog 11 #[.agg #[.int .i64 f.k, .int .i64 f.n, .int .u64 (f.mb : Nat), .int .u64 (f.mt : Nat), .int .u64 (f.tb : Nat), .int .u64 (f.tt : Nat), .int .u64 (f.s : Nat), .int .u64 (f.a : Nat), .slice a m c]] W fun e w' => e = .returned (.bool true) ∧ Below W.heap.size W w') := fun W hW => by
    have h9 := mayR6_any f _ B W (hB.later hW) hl
    rw [t0, ← hm] at h9; exact h9
  have HE : Hid (sesF f B x y z t = false) := by
    show _ = false
    unfold sesF
    rw [t0, t1, t4]; try rfl
  clear t0 t1 t2 t3 t4 hm hB hl
  go_enter Try.func20, Try.ntmps20
  go_wp2_with fail
  rw [← hw]
  clear hw
  refine (HMY.out _ HB.out).mono ?_
  rintro e w1 ⟨rfl, hb⟩
  have HB := Lib.hid (below_of HB.out hb)
  have HR := Lib.hid (HR.out.later hb)
  have HX := Lib.hid (HX.out.later hb)
  have HY := Lib.hid (HY.out.later hb)
  clear hb
  obtain ⟨c0, c1, c2, c3, c4, c5, c6, c7, c8⟩ := blk9 HR.out
  have x0 := BlkAt.cell HX.out (j := 0) rfl
  have x1 := BlkAt.cell HX.out (j := 1) rfl
  have y0 := BlkAt.cell HY.out (j := 0) rfl
  have y1 := BlkAt.cell HY.out (j := 1) rfl
  go_wp2_with fail
  refine (noneR_any _ _ _).mono ?_
  rintro e w1 ⟨rfl, hb⟩
  rw [H2.out]
  have HB := Lib.hid (below_of HB.out hb)
  have HR := Lib.hid (HR.out.later hb)
  have HX := Lib.hid (HX.out.later hb)
  have HY := Lib.hid (HY.out.later hb)
  clear hb
  clear c0 c1 c2 c3 c4 c5 c6 c7 c8 x0 x1 y0 y1
  obtain ⟨c0, c1, c2, c3, c4, c5, c6, c7, c8⟩ := blk9 HR.out
  have x0 := BlkAt.cell HX.out (j := 0) rfl
  have x1 := BlkAt.cell HX.out (j := 1) rfl
  have y0 := BlkAt.cell HY.out (j := 0) rfl
  have y1 := BlkAt.cell HY.out (j := 1) rfl
  go_wp2_with fail
  refine (noneR_any _ _ _).mono ?_
  rintro e w1 ⟨rfl, hb⟩
  rw [H3.out]
  have HB := Lib.hid (below_of HB.out hb)
  have HR := Lib.hid (HR.out.later hb)
  have HX := Lib.hid (HX.out.later hb)
  have HY := Lib.hid (HY.out.later hb)
  clear hb
  clear c0 c1 c2 c3 c4 c5 c6 c7 c8 x0 x1 y0 y1
  obtain ⟨c0, c1, c2, c3, c4, c5, c6, c7, c8⟩ := blk9 HR.out
  have x0 := BlkAt.cell HX.out (j := 0) rfl
  have x1 := BlkAt.cell HX.out (j := 1) rfl
  have y0 := BlkAt.cell HY.out (j := 0) rfl
  have y1 := BlkAt.cell HY.out (j := 1) rfl
  have q4 := Q4.out
  unfold EqT at q4
  go_wp2_with fail
  go_ret
  exact ⟨ret_b (by rw [HE.out]; try rfl), HB.out⟩
set_option maxHeartbeats 4000000 in
set_option maxRecDepth 100000 in
theorem seR5 (f : Fr) (a : Option Addr) (c m x y z t : Nat) (B : List UInt8) (wm : World) (hm : m = B.length) (hB : Bytes wm (.slice a B.length c) B) (hl : B.length ≤ 9000) (t0 : mayF f B = true) (t1 : (f.k != 1) = true) (t2 : noneB x y = false) (t3 : noneB z t = false) (t4 : sameT f.mb f.mt z t = true) (t5 : sameT f.tb f.tt x y = false) :
    Calls Try.prog 20 #[.agg #[.int .i64 f.k, .int .i64 f.n, .int .u64 (f.mb : Nat), .int .u64 (f.mt : Nat), .int .u64 (f.tb : Nat), .int .u64 (f.tt : Nat), .int .u64 (f.s : Nat), .int .u64 (f.a : Nat), .slice a m c], .agg #[.int .u64 (x : Nat), .int .u64 (y : Nat)], .agg #[.int .u64 (z : Nat), .int .u64 (t : Nat)]] wm fun e w' => e = .returned (.bool (sesF f B x y z t)) ∧ Below wm.heap.size wm w' := by
  obtain ⟨w, hw⟩ : ∃ w, w = ((wm.alloc (.cells #[.int .i64 f.k, .int .i64 f.n, .int .u64 (f.mb : Nat), .int .u64 (f.mt : Nat), .int .u64 (f.tb : Nat), .int .u64 (f.tt : Nat), .int .u64 (f.s : Nat), .int .u64 (f.a : Nat), .slice a m c] 28)).alloc (.cells #[.int .u64 (x : Nat), .int .u64 (y : Nat)] 25)).alloc (.cells #[.int .u64 (z : Nat), .int .u64 (t : Nat)] 25) := ⟨_, rfl⟩
  have HB := Lib.hid (show Below wm.heap.size wm w by rw [hw]; go_grown)
  have HR : Hid (BlkAt 28 wm.heap.size [.int .i64 f.k, .int .i64 f.n, .int .u64 (f.mb : Nat), .int .u64 (f.mt : Nat), .int .u64 (f.tb : Nat), .int .u64 (f.tt : Nat), .int .u64 (f.s : Nat), .int .u64 (f.a : Nat), .slice a m c] w) := by rw [hw]; exact (BlkAt.later (BlkAt.new wm _) ((Below.refl _ _).alloc (Nat.le_refl _) _)).later ((Below.refl _ _).alloc (Nat.le_refl _) _)
  have HX := Lib.hid (show BlkAt 25 (wm.heap.size + 1) [.int .u64 (x : Nat), .int .u64 (y : Nat)] w by
    have h9 := (BlkAt.new (t := 25) (wm.alloc (.cells #[.int .i64 f.k, .int .i64 f.n, .int .u64 (f.mb : Nat), .int .u64 (f.mt : Nat), .int .u64 (f.tb : Nat), .int .u64 (f.tt : Nat), .int .u64 (f.s : Nat), .int .u64 (f.a : Nat), .slice a m c] 28)) [.int .u64 (x : Nat), .int .u64 (y : Nat)]).later ((Below.refl _ _).alloc (Nat.le_refl _) (.cells #[.int .u64 (z : Nat), .int .u64 (t : Nat)] 25))
    rw [hw]; simpa using h9)
  have HY := Lib.hid (show BlkAt 25 (wm.heap.size + 1 + 1) [.int .u64 (z : Nat), .int .u64 (t : Nat)] w by
    have h9 := BlkAt.new (t := 25) ((wm.alloc (.cells #[.int .i64 f.k, .int .i64 f.n, .int .u64 (f.mb : Nat), .int .u64 (f.mt : Nat), .int .u64 (f.tb : Nat), .int .u64 (f.tt : Nat), .int .u64 (f.s : Nat), .int .u64 (f.a : Nat), .slice a m c] 28)).alloc (.cells #[.int .u64 (x : Nat), .int .u64 (y : Nat)] 25)) [.int .u64 (z : Nat), .int .u64 (t : Nat)]
    rw [hw]; simpa using h9)
  have hk1 : (f.k != 1) = true := t1
  have H2 := Lib.hid t2
  have H3 := Lib.hid t3
  have Q4 : Hid (EqT f.mb f.mt z t true) := eqT_of t4
  have Q5 : Hid (EqT f.tb f.tt x y false) := eqT_of t5
  have HMY : Hid (∀ W, Below wm.heap.size wm W → Calls Try.prog 11 #[.agg #[.int .i64 f.k, .int .i64 f.n, .int .u64 (f.mb : Nat), .int .u64 (f.mt : Nat), .int .u64 (f.tb : Nat), .int .u64 (f.tt : Nat), .int .u64 (f.s : Nat), .int .u64 (f.a : Nat), .slice a m c]] W fun e w' => e = .returned (.bool true) ∧ Below W.heap.size W w') := fun W hW => by
    have h9 := mayR6_any f _ B W (hB.later hW) hl
    rw [t0, ← hm] at h9; exact h9
  have HE : Hid (sesF f B x y z t = false) := by
    show _ = false
    unfold sesF
    rw [t0, t1, t4, t5]; try rfl
  clear t0 t1 t2 t3 t4 t5 hm hB hl
  go_enter Try.func20, Try.ntmps20
  go_wp2_with fail
  rw [← hw]
  clear hw
  refine (HMY.out _ HB.out).mono ?_
  rintro e w1 ⟨rfl, hb⟩
  have HB := Lib.hid (below_of HB.out hb)
  have HR := Lib.hid (HR.out.later hb)
  have HX := Lib.hid (HX.out.later hb)
  have HY := Lib.hid (HY.out.later hb)
  clear hb
  obtain ⟨c0, c1, c2, c3, c4, c5, c6, c7, c8⟩ := blk9 HR.out
  have x0 := BlkAt.cell HX.out (j := 0) rfl
  have x1 := BlkAt.cell HX.out (j := 1) rfl
  have y0 := BlkAt.cell HY.out (j := 0) rfl
  have y1 := BlkAt.cell HY.out (j := 1) rfl
  go_wp2_with fail
  refine (noneR_any _ _ _).mono ?_
  rintro e w1 ⟨rfl, hb⟩
  rw [H2.out]
  have HB := Lib.hid (below_of HB.out hb)
  have HR := Lib.hid (HR.out.later hb)
  have HX := Lib.hid (HX.out.later hb)
  have HY := Lib.hid (HY.out.later hb)
  clear hb
  clear c0 c1 c2 c3 c4 c5 c6 c7 c8 x0 x1 y0 y1
  obtain ⟨c0, c1, c2, c3, c4, c5, c6, c7, c8⟩ := blk9 HR.out
  have x0 := BlkAt.cell HX.out (j := 0) rfl
  have x1 := BlkAt.cell HX.out (j := 1) rfl
  have y0 := BlkAt.cell HY.out (j := 0) rfl
  have y1 := BlkAt.cell HY.out (j := 1) rfl
  go_wp2_with fail
  refine (noneR_any _ _ _).mono ?_
  rintro e w1 ⟨rfl, hb⟩
  rw [H3.out]
  have HB := Lib.hid (below_of HB.out hb)
  have HR := Lib.hid (HR.out.later hb)
  have HX := Lib.hid (HX.out.later hb)
  have HY := Lib.hid (HY.out.later hb)
  clear hb
  clear c0 c1 c2 c3 c4 c5 c6 c7 c8 x0 x1 y0 y1
  obtain ⟨c0, c1, c2, c3, c4, c5, c6, c7, c8⟩ := blk9 HR.out
  have x0 := BlkAt.cell HX.out (j := 0) rfl
  have x1 := BlkAt.cell HX.out (j := 1) rfl
  have y0 := BlkAt.cell HY.out (j := 0) rfl
  have y1 := BlkAt.cell HY.out (j := 1) rfl
  have q4 := Q4.out
  unfold EqT at q4
  have q5 := Q5.out
  unfold EqT at q5
  go_wp2_with fail
  go_ret
  exact ⟨ret_b (by rw [HE.out]; try rfl), HB.out⟩
set_option maxHeartbeats 4000000 in
set_option maxRecDepth 100000 in
theorem seR6 (f : Fr) (a : Option Addr) (c m x y z t : Nat) (B : List UInt8) (wm : World) (hm : m = B.length) (hB : Bytes wm (.slice a B.length c) B) (hl : B.length ≤ 9000) (t0 : mayF f B = true) (t1 : (f.k != 1) = true) (t2 : noneB x y = false) (t3 : noneB z t = false) (t4 : sameT f.mb f.mt z t = true) (t5 : sameT f.tb f.tt x y = true) :
    Calls Try.prog 20 #[.agg #[.int .i64 f.k, .int .i64 f.n, .int .u64 (f.mb : Nat), .int .u64 (f.mt : Nat), .int .u64 (f.tb : Nat), .int .u64 (f.tt : Nat), .int .u64 (f.s : Nat), .int .u64 (f.a : Nat), .slice a m c], .agg #[.int .u64 (x : Nat), .int .u64 (y : Nat)], .agg #[.int .u64 (z : Nat), .int .u64 (t : Nat)]] wm fun e w' => e = .returned (.bool (sesF f B x y z t)) ∧ Below wm.heap.size wm w' := by
  obtain ⟨w, hw⟩ : ∃ w, w = ((wm.alloc (.cells #[.int .i64 f.k, .int .i64 f.n, .int .u64 (f.mb : Nat), .int .u64 (f.mt : Nat), .int .u64 (f.tb : Nat), .int .u64 (f.tt : Nat), .int .u64 (f.s : Nat), .int .u64 (f.a : Nat), .slice a m c] 28)).alloc (.cells #[.int .u64 (x : Nat), .int .u64 (y : Nat)] 25)).alloc (.cells #[.int .u64 (z : Nat), .int .u64 (t : Nat)] 25) := ⟨_, rfl⟩
  have HB := Lib.hid (show Below wm.heap.size wm w by rw [hw]; go_grown)
  have HR : Hid (BlkAt 28 wm.heap.size [.int .i64 f.k, .int .i64 f.n, .int .u64 (f.mb : Nat), .int .u64 (f.mt : Nat), .int .u64 (f.tb : Nat), .int .u64 (f.tt : Nat), .int .u64 (f.s : Nat), .int .u64 (f.a : Nat), .slice a m c] w) := by rw [hw]; exact (BlkAt.later (BlkAt.new wm _) ((Below.refl _ _).alloc (Nat.le_refl _) _)).later ((Below.refl _ _).alloc (Nat.le_refl _) _)
  have HX := Lib.hid (show BlkAt 25 (wm.heap.size + 1) [.int .u64 (x : Nat), .int .u64 (y : Nat)] w by
    have h9 := (BlkAt.new (t := 25) (wm.alloc (.cells #[.int .i64 f.k, .int .i64 f.n, .int .u64 (f.mb : Nat), .int .u64 (f.mt : Nat), .int .u64 (f.tb : Nat), .int .u64 (f.tt : Nat), .int .u64 (f.s : Nat), .int .u64 (f.a : Nat), .slice a m c] 28)) [.int .u64 (x : Nat), .int .u64 (y : Nat)]).later ((Below.refl _ _).alloc (Nat.le_refl _) (.cells #[.int .u64 (z : Nat), .int .u64 (t : Nat)] 25))
    rw [hw]; simpa using h9)
  have HY := Lib.hid (show BlkAt 25 (wm.heap.size + 1 + 1) [.int .u64 (z : Nat), .int .u64 (t : Nat)] w by
    have h9 := BlkAt.new (t := 25) ((wm.alloc (.cells #[.int .i64 f.k, .int .i64 f.n, .int .u64 (f.mb : Nat), .int .u64 (f.mt : Nat), .int .u64 (f.tb : Nat), .int .u64 (f.tt : Nat), .int .u64 (f.s : Nat), .int .u64 (f.a : Nat), .slice a m c] 28)).alloc (.cells #[.int .u64 (x : Nat), .int .u64 (y : Nat)] 25)) [.int .u64 (z : Nat), .int .u64 (t : Nat)]
    rw [hw]; simpa using h9)
  have hk1 : (f.k != 1) = true := t1
  have H2 := Lib.hid t2
  have H3 := Lib.hid t3
  have Q4 : Hid (EqT f.mb f.mt z t true) := eqT_of t4
  have Q5 : Hid (EqT f.tb f.tt x y true) := eqT_of t5
  have HMY : Hid (∀ W, Below wm.heap.size wm W → Calls Try.prog 11 #[.agg #[.int .i64 f.k, .int .i64 f.n, .int .u64 (f.mb : Nat), .int .u64 (f.mt : Nat), .int .u64 (f.tb : Nat), .int .u64 (f.tt : Nat), .int .u64 (f.s : Nat), .int .u64 (f.a : Nat), .slice a m c]] W fun e w' => e = .returned (.bool true) ∧ Below W.heap.size W w') := fun W hW => by
    have h9 := mayR6_any f _ B W (hB.later hW) hl
    rw [t0, ← hm] at h9; exact h9
  have HE : Hid (sesF f B x y z t = true) := by
    show _ = true
    unfold sesF
    rw [t0, t1, t4, t5]; try rfl
  clear t0 t1 t2 t3 t4 t5 hm hB hl
  go_enter Try.func20, Try.ntmps20
  go_wp2_with fail
  rw [← hw]
  clear hw
  refine (HMY.out _ HB.out).mono ?_
  rintro e w1 ⟨rfl, hb⟩
  have HB := Lib.hid (below_of HB.out hb)
  have HR := Lib.hid (HR.out.later hb)
  have HX := Lib.hid (HX.out.later hb)
  have HY := Lib.hid (HY.out.later hb)
  clear hb
  obtain ⟨c0, c1, c2, c3, c4, c5, c6, c7, c8⟩ := blk9 HR.out
  have x0 := BlkAt.cell HX.out (j := 0) rfl
  have x1 := BlkAt.cell HX.out (j := 1) rfl
  have y0 := BlkAt.cell HY.out (j := 0) rfl
  have y1 := BlkAt.cell HY.out (j := 1) rfl
  go_wp2_with fail
  refine (noneR_any _ _ _).mono ?_
  rintro e w1 ⟨rfl, hb⟩
  rw [H2.out]
  have HB := Lib.hid (below_of HB.out hb)
  have HR := Lib.hid (HR.out.later hb)
  have HX := Lib.hid (HX.out.later hb)
  have HY := Lib.hid (HY.out.later hb)
  clear hb
  clear c0 c1 c2 c3 c4 c5 c6 c7 c8 x0 x1 y0 y1
  obtain ⟨c0, c1, c2, c3, c4, c5, c6, c7, c8⟩ := blk9 HR.out
  have x0 := BlkAt.cell HX.out (j := 0) rfl
  have x1 := BlkAt.cell HX.out (j := 1) rfl
  have y0 := BlkAt.cell HY.out (j := 0) rfl
  have y1 := BlkAt.cell HY.out (j := 1) rfl
  go_wp2_with fail
  refine (noneR_any _ _ _).mono ?_
  rintro e w1 ⟨rfl, hb⟩
  rw [H3.out]
  have HB := Lib.hid (below_of HB.out hb)
  have HR := Lib.hid (HR.out.later hb)
  have HX := Lib.hid (HX.out.later hb)
  have HY := Lib.hid (HY.out.later hb)
  clear hb
  clear c0 c1 c2 c3 c4 c5 c6 c7 c8 x0 x1 y0 y1
  obtain ⟨c0, c1, c2, c3, c4, c5, c6, c7, c8⟩ := blk9 HR.out
  have x0 := BlkAt.cell HX.out (j := 0) rfl
  have x1 := BlkAt.cell HX.out (j := 1) rfl
  have y0 := BlkAt.cell HY.out (j := 0) rfl
  have y1 := BlkAt.cell HY.out (j := 1) rfl
  have q4 := Q4.out
  unfold EqT at q4
  have q5 := Q5.out
  unfold EqT at q5
  go_wp2_with fail
  go_ret
  exact ⟨ret_b (by rw [HE.out]; try rfl), HB.out⟩
theorem sesR_any (f : Fr) (v : Value) (B : List UInt8) (x y z t : Nat) (wm : World) (hB : Bytes wm v B) (hl : B.length ≤ 9000) : Calls Try.prog 20 #[.agg #[.int .i64 f.k, .int .i64 f.n, .int .u64 (f.mb : Nat), .int .u64 (f.mt : Nat), .int .u64 (f.tb : Nat), .int .u64 (f.tt : Nat), .int .u64 (f.s : Nat), .int .u64 (f.a : Nat), v], .agg #[.int .u64 (x : Nat), .int .u64 (y : Nat)], .agg #[.int .u64 (z : Nat), .int .u64 (t : Nat)]] wm fun e w' => e = .returned (.bool (sesF f B x y z t)) ∧ Below wm.heap.size wm w' := by
  obtain ⟨a, c, rfl⟩ := hB.form
  cases e0 : mayF f B with
  | false => exact seR0 f a c _ x y z t B wm rfl hB hl e0
  | true =>
  cases e1 : (f.k != 1) with
  | false => exact seR1 f a c _ x y z t B wm rfl hB hl e0 e1
  | true =>
  cases e2 : noneB x y with
  | true => exact seR2 f a c _ x y z t B wm rfl hB hl e0 e1 e2
  | false =>
  cases e3 : noneB z t with
  | true => exact seR3 f a c _ x y z t B wm rfl hB hl e0 e1 e2 e3
  | false =>
  cases e4 : sameT f.mb f.mt z t with
  | false => exact seR4 f a c _ x y z t B wm rfl hB hl e0 e1 e2 e3 e4
  | true =>
  cases e5 : sameT f.tb f.tt x y with
  | false => exact seR5 f a c _ x y z t B wm rfl hB hl e0 e1 e2 e3 e4 e5
  | true =>
  exact seR6 f a c _ x y z t B wm rfl hB hl e0 e1 e2 e3 e4 e5
end Go.Proofs.Ytcahfapffhcceaa
