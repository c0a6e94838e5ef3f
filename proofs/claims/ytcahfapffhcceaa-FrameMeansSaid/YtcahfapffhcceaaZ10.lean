/- frame.Head; Update and Session, the program's and the reference's: the walks. -/
import Derived.Test.YtcahfapffhcceaaZ05
import Derived.Test.YtcahfapffhcceaaZ09

set_option linter.unusedSimpArgs false
set_option linter.unusedVariables false
namespace Go.Proofs.Ytcahfapffhcceaa
open Go.RowKit
attribute [local go_sem ↓] Go.wp_at_zero Go.wp_at_succ

theorem head_any (w : World) : Calls Try.prog 27 #[] w fun e w' => e = .returned (.int .i64 54) ∧ w = w' := by
  go_enter Try.func27, Try.ntmps27
  go_wp2
  go_ret
  exact ⟨rfl, rfl⟩
/-- Does a frame bear an update? -/
def updB (f : Fr) (B : List UInt8) : Bool := mayF f B && (f.k == 2)
def uA (f : Fr) (B : List UInt8) : Nat := if updB f B = true then ofA B else 0
def uN (f : Fr) (B : List UInt8) : Nat := if updB f B = true then ofN B else 0
def uD (f : Fr) (B : List UInt8) : Nat := if updB f B = true then ofD B else 0
def uI (f : Fr) (B : List UInt8) : Bool := updB f B && ofB B
theorem u_no {f : Fr} {B : List UInt8} (h : updB f B = false) : uA f B = 0 ∧ uN f B = 0 ∧ uD f B = 0 ∧ uI f B = false := by simp [uA, uN, uD, uI, h]
theorem u_yes {f : Fr} {B : List UInt8} (h : updB f B = true) : uA f B = ofA B ∧ uN f B = ofN B ∧ uD f B = ofD B ∧ uI f B = ofB B := by simp [uA, uN, uD, uI, h]
def UpA (f : Fr) (B : List UInt8) (wm : World) (e : Ending) (w' : World) : Prop := e = .returned (.tuple #[.agg #[.int .u32 (uA f B : Int), .int .i64 (uN f B : Int), .int .i64 (uD f B : Int)], .bool (uI f B)]) ∧ Below wm.heap.size wm w'
theorem up_zero {f : Fr} {B : List UInt8} (h : updB f B = false) : Ending.returned (.tuple #[.agg #[.int .u32 0, .int .i64 0, .int .i64 0], .bool false]) = .returned (.tuple #[.agg #[.int .u32 (uA f B : Int), .int .i64 (uN f B : Int), .int .i64 (uD f B : Int)], .bool (uI f B)]) := by
  obtain ⟨e1, e2, e3, e4⟩ := u_no h
  rw [e1, e2, e3, e4]; rfl
theorem up_same {f : Fr} {B : List UInt8} (h : updB f B = true) : Ending.returned (.tuple #[.agg #[.int .u32 (ofA B : Int), .int .i64 (ofN B : Int), .int .i64 (ofD B : Int)], .bool (ofB B)]) = .returned (.tuple #[.agg #[.int .u32 (uA f B : Int), .int .i64 (uN f B : Int), .int .i64 (uD f B : Int)], .bool (uI f B)]) := by
  obtain ⟨e1, e2, e3, e4⟩ := u_yes h
  rw [e1, e2, e3, e4]
set_option maxHeartbeats 4000000 in
set_option maxRecDepth 100000 in
theorem upW_a (f : Fr) (a : Option Addr) (c m : Nat) (B : List UInt8) (wm : World) (hm : m = B.length) (hB : Bytes wm (.slice a B.length c) B) (hl : B.length ≤ 9000) (h : mayF f B = false) : Calls Try.prog 17 #[.agg #[.int .i64 f.k, .int .i64 f.n, .int .u64 (f.mb : Nat), .int .u64 (f.mt : Nat), .int .u64 (f.tb : Nat), .int .u64 (f.tt : Nat), .int .u64 (f.s : Nat), .int .u64 (f.a : Nat), .slice a m c]] wm (UpA f B wm) := by
  obtain ⟨w, hw⟩ : ∃ w, w = (wm.alloc (.cells #[.int .i64 f.k, .int .i64 f.n, .int .u64 (f.mb : Nat), .int .u64 (f.mt : Nat), .int .u64 (f.tb : Nat), .int .u64 (f.tt : Nat), .int .u64 (f.s : Nat), .int .u64 (f.a : Nat), .slice a m c] 28)).alloc (.cells #[.int .u32 0, .int .i64 0, .int .i64 0] 47) := ⟨_, rfl⟩
  have HB := Lib.hid (show Below wm.heap.size wm w by rw [hw]; go_grown)
  have HR : Hid (BlkAt 28 wm.heap.size [.int .i64 f.k, .int .i64 f.n, .int .u64 (f.mb : Nat), .int .u64 (f.mt : Nat), .int .u64 (f.tb : Nat), .int .u64 (f.tt : Nat), .int .u64 (f.s : Nat), .int .u64 (f.a : Nat), .slice a m c] w) := by rw [hw]; exact BlkAt.later (BlkAt.new wm _) ((Below.refl _ _).alloc (Nat.le_refl _) _)
  have HU := Lib.hid (show BlkAt 47 (wm.heap.size + 1) [.int .u32 0, .int .i64 0, .int .i64 0] w by
    have h9 := BlkAt.new (t := 47) (wm.alloc (.cells #[.int .i64 f.k, .int .i64 f.n, .int .u64 (f.mb : Nat), .int .u64 (f.mt : Nat), .int .u64 (f.tb : Nat), .int .u64 (f.tt : Nat), .int .u64 (f.s : Nat), .int .u64 (f.a : Nat), .slice a m c] 28)) [.int .u32 0, .int .i64 0, .int .i64 0]
    rw [hw]; simpa using h9)
  have HMY : Hid (∀ W, Below wm.heap.size wm W → Calls Try.prog 10 #[.agg #[.int .i64 f.k, .int .i64 f.n, .int .u64 (f.mb : Nat), .int .u64 (f.mt : Nat), .int .u64 (f.tb : Nat), .int .u64 (f.tt : Nat), .int .u64 (f.s : Nat), .int .u64 (f.a : Nat), .slice a m c]] W fun e w' => e = .returned (.bool false) ∧ Below W.heap.size W w') := fun W hW => by
    have h9 := mayW6_any f _ B W (hB.later hW) hl
    rw [h, ← hm] at h9; exact h9
  have HZ := Lib.hid (up_zero (f := f) (B := B) (by unfold updB; rw [h]; rfl))
  clear hm hB hl h
  go_enter Try.func17, Try.ntmps17
  go_wp2_with fail
  rw [← hw]
  clear hw
  refine (HMY.out _ HB.out).mono ?_
  rintro e w1 ⟨rfl, hb⟩
  have HU := Lib.hid (HU.out.later hb)
  have HB := Lib.hid (below_of HB.out hb)
  have HR := Lib.hid (HR.out.later hb)
  clear hb
  obtain ⟨c0, c1, c2, c3, c4, c5, c6, c7, c8⟩ := blk9 HR.out
  have q0 := BlkAt.cell HU.out (j := 0) rfl
  have q1 := BlkAt.cell HU.out (j := 1) rfl
  have q2 := BlkAt.cell HU.out (j := 2) rfl
  have hfz : ∀ j, w1.frozen? ⟨wm.heap.size + 1, j, none⟩ = false := fun j => BlkAt.frozen HU.out j
  obtain ⟨s1, s3⟩ := BlkAt.set3 HU.out (.int .u32 0) (.int .i64 0) (.int .i64 0)
  have S1 := Lib.hid s1
  have S3 := Lib.hid (HB.out.trans (s3 _ (by omega)))
  clear s1 s3
  go_wp2_with fail
  have d0 := BlkAt.cell S1.out (j := 0) rfl
  have d1 := BlkAt.cell S1.out (j := 1) rfl
  have d2 := BlkAt.cell S1.out (j := 2) rfl
  exact bodyPost_ret (v := .tuple #[.agg #[.int .u32 0, .int .i64 0, .int .i64 0], .bool false]) (by simp [results, Try.results17, go_sem, d0, d1, d2]) rfl ⟨HZ.out, S3.out⟩
set_option maxHeartbeats 4000000 in
set_option maxRecDepth 100000 in
theorem upW_b (f : Fr) (a : Option Addr) (c m : Nat) (B : List UInt8) (wm : World) (hm : m = B.length) (hB : Bytes wm (.slice a B.length c) B) (hl : B.length ≤ 9000) (h : mayF f B = true) (hk : (f.k == 2) = false) : Calls Try.prog 17 #[.agg #[.int .i64 f.k, .int .i64 f.n, .int .u64 (f.mb : Nat), .int .u64 (f.mt : Nat), .int .u64 (f.tb : Nat), .int .u64 (f.tt : Nat), .int .u64 (f.s : Nat), .int .u64 (f.a : Nat), .slice a m c]] wm (UpA f B wm) := by
  obtain ⟨w, hw⟩ : ∃ w, w = (wm.alloc (.cells #[.int .i64 f.k, .int .i64 f.n, .int .u64 (f.mb : Nat), .int .u64 (f.mt : Nat), .int .u64 (f.tb : Nat), .int .u64 (f.tt : Nat), .int .u64 (f.s : Nat), .int .u64 (f.a : Nat), .slice a m c] 28)).alloc (.cells #[.int .u32 0, .int .i64 0, .int .i64 0] 47) := ⟨_, rfl⟩
  have HB := Lib.hid (show Below wm.heap.size wm w by rw [hw]; go_grown)
  have HR : Hid (BlkAt 28 wm.heap.size [.int .i64 f.k, .int .i64 f.n, .int .u64 (f.mb : Nat), .int .u64 (f.mt : Nat), .int .u64 (f.tb : Nat), .int .u64 (f.tt : Nat), .int .u64 (f.s : Nat), .int .u64 (f.a : Nat), .slice a m c] w) := by rw [hw]; exact BlkAt.later (BlkAt.new wm _) ((Below.refl _ _).alloc (Nat.le_refl _) _)
  have HU := Lib.hid (show BlkAt 47 (wm.heap.size + 1) [.int .u32 0, .int .i64 0, .int .i64 0] w by
    have h9 := BlkAt.new (t := 47) (wm.alloc (.cells #[.int .i64 f.k, .int .i64 f.n, .int .u64 (f.mb : Nat), .int .u64 (f.mt : Nat), .int .u64 (f.tb : Nat), .int .u64 (f.tt : Nat), .int .u64 (f.s : Nat), .int .u64 (f.a : Nat), .slice a m c] 28)) [.int .u32 0, .int .i64 0, .int .i64 0]
    rw [hw]; simpa using h9)
  have HMY : Hid (∀ W, Below wm.heap.size wm W → Calls Try.prog 10 #[.agg #[.int .i64 f.k, .int .i64 f.n, .int .u64 (f.mb : Nat), .int .u64 (f.mt : Nat), .int .u64 (f.tb : Nat), .int .u64 (f.tt : Nat), .int .u64 (f.s : Nat), .int .u64 (f.a : Nat), .slice a m c]] W fun e w' => e = .returned (.bool true) ∧ Below W.heap.size W w') := fun W hW => by
    have h9 := mayW6_any f _ B W (hB.later hW) hl
    rw [h, ← hm] at h9; exact h9
  have HZ := Lib.hid (up_zero (f := f) (B := B) (by unfold updB; rw [h, hk]; rfl))
  have k2 : (f.k != 2) = true := by simpa using hk
  clear hm hB hl h hk
  go_enter Try.func17, Try.ntmps17
  go_wp2_with fail
  rw [← hw]
  clear hw
  refine (HMY.out _ HB.out).mono ?_
  rintro e w1 ⟨rfl, hb⟩
  have HU := Lib.hid (HU.out.later hb)
  have HB := Lib.hid (below_of HB.out hb)
  have HR := Lib.hid (HR.out.later hb)
  clear hb
  obtain ⟨c0, c1, c2, c3, c4, c5, c6, c7, c8⟩ := blk9 HR.out
  have q0 := BlkAt.cell HU.out (j := 0) rfl
  have q1 := BlkAt.cell HU.out (j := 1) rfl
  have q2 := BlkAt.cell HU.out (j := 2) rfl
  have hfz : ∀ j, w1.frozen? ⟨wm.heap.size + 1, j, none⟩ = false := fun j => BlkAt.frozen HU.out j
  obtain ⟨s1, s3⟩ := BlkAt.set3 HU.out (.int .u32 0) (.int .i64 0) (.int .i64 0)
  have S1 := Lib.hid s1
  have S3 := Lib.hid (HB.out.trans (s3 _ (by omega)))
  clear s1 s3
  go_wp2_with fail
  have d0 := BlkAt.cell S1.out (j := 0) rfl
  have d1 := BlkAt.cell S1.out (j := 1) rfl
  have d2 := BlkAt.cell S1.out (j := 2) rfl
  exact bodyPost_ret (v := .tuple #[.agg #[.int .u32 0, .int .i64 0, .int .i64 0], .bool false]) (by simp [results, Try.results17, go_sem, d0, d1, d2]) rfl ⟨HZ.out, S3.out⟩
set_option maxHeartbeats 4000000 in
set_option maxRecDepth 100000 in
theorem upW_c (f : Fr) (a : Option Addr) (c m : Nat) (B : List UInt8) (wm : World) (hm : m = B.length) (hB : Bytes wm (.slice a B.length c) B) (hl : B.length ≤ 9000) (h : mayF f B = true) (hk : (f.k == 2) = true) : Calls Try.prog 17 #[.agg #[.int .i64 f.k, .int .i64 f.n, .int .u64 (f.mb : Nat), .int .u64 (f.mt : Nat), .int .u64 (f.tb : Nat), .int .u64 (f.tt : Nat), .int .u64 (f.s : Nat), .int .u64 (f.a : Nat), .slice a m c]] wm (UpA f B wm) := by
  obtain ⟨w, hw⟩ : ∃ w, w = (wm.alloc (.cells #[.int .i64 f.k, .int .i64 f.n, .int .u64 (f.mb : Nat), .int .u64 (f.mt : Nat), .int .u64 (f.tb : Nat), .int .u64 (f.tt : Nat), .int .u64 (f.s : Nat), .int .u64 (f.a : Nat), .slice a m c] 28)).alloc (.cells #[.int .u32 0, .int .i64 0, .int .i64 0] 47) := ⟨_, rfl⟩
  have HB := Lib.hid (show Below wm.heap.size wm w by rw [hw]; go_grown)
  have HR : Hid (BlkAt 28 wm.heap.size [.int .i64 f.k, .int .i64 f.n, .int .u64 (f.mb : Nat), .int .u64 (f.mt : Nat), .int .u64 (f.tb : Nat), .int .u64 (f.tt : Nat), .int .u64 (f.s : Nat), .int .u64 (f.a : Nat), .slice a m c] w) := by rw [hw]; exact BlkAt.later (BlkAt.new wm _) ((Below.refl _ _).alloc (Nat.le_refl _) _)
  have HU := Lib.hid (show BlkAt 47 (wm.heap.size + 1) [.int .u32 0, .int .i64 0, .int .i64 0] w by
    have h9 := BlkAt.new (t := 47) (wm.alloc (.cells #[.int .i64 f.k, .int .i64 f.n, .int .u64 (f.mb : Nat), .int .u64 (f.mt : Nat), .int .u64 (f.tb : Nat), .int .u64 (f.tt : Nat), .int .u64 (f.s : Nat), .int .u64 (f.a : Nat), .slice a m c] 28)) [.int .u32 0, .int .i64 0, .int .i64 0]
    rw [hw]; simpa using h9)
  have HMY : Hid (∀ W, Below wm.heap.size wm W → Calls Try.prog 10 #[.agg #[.int .i64 f.k, .int .i64 f.n, .int .u64 (f.mb : Nat), .int .u64 (f.mt : Nat), .int .u64 (f.tb : Nat), .int .u64 (f.tt : Nat), .int .u64 (f.s : Nat), .int .u64 (f.a : Nat), .slice a m c]] W fun e w' => e = .returned (.bool true) ∧ Below W.heap.size W w') := fun W hW => by
    have h9 := mayW6_any f _ B W (hB.later hW) hl
    rw [h, ← hm] at h9; exact h9
  have HZ := Lib.hid (up_same (f := f) (B := B) (by unfold updB; rw [h, hk]; rfl))
  have k2 : (f.k != 2) = false := by simpa using hk
  have HO : Hid (∀ W, Below wm.heap.size wm W → Calls Try.prog 41 #[.slice a m c] W fun e w' => e = .returned (.tuple #[.agg #[.int .u32 (ofA B : Int), .int .i64 (ofN B : Int), .int .i64 (ofD B : Int)], .int .i64 (ofE B)]) ∧ Below W.heap.size W w') := fun W hW => by rw [hm]; exact of5W_any _ B W (hB.later hW) (by omega)
  have HOE : Hid (ofE B = if ofB B = true then 0 else 4) := rfl
  obtain ⟨x, hx⟩ : ∃ x, x = ofA B := ⟨_, rfl⟩
  obtain ⟨y, hy⟩ : ∃ x, x = ofN B := ⟨_, rfl⟩
  obtain ⟨z, hz⟩ : ∃ x, x = ofD B := ⟨_, rfl⟩
  obtain ⟨t, ht⟩ : ∃ x, x = ofB B := ⟨_, rfl⟩
  obtain ⟨s, hs⟩ : ∃ x, x = ofE B := ⟨_, rfl⟩
  rw [← hx, ← hy, ← hz, ← hs] at HO
  rw [← hx, ← hy, ← hz, ← ht] at HZ
  rw [← hs, ← ht] at HOE
  clear hm hB hl h hk hx hy hz ht hs
  go_enter Try.func17, Try.ntmps17
  go_wp2_with fail
  rw [← hw]
  clear hw
  refine (HMY.out _ HB.out).mono ?_
  rintro e w1 ⟨rfl, hb⟩
  have HU := Lib.hid (HU.out.later hb)
  have HB := Lib.hid (below_of HB.out hb)
  have HR := Lib.hid (HR.out.later hb)
  clear hb
  obtain ⟨c0, c1, c2, c3, c4, c5, c6, c7, c8⟩ := blk9 HR.out
  go_wp2_with fail
  refine (HO.out _ HB.out).mono ?_
  rintro e w2 ⟨rfl, hb⟩
  have HU := Lib.hid (HU.out.later hb)
  have HB := Lib.hid (below_of HB.out hb)
  have hlt : wm.heap.size + 1 < w2.heap.size := HU.out.lt
  clear hb c0 c1 c2 c3 c4 c5 c6 c7 c8
  have q0 := BlkAt.cell HU.out (j := 0) rfl
  have q1 := BlkAt.cell HU.out (j := 1) rfl
  have q2 := BlkAt.cell HU.out (j := 2) rfl
  have hfz : ∀ j, w2.frozen? ⟨wm.heap.size + 1, j, none⟩ = false := fun j => BlkAt.frozen HU.out j
  obtain ⟨s1, s3⟩ := BlkAt.set3 HU.out (.int .u32 (x : Int)) (.int .i64 (y : Int)) (.int .i64 (z : Int))
  have S1 := Lib.hid (s1.later ((Below.refl _ _).alloc (Nat.le_refl _) (.cells #[.int .u32 (x : Int), .int .i64 (y : Int), .int .i64 (z : Int)] 47)))
  have hb3 := HB.out.trans (s3 _ (by omega))
  have S3 := Lib.hid (hb3.alloc hb3.size (.cells #[.int .u32 (x : Int), .int .i64 (y : Int), .int .i64 (z : Int)] 47))
  have hst : (s == 0) = t := by rw [HOE.out]; cases t <;> rfl
  clear s1 s3 hb3
  go_wp2_with fail
  have d0 := BlkAt.cell S1.out (j := 0) rfl
  have d1 := BlkAt.cell S1.out (j := 1) rfl
  have d2 := BlkAt.cell S1.out (j := 2) rfl
  exact bodyPost_ret (v := .tuple #[.agg #[.int .u32 (x : Int), .int .i64 (y : Int), .int .i64 (z : Int)], .bool t]) (by simp [results, Try.results17, go_sem, d0, d1, d2, hst]) rfl ⟨HZ.out, S3.out⟩
theorem updW_any (f : Fr) (v : Value) (B : List UInt8) (wm : World) (hB : Bytes wm v B) (hl : B.length ≤ 9000) : Calls Try.prog 17 #[.agg #[.int .i64 f.k, .int .i64 f.n, .int .u64 (f.mb : Nat), .int .u64 (f.mt : Nat), .int .u64 (f.tb : Nat), .int .u64 (f.tt : Nat), .int .u64 (f.s : Nat), .int .u64 (f.a : Nat), v]] wm (UpA f B wm) := by
  obtain ⟨a, c, rfl⟩ := hB.form
  cases h : mayF f B with
  | false => exact upW_a f a c _ B wm rfl hB hl h
  | true =>
    cases hk : (f.k == 2) with
    | false => exact upW_b f a c _ B wm rfl hB hl h hk
    | true => exact upW_c f a c _ B wm rfl hB hl h hk
set_option maxHeartbeats 4000000 in
set_option maxRecDepth 100000 in
theorem upR_a (f : Fr) (a : Option Addr) (c m : Nat) (B : List UInt8) (wm : World) (hm : m = B.length) (hB : Bytes wm (.slice a B.length c) B) (hl : B.length ≤ 9000) (h : mayF f B = false) : Calls Try.prog 18 #[.agg #[.int .i64 f.k, .int .i64 f.n, .int .u64 (f.mb : Nat), .int .u64 (f.mt : Nat), .int .u64 (f.tb : Nat), .int .u64 (f.tt : Nat), .int .u64 (f.s : Nat), .int .u64 (f.a : Nat), .slice a m c]] wm (UpA f B wm) := by
  obtain ⟨w, hw⟩ : ∃ w, w = (wm.alloc (.cells #[.int .i64 f.k, .int .i64 f.n, .int .u64 (f.mb : Nat), .int .u64 (f.mt : Nat), .int .u64 (f.tb : Nat), .int .u64 (f.tt : Nat), .int .u64 (f.s : Nat), .int .u64 (f.a : Nat), .slice a m c] 28)).alloc (.cells #[.int .u32 0, .int .i64 0, .int .i64 0] 47) := ⟨_, rfl⟩
  have HB := Lib.hid (show Below wm.heap.size wm w by rw [hw]; go_grown)
  have HR : Hid (BlkAt 28 wm.heap.size [.int .i64 f.k, .int .i64 f.n, .int .u64 (f.mb : Nat), .int .u64 (f.mt : Nat), .int .u64 (f.tb : Nat), .int .u64 (f.tt : Nat), .int .u64 (f.s : Nat), .int .u64 (f.a : Nat), .slice a m c] w) := by rw [hw]; exact BlkAt.later (BlkAt.new wm _) ((Below.refl _ _).alloc (Nat.le_refl _) _)
  have HU := Lib.hid (show BlkAt 47 (wm.heap.size + 1) [.int .u32 0, .int .i64 0, .int .i64 0] w by
    have h9 := BlkAt.new (t := 47) (wm.alloc (.cells #[.int .i64 f.k, .int .i64 f.n, .int .u64 (f.mb : Nat), .int .u64 (f.mt : Nat), .int .u64 (f.tb : Nat), .int .u64 (f.tt : Nat), .int .u64 (f.s : Nat), .int .u64 (f.a : Nat), .slice a m c] 28)) [.int .u32 0, .int .i64 0, .int .i64 0]
    rw [hw]; simpa using h9)
  have HMY : Hid (∀ W, Below wm.heap.size wm W → Calls Try.prog 11 #[.agg #[.int .i64 f.k, .int .i64 f.n, .int .u64 (f.mb : Nat), .int .u64 (f.mt : Nat), .int .u64 (f.tb : Nat), .int .u64 (f.tt : Nat), .int .u64 (f.s : Nat), .int .u64 (f.a : Nat), .slice a m c]] W fun e w' => e = .returned (.bool false) ∧ Below W.heap.size W w') := fun W hW => by
    have h9 := mayR6_any f _ B W (hB.later hW) hl
    rw [h, ← hm] at h9; exact h9
  have HZ := Lib.hid (up_zero (f := f) (B := B) (by unfold updB; rw [h]; rfl))
  clear hm hB hl h
  go_enter Try.func18, Try.ntmps18
  go_wp2_with fail
  rw [← hw]
  clear hw
  refine (HMY.out _ HB.out).mono ?_
  rintro e w1 ⟨rfl, hb⟩
  have HU := Lib.hid (HU.out.later hb)
  have HB := Lib.hid (below_of HB.out hb)
  have HR := Lib.hid (HR.out.later hb)
  clear hb
  obtain ⟨c0, c1, c2, c3, c4, c5, c6, c7, c8⟩ := blk9 HR.out
  have q0 := BlkAt.cell HU.out (j := 0) rfl
  have q1 := BlkAt.cell HU.out (j := 1) rfl
  have q2 := BlkAt.cell HU.out (j := 2) rfl
  have hfz : ∀ j, w1.frozen? ⟨wm.heap.size + 1, j, none⟩ = false := fun j => BlkAt.frozen HU.out j
  obtain ⟨s1, s3⟩ := BlkAt.set3 HU.out (.int .u32 0) (.int .i64 0) (.int .i64 0)
  have S1 := Lib.hid s1
  have S3 := Lib.hid (HB.out.trans (s3 _ (by omega)))
  clear s1 s3
  go_wp2_with fail
  have d0 := BlkAt.cell S1.out (j := 0) rfl
  have d1 := BlkAt.cell S1.out (j := 1) rfl
  have d2 := BlkAt.cell S1.out (j := 2) rfl
  exact bodyPost_ret (v := .tuple #[.agg #[.int .u32 0, .int .i64 0, .int .i64 0], .bool false]) (by simp [results, Try.results18, go_sem, d0, d1, d2]) rfl ⟨HZ.out, S3.out⟩
set_option maxHeartbeats 4000000 in
set_option maxRecDepth 100000 in
theorem upR_b (f : Fr) (a : Option Addr) (c m : Nat) (B : List UInt8) (wm : World) (hm : m = B.length) (hB : Bytes wm (.slice a B.length c) B) (hl : B.length ≤ 9000) (h : mayF f B = true) (hk : (f.k == 2) = false) : Calls Try.prog 18 #[.agg #[.int .i64 f.k, .int .i64 f.n, .int .u64 (f.mb : Nat), .int .u64 (f.mt : Nat), .int .u64 (f.tb : Nat), .int .u64 (f.tt : Nat), .int .u64 (f.s : Nat), .int .u64 (f.a : Nat), .slice a m c]] wm (UpA f B wm) := by
  obtain ⟨w, hw⟩ : ∃ w, w = (wm.alloc (.cells #[.int .i64 f.k, .int .i64 f.n, .int .u64 (f.mb : Nat), .int .u64 (f.mt : Nat), .int .u64 (f.tb : Nat), .int .u64 (f.tt : Nat), .int .u64 (f.s : Nat), .int .u64 (f.a : Nat), .slice a m c] 28)).alloc (.cells #[.int .u32 0, .int .i64 0, .int .i64 0] 47) := ⟨_, rfl⟩
  have HB := Lib.hid (show Below wm.heap.size wm w by rw [hw]; go_grown)
  have HR : Hid (BlkAt 28 wm.heap.size [.int .i64 f.k, .int .i64 f.n, .int .u64 (f.mb : Nat), .int .u64 (f.mt : Nat), .int .u64 (f.tb : Nat), .int .u64 (f.tt : Nat), .int .u64 (f.s : Nat), .int .u64 (f.a : Nat), .slice a m c] w) := by rw [hw]; exact BlkAt.later (BlkAt.new wm _) ((Below.refl _ _).alloc (Nat.le_refl _) _)
  have HU := Lib.hid (show BlkAt 47 (wm.heap.size + 1) [.int .u32 0, .int .i64 0, .int .i64 0] w by
    have h9 := BlkAt.new (t := 47) (wm.alloc (.cells #[.int .i64 f.k, .int .i64 f.n, .int .u64 (f.mb : Nat), .int .u64 (f.mt : Nat), .int .u64 (f.tb : Nat), .int .u64 (f.tt : Nat), .int .u64 (f.s : Nat), .int .u64 (f.a : Nat), .slice a m c] 28)) [.int .u32 0, .int .i64 0, .int .i64 0]
    rw [hw]; simpa using h9)
  have HMY : Hid (∀ W, Below wm.heap.size wm W → Calls Try.prog 11 #[.agg #[.int .i64 f.k, .int .i64 f.n, .int .u64 (f.mb : Nat), .int .u64 (f.mt : Nat), .int .u64 (f.tb : Nat), .int .u64 (f.tt : Nat), .int .u64 (f.s : Nat), .int .u64 (f.a : Nat), .slice a m c]] W fun e w' => e = .returned (.bool true) ∧ Below W.heap.size W w') := fun W hW => by
    have h9 := mayR6_any f _ B W (hB.later hW) hl
    rw [h, ← hm] at h9; exact h9
  have HZ := Lib.hid (up_zero (f := f) (B := B) (by unfold updB; rw [h, hk]; rfl))
  have k2 : (f.k != 2) = true := by simpa using hk
  clear hm hB hl h hk
  go_enter Try.func18, Try.ntmps18
  go_wp2_with fail
  rw [← hw]
  clear hw
  refine (HMY.out _ HB.out).mono ?_
  rintro e w1 ⟨rfl, hb⟩
  have HU := Lib.hid (HU.out.later hb)
  have HB := Lib.hid (below_of HB.out hb)
  have HR := Lib.hid (HR.out.later hb)
  clear hb
  obtain ⟨c0, c1, c2, c3, c4, c5, c6, c7, c8⟩ := blk9 HR.out
  have q0 := BlkAt.cell HU.out (j := 0) rfl
  have q1 := BlkAt.cell HU.out (j := 1) rfl
  have q2 := BlkAt.cell HU.out (j := 2) rfl
  have hfz : ∀ j, w1.frozen? ⟨wm.heap.size + 1, j, none⟩ = false := fun j => BlkAt.frozen HU.out j
  obtain ⟨s1, s3⟩ := BlkAt.set3 HU.out (.int .u32 0) (.int .i64 0) (.int .i64 0)
  have S1 := Lib.hid s1
  have S3 := Lib.hid (HB.out.trans (s3 _ (by omega)))
  clear s1 s3
  go_wp2_with fail
  have d0 := BlkAt.cell S1.out (j := 0) rfl
  have d1 := BlkAt.cell S1.out (j := 1) rfl
  have d2 := BlkAt.cell S1.out (j := 2) rfl
  exact bodyPost_ret (v := .tuple #[.agg #[.int .u32 0, .int .i64 0, .int .i64 0], .bool false]) (by simp [results, Try.results18, go_sem, d0, d1, d2]) rfl ⟨HZ.out, S3.out⟩
set_option maxHeartbeats 4000000 in
set_option maxRecDepth 100000 in
theorem upR_c (f : Fr) (a : Option Addr) (c m : Nat) (B : List UInt8) (wm : World) (hm : m = B.length) (hB : Bytes wm (.slice a B.length c) B) (hl : B.length ≤ 9000) (h : mayF f B = true) (hk : (f.k == 2) = true) : Calls Try.prog 18 #[.agg #[.int .i64 f.k, .int .i64 f.n, .int .u64 (f.mb : Nat), .int .u64 (f.mt : Nat), .int .u64 (f.tb : Nat), .int .u64 (f.tt : Nat), .int .u64 (f.s : Nat), .int .u64 (f.a : Nat), .slice a m c]] wm (UpA f B wm) := by
  obtain ⟨w, hw⟩ : ∃ w, w = (wm.alloc (.cells #[.int .i64 f.k, .int .i64 f.n, .int .u64 (f.mb : Nat), .int .u64 (f.mt : Nat), .int .u64 (f.tb : Nat), .int .u64 (f.tt : Nat), .int .u64 (f.s : Nat), .int .u64 (f.a : Nat), .slice a m c] 28)).alloc (.cells #[.int .u32 0, .int .i64 0, .int .i64 0] 47) := ⟨_, rfl⟩
  have HB := Lib.hid (show Below wm.heap.size wm w by rw [hw]; go_grown)
  have HR : Hid (BlkAt 28 wm.heap.size [.int .i64 f.k, .int .i64 f.n, .int .u64 (f.mb : Nat), .int .u64 (f.mt : Nat), .int .u64 (f.tb : Nat), .int .u64 (f.tt : Nat), .int .u64 (f.s : Nat), .int .u64 (f.a : Nat), .slice a m c] w) := by rw [hw]; exact BlkAt.later (BlkAt.new wm _) ((Below.refl _ _).alloc (Nat.le_refl _) _)
  have HU := Lib.hid (show BlkAt 47 (wm.heap.size + 1) [.int .u32 0, .int .i64 0, .int .i64 0] w by
    have h9 := BlkAt.new (t := 47) (wm.alloc (.cells #[.int .i64 f.k, .int .i64 f.n, .int .u64 (f.mb : Nat), .int .u64 (f.mt : Nat), .int .u64 (f.tb : Nat), .int .u64 (f.tt : Nat), .int .u64 (f.s : Nat), .int .u64 (f.a : Nat), .slice a m c] 28)) [.int .u32 0, .int .i64 0, .int .i64 0]
    rw [hw]; simpa using h9)
  have HMY : Hid (∀ W, Below wm.heap.size wm W → Calls Try.prog 11 #[.agg #[.int .i64 f.k, .int .i64 f.n, .int .u64 (f.mb : Nat), .int .u64 (f.mt : Nat), .int .u64 (f.tb : Nat), .int .u64 (f.tt : Nat), .int .u64 (f.s : Nat), .int .u64 (f.a : Nat), .slice a m c]] W fun e w' => e = .returned (.bool true) ∧ Below W.heap.size W w') := fun W hW => by
    have h9 := mayR6_any f _ B W (hB.later hW) hl
    rw [h, ← hm] at h9; exact h9
  have HZ := Lib.hid (up_same (f := f) (B := B) (by unfold updB; rw [h, hk]; rfl))
  have k2 : (f.k != 2) = false := by simpa using hk
  have HO : Hid (∀ W, Below wm.heap.size wm W → Calls Try.prog 34 #[.slice a m c] W fun e w' => e = .returned (.tuple #[.agg #[.int .u32 (ofA B : Int), .int .i64 (ofN B : Int), .int .i64 (ofD B : Int)], .bool (ofB B)]) ∧ Below W.heap.size W w') := fun W hW => by rw [hm]; exact of5R_any _ B W (hB.later hW) (by omega)
  obtain ⟨x, hx⟩ : ∃ x, x = ofA B := ⟨_, rfl⟩
  obtain ⟨y, hy⟩ : ∃ x, x = ofN B := ⟨_, rfl⟩
  obtain ⟨z, hz⟩ : ∃ x, x = ofD B := ⟨_, rfl⟩
  obtain ⟨t, ht⟩ : ∃ x, x = ofB B := ⟨_, rfl⟩
  rw [← hx, ← hy, ← hz, ← ht] at HO
  rw [← hx, ← hy, ← hz, ← ht] at HZ
  clear hm hB hl h hk hx hy hz ht
  go_enter Try.func18, Try.ntmps18
  go_wp2_with fail
  rw [← hw]
  clear hw
  refine (HMY.out _ HB.out).mono ?_
  rintro e w1 ⟨rfl, hb⟩
  have HU := Lib.hid (HU.out.later hb)
  have HB := Lib.hid (below_of HB.out hb)
  have HR := Lib.hid (HR.out.later hb)
  clear hb
  obtain ⟨c0, c1, c2, c3, c4, c5, c6, c7, c8⟩ := blk9 HR.out
  go_wp2_with fail
  refine (HO.out _ HB.out).mono ?_
  rintro e w2 ⟨rfl, hb⟩
  have HU := Lib.hid (HU.out.later hb)
  have HB := Lib.hid (below_of HB.out hb)
  clear hb c0 c1 c2 c3 c4 c5 c6 c7 c8
  have q0 := BlkAt.cell HU.out (j := 0) rfl
  have q1 := BlkAt.cell HU.out (j := 1) rfl
  have q2 := BlkAt.cell HU.out (j := 2) rfl
  have hfz : ∀ j, w2.frozen? ⟨wm.heap.size + 1, j, none⟩ = false := fun j => BlkAt.frozen HU.out j
  obtain ⟨s1, s3⟩ := BlkAt.set3 HU.out (.int .u32 (x : Int)) (.int .i64 (y : Int)) (.int .i64 (z : Int))
  have S1 := Lib.hid s1
  have S3 := Lib.hid (HB.out.trans (s3 _ (by omega)))
  clear s1 s3
  go_wp2_with fail
  have d0 := BlkAt.cell S1.out (j := 0) rfl
  have d1 := BlkAt.cell S1.out (j := 1) rfl
  have d2 := BlkAt.cell S1.out (j := 2) rfl
  exact bodyPost_ret (v := .tuple #[.agg #[.int .u32 (x : Int), .int .i64 (y : Int), .int .i64 (z : Int)], .bool t]) (by simp [results, Try.results18, go_sem, d0, d1, d2]) rfl ⟨HZ.out, S3.out⟩
theorem updR_any (f : Fr) (v : Value) (B : List UInt8) (wm : World) (hB : Bytes wm v B) (hl : B.length ≤ 9000) : Calls Try.prog 18 #[.agg #[.int .i64 f.k, .int .i64 f.n, .int .u64 (f.mb : Nat), .int .u64 (f.mt : Nat), .int .u64 (f.tb : Nat), .int .u64 (f.tt : Nat), .int .u64 (f.s : Nat), .int .u64 (f.a : Nat), v]] wm (UpA f B wm) := by
  obtain ⟨a, c, rfl⟩ := hB.form
  cases h : mayF f B with
  | false => exact upR_a f a c _ B wm rfl hB hl h
  | true =>
    cases hk : (f.k == 2) with
    | false => exact upR_b f a c _ B wm rfl hB hl h hk
    | true => exact upR_c f a c _ B wm rfl hB hl h hk
end Go.Proofs.Ytcahfapffhcceaa
