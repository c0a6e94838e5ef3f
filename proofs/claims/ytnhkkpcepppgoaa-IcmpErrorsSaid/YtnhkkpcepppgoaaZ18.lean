/- The walk of the law IcmpBytes. -/
import Derived.Test.YtnhkkpcepppgoaaZ17

set_option linter.unusedSimpArgs false
set_option linter.unusedVariables false
namespace Go.Proofs.Ytnhkkpcepppgoaa
open Go.RowKit
attribute [local go_sem ↓] Go.wp_at_zero Go.wp_at_succ

/-- The list of what is done, spelled out. -/
theorem wpAnyH_at {P : Program} {md : Region.Mode} {ops : Array Oper} {Q : Exit → Act → World → Prop} {S : World → Prop} {fuel : Nat} {listed : Array Bool} {a : Act} {w : World} {m : Array Bool} (e : listed = m) (h : wpAnyH P md ops Q S fuel m a w) : wpAnyH P md ops Q S fuel listed a w := e ▸ h
set_option maxHeartbeats 8000000 in
set_option maxRecDepth 100000 in
theorem eb_a1 (m o : Mg) (a a' pa : Option Addr) (c c' pc bn cn pn : Nat) (w : World) (h1 : (9000 : Int) < bn) :
    Calls Try.prog 5 #[.agg #[.int .u8 (m.ty : Nat), .int .u8 (m.co : Nat), .int .u8 (m.r0 : Nat), .int .u8 (m.r1 : Nat), .int .u8 (m.r2 : Nat), .int .u8 (m.r3 : Nat), .slice a bn c], .agg #[.int .u8 (o.ty : Nat), .int .u8 (o.co : Nat), .int .u8 (o.r0 : Nat), .int .u8 (o.r1 : Nat), .int .u8 (o.r2 : Nat), .int .u8 (o.r3 : Nat), .slice a' cn c'], .slice pa pn pc] w fun e w' => e = .returned (.bool true) ∧ Below w.heap.size w w' := by
  have hb : Below w.heap.size w ((w.alloc (.cells #[.int .u8 (m.ty : Nat), .int .u8 (m.co : Nat), .int .u8 (m.r0 : Nat), .int .u8 (m.r1 : Nat), .int .u8 (m.r2 : Nat), .int .u8 (m.r3 : Nat), .slice a bn c] 46)).alloc (.cells #[.int .u8 (o.ty : Nat), .int .u8 (o.co : Nat), .int .u8 (o.r0 : Nat), .int .u8 (o.r1 : Nat), .int .u8 (o.r2 : Nat), .int .u8 (o.r3 : Nat), .slice a' cn c'] 46)) := by go_grown
  have HB := Lib.hid hb
  clear hb
  go_enter Try.func5, Try.ntmps5
  go_wp2_with fail
  refine (known4_any _).mono ?_
  rintro e w1 ⟨rfl, hb1⟩
  have HB1 := Lib.hid (HB.out.trans (hb1.mono HB.out.size))
  clear hb1
  go_wp2_with fail
  go_ret
  exact ⟨rfl, HB1.out⟩
set_option maxHeartbeats 8000000 in
set_option maxRecDepth 100000 in
theorem eb_a2 (m o : Mg) (a a' pa : Option Addr) (c c' pc bn cn pn : Nat) (w : World) (h1 : (bn : Int) ≤ 9000) (h2 : (9000 : Int) < cn) :
    Calls Try.prog 5 #[.agg #[.int .u8 (m.ty : Nat), .int .u8 (m.co : Nat), .int .u8 (m.r0 : Nat), .int .u8 (m.r1 : Nat), .int .u8 (m.r2 : Nat), .int .u8 (m.r3 : Nat), .slice a bn c], .agg #[.int .u8 (o.ty : Nat), .int .u8 (o.co : Nat), .int .u8 (o.r0 : Nat), .int .u8 (o.r1 : Nat), .int .u8 (o.r2 : Nat), .int .u8 (o.r3 : Nat), .slice a' cn c'], .slice pa pn pc] w fun e w' => e = .returned (.bool true) ∧ Below w.heap.size w w' := by
  have hb : Below w.heap.size w ((w.alloc (.cells #[.int .u8 (m.ty : Nat), .int .u8 (m.co : Nat), .int .u8 (m.r0 : Nat), .int .u8 (m.r1 : Nat), .int .u8 (m.r2 : Nat), .int .u8 (m.r3 : Nat), .slice a bn c] 46)).alloc (.cells #[.int .u8 (o.ty : Nat), .int .u8 (o.co : Nat), .int .u8 (o.r0 : Nat), .int .u8 (o.r1 : Nat), .int .u8 (o.r2 : Nat), .int .u8 (o.r3 : Nat), .slice a' cn c'] 46)) := by go_grown
  have HB := Lib.hid hb
  clear hb
  go_enter Try.func5, Try.ntmps5
  go_wp2_with fail
  refine (known4_any _).mono ?_
  rintro e w1 ⟨rfl, hb1⟩
  have HB1 := Lib.hid (HB.out.trans (hb1.mono HB.out.size))
  clear hb1
  go_wp2_with fail
  go_ret
  exact ⟨rfl, HB1.out⟩
set_option maxHeartbeats 8000000 in
set_option maxRecDepth 100000 in
theorem eb_a3 (m o : Mg) (a a' pa : Option Addr) (c c' pc bn cn pn : Nat) (w : World) (h1 : (bn : Int) ≤ 9000) (h2 : (cn : Int) ≤ 9000) (h3 : (9000 : Int) < pn) :
    Calls Try.prog 5 #[.agg #[.int .u8 (m.ty : Nat), .int .u8 (m.co : Nat), .int .u8 (m.r0 : Nat), .int .u8 (m.r1 : Nat), .int .u8 (m.r2 : Nat), .int .u8 (m.r3 : Nat), .slice a bn c], .agg #[.int .u8 (o.ty : Nat), .int .u8 (o.co : Nat), .int .u8 (o.r0 : Nat), .int .u8 (o.r1 : Nat), .int .u8 (o.r2 : Nat), .int .u8 (o.r3 : Nat), .slice a' cn c'], .slice pa pn pc] w fun e w' => e = .returned (.bool true) ∧ Below w.heap.size w w' := by
  have hb : Below w.heap.size w ((w.alloc (.cells #[.int .u8 (m.ty : Nat), .int .u8 (m.co : Nat), .int .u8 (m.r0 : Nat), .int .u8 (m.r1 : Nat), .int .u8 (m.r2 : Nat), .int .u8 (m.r3 : Nat), .slice a bn c] 46)).alloc (.cells #[.int .u8 (o.ty : Nat), .int .u8 (o.co : Nat), .int .u8 (o.r0 : Nat), .int .u8 (o.r1 : Nat), .int .u8 (o.r2 : Nat), .int .u8 (o.r3 : Nat), .slice a' cn c'] 46)) := by go_grown
  have HB := Lib.hid hb
  clear hb
  go_enter Try.func5, Try.ntmps5
  go_wp2_with fail
  refine (known4_any _).mono ?_
  rintro e w1 ⟨rfl, hb1⟩
  have HB1 := Lib.hid (HB.out.trans (hb1.mono HB.out.size))
  clear hb1
  go_wp2_with fail
  go_ret
  exact ⟨rfl, HB1.out⟩
set_option maxHeartbeats 8000000 in
set_option maxRecDepth 100000 in
theorem eb_y (m o : Mg) (a a' pa : Option Addr) (c c' pc bn cn pn : Nat) (B C l : List UInt8) (w : World) (hm : m.Ok) (ho : o.Ok) (hbn : bn = B.length) (hcn : cn = C.length) (hpn : pn = l.length) (hB : Bytes w (.slice a bn c) B) (hC : Bytes w (.slice a' cn c') C) (hv : Bytes w (.slice pa pn pc) l) (h1 : (bn : Int) ≤ 9000) (h2 : (cn : Int) ≤ 9000) (h3 : (pn : Int) ≤ 9000) (hok : okM l = true) :
    Calls Try.prog 5 #[.agg #[.int .u8 (m.ty : Nat), .int .u8 (m.co : Nat), .int .u8 (m.r0 : Nat), .int .u8 (m.r1 : Nat), .int .u8 (m.r2 : Nat), .int .u8 (m.r3 : Nat), .slice a bn c], .agg #[.int .u8 (o.ty : Nat), .int .u8 (o.co : Nat), .int .u8 (o.r0 : Nat), .int .u8 (o.r1 : Nat), .int .u8 (o.r2 : Nat), .int .u8 (o.r3 : Nat), .slice a' cn c'], .slice pa pn pc] w fun e w' => e = .returned (.bool true) ∧ Below w.heap.size w w' := by
  obtain ⟨wb, hwb⟩ : ∃ wb, wb = ((w.alloc (.cells #[.int .u8 (m.ty : Nat), .int .u8 (m.co : Nat), .int .u8 (m.r0 : Nat), .int .u8 (m.r1 : Nat), .int .u8 (m.r2 : Nat), .int .u8 (m.r3 : Nat), .slice a bn c] 46)).alloc (.cells #[.int .u8 (o.ty : Nat), .int .u8 (o.co : Nat), .int .u8 (o.r0 : Nat), .int .u8 (o.r1 : Nat), .int .u8 (o.r2 : Nat), .int .u8 (o.r3 : Nat), .slice a' cn c'] 46)) := ⟨_, rfl⟩
  have hBW : Below w.heap.size w wb := by rw [hwb]; go_grown
  have HRm0 : Hid (BlkAt 46 w.heap.size [.int .u8 (m.ty : Nat), .int .u8 (m.co : Nat), .int .u8 (m.r0 : Nat), .int .u8 (m.r1 : Nat), .int .u8 (m.r2 : Nat), .int .u8 (m.r3 : Nat), .slice a bn c] wb) := by rw [hwb]; exact (BlkAt.new w _).later ((Below.refl _ _).alloc (Nat.le_refl _) _)
  have HRo0 : Hid (BlkAt 46 (w.heap.size + 1) [.int .u8 (o.ty : Nat), .int .u8 (o.co : Nat), .int .u8 (o.r0 : Nat), .int .u8 (o.r1 : Nat), .int .u8 (o.r2 : Nat), .int .u8 (o.r3 : Nat), .slice a' cn c'] wb) := by
    rw [hwb]
    have h := BlkAt.new (t := 46) (w.alloc (.cells #[.int .u8 (m.ty : Nat), .int .u8 (m.co : Nat), .int .u8 (m.r0 : Nat), .int .u8 (m.r1 : Nat), .int .u8 (m.r2 : Nat), .int .u8 (m.r3 : Nat), .slice a bn c] 46)) [.int .u8 (o.ty : Nat), .int .u8 (o.co : Nat), .int .u8 (o.r0 : Nat), .int .u8 (o.r1 : Nat), .int .u8 (o.r2 : Nat), .int .u8 (o.r3 : Nat), .slice a' cn c']
    rw [World.size_alloc] at h
    exact h
  have HBW := Lib.hid hBW
  have HB : Hid (Bytes wb (.slice a bn c) B) := hB.later hBW
  have HC : Hid (Bytes wb (.slice a' cn c') C) := hC.later hBW
  have HV : Hid (Bytes wb (.slice pa pn pc) l) := hv.later hBW
  have HWB0 : Hid (∀ W, Below wb.heap.size wb W → Calls Try.prog 31 #[.agg #[.int .u8 (m.ty : Nat), .int .u8 (m.co : Nat), .int .u8 (m.r0 : Nat), .int .u8 (m.r1 : Nat), .int .u8 (m.r2 : Nat), .int .u8 (m.r3 : Nat), .slice a bn c]] W fun e w' => ∃ v, e = .returned v ∧ OwnB w' W.heap.size v (msgL m B) ∧ Below W.heap.size W w') := fun W hb => by
    have h := bytesM_any m hm a c B W (by rw [← hbn]; exact HB.out.later hb) (by omega)
    rw [← hbn] at h; exact h
  have HWR0 : Hid (∀ W, Below wb.heap.size wb W → Calls Try.prog 32 #[.agg #[.int .u8 (m.ty : Nat), .int .u8 (m.co : Nat), .int .u8 (m.r0 : Nat), .int .u8 (m.r1 : Nat), .int .u8 (m.r2 : Nat), .int .u8 (m.r3 : Nat), .slice a bn c]] W fun e w' => ∃ v, e = .returned v ∧ OwnB w' W.heap.size v (msgL m B) ∧ Below W.heap.size W w') := fun W hb => by
    have h := bytesMR_any m hm a c B W (by rw [← hbn]; exact HB.out.later hb) (by omega)
    rw [← hbn] at h; exact h
  obtain ⟨sm, hsm⟩ : ∃ f, f = sameM m o B C := ⟨_, rfl⟩
  have HSW0 : Hid (∀ W, Below wb.heap.size wb W → Calls Try.prog 33 #[.agg #[.int .u8 (m.ty : Nat), .int .u8 (m.co : Nat), .int .u8 (m.r0 : Nat), .int .u8 (m.r1 : Nat), .int .u8 (m.r2 : Nat), .int .u8 (m.r3 : Nat), .slice a bn c], .agg #[.int .u8 (o.ty : Nat), .int .u8 (o.co : Nat), .int .u8 (o.r0 : Nat), .int .u8 (o.r1 : Nat), .int .u8 (o.r2 : Nat), .int .u8 (o.r3 : Nat), .slice a' cn c']] W fun e w' => e = .returned (.bool sm) ∧ Below W.heap.size W w') := fun W hb => by
    rw [hsm]; exact sameMW_any m o a a' c c' bn cn B C W (HB.out.later hb) (HC.out.later hb)
  have HSR0 : Hid (∀ W, Below wb.heap.size wb W → Calls Try.prog 29 #[.agg #[.int .u8 (m.ty : Nat), .int .u8 (m.co : Nat), .int .u8 (m.r0 : Nat), .int .u8 (m.r1 : Nat), .int .u8 (m.r2 : Nat), .int .u8 (m.r3 : Nat), .slice a bn c], .agg #[.int .u8 (o.ty : Nat), .int .u8 (o.co : Nat), .int .u8 (o.r0 : Nat), .int .u8 (o.r1 : Nat), .int .u8 (o.r2 : Nat), .int .u8 (o.r3 : Nat), .slice a' cn c']] W fun e w' => e = .returned (.bool sm) ∧ Below W.heap.size W w') := fun W hb => by
    rw [hsm]; exact sameMR_any m o a a' c c' bn cn B C W (HB.out.later hb) (HC.out.later hb)
  have HSS0 : Hid (∀ W, Below wb.heap.size wb W → Calls Try.prog 33 #[.agg #[.int .u8 (m.ty : Nat), .int .u8 (m.co : Nat), .int .u8 (m.r0 : Nat), .int .u8 (m.r1 : Nat), .int .u8 (m.r2 : Nat), .int .u8 (m.r3 : Nat), .slice a bn c], .agg #[.int .u8 (m.ty : Nat), .int .u8 (m.co : Nat), .int .u8 (m.r0 : Nat), .int .u8 (m.r1 : Nat), .int .u8 (m.r2 : Nat), .int .u8 (m.r3 : Nat), .slice a bn c]] W fun e w' => e = .returned (.bool true) ∧ Below W.heap.size W w') := fun W hb => by
    have h := sameMW_any m m a a c c bn bn B B W (HB.out.later hb) (HB.out.later hb)
    rw [sameM_refl] at h; exact h
  obtain ⟨eb, heb⟩ : ∃ f, f = errB m.ty := ⟨_, rfl⟩
  have HIW : Hid (∀ W, Calls Try.prog 34 #[.agg #[.int .u8 (m.ty : Nat), .int .u8 (m.co : Nat), .int .u8 (m.r0 : Nat), .int .u8 (m.r1 : Nat), .int .u8 (m.r2 : Nat), .int .u8 (m.r3 : Nat), .slice a bn c]] W fun e w' => e = .returned (.bool eb) ∧ Below W.heap.size W w') := fun W => by
    rw [heb]; exact isErrW_any m _ W ⟨_, _, _, rfl⟩
  have HIR : Hid (∀ W, Calls Try.prog 35 #[.int .u8 (m.ty : Nat)] W fun e w' => e = .returned (.bool eb) ∧ W = w') := fun W => by
    rw [heb]; exact isErrR_any m.ty W
  obtain ⟨q, hq⟩ : ∃ q, q = mgP l := ⟨_, rfl⟩
  obtain ⟨D, hD⟩ : ∃ q, q = bdP l := ⟨_, rfl⟩
  have HOW : Hid (∀ W, Below wb.heap.size wb W → Calls Try.prog 27 #[.slice pa pn pc] W fun e w' => ∃ u, e = .returned (.tuple #[.agg #[.int .u8 (q.ty : Nat), .int .u8 (q.co : Nat), .int .u8 (q.r0 : Nat), .int .u8 (q.r1 : Nat), .int .u8 (q.r2 : Nat), .int .u8 (q.r3 : Nat), u], .int .i64 0]) ∧ OwnB w' W.heap.size u D ∧ Below W.heap.size W w') := fun W hb => by
    have h := ofW_any _ l W (HV.out.later hb) (by omega)
    rw [show erP l = 0 from by unfold erP; rw [hok]; rfl, ← hq, ← hD] at h; exact h
  have HOR : Hid (∀ W, Below wb.heap.size wb W → Calls Try.prog 28 #[.slice pa pn pc] W fun e w' => ∃ u, e = .returned (.tuple #[.agg #[.int .u8 (q.ty : Nat), .int .u8 (q.co : Nat), .int .u8 (q.r0 : Nat), .int .u8 (q.r1 : Nat), .int .u8 (q.r2 : Nat), .int .u8 (q.r3 : Nat), u], .bool true]) ∧ Bytes w' u D ∧ Below W.heap.size W w') := fun W hb => by
    have h := ofR_any _ l W (HV.out.later hb) (by omega)
    rw [hok, ← hq, ← hD] at h; exact h
  clear hm ho hbn hcn hpn hB hC hv hok hBW hsm heb hq hD
  go_enter Try.func5, Try.ntmps5
  go_wp2_with fail
  rw [← hwb]
  clear hwb
  refine (HOW.out wb (Below.refl _ _)).mono ?_
  rintro e w1 ⟨u, rfl, hou, hb1⟩
  obtain ⟨ua, uc, rfl⟩ := hou.form
  obtain ⟨un, hun⟩ : ∃ n, n = D.length := ⟨_, rfl⟩
  rw [← hun] at hou ⊢
  have HU1 := Lib.hid hou.bytes
  have HB1 := Lib.hid (hb1.alloc hb1.size (.cells #[.int .u8 (q.ty : Nat), .int .u8 (q.co : Nat), .int .u8 (q.r0 : Nat), .int .u8 (q.r1 : Nat), .int .u8 (q.r2 : Nat), .int .u8 (q.r3 : Nat), .slice ua un uc] 46))
  have HU2 : Hid (Bytes (w1.alloc (.cells #[.int .u8 (q.ty : Nat), .int .u8 (q.co : Nat), .int .u8 (q.r0 : Nat), .int .u8 (q.r1 : Nat), .int .u8 (q.r2 : Nat), .int .u8 (q.r3 : Nat), .slice ua un uc] 46)) (.slice ua un uc) D) := hou.bytes.later ((Below.refl _ _).alloc (Nat.le_refl _) _)
  have HX := Lib.hid (BlkAt.new (t := 46) w1 [.int .u8 (q.ty : Nat), .int .u8 (q.co : Nat), .int .u8 (q.r0 : Nat), .int .u8 (q.r1 : Nat), .int .u8 (q.r2 : Nat), .int .u8 (q.r3 : Nat), .slice ua un uc])
  have HUN := Lib.hid hun
  clear hou hb1 hun
  go_wp2_with fail
  refine (HOR.out _ HB1.out).mono ?_
  rintro e w2 ⟨y, rfl, hby, hb2⟩
  obtain ⟨ya, yc, rfl⟩ := hby.form
  rw [← HUN.out] at hby ⊢
  have hb2' : Below wb.heap.size wb w2 := HB1.out.trans (hb2.mono HB1.out.size)
  have HB2 := Lib.hid (hb2'.alloc hb2'.size (.cells #[.int .u8 (q.ty : Nat), .int .u8 (q.co : Nat), .int .u8 (q.r0 : Nat), .int .u8 (q.r1 : Nat), .int .u8 (q.r2 : Nat), .int .u8 (q.r3 : Nat), .slice ya un yc] 46))
  have HS3 : Hid (∀ W, Below (w2.alloc (.cells #[.int .u8 (q.ty : Nat), .int .u8 (q.co : Nat), .int .u8 (q.r0 : Nat), .int .u8 (q.r1 : Nat), .int .u8 (q.r2 : Nat), .int .u8 (q.r3 : Nat), .slice ya un yc] 46)).heap.size (w2.alloc (.cells #[.int .u8 (q.ty : Nat), .int .u8 (q.co : Nat), .int .u8 (q.r0 : Nat), .int .u8 (q.r1 : Nat), .int .u8 (q.r2 : Nat), .int .u8 (q.r3 : Nat), .slice ya un yc] 46)) W → Calls Try.prog 29 #[.agg #[.int .u8 (q.ty : Nat), .int .u8 (q.co : Nat), .int .u8 (q.r0 : Nat), .int .u8 (q.r1 : Nat), .int .u8 (q.r2 : Nat), .int .u8 (q.r3 : Nat), .slice ua un uc], .agg #[.int .u8 (q.ty : Nat), .int .u8 (q.co : Nat), .int .u8 (q.r0 : Nat), .int .u8 (q.r1 : Nat), .int .u8 (q.r2 : Nat), .int .u8 (q.r3 : Nat), .slice ya un yc]] W fun e w' => e = .returned (.bool true) ∧ Below W.heap.size W w') := fun W hb => by
    have ha : Below w2.heap.size w2 (w2.alloc (.cells #[.int .u8 (q.ty : Nat), .int .u8 (q.co : Nat), .int .u8 (q.r0 : Nat), .int .u8 (q.r1 : Nat), .int .u8 (q.r2 : Nat), .int .u8 (q.r3 : Nat), .slice ya un yc] 46)) := (Below.refl _ _).alloc (Nat.le_refl _) _
    have h := sameMR_any q q ua ya uc yc un un D D W (((HU2.out.later hb2).later ha).later hb) ((hby.later ha).later hb)
    rw [sameM_refl] at h; exact h
  have hx := (HX.out.later hb2).later ((Below.refl _ _).alloc (Nat.le_refl _) (.cells #[.int .u8 (q.ty : Nat), .int .u8 (q.co : Nat), .int .u8 (q.r0 : Nat), .int .u8 (q.r1 : Nat), .int .u8 (q.r2 : Nat), .int .u8 (q.r3 : Nat), .slice ya un yc] 46))
  have x0 := hx.cell (j := 0) rfl
  have x1 := hx.cell (j := 1) rfl
  have x2 := hx.cell (j := 2) rfl
  have x3 := hx.cell (j := 3) rfl
  have x4 := hx.cell (j := 4) rfl
  have x5 := hx.cell (j := 5) rfl
  have x6 := hx.cell (j := 6) rfl
  clear hby hb2 hb2' hx
  go_wp2_with fail
  refine (HS3.out _ (Below.refl _ _)).mono ?_
  rintro e w3 ⟨rfl, hb3⟩
  have HB3 := Lib.hid (HB2.out.trans (hb3.mono HB2.out.size))
  clear hb3 x0 x1 x2 x3 x4 x5 x6
  go_wp2_with fail
  refine (num4_any 0 w3).mono ?_
  rintro e w3 ⟨rfl, rfl⟩
  go_wp2_with fail
  have HRm := Lib.hid (HRm0.out.later HB3.out)
  have HRo := Lib.hid (HRo0.out.later HB3.out)
  have HWB := Lib.hid (fun W (hb : Below w3.heap.size w3 W) => HWB0.out W (HB3.out.trans (hb.mono HB3.out.size)))
  have HWR := Lib.hid (fun W (hb : Below w3.heap.size w3 W) => HWR0.out W (HB3.out.trans (hb.mono HB3.out.size)))
  have HSW := Lib.hid (fun W (hb : Below w3.heap.size w3 W) => HSW0.out W (HB3.out.trans (hb.mono HB3.out.size)))
  have HSR := Lib.hid (fun W (hb : Below w3.heap.size w3 W) => HSR0.out W (HB3.out.trans (hb.mono HB3.out.size)))
  have HSS := Lib.hid (fun W (hb : Below w3.heap.size w3 W) => HSS0.out W (HB3.out.trans (hb.mono HB3.out.size)))
  have HBM := Lib.hid (HBW.out.trans (HB3.out.mono HBW.out.size))
  have hss : (sm == sm) = true := by simp
  have hee : (eb == eb) = true := by simp
  obtain ⟨K, hK⟩ : ∃ K, (msgL m B) = K := ⟨_, rfl⟩
  clear HRm0 HRo0 HWB0 HWR0 HSW0 HSR0 HSS0
  (refine wp_region_held_drew (S := (fun w' => Below w3.heap.size w3 w')) (by kernel_rfl) ?_ (fun hHeld => ?_); (focus ((try dsimp only); (exact (Below.refl _ _).drew))))
  (try dsimp only at hHeld)
  obtain ⟨w0, hw0⟩ : ∃ w0, w0 = World.drew w3 := ⟨_, rfl⟩
  rw [← hw0]
  rw [← hw0] at hHeld
  clear hw0
  (refine wpAnyH_take (i := 0) (v := ?_) rfl (by kernel_rfl) (by kernel_rfl) (by kernel_rfl) (fun _ _ _ h => h) (Or.inl ⟨by rfl, ?_⟩) hHeld ?_; rotate_left; (focus (intro w hSw; (try dsimp only at hSw); go_simp; (have hq := BlkAt.later HRm.out hSw; have c0 := BlkAt.cell hq (j := 0) rfl; have c1 := BlkAt.cell hq (j := 1) rfl; have c2 := BlkAt.cell hq (j := 2) rfl; have c3 := BlkAt.cell hq (j := 3) rfl; have c4 := BlkAt.cell hq (j := 4) rfl; have c5 := BlkAt.cell hq (j := 5) rfl; have c6 := BlkAt.cell hq (j := 6) rfl; go_simp; try with_reducible rfl))); (try simp only [Act.put, List.setIfInBounds_toArray, List.set_cons_zero, List.set_cons_succ, List.getElem_toArray, List.getElem_cons_zero]))
  (refine wpAnyH_take (i := 3) (v := ?_) rfl (by kernel_rfl) (by kernel_rfl) (by kernel_rfl) (fun _ _ _ h => h) (Or.inl ⟨by rfl, ?_⟩) hHeld ?_; rotate_left; (focus (intro w hSw; (try dsimp only at hSw); go_simp; (have hq := BlkAt.later HRm.out hSw; have c0 := BlkAt.cell hq (j := 0) rfl; have c1 := BlkAt.cell hq (j := 1) rfl; have c2 := BlkAt.cell hq (j := 2) rfl; have c3 := BlkAt.cell hq (j := 3) rfl; have c4 := BlkAt.cell hq (j := 4) rfl; have c5 := BlkAt.cell hq (j := 5) rfl; have c6 := BlkAt.cell hq (j := 6) rfl; go_simp; try with_reducible rfl))); (try simp only [Act.put, List.setIfInBounds_toArray, List.set_cons_zero, List.set_cons_succ, List.getElem_toArray, List.getElem_cons_zero, List.getElem_cons_succ]))
  refine wpAnyH_at (m := #[true, false, false, true, false, false, false, false, false, false, false, false, false, false, false, false, false, false, false, false, false, false, false, false, false, false, false, false, false, false, false, false, false]) (by kernel_rfl) ?_
  (refine wpAnyH_ready (rs := [1]) (by kernel_rfl) (by simp) ?_; refine AllReadyH.cons rfl (fun K hK => ?_) AllReadyH.nil; go_simp; refine (HWB.out _ hHeld).mono ?_; rintro e y1 ⟨x, rfl, hox, hs⟩; refine hK.out _ _ ?_ (fun hHeldN => ?_); (focus ((try dsimp only); (exact hHeld.trans (hs.mono hHeld.size)))); clear hK K hHeld; have hHeld := hHeldN; clear hHeldN; (try simp only [Act.put, List.setIfInBounds_toArray, List.set_cons_zero, List.set_cons_succ, List.getElem_toArray, List.getElem_cons_zero, List.getElem_cons_succ]))
  obtain ⟨xa, xc, rfl⟩ := hox.form
  have HX1 := Lib.hid hox.bytes
  obtain ⟨xn, hxn⟩ : ∃ n, n = (msgL m B).length := ⟨_, rfl⟩
  rw [← hxn] at HX1 ⊢
  have HBX := Lib.hid hHeld
  clear hs hox hHeld hxn
  refine wpAnyH_str (S' := fun w' => Below y1.heap.size y1 w') (fun w' h => HBX.out.trans (h.mono HBX.out.size)) _ _ _ _ ?_
  have hHeld := Below.refl y1.heap.size y1
  have HRm1 := Lib.hid (HRm.out.later HBX.out)
  have HRo1 := Lib.hid (HRo.out.later HBX.out)
  refine wpAnyH_at (m := #[true, true, false, true, false, false, false, false, false, false, false, false, false, false, false, false, false, false, false, false, false, false, false, false, false, false, false, false, false, false, false, false, false]) (by kernel_rfl) ?_
  (refine wpAnyH_take (i := 2) (v := ?_) rfl (by kernel_rfl) (by kernel_rfl) (by kernel_rfl) (fun _ _ _ h => h) (Or.inl ⟨by rfl, ?_⟩) hHeld ?_; rotate_left; (focus (intro w hSw; (try dsimp only at hSw); go_simp; (have hz := (Bytes.later HX1.out hSw).str (P := Try.prog) (src := 22) (dst := 9) Try.underlying22 Try.underlying5 Try.underlying9; rw [hK] at hz; go_simp; try with_reducible rfl))); (try simp only [Act.put, List.setIfInBounds_toArray, List.set_cons_zero, List.set_cons_succ, List.getElem_toArray, List.getElem_cons_zero, List.getElem_cons_succ]))
  refine wpAnyH_at (m := #[true, true, true, true, false, false, false, false, false, false, false, false, false, false, false, false, false, false, false, false, false, false, false, false, false, false, false, false, false, false, false, false, false]) (by kernel_rfl) ?_
  (refine wpAnyH_ready (rs := [4]) (by kernel_rfl) (by simp) ?_; refine AllReadyH.cons rfl (fun K hK => ?_) AllReadyH.nil; go_simp; refine (HWR.out _ (HBX.out.trans (hHeld.mono HBX.out.size))).mono ?_; rintro e y2 ⟨y, rfl, hoy, hs⟩; refine hK.out _ _ ?_ (fun hHeldN => ?_); (focus ((try dsimp only); (exact hHeld.trans (hs.mono hHeld.size)))); clear hK K hHeld; have hHeld := hHeldN; clear hHeldN; (try simp only [Act.put, List.setIfInBounds_toArray, List.set_cons_zero, List.set_cons_succ, List.getElem_toArray, List.getElem_cons_zero, List.getElem_cons_succ]))
  have HY1 := Lib.hid hoy.bytes
  have HBY := Lib.hid hHeld
  clear hs hoy hHeld
  refine wpAnyH_str (S' := fun w' => Below y2.heap.size y2 w') (fun w' h => HBY.out.trans (h.mono HBY.out.size)) _ _ _ _ ?_
  have hHeld := Below.refl y2.heap.size y2
  have HRm2 := Lib.hid (HRm1.out.later HBY.out)
  have HRo2 := Lib.hid (HRo1.out.later HBY.out)
  have HT := Lib.hid (HBX.out.trans (HBY.out.mono HBX.out.size))
  clear HRm1 HRo1
  refine wpAnyH_at (m := #[true, true, true, true, true, false, false, false, false, false, false, false, false, false, false, false, false, false, false, false, false, false, false, false, false, false, false, false, false, false, false, false, false]) (by kernel_rfl) ?_
  (refine wpAnyH_take (i := 5) (v := ?_) rfl (by kernel_rfl) (by kernel_rfl) (by kernel_rfl) (fun _ _ _ h => h) (Or.inl ⟨by rfl, ?_⟩) hHeld ?_; rotate_left; (focus (intro w hSw; (try dsimp only at hSw); go_simp; (have hz := (Bytes.later HY1.out hSw).str (P := Try.prog) (src := 22) (dst := 9) Try.underlying22 Try.underlying5 Try.underlying9; rw [hK] at hz; go_simp; try with_reducible rfl))); (try simp only [Act.put, List.setIfInBounds_toArray, List.set_cons_zero, List.set_cons_succ, List.getElem_toArray, List.getElem_cons_zero, List.getElem_cons_succ]))
  (refine wpAnyH_take (i := 6) (v := ?_) rfl (by kernel_rfl) (by kernel_rfl) (by kernel_rfl) (fun _ _ _ h => h) (Or.inl ⟨by rfl, ?_⟩) hHeld ?_; rotate_left; (focus (intro w hSw; (try dsimp only at hSw); go_simp; try with_reducible rfl)); (try simp only [Act.put, List.setIfInBounds_toArray, List.set_cons_zero, List.set_cons_succ, List.getElem_toArray, List.getElem_cons_zero, List.getElem_cons_succ])); (refine wpAnyH_take (i := 7) (v := ?_) rfl (by kernel_rfl) (by kernel_rfl) (by kernel_rfl) (fun _ _ _ h => h) (Or.inl ⟨by rfl, ?_⟩) hHeld ?_; rotate_left; (focus (intro w hSw; (try dsimp only at hSw); go_simp; try with_reducible rfl)); (try simp only [Act.put, List.setIfInBounds_toArray, List.set_cons_zero, List.set_cons_succ, List.getElem_toArray, List.getElem_cons_zero, List.getElem_cons_succ]))
  refine wpAnyH_at (m := #[true, true, true, true, true, true, true, true, false, false, false, false, false, false, false, false, false, false, false, false, false, false, false, false, false, false, false, false, false, false, false, false, false]) (by kernel_rfl) ?_
  (refine wpAnyH_take (i := 8) (v := ?_) rfl (by kernel_rfl) (by kernel_rfl) (by kernel_rfl) (fun _ _ _ h => h) (Or.inl ⟨by rfl, ?_⟩) hHeld ?_; rotate_left; (focus (intro w hSw; (try dsimp only at hSw); go_simp; (have hq := BlkAt.later HRm2.out hSw; have c0 := BlkAt.cell hq (j := 0) rfl; have c1 := BlkAt.cell hq (j := 1) rfl; have c2 := BlkAt.cell hq (j := 2) rfl; have c3 := BlkAt.cell hq (j := 3) rfl; have c4 := BlkAt.cell hq (j := 4) rfl; have c5 := BlkAt.cell hq (j := 5) rfl; have c6 := BlkAt.cell hq (j := 6) rfl; go_simp; try with_reducible rfl))); (try simp only [Act.put, List.setIfInBounds_toArray, List.set_cons_zero, List.set_cons_succ, List.getElem_toArray, List.getElem_cons_zero, List.getElem_cons_succ]))
  (refine wpAnyH_take (i := 9) (v := ?_) rfl (by kernel_rfl) (by kernel_rfl) (by kernel_rfl) (fun _ _ _ h => h) (Or.inl ⟨by rfl, ?_⟩) hHeld ?_; rotate_left; (focus (intro w hSw; (try dsimp only at hSw); go_simp; (have hq := BlkAt.later HRo2.out hSw; have c0 := BlkAt.cell hq (j := 0) rfl; have c1 := BlkAt.cell hq (j := 1) rfl; have c2 := BlkAt.cell hq (j := 2) rfl; have c3 := BlkAt.cell hq (j := 3) rfl; have c4 := BlkAt.cell hq (j := 4) rfl; have c5 := BlkAt.cell hq (j := 5) rfl; have c6 := BlkAt.cell hq (j := 6) rfl; go_simp; try with_reducible rfl))); (try simp only [Act.put, List.setIfInBounds_toArray, List.set_cons_zero, List.set_cons_succ, List.getElem_toArray, List.getElem_cons_zero, List.getElem_cons_succ]))
  (refine wpAnyH_take (i := 11) (v := ?_) rfl (by kernel_rfl) (by kernel_rfl) (by kernel_rfl) (fun _ _ _ h => h) (Or.inl ⟨by rfl, ?_⟩) hHeld ?_; rotate_left; (focus (intro w hSw; (try dsimp only at hSw); go_simp; (have hq := BlkAt.later HRm2.out hSw; have c0 := BlkAt.cell hq (j := 0) rfl; have c1 := BlkAt.cell hq (j := 1) rfl; have c2 := BlkAt.cell hq (j := 2) rfl; have c3 := BlkAt.cell hq (j := 3) rfl; have c4 := BlkAt.cell hq (j := 4) rfl; have c5 := BlkAt.cell hq (j := 5) rfl; have c6 := BlkAt.cell hq (j := 6) rfl; go_simp; try with_reducible rfl))); (try simp only [Act.put, List.setIfInBounds_toArray, List.set_cons_zero, List.set_cons_succ, List.getElem_toArray, List.getElem_cons_zero, List.getElem_cons_succ]))
  (refine wpAnyH_take (i := 12) (v := ?_) rfl (by kernel_rfl) (by kernel_rfl) (by kernel_rfl) (fun _ _ _ h => h) (Or.inl ⟨by rfl, ?_⟩) hHeld ?_; rotate_left; (focus (intro w hSw; (try dsimp only at hSw); go_simp; (have hq := BlkAt.later HRo2.out hSw; have c0 := BlkAt.cell hq (j := 0) rfl; have c1 := BlkAt.cell hq (j := 1) rfl; have c2 := BlkAt.cell hq (j := 2) rfl; have c3 := BlkAt.cell hq (j := 3) rfl; have c4 := BlkAt.cell hq (j := 4) rfl; have c5 := BlkAt.cell hq (j := 5) rfl; have c6 := BlkAt.cell hq (j := 6) rfl; go_simp; try with_reducible rfl))); (try simp only [Act.put, List.setIfInBounds_toArray, List.set_cons_zero, List.set_cons_succ, List.getElem_toArray, List.getElem_cons_zero, List.getElem_cons_succ]))
  refine wpAnyH_at (m := #[true, true, true, true, true, true, true, true, true, true, false, true, true, false, false, false, false, false, false, false, false, false, false, false, false, false, false, false, false, false, false, false, false]) (by kernel_rfl) ?_
  (refine wpAnyH_ready (rs := [10]) (by kernel_rfl) (by simp) ?_; refine AllReadyH.cons rfl (fun K hK => ?_) AllReadyH.nil; go_simp; refine (HSW.out _ (HT.out.trans (hHeld.mono HT.out.size))).mono ?_; rintro e y3 ⟨rfl, hs⟩; refine hK.out _ _ ?_ (fun hHeldN => ?_); (focus ((try dsimp only); (exact hHeld.trans (hs.mono hHeld.size)))); clear hK K hHeld; have hHeld := hHeldN; clear hHeldN; (try simp only [Act.put, List.setIfInBounds_toArray, List.set_cons_zero, List.set_cons_succ, List.getElem_toArray, List.getElem_cons_zero, List.getElem_cons_succ]))
  clear hs
  refine wpAnyH_at (m := #[true, true, true, true, true, true, true, true, true, true, true, true, true, false, false, false, false, false, false, false, false, false, false, false, false, false, false, false, false, false, false, false, false]) (by kernel_rfl) ?_
  (refine wpAnyH_ready (rs := [13]) (by kernel_rfl) (by simp) ?_; refine AllReadyH.cons rfl (fun K hK => ?_) AllReadyH.nil; go_simp; refine (HSR.out _ (HT.out.trans (hHeld.mono HT.out.size))).mono ?_; rintro e y4 ⟨rfl, hs⟩; refine hK.out _ _ ?_ (fun hHeldN => ?_); (focus ((try dsimp only); (exact hHeld.trans (hs.mono hHeld.size)))); clear hK K hHeld; have hHeld := hHeldN; clear hHeldN; (try simp only [Act.put, List.setIfInBounds_toArray, List.set_cons_zero, List.set_cons_succ, List.getElem_toArray, List.getElem_cons_zero, List.getElem_cons_succ]))
  clear hs
  refine wpAnyH_at (m := #[true, true, true, true, true, true, true, true, true, true, true, true, true, true, false, false, false, false, false, false, false, false, false, false, false, false, false, false, false, false, false, false, false]) (by kernel_rfl) ?_
  (refine wpAnyH_take (i := 14) (v := ?_) rfl (by kernel_rfl) (by kernel_rfl) (by kernel_rfl) (fun _ _ _ h => h) (Or.inl ⟨by rfl, ?_⟩) hHeld ?_; rotate_left; (focus (intro w hSw; (try dsimp only at hSw); go_simp; try with_reducible rfl)); (try simp only [Act.put, List.setIfInBounds_toArray, List.set_cons_zero, List.set_cons_succ, List.getElem_toArray, List.getElem_cons_zero, List.getElem_cons_succ])); (refine wpAnyH_take (i := 15) (v := ?_) rfl (by kernel_rfl) (by kernel_rfl) (by kernel_rfl) (fun _ _ _ h => h) (Or.inl ⟨by rfl, ?_⟩) hHeld ?_; rotate_left; (focus (intro w hSw; (try dsimp only at hSw); go_simp; try with_reducible rfl)); (try simp only [Act.put, List.setIfInBounds_toArray, List.set_cons_zero, List.set_cons_succ, List.getElem_toArray, List.getElem_cons_zero, List.getElem_cons_succ])); (refine wpAnyH_take (i := 16) (v := ?_) rfl (by kernel_rfl) (by kernel_rfl) (by kernel_rfl) (fun _ _ _ h => h) (Or.inl ⟨by rfl, ?_⟩) hHeld ?_; rotate_left; (focus (intro w hSw; (try dsimp only at hSw); go_simp; try with_reducible rfl)); (try simp only [Act.put, List.setIfInBounds_toArray, List.set_cons_zero, List.set_cons_succ, List.getElem_toArray, List.getElem_cons_zero, List.getElem_cons_succ]))
  refine wpAnyH_at (m := #[true, true, true, true, true, true, true, true, true, true, true, true, true, true, true, true, true, false, false, false, false, false, false, false, false, false, false, false, false, false, false, false, false]) (by kernel_rfl) ?_
  (refine wpAnyH_take (i := 17) (v := ?_) rfl (by kernel_rfl) (by kernel_rfl) (by kernel_rfl) (fun _ _ _ h => h) (Or.inl ⟨by rfl, ?_⟩) hHeld ?_; rotate_left; (focus (intro w hSw; (try dsimp only at hSw); go_simp; (have hq := BlkAt.later HRm2.out hSw; have c0 := BlkAt.cell hq (j := 0) rfl; have c1 := BlkAt.cell hq (j := 1) rfl; have c2 := BlkAt.cell hq (j := 2) rfl; have c3 := BlkAt.cell hq (j := 3) rfl; have c4 := BlkAt.cell hq (j := 4) rfl; have c5 := BlkAt.cell hq (j := 5) rfl; have c6 := BlkAt.cell hq (j := 6) rfl; go_simp; try with_reducible rfl))); (try simp only [Act.put, List.setIfInBounds_toArray, List.set_cons_zero, List.set_cons_succ, List.getElem_toArray, List.getElem_cons_zero, List.getElem_cons_succ]))
  (refine wpAnyH_take (i := 18) (v := ?_) rfl (by kernel_rfl) (by kernel_rfl) (by kernel_rfl) (fun _ _ _ h => h) (Or.inl ⟨by rfl, ?_⟩) hHeld ?_; rotate_left; (focus (intro w hSw; (try dsimp only at hSw); go_simp; (have hq := BlkAt.later HRm2.out hSw; have c0 := BlkAt.cell hq (j := 0) rfl; have c1 := BlkAt.cell hq (j := 1) rfl; have c2 := BlkAt.cell hq (j := 2) rfl; have c3 := BlkAt.cell hq (j := 3) rfl; have c4 := BlkAt.cell hq (j := 4) rfl; have c5 := BlkAt.cell hq (j := 5) rfl; have c6 := BlkAt.cell hq (j := 6) rfl; go_simp; try with_reducible rfl))); (try simp only [Act.put, List.setIfInBounds_toArray, List.set_cons_zero, List.set_cons_succ, List.getElem_toArray, List.getElem_cons_zero, List.getElem_cons_succ]))
  refine wpAnyH_at (m := #[true, true, true, true, true, true, true, true, true, true, true, true, true, true, true, true, true, true, true, false, false, false, false, false, false, false, false, false, false, false, false, false, false]) (by kernel_rfl) ?_
  (refine wpAnyH_ready (rs := [19]) (by kernel_rfl) (by simp) ?_; refine AllReadyH.cons rfl (fun K hK => ?_) AllReadyH.nil; go_simp; refine (HSS.out _ (HT.out.trans (hHeld.mono HT.out.size))).mono ?_; rintro e y5 ⟨rfl, hs⟩; refine hK.out _ _ ?_ (fun hHeldN => ?_); (focus ((try dsimp only); (exact hHeld.trans (hs.mono hHeld.size)))); clear hK K hHeld; have hHeld := hHeldN; clear hHeldN; (try simp only [Act.put, List.setIfInBounds_toArray, List.set_cons_zero, List.set_cons_succ, List.getElem_toArray, List.getElem_cons_zero, List.getElem_cons_succ]))
  clear hs
  refine wpAnyH_at (m := #[true, true, true, true, true, true, true, true, true, true, true, true, true, true, true, true, true, true, true, true, false, false, false, false, false, false, false, false, false, false, false, false, false]) (by kernel_rfl) ?_
  (refine wpAnyH_take (i := 20) (v := ?_) rfl (by kernel_rfl) (by kernel_rfl) (by kernel_rfl) (fun _ _ _ h => h) (Or.inl ⟨by rfl, ?_⟩) hHeld ?_; rotate_left; (focus (intro w hSw; (try dsimp only at hSw); go_simp; try with_reducible rfl)); (try simp only [Act.put, List.setIfInBounds_toArray, List.set_cons_zero, List.set_cons_succ, List.getElem_toArray, List.getElem_cons_zero, List.getElem_cons_succ])); (refine wpAnyH_take (i := 21) (v := ?_) rfl (by kernel_rfl) (by kernel_rfl) (by kernel_rfl) (fun _ _ _ h => h) (Or.inl ⟨by rfl, ?_⟩) hHeld ?_; rotate_left; (focus (intro w hSw; (try dsimp only at hSw); go_simp; try with_reducible rfl)); (try simp only [Act.put, List.setIfInBounds_toArray, List.set_cons_zero, List.set_cons_succ, List.getElem_toArray, List.getElem_cons_zero, List.getElem_cons_succ]))
  refine wpAnyH_at (m := #[true, true, true, true, true, true, true, true, true, true, true, true, true, true, true, true, true, true, true, true, true, true, false, false, false, false, false, false, false, false, false, false, false]) (by kernel_rfl) ?_
  (refine wpAnyH_take (i := 22) (v := ?_) rfl (by kernel_rfl) (by kernel_rfl) (by kernel_rfl) (fun _ _ _ h => h) (Or.inl ⟨by rfl, ?_⟩) hHeld ?_; rotate_left; (focus (intro w hSw; (try dsimp only at hSw); go_simp; (have hq := BlkAt.later HRm2.out hSw; have c0 := BlkAt.cell hq (j := 0) rfl; have c1 := BlkAt.cell hq (j := 1) rfl; have c2 := BlkAt.cell hq (j := 2) rfl; have c3 := BlkAt.cell hq (j := 3) rfl; have c4 := BlkAt.cell hq (j := 4) rfl; have c5 := BlkAt.cell hq (j := 5) rfl; have c6 := BlkAt.cell hq (j := 6) rfl; go_simp; try with_reducible rfl))); (try simp only [Act.put, List.setIfInBounds_toArray, List.set_cons_zero, List.set_cons_succ, List.getElem_toArray, List.getElem_cons_zero, List.getElem_cons_succ]))
  (refine wpAnyH_take (i := 24) (v := ?_) rfl (by kernel_rfl) (by kernel_rfl) (by kernel_rfl) (fun _ _ _ h => h) (Or.inl ⟨by rfl, ?_⟩) hHeld ?_; rotate_left; (focus (intro w hSw; (try dsimp only at hSw); go_simp; try with_reducible rfl)); (try simp only [Act.put, List.setIfInBounds_toArray, List.set_cons_zero, List.set_cons_succ, List.getElem_toArray, List.getElem_cons_zero, List.getElem_cons_succ]))
  (refine wpAnyH_take (i := 25) (v := ?_) rfl (by kernel_rfl) (by kernel_rfl) (by kernel_rfl) (fun _ _ _ h => h) (Or.inl ⟨by rfl, ?_⟩) hHeld ?_; rotate_left; (focus (intro w hSw; (try dsimp only at hSw); go_simp; (have hcc := BlkAt.cell (BlkAt.later HRm2.out hSw) (j := 0) rfl; go_simp; try with_reducible rfl))); (try simp only [Act.put, List.setIfInBounds_toArray, List.set_cons_zero, List.set_cons_succ, List.getElem_toArray, List.getElem_cons_zero, List.getElem_cons_succ]))
  refine wpAnyH_at (m := #[true, true, true, true, true, true, true, true, true, true, true, true, true, true, true, true, true, true, true, true, true, true, true, false, true, true, false, false, false, false, false, false, false]) (by kernel_rfl) ?_
  (refine wpAnyH_ready (rs := [23]) (by kernel_rfl) (by simp) ?_; refine AllReadyH.cons rfl (fun K hK => ?_) AllReadyH.nil; go_simp; refine (HIW.out _).mono ?_; rintro e y6 ⟨rfl, hs⟩; refine hK.out _ _ ?_ (fun hHeldN => ?_); (focus ((try dsimp only); (exact hHeld.trans (hs.mono hHeld.size)))); clear hK K hHeld; have hHeld := hHeldN; clear hHeldN; (try simp only [Act.put, List.setIfInBounds_toArray, List.set_cons_zero, List.set_cons_succ, List.getElem_toArray, List.getElem_cons_zero, List.getElem_cons_succ]))
  clear hs
  refine wpAnyH_at (m := #[true, true, true, true, true, true, true, true, true, true, true, true, true, true, true, true, true, true, true, true, true, true, true, true, true, true, false, false, false, false, false, false, false]) (by kernel_rfl) ?_
  (refine wpAnyH_ready (rs := [26]) (by kernel_rfl) (by simp) ?_; refine AllReadyH.cons rfl (fun K hK => ?_) AllReadyH.nil; go_simp; refine (HIR.out _).mono ?_; rintro e y7 ⟨rfl, rfl⟩; refine hK.out _ _ ?_ (fun hHeldN => ?_); (focus ((try dsimp only); (exact hHeld))); clear hK K hHeld; have hHeld := hHeldN; clear hHeldN; (try simp only [Act.put, List.setIfInBounds_toArray, List.set_cons_zero, List.set_cons_succ, List.getElem_toArray, List.getElem_cons_zero, List.getElem_cons_succ]))
  refine wpAnyH_at (m := #[true, true, true, true, true, true, true, true, true, true, true, true, true, true, true, true, true, true, true, true, true, true, true, true, true, true, true, false, false, false, false, false, false]) (by kernel_rfl) ?_
  (refine wpAnyH_take (i := 27) (v := ?_) rfl (by kernel_rfl) (by kernel_rfl) (by kernel_rfl) (fun _ _ _ h => h) (Or.inl ⟨by rfl, ?_⟩) hHeld ?_; rotate_left; (focus (intro w hSw; (try dsimp only at hSw); go_simp; try with_reducible rfl)); (try simp only [Act.put, List.setIfInBounds_toArray, List.set_cons_zero, List.set_cons_succ, List.getElem_toArray, List.getElem_cons_zero, List.getElem_cons_succ])); (refine wpAnyH_take (i := 28) (v := ?_) rfl (by kernel_rfl) (by kernel_rfl) (by kernel_rfl) (fun _ _ _ h => h) (Or.inl ⟨by rfl, ?_⟩) hHeld ?_; rotate_left; (focus (intro w hSw; (try dsimp only at hSw); go_simp; try with_reducible rfl)); (try simp only [Act.put, List.setIfInBounds_toArray, List.set_cons_zero, List.set_cons_succ, List.getElem_toArray, List.getElem_cons_zero, List.getElem_cons_succ])); (refine wpAnyH_take (i := 29) (v := ?_) rfl (by kernel_rfl) (by kernel_rfl) (by kernel_rfl) (fun _ _ _ h => h) (Or.inl ⟨by rfl, ?_⟩) hHeld ?_; rotate_left; (focus (intro w hSw; (try dsimp only at hSw); go_simp; try with_reducible rfl)); (try simp only [Act.put, List.setIfInBounds_toArray, List.set_cons_zero, List.set_cons_succ, List.getElem_toArray, List.getElem_cons_zero, List.getElem_cons_succ]))
  refine wpAnyH_at (m := #[true, true, true, true, true, true, true, true, true, true, true, true, true, true, true, true, true, true, true, true, true, true, true, true, true, true, true, true, true, true, false, false, false]) (by kernel_rfl) ?_
  (refine wpAnyH_ready (rs := [30]) (by kernel_rfl) (by simp) ?_; refine AllReadyH.cons rfl (fun K hK => ?_) AllReadyH.nil; go_simp; refine (known4_any _).mono ?_; rintro e y8 ⟨rfl, hs⟩; refine hK.out _ _ ?_ (fun hHeldN => ?_); (focus ((try dsimp only); (exact hHeld.trans (hs.mono hHeld.size)))); clear hK K hHeld; have hHeld := hHeldN; clear hHeldN; (try simp only [Act.put, List.setIfInBounds_toArray, List.set_cons_zero, List.set_cons_succ, List.getElem_toArray, List.getElem_cons_zero, List.getElem_cons_succ]))
  clear hs
  refine wpAnyH_at (m := #[true, true, true, true, true, true, true, true, true, true, true, true, true, true, true, true, true, true, true, true, true, true, true, true, true, true, true, true, true, true, true, false, false]) (by kernel_rfl) ?_
  (refine wpAnyH_take (i := 31) (v := ?_) rfl (by kernel_rfl) (by kernel_rfl) (by kernel_rfl) (fun _ _ _ h => h) (Or.inl ⟨by rfl, ?_⟩) hHeld ?_; rotate_left; (focus (intro w hSw; (try dsimp only at hSw); go_simp; try with_reducible rfl)); (try simp only [Act.put, List.setIfInBounds_toArray, List.set_cons_zero, List.set_cons_succ, List.getElem_toArray, List.getElem_cons_zero, List.getElem_cons_succ])); (refine wpAnyH_take (i := 32) (v := ?_) rfl (by kernel_rfl) (by kernel_rfl) (by kernel_rfl) (fun _ _ _ h => h) (Or.inl ⟨by rfl, ?_⟩) hHeld ?_; rotate_left; (focus (intro w hSw; (try dsimp only at hSw); go_simp; try with_reducible rfl)); (try simp only [Act.put, List.setIfInBounds_toArray, List.set_cons_zero, List.set_cons_succ, List.getElem_toArray, List.getElem_cons_zero, List.getElem_cons_succ]))
  refine wpAnyH_done (by kernel_rfl) ?_ _
  have HBZ := Lib.hid (HBM.out.trans ((HT.out.trans (hHeld.mono HT.out.size)).mono HBM.out.size))
  clear hHeld
  go_wp2_with fail
  go_ret
  exact ⟨rfl, HBZ.out⟩
set_option maxHeartbeats 8000000 in
set_option maxRecDepth 100000 in
theorem eb_n (m o : Mg) (a a' pa : Option Addr) (c c' pc bn cn pn : Nat) (B C l : List UInt8) (w : World) (hm : m.Ok) (ho : o.Ok) (hbn : bn = B.length) (hcn : cn = C.length) (hpn : pn = l.length) (hB : Bytes w (.slice a bn c) B) (hC : Bytes w (.slice a' cn c') C) (hv : Bytes w (.slice pa pn pc) l) (h1 : (bn : Int) ≤ 9000) (h2 : (cn : Int) ≤ 9000) (h3 : (pn : Int) ≤ 9000) (hok : okM l = false) :
    Calls Try.prog 5 #[.agg #[.int .u8 (m.ty : Nat), .int .u8 (m.co : Nat), .int .u8 (m.r0 : Nat), .int .u8 (m.r1 : Nat), .int .u8 (m.r2 : Nat), .int .u8 (m.r3 : Nat), .slice a bn c], .agg #[.int .u8 (o.ty : Nat), .int .u8 (o.co : Nat), .int .u8 (o.r0 : Nat), .int .u8 (o.r1 : Nat), .int .u8 (o.r2 : Nat), .int .u8 (o.r3 : Nat), .slice a' cn c'], .slice pa pn pc] w fun e w' => e = .returned (.bool true) ∧ Below w.heap.size w w' := by
  obtain ⟨wb, hwb⟩ : ∃ wb, wb = ((w.alloc (.cells #[.int .u8 (m.ty : Nat), .int .u8 (m.co : Nat), .int .u8 (m.r0 : Nat), .int .u8 (m.r1 : Nat), .int .u8 (m.r2 : Nat), .int .u8 (m.r3 : Nat), .slice a bn c] 46)).alloc (.cells #[.int .u8 (o.ty : Nat), .int .u8 (o.co : Nat), .int .u8 (o.r0 : Nat), .int .u8 (o.r1 : Nat), .int .u8 (o.r2 : Nat), .int .u8 (o.r3 : Nat), .slice a' cn c'] 46)) := ⟨_, rfl⟩
  have hBW : Below w.heap.size w wb := by rw [hwb]; go_grown
  have HRm0 : Hid (BlkAt 46 w.heap.size [.int .u8 (m.ty : Nat), .int .u8 (m.co : Nat), .int .u8 (m.r0 : Nat), .int .u8 (m.r1 : Nat), .int .u8 (m.r2 : Nat), .int .u8 (m.r3 : Nat), .slice a bn c] wb) := by rw [hwb]; exact (BlkAt.new w _).later ((Below.refl _ _).alloc (Nat.le_refl _) _)
  have HRo0 : Hid (BlkAt 46 (w.heap.size + 1) [.int .u8 (o.ty : Nat), .int .u8 (o.co : Nat), .int .u8 (o.r0 : Nat), .int .u8 (o.r1 : Nat), .int .u8 (o.r2 : Nat), .int .u8 (o.r3 : Nat), .slice a' cn c'] wb) := by
    rw [hwb]
    have h := BlkAt.new (t := 46) (w.alloc (.cells #[.int .u8 (m.ty : Nat), .int .u8 (m.co : Nat), .int .u8 (m.r0 : Nat), .int .u8 (m.r1 : Nat), .int .u8 (m.r2 : Nat), .int .u8 (m.r3 : Nat), .slice a bn c] 46)) [.int .u8 (o.ty : Nat), .int .u8 (o.co : Nat), .int .u8 (o.r0 : Nat), .int .u8 (o.r1 : Nat), .int .u8 (o.r2 : Nat), .int .u8 (o.r3 : Nat), .slice a' cn c']
    rw [World.size_alloc] at h
    exact h
  have HBW := Lib.hid hBW
  have HB : Hid (Bytes wb (.slice a bn c) B) := hB.later hBW
  have HC : Hid (Bytes wb (.slice a' cn c') C) := hC.later hBW
  have HV : Hid (Bytes wb (.slice pa pn pc) l) := hv.later hBW
  have HWB0 : Hid (∀ W, Below wb.heap.size wb W → Calls Try.prog 31 #[.agg #[.int .u8 (m.ty : Nat), .int .u8 (m.co : Nat), .int .u8 (m.r0 : Nat), .int .u8 (m.r1 : Nat), .int .u8 (m.r2 : Nat), .int .u8 (m.r3 : Nat), .slice a bn c]] W fun e w' => ∃ v, e = .returned v ∧ OwnB w' W.heap.size v (msgL m B) ∧ Below W.heap.size W w') := fun W hb => by
    have h := bytesM_any m hm a c B W (by rw [← hbn]; exact HB.out.later hb) (by omega)
    rw [← hbn] at h; exact h
  have HWR0 : Hid (∀ W, Below wb.heap.size wb W → Calls Try.prog 32 #[.agg #[.int .u8 (m.ty : Nat), .int .u8 (m.co : Nat), .int .u8 (m.r0 : Nat), .int .u8 (m.r1 : Nat), .int .u8 (m.r2 : Nat), .int .u8 (m.r3 : Nat), .slice a bn c]] W fun e w' => ∃ v, e = .returned v ∧ OwnB w' W.heap.size v (msgL m B) ∧ Below W.heap.size W w') := fun W hb => by
    have h := bytesMR_any m hm a c B W (by rw [← hbn]; exact HB.out.later hb) (by omega)
    rw [← hbn] at h; exact h
  obtain ⟨sm, hsm⟩ : ∃ f, f = sameM m o B C := ⟨_, rfl⟩
  have HSW0 : Hid (∀ W, Below wb.heap.size wb W → Calls Try.prog 33 #[.agg #[.int .u8 (m.ty : Nat), .int .u8 (m.co : Nat), .int .u8 (m.r0 : Nat), .int .u8 (m.r1 : Nat), .int .u8 (m.r2 : Nat), .int .u8 (m.r3 : Nat), .slice a bn c], .agg #[.int .u8 (o.ty : Nat), .int .u8 (o.co : Nat), .int .u8 (o.r0 : Nat), .int .u8 (o.r1 : Nat), .int .u8 (o.r2 : Nat), .int .u8 (o.r3 : Nat), .slice a' cn c']] W fun e w' => e = .returned (.bool sm) ∧ Below W.heap.size W w') := fun W hb => by
    rw [hsm]; exact sameMW_any m o a a' c c' bn cn B C W (HB.out.later hb) (HC.out.later hb)
  have HSR0 : Hid (∀ W, Below wb.heap.size wb W → Calls Try.prog 29 #[.agg #[.int .u8 (m.ty : Nat), .int .u8 (m.co : Nat), .int .u8 (m.r0 : Nat), .int .u8 (m.r1 : Nat), .int .u8 (m.r2 : Nat), .int .u8 (m.r3 : Nat), .slice a bn c], .agg #[.int .u8 (o.ty : Nat), .int .u8 (o.co : Nat), .int .u8 (o.r0 : Nat), .int .u8 (o.r1 : Nat), .int .u8 (o.r2 : Nat), .int .u8 (o.r3 : Nat), .slice a' cn c']] W fun e w' => e = .returned (.bool sm) ∧ Below W.heap.size W w') := fun W hb => by
    rw [hsm]; exact sameMR_any m o a a' c c' bn cn B C W (HB.out.later hb) (HC.out.later hb)
  have HSS0 : Hid (∀ W, Below wb.heap.size wb W → Calls Try.prog 33 #[.agg #[.int .u8 (m.ty : Nat), .int .u8 (m.co : Nat), .int .u8 (m.r0 : Nat), .int .u8 (m.r1 : Nat), .int .u8 (m.r2 : Nat), .int .u8 (m.r3 : Nat), .slice a bn c], .agg #[.int .u8 (m.ty : Nat), .int .u8 (m.co : Nat), .int .u8 (m.r0 : Nat), .int .u8 (m.r1 : Nat), .int .u8 (m.r2 : Nat), .int .u8 (m.r3 : Nat), .slice a bn c]] W fun e w' => e = .returned (.bool true) ∧ Below W.heap.size W w') := fun W hb => by
    have h := sameMW_any m m a a c c bn bn B B W (HB.out.later hb) (HB.out.later hb)
    rw [sameM_refl] at h; exact h
  obtain ⟨eb, heb⟩ : ∃ f, f = errB m.ty := ⟨_, rfl⟩
  have HIW : Hid (∀ W, Calls Try.prog 34 #[.agg #[.int .u8 (m.ty : Nat), .int .u8 (m.co : Nat), .int .u8 (m.r0 : Nat), .int .u8 (m.r1 : Nat), .int .u8 (m.r2 : Nat), .int .u8 (m.r3 : Nat), .slice a bn c]] W fun e w' => e = .returned (.bool eb) ∧ Below W.heap.size W w') := fun W => by
    rw [heb]; exact isErrW_any m _ W ⟨_, _, _, rfl⟩
  have HIR : Hid (∀ W, Calls Try.prog 35 #[.int .u8 (m.ty : Nat)] W fun e w' => e = .returned (.bool eb) ∧ W = w') := fun W => by
    rw [heb]; exact isErrR_any m.ty W
  obtain ⟨q, hq⟩ : ∃ q, q = mgP l := ⟨_, rfl⟩
  obtain ⟨D, hD⟩ : ∃ q, q = bdP l := ⟨_, rfl⟩
  have HOW : Hid (∀ W, Below wb.heap.size wb W → Calls Try.prog 27 #[.slice pa pn pc] W fun e w' => ∃ u, e = .returned (.tuple #[.agg #[.int .u8 (q.ty : Nat), .int .u8 (q.co : Nat), .int .u8 (q.r0 : Nat), .int .u8 (q.r1 : Nat), .int .u8 (q.r2 : Nat), .int .u8 (q.r3 : Nat), u], .int .i64 4]) ∧ OwnB w' W.heap.size u D ∧ Below W.heap.size W w') := fun W hb => by
    have h := ofW_any _ l W (HV.out.later hb) (by omega)
    rw [show erP l = 4 from by unfold erP; rw [hok]; rfl, ← hq, ← hD] at h; exact h
  have HOR : Hid (∀ W, Below wb.heap.size wb W → Calls Try.prog 28 #[.slice pa pn pc] W fun e w' => ∃ u, e = .returned (.tuple #[.agg #[.int .u8 (q.ty : Nat), .int .u8 (q.co : Nat), .int .u8 (q.r0 : Nat), .int .u8 (q.r1 : Nat), .int .u8 (q.r2 : Nat), .int .u8 (q.r3 : Nat), u], .bool false]) ∧ Bytes w' u D ∧ Below W.heap.size W w') := fun W hb => by
    have h := ofR_any _ l W (HV.out.later hb) (by omega)
    rw [hok, ← hq, ← hD] at h; exact h
  clear hm ho hbn hcn hpn hB hC hv hok hBW hsm heb hq hD
  go_enter Try.func5, Try.ntmps5
  go_wp2_with fail
  rw [← hwb]
  clear hwb
  refine (HOW.out wb (Below.refl _ _)).mono ?_
  rintro e w1 ⟨u, rfl, hou, hb1⟩
  obtain ⟨ua, uc, rfl⟩ := hou.form
  obtain ⟨un, hun⟩ : ∃ n, n = D.length := ⟨_, rfl⟩
  rw [← hun] at hou ⊢
  have HU1 := Lib.hid hou.bytes
  have HB1 := Lib.hid (hb1.alloc hb1.size (.cells #[.int .u8 (q.ty : Nat), .int .u8 (q.co : Nat), .int .u8 (q.r0 : Nat), .int .u8 (q.r1 : Nat), .int .u8 (q.r2 : Nat), .int .u8 (q.r3 : Nat), .slice ua un uc] 46))
  have HU2 : Hid (Bytes (w1.alloc (.cells #[.int .u8 (q.ty : Nat), .int .u8 (q.co : Nat), .int .u8 (q.r0 : Nat), .int .u8 (q.r1 : Nat), .int .u8 (q.r2 : Nat), .int .u8 (q.r3 : Nat), .slice ua un uc] 46)) (.slice ua un uc) D) := hou.bytes.later ((Below.refl _ _).alloc (Nat.le_refl _) _)
  have HX := Lib.hid (BlkAt.new (t := 46) w1 [.int .u8 (q.ty : Nat), .int .u8 (q.co : Nat), .int .u8 (q.r0 : Nat), .int .u8 (q.r1 : Nat), .int .u8 (q.r2 : Nat), .int .u8 (q.r3 : Nat), .slice ua un uc])
  have HUN := Lib.hid hun
  clear hou hb1 hun
  go_wp2_with fail
  refine (HOR.out _ HB1.out).mono ?_
  rintro e w2 ⟨y, rfl, hby, hb2⟩
  obtain ⟨ya, yc, rfl⟩ := hby.form
  rw [← HUN.out] at hby ⊢
  have hb2' : Below wb.heap.size wb w2 := HB1.out.trans (hb2.mono HB1.out.size)
  have HB2 := Lib.hid (hb2'.alloc hb2'.size (.cells #[.int .u8 (q.ty : Nat), .int .u8 (q.co : Nat), .int .u8 (q.r0 : Nat), .int .u8 (q.r1 : Nat), .int .u8 (q.r2 : Nat), .int .u8 (q.r3 : Nat), .slice ya un yc] 46))
  have HS3 : Hid (∀ W, Below (w2.alloc (.cells #[.int .u8 (q.ty : Nat), .int .u8 (q.co : Nat), .int .u8 (q.r0 : Nat), .int .u8 (q.r1 : Nat), .int .u8 (q.r2 : Nat), .int .u8 (q.r3 : Nat), .slice ya un yc] 46)).heap.size (w2.alloc (.cells #[.int .u8 (q.ty : Nat), .int .u8 (q.co : Nat), .int .u8 (q.r0 : Nat), .int .u8 (q.r1 : Nat), .int .u8 (q.r2 : Nat), .int .u8 (q.r3 : Nat), .slice ya un yc] 46)) W → Calls Try.prog 29 #[.agg #[.int .u8 (q.ty : Nat), .int .u8 (q.co : Nat), .int .u8 (q.r0 : Nat), .int .u8 (q.r1 : Nat), .int .u8 (q.r2 : Nat), .int .u8 (q.r3 : Nat), .slice ua un uc], .agg #[.int .u8 (q.ty : Nat), .int .u8 (q.co : Nat), .int .u8 (q.r0 : Nat), .int .u8 (q.r1 : Nat), .int .u8 (q.r2 : Nat), .int .u8 (q.r3 : Nat), .slice ya un yc]] W fun e w' => e = .returned (.bool true) ∧ Below W.heap.size W w') := fun W hb => by
    have ha : Below w2.heap.size w2 (w2.alloc (.cells #[.int .u8 (q.ty : Nat), .int .u8 (q.co : Nat), .int .u8 (q.r0 : Nat), .int .u8 (q.r1 : Nat), .int .u8 (q.r2 : Nat), .int .u8 (q.r3 : Nat), .slice ya un yc] 46)) := (Below.refl _ _).alloc (Nat.le_refl _) _
    have h := sameMR_any q q ua ya uc yc un un D D W (((HU2.out.later hb2).later ha).later hb) ((hby.later ha).later hb)
    rw [sameM_refl] at h; exact h
  have hx := (HX.out.later hb2).later ((Below.refl _ _).alloc (Nat.le_refl _) (.cells #[.int .u8 (q.ty : Nat), .int .u8 (q.co : Nat), .int .u8 (q.r0 : Nat), .int .u8 (q.r1 : Nat), .int .u8 (q.r2 : Nat), .int .u8 (q.r3 : Nat), .slice ya un yc] 46))
  have x0 := hx.cell (j := 0) rfl
  have x1 := hx.cell (j := 1) rfl
  have x2 := hx.cell (j := 2) rfl
  have x3 := hx.cell (j := 3) rfl
  have x4 := hx.cell (j := 4) rfl
  have x5 := hx.cell (j := 5) rfl
  have x6 := hx.cell (j := 6) rfl
  clear hby hb2 hb2' hx
  go_wp2_with fail
  refine (HS3.out _ (Below.refl _ _)).mono ?_
  rintro e w3 ⟨rfl, hb3⟩
  have HB3 := Lib.hid (HB2.out.trans (hb3.mono HB2.out.size))
  clear hb3 x0 x1 x2 x3 x4 x5 x6
  go_wp2_with fail
  refine (num4_any 4 w3).mono ?_
  rintro e w3 ⟨rfl, rfl⟩
  go_wp2_with fail
  refine (num4_any 4 w3).mono ?_
  rintro e w3 ⟨rfl, rfl⟩
  go_wp2_with fail
  have HRm := Lib.hid (HRm0.out.later HB3.out)
  have HRo := Lib.hid (HRo0.out.later HB3.out)
  have HWB := Lib.hid (fun W (hb : Below w3.heap.size w3 W) => HWB0.out W (HB3.out.trans (hb.mono HB3.out.size)))
  have HWR := Lib.hid (fun W (hb : Below w3.heap.size w3 W) => HWR0.out W (HB3.out.trans (hb.mono HB3.out.size)))
  have HSW := Lib.hid (fun W (hb : Below w3.heap.size w3 W) => HSW0.out W (HB3.out.trans (hb.mono HB3.out.size)))
  have HSR := Lib.hid (fun W (hb : Below w3.heap.size w3 W) => HSR0.out W (HB3.out.trans (hb.mono HB3.out.size)))
  have HSS := Lib.hid (fun W (hb : Below w3.heap.size w3 W) => HSS0.out W (HB3.out.trans (hb.mono HB3.out.size)))
  have HBM := Lib.hid (HBW.out.trans (HB3.out.mono HBW.out.size))
  have hss : (sm == sm) = true := by simp
  have hee : (eb == eb) = true := by simp
  obtain ⟨K, hK⟩ : ∃ K, (msgL m B) = K := ⟨_, rfl⟩
  clear HRm0 HRo0 HWB0 HWR0 HSW0 HSR0 HSS0
  (refine wp_region_held_drew (S := (fun w' => Below w3.heap.size w3 w')) (by kernel_rfl) ?_ (fun hHeld => ?_); (focus ((try dsimp only); (exact (Below.refl _ _).drew))))
  (try dsimp only at hHeld)
  obtain ⟨w0, hw0⟩ : ∃ w0, w0 = World.drew w3 := ⟨_, rfl⟩
  rw [← hw0]
  rw [← hw0] at hHeld
  clear hw0
  (refine wpAnyH_take (i := 0) (v := ?_) rfl (by kernel_rfl) (by kernel_rfl) (by kernel_rfl) (fun _ _ _ h => h) (Or.inl ⟨by rfl, ?_⟩) hHeld ?_; rotate_left; (focus (intro w hSw; (try dsimp only at hSw); go_simp; (have hq := BlkAt.later HRm.out hSw; have c0 := BlkAt.cell hq (j := 0) rfl; have c1 := BlkAt.cell hq (j := 1) rfl; have c2 := BlkAt.cell hq (j := 2) rfl; have c3 := BlkAt.cell hq (j := 3) rfl; have c4 := BlkAt.cell hq (j := 4) rfl; have c5 := BlkAt.cell hq (j := 5) rfl; have c6 := BlkAt.cell hq (j := 6) rfl; go_simp; try with_reducible rfl))); (try simp only [Act.put, List.setIfInBounds_toArray, List.set_cons_zero, List.set_cons_succ, List.getElem_toArray, List.getElem_cons_zero]))
  (refine wpAnyH_take (i := 3) (v := ?_) rfl (by kernel_rfl) (by kernel_rfl) (by kernel_rfl) (fun _ _ _ h => h) (Or.inl ⟨by rfl, ?_⟩) hHeld ?_; rotate_left; (focus (intro w hSw; (try dsimp only at hSw); go_simp; (have hq := BlkAt.later HRm.out hSw; have c0 := BlkAt.cell hq (j := 0) rfl; have c1 := BlkAt.cell hq (j := 1) rfl; have c2 := BlkAt.cell hq (j := 2) rfl; have c3 := BlkAt.cell hq (j := 3) rfl; have c4 := BlkAt.cell hq (j := 4) rfl; have c5 := BlkAt.cell hq (j := 5) rfl; have c6 := BlkAt.cell hq (j := 6) rfl; go_simp; try with_reducible rfl))); (try simp only [Act.put, List.setIfInBounds_toArray, List.set_cons_zero, List.set_cons_succ, List.getElem_toArray, List.getElem_cons_zero, List.getElem_cons_succ]))
  refine wpAnyH_at (m := #[true, false, false, true, false, false, false, false, false, false, false, false, false, false, false, false, false, false, false, false, false, false, false, false, false, false, false, false, false, false, false, false, false]) (by kernel_rfl) ?_
  (refine wpAnyH_ready (rs := [1]) (by kernel_rfl) (by simp) ?_; refine AllReadyH.cons rfl (fun K hK => ?_) AllReadyH.nil; go_simp; refine (HWB.out _ hHeld).mono ?_; rintro e y1 ⟨x, rfl, hox, hs⟩; refine hK.out _ _ ?_ (fun hHeldN => ?_); (focus ((try dsimp only); (exact hHeld.trans (hs.mono hHeld.size)))); clear hK K hHeld; have hHeld := hHeldN; clear hHeldN; (try simp only [Act.put, List.setIfInBounds_toArray, List.set_cons_zero, List.set_cons_succ, List.getElem_toArray, List.getElem_cons_zero, List.getElem_cons_succ]))
  obtain ⟨xa, xc, rfl⟩ := hox.form
  have HX1 := Lib.hid hox.bytes
  obtain ⟨xn, hxn⟩ : ∃ n, n = (msgL m B).length := ⟨_, rfl⟩
  rw [← hxn] at HX1 ⊢
  have HBX := Lib.hid hHeld
  clear hs hox hHeld hxn
  refine wpAnyH_str (S' := fun w' => Below y1.heap.size y1 w') (fun w' h => HBX.out.trans (h.mono HBX.out.size)) _ _ _ _ ?_
  have hHeld := Below.refl y1.heap.size y1
  have HRm1 := Lib.hid (HRm.out.later HBX.out)
  have HRo1 := Lib.hid (HRo.out.later HBX.out)
  refine wpAnyH_at (m := #[true, true, false, true, false, false, false, false, false, false, false, false, false, false, false, false, false, false, false, false, false, false, false, false, false, false, false, false, false, false, false, false, false]) (by kernel_rfl) ?_
  (refine wpAnyH_take (i := 2) (v := ?_) rfl (by kernel_rfl) (by kernel_rfl) (by kernel_rfl) (fun _ _ _ h => h) (Or.inl ⟨by rfl, ?_⟩) hHeld ?_; rotate_left; (focus (intro w hSw; (try dsimp only at hSw); go_simp; (have hz := (Bytes.later HX1.out hSw).str (P := Try.prog) (src := 22) (dst := 9) Try.underlying22 Try.underlying5 Try.underlying9; rw [hK] at hz; go_simp; try with_reducible rfl))); (try simp only [Act.put, List.setIfInBounds_toArray, List.set_cons_zero, List.set_cons_succ, List.getElem_toArray, List.getElem_cons_zero, List.getElem_cons_succ]))
  refine wpAnyH_at (m := #[true, true, true, true, false, false, false, false, false, false, false, false, false, false, false, false, false, false, false, false, false, false, false, false, false, false, false, false, false, false, false, false, false]) (by kernel_rfl) ?_
  (refine wpAnyH_ready (rs := [4]) (by kernel_rfl) (by simp) ?_; refine AllReadyH.cons rfl (fun K hK => ?_) AllReadyH.nil; go_simp; refine (HWR.out _ (HBX.out.trans (hHeld.mono HBX.out.size))).mono ?_; rintro e y2 ⟨y, rfl, hoy, hs⟩; refine hK.out _ _ ?_ (fun hHeldN => ?_); (focus ((try dsimp only); (exact hHeld.trans (hs.mono hHeld.size)))); clear hK K hHeld; have hHeld := hHeldN; clear hHeldN; (try simp only [Act.put, List.setIfInBounds_toArray, List.set_cons_zero, List.set_cons_succ, List.getElem_toArray, List.getElem_cons_zero, List.getElem_cons_succ]))
  have HY1 := Lib.hid hoy.bytes
  have HBY := Lib.hid hHeld
  clear hs hoy hHeld
  refine wpAnyH_str (S' := fun w' => Below y2.heap.size y2 w') (fun w' h => HBY.out.trans (h.mono HBY.out.size)) _ _ _ _ ?_
  have hHeld := Below.refl y2.heap.size y2
  have HRm2 := Lib.hid (HRm1.out.later HBY.out)
  have HRo2 := Lib.hid (HRo1.out.later HBY.out)
  have HT := Lib.hid (HBX.out.trans (HBY.out.mono HBX.out.size))
  clear HRm1 HRo1
  refine wpAnyH_at (m := #[true, true, true, true, true, false, false, false, false, false, false, false, false, false, false, false, false, false, false, false, false, false, false, false, false, false, false, false, false, false, false, false, false]) (by kernel_rfl) ?_
  (refine wpAnyH_take (i := 5) (v := ?_) rfl (by kernel_rfl) (by kernel_rfl) (by kernel_rfl) (fun _ _ _ h => h) (Or.inl ⟨by rfl, ?_⟩) hHeld ?_; rotate_left; (focus (intro w hSw; (try dsimp only at hSw); go_simp; (have hz := (Bytes.later HY1.out hSw).str (P := Try.prog) (src := 22) (dst := 9) Try.underlying22 Try.underlying5 Try.underlying9; rw [hK] at hz; go_simp; try with_reducible rfl))); (try simp only [Act.put, List.setIfInBounds_toArray, List.set_cons_zero, List.set_cons_succ, List.getElem_toArray, List.getElem_cons_zero, List.getElem_cons_succ]))
  (refine wpAnyH_take (i := 6) (v := ?_) rfl (by kernel_rfl) (by kernel_rfl) (by kernel_rfl) (fun _ _ _ h => h) (Or.inl ⟨by rfl, ?_⟩) hHeld ?_; rotate_left; (focus (intro w hSw; (try dsimp only at hSw); go_simp; try with_reducible rfl)); (try simp only [Act.put, List.setIfInBounds_toArray, List.set_cons_zero, List.set_cons_succ, List.getElem_toArray, List.getElem_cons_zero, List.getElem_cons_succ])); (refine wpAnyH_take (i := 7) (v := ?_) rfl (by kernel_rfl) (by kernel_rfl) (by kernel_rfl) (fun _ _ _ h => h) (Or.inl ⟨by rfl, ?_⟩) hHeld ?_; rotate_left; (focus (intro w hSw; (try dsimp only at hSw); go_simp; try with_reducible rfl)); (try simp only [Act.put, List.setIfInBounds_toArray, List.set_cons_zero, List.set_cons_succ, List.getElem_toArray, List.getElem_cons_zero, List.getElem_cons_succ]))
  refine wpAnyH_at (m := #[true, true, true, true, true, true, true, true, false, false, false, false, false, false, false, false, false, false, false, false, false, false, false, false, false, false, false, false, false, false, false, false, false]) (by kernel_rfl) ?_
  (refine wpAnyH_take (i := 8) (v := ?_) rfl (by kernel_rfl) (by kernel_rfl) (by kernel_rfl) (fun _ _ _ h => h) (Or.inl ⟨by rfl, ?_⟩) hHeld ?_; rotate_left; (focus (intro w hSw; (try dsimp only at hSw); go_simp; (have hq := BlkAt.later HRm2.out hSw; have c0 := BlkAt.cell hq (j := 0) rfl; have c1 := BlkAt.cell hq (j := 1) rfl; have c2 := BlkAt.cell hq (j := 2) rfl; have c3 := BlkAt.cell hq (j := 3) rfl; have c4 := BlkAt.cell hq (j := 4) rfl; have c5 := BlkAt.cell hq (j := 5) rfl; have c6 := BlkAt.cell hq (j := 6) rfl; go_simp; try with_reducible rfl))); (try simp only [Act.put, List.setIfInBounds_toArray, List.set_cons_zero, List.set_cons_succ, List.getElem_toArray, List.getElem_cons_zero, List.getElem_cons_succ]))
  (refine wpAnyH_take (i := 9) (v := ?_) rfl (by kernel_rfl) (by kernel_rfl) (by kernel_rfl) (fun _ _ _ h => h) (Or.inl ⟨by rfl, ?_⟩) hHeld ?_; rotate_left; (focus (intro w hSw; (try dsimp only at hSw); go_simp; (have hq := BlkAt.later HRo2.out hSw; have c0 := BlkAt.cell hq (j := 0) rfl; have c1 := BlkAt.cell hq (j := 1) rfl; have c2 := BlkAt.cell hq (j := 2) rfl; have c3 := BlkAt.cell hq (j := 3) rfl; have c4 := BlkAt.cell hq (j := 4) rfl; have c5 := BlkAt.cell hq (j := 5) rfl; have c6 := BlkAt.cell hq (j := 6) rfl; go_simp; try with_reducible rfl))); (try simp only [Act.put, List.setIfInBounds_toArray, List.set_cons_zero, List.set_cons_succ, List.getElem_toArray, List.getElem_cons_zero, List.getElem_cons_succ]))
  (refine wpAnyH_take (i := 11) (v := ?_) rfl (by kernel_rfl) (by kernel_rfl) (by kernel_rfl) (fun _ _ _ h => h) (Or.inl ⟨by rfl, ?_⟩) hHeld ?_; rotate_left; (focus (intro w hSw; (try dsimp only at hSw); go_simp; (have hq := BlkAt.later HRm2.out hSw; have c0 := BlkAt.cell hq (j := 0) rfl; have c1 := BlkAt.cell hq (j := 1) rfl; have c2 := BlkAt.cell hq (j := 2) rfl; have c3 := BlkAt.cell hq (j := 3) rfl; have c4 := BlkAt.cell hq (j := 4) rfl; have c5 := BlkAt.cell hq (j := 5) rfl; have c6 := BlkAt.cell hq (j := 6) rfl; go_simp; try with_reducible rfl))); (try simp only [Act.put, List.setIfInBounds_toArray, List.set_cons_zero, List.set_cons_succ, List.getElem_toArray, List.getElem_cons_zero, List.getElem_cons_succ]))
  (refine wpAnyH_take (i := 12) (v := ?_) rfl (by kernel_rfl) (by kernel_rfl) (by kernel_rfl) (fun _ _ _ h => h) (Or.inl ⟨by rfl, ?_⟩) hHeld ?_; rotate_left; (focus (intro w hSw; (try dsimp only at hSw); go_simp; (have hq := BlkAt.later HRo2.out hSw; have c0 := BlkAt.cell hq (j := 0) rfl; have c1 := BlkAt.cell hq (j := 1) rfl; have c2 := BlkAt.cell hq (j := 2) rfl; have c3 := BlkAt.cell hq (j := 3) rfl; have c4 := BlkAt.cell hq (j := 4) rfl; have c5 := BlkAt.cell hq (j := 5) rfl; have c6 := BlkAt.cell hq (j := 6) rfl; go_simp; try with_reducible rfl))); (try simp only [Act.put, List.setIfInBounds_toArray, List.set_cons_zero, List.set_cons_succ, List.getElem_toArray, List.getElem_cons_zero, List.getElem_cons_succ]))
  refine wpAnyH_at (m := #[true, true, true, true, true, true, true, true, true, true, false, true, true, false, false, false, false, false, false, false, false, false, false, false, false, false, false, false, false, false, false, false, false]) (by kernel_rfl) ?_
  (refine wpAnyH_ready (rs := [10]) (by kernel_rfl) (by simp) ?_; refine AllReadyH.cons rfl (fun K hK => ?_) AllReadyH.nil; go_simp; refine (HSW.out _ (HT.out.trans (hHeld.mono HT.out.size))).mono ?_; rintro e y3 ⟨rfl, hs⟩; refine hK.out _ _ ?_ (fun hHeldN => ?_); (focus ((try dsimp only); (exact hHeld.trans (hs.mono hHeld.size)))); clear hK K hHeld; have hHeld := hHeldN; clear hHeldN; (try simp only [Act.put, List.setIfInBounds_toArray, List.set_cons_zero, List.set_cons_succ, List.getElem_toArray, List.getElem_cons_zero, List.getElem_cons_succ]))
  clear hs
  refine wpAnyH_at (m := #[true, true, true, true, true, true, true, true, true, true, true, true, true, false, false, false, false, false, false, false, false, false, false, false, false, false, false, false, false, false, false, false, false]) (by kernel_rfl) ?_
  (refine wpAnyH_ready (rs := [13]) (by kernel_rfl) (by simp) ?_; refine AllReadyH.cons rfl (fun K hK => ?_) AllReadyH.nil; go_simp; refine (HSR.out _ (HT.out.trans (hHeld.mono HT.out.size))).mono ?_; rintro e y4 ⟨rfl, hs⟩; refine hK.out _ _ ?_ (fun hHeldN => ?_); (focus ((try dsimp only); (exact hHeld.trans (hs.mono hHeld.size)))); clear hK K hHeld; have hHeld := hHeldN; clear hHeldN; (try simp only [Act.put, List.setIfInBounds_toArray, List.set_cons_zero, List.set_cons_succ, List.getElem_toArray, List.getElem_cons_zero, List.getElem_cons_succ]))
  clear hs
  refine wpAnyH_at (m := #[true, true, true, true, true, true, true, true, true, true, true, true, true, true, false, false, false, false, false, false, false, false, false, false, false, false, false, false, false, false, false, false, false]) (by kernel_rfl) ?_
  (refine wpAnyH_take (i := 14) (v := ?_) rfl (by kernel_rfl) (by kernel_rfl) (by kernel_rfl) (fun _ _ _ h => h) (Or.inl ⟨by rfl, ?_⟩) hHeld ?_; rotate_left; (focus (intro w hSw; (try dsimp only at hSw); go_simp; try with_reducible rfl)); (try simp only [Act.put, List.setIfInBounds_toArray, List.set_cons_zero, List.set_cons_succ, List.getElem_toArray, List.getElem_cons_zero, List.getElem_cons_succ])); (refine wpAnyH_take (i := 15) (v := ?_) rfl (by kernel_rfl) (by kernel_rfl) (by kernel_rfl) (fun _ _ _ h => h) (Or.inl ⟨by rfl, ?_⟩) hHeld ?_; rotate_left; (focus (intro w hSw; (try dsimp only at hSw); go_simp; try with_reducible rfl)); (try simp only [Act.put, List.setIfInBounds_toArray, List.set_cons_zero, List.set_cons_succ, List.getElem_toArray, List.getElem_cons_zero, List.getElem_cons_succ])); (refine wpAnyH_take (i := 16) (v := ?_) rfl (by kernel_rfl) (by kernel_rfl) (by kernel_rfl) (fun _ _ _ h => h) (Or.inl ⟨by rfl, ?_⟩) hHeld ?_; rotate_left; (focus (intro w hSw; (try dsimp only at hSw); go_simp; try with_reducible rfl)); (try simp only [Act.put, List.setIfInBounds_toArray, List.set_cons_zero, List.set_cons_succ, List.getElem_toArray, List.getElem_cons_zero, List.getElem_cons_succ]))
  refine wpAnyH_at (m := #[true, true, true, true, true, true, true, true, true, true, true, true, true, true, true, true, true, false, false, false, false, false, false, false, false, false, false, false, false, false, false, false, false]) (by kernel_rfl) ?_
  (refine wpAnyH_take (i := 17) (v := ?_) rfl (by kernel_rfl) (by kernel_rfl) (by kernel_rfl) (fun _ _ _ h => h) (Or.inl ⟨by rfl, ?_⟩) hHeld ?_; rotate_left; (focus (intro w hSw; (try dsimp only at hSw); go_simp; (have hq := BlkAt.later HRm2.out hSw; have c0 := BlkAt.cell hq (j := 0) rfl; have c1 := BlkAt.cell hq (j := 1) rfl; have c2 := BlkAt.cell hq (j := 2) rfl; have c3 := BlkAt.cell hq (j := 3) rfl; have c4 := BlkAt.cell hq (j := 4) rfl; have c5 := BlkAt.cell hq (j := 5) rfl; have c6 := BlkAt.cell hq (j := 6) rfl; go_simp; try with_reducible rfl))); (try simp only [Act.put, List.setIfInBounds_toArray, List.set_cons_zero, List.set_cons_succ, List.getElem_toArray, List.getElem_cons_zero, List.getElem_cons_succ]))
  (refine wpAnyH_take (i := 18) (v := ?_) rfl (by kernel_rfl) (by kernel_rfl) (by kernel_rfl) (fun _ _ _ h => h) (Or.inl ⟨by rfl, ?_⟩) hHeld ?_; rotate_left; (focus (intro w hSw; (try dsimp only at hSw); go_simp; (have hq := BlkAt.later HRm2.out hSw; have c0 := BlkAt.cell hq (j := 0) rfl; have c1 := BlkAt.cell hq (j := 1) rfl; have c2 := BlkAt.cell hq (j := 2) rfl; have c3 := BlkAt.cell hq (j := 3) rfl; have c4 := BlkAt.cell hq (j := 4) rfl; have c5 := BlkAt.cell hq (j := 5) rfl; have c6 := BlkAt.cell hq (j := 6) rfl; go_simp; try with_reducible rfl))); (try simp only [Act.put, List.setIfInBounds_toArray, List.set_cons_zero, List.set_cons_succ, List.getElem_toArray, List.getElem_cons_zero, List.getElem_cons_succ]))
  refine wpAnyH_at (m := #[true, true, true, true, true, true, true, true, true, true, true, true, true, true, true, true, true, true, true, false, false, false, false, false, false, false, false, false, false, false, false, false, false]) (by kernel_rfl) ?_
  (refine wpAnyH_ready (rs := [19]) (by kernel_rfl) (by simp) ?_; refine AllReadyH.cons rfl (fun K hK => ?_) AllReadyH.nil; go_simp; refine (HSS.out _ (HT.out.trans (hHeld.mono HT.out.size))).mono ?_; rintro e y5 ⟨rfl, hs⟩; refine hK.out _ _ ?_ (fun hHeldN => ?_); (focus ((try dsimp only); (exact hHeld.trans (hs.mono hHeld.size)))); clear hK K hHeld; have hHeld := hHeldN; clear hHeldN; (try simp only [Act.put, List.setIfInBounds_toArray, List.set_cons_zero, List.set_cons_succ, List.getElem_toArray, List.getElem_cons_zero, List.getElem_cons_succ]))
  clear hs
  refine wpAnyH_at (m := #[true, true, true, true, true, true, true, true, true, true, true, true, true, true, true, true, true, true, true, true, false, false, false, false, false, false, false, false, false, false, false, false, false]) (by kernel_rfl) ?_
  (refine wpAnyH_take (i := 20) (v := ?_) rfl (by kernel_rfl) (by kernel_rfl) (by kernel_rfl) (fun _ _ _ h => h) (Or.inl ⟨by rfl, ?_⟩) hHeld ?_; rotate_left; (focus (intro w hSw; (try dsimp only at hSw); go_simp; try with_reducible rfl)); (try simp only [Act.put, List.setIfInBounds_toArray, List.set_cons_zero, List.set_cons_succ, List.getElem_toArray, List.getElem_cons_zero, List.getElem_cons_succ])); (refine wpAnyH_take (i := 21) (v := ?_) rfl (by kernel_rfl) (by kernel_rfl) (by kernel_rfl) (fun _ _ _ h => h) (Or.inl ⟨by rfl, ?_⟩) hHeld ?_; rotate_left; (focus (intro w hSw; (try dsimp only at hSw); go_simp; try with_reducible rfl)); (try simp only [Act.put, List.setIfInBounds_toArray, List.set_cons_zero, List.set_cons_succ, List.getElem_toArray, List.getElem_cons_zero, List.getElem_cons_succ]))
  refine wpAnyH_at (m := #[true, true, true, true, true, true, true, true, true, true, true, true, true, true, true, true, true, true, true, true, true, true, false, false, false, false, false, false, false, false, false, false, false]) (by kernel_rfl) ?_
  (refine wpAnyH_take (i := 22) (v := ?_) rfl (by kernel_rfl) (by kernel_rfl) (by kernel_rfl) (fun _ _ _ h => h) (Or.inl ⟨by rfl, ?_⟩) hHeld ?_; rotate_left; (focus (intro w hSw; (try dsimp only at hSw); go_simp; (have hq := BlkAt.later HRm2.out hSw; have c0 := BlkAt.cell hq (j := 0) rfl; have c1 := BlkAt.cell hq (j := 1) rfl; have c2 := BlkAt.cell hq (j := 2) rfl; have c3 := BlkAt.cell hq (j := 3) rfl; have c4 := BlkAt.cell hq (j := 4) rfl; have c5 := BlkAt.cell hq (j := 5) rfl; have c6 := BlkAt.cell hq (j := 6) rfl; go_simp; try with_reducible rfl))); (try simp only [Act.put, List.setIfInBounds_toArray, List.set_cons_zero, List.set_cons_succ, List.getElem_toArray, List.getElem_cons_zero, List.getElem_cons_succ]))
  (refine wpAnyH_take (i := 24) (v := ?_) rfl (by kernel_rfl) (by kernel_rfl) (by kernel_rfl) (fun _ _ _ h => h) (Or.inl ⟨by rfl, ?_⟩) hHeld ?_; rotate_left; (focus (intro w hSw; (try dsimp only at hSw); go_simp; try with_reducible rfl)); (try simp only [Act.put, List.setIfInBounds_toArray, List.set_cons_zero, List.set_cons_succ, List.getElem_toArray, List.getElem_cons_zero, List.getElem_cons_succ]))
  (refine wpAnyH_take (i := 25) (v := ?_) rfl (by kernel_rfl) (by kernel_rfl) (by kernel_rfl) (fun _ _ _ h => h) (Or.inl ⟨by rfl, ?_⟩) hHeld ?_; rotate_left; (focus (intro w hSw; (try dsimp only at hSw); go_simp; (have hcc := BlkAt.cell (BlkAt.later HRm2.out hSw) (j := 0) rfl; go_simp; try with_reducible rfl))); (try simp only [Act.put, List.setIfInBounds_toArray, List.set_cons_zero, List.set_cons_succ, List.getElem_toArray, List.getElem_cons_zero, List.getElem_cons_succ]))
  refine wpAnyH_at (m := #[true, true, true, true, true, true, true, true, true, true, true, true, true, true, true, true, true, true, true, true, true, true, true, false, true, true, false, false, false, false, false, false, false]) (by kernel_rfl) ?_
  (refine wpAnyH_ready (rs := [23]) (by kernel_rfl) (by simp) ?_; refine AllReadyH.cons rfl (fun K hK => ?_) AllReadyH.nil; go_simp; refine (HIW.out _).mono ?_; rintro e y6 ⟨rfl, hs⟩; refine hK.out _ _ ?_ (fun hHeldN => ?_); (focus ((try dsimp only); (exact hHeld.trans (hs.mono hHeld.size)))); clear hK K hHeld; have hHeld := hHeldN; clear hHeldN; (try simp only [Act.put, List.setIfInBounds_toArray, List.set_cons_zero, List.set_cons_succ, List.getElem_toArray, List.getElem_cons_zero, List.getElem_cons_succ]))
  clear hs
  refine wpAnyH_at (m := #[true, true, true, true, true, true, true, true, true, true, true, true, true, true, true, true, true, true, true, true, true, true, true, true, true, true, false, false, false, false, false, false, false]) (by kernel_rfl) ?_
  (refine wpAnyH_ready (rs := [26]) (by kernel_rfl) (by simp) ?_; refine AllReadyH.cons rfl (fun K hK => ?_) AllReadyH.nil; go_simp; refine (HIR.out _).mono ?_; rintro e y7 ⟨rfl, rfl⟩; refine hK.out _ _ ?_ (fun hHeldN => ?_); (focus ((try dsimp only); (exact hHeld))); clear hK K hHeld; have hHeld := hHeldN; clear hHeldN; (try simp only [Act.put, List.setIfInBounds_toArray, List.set_cons_zero, List.set_cons_succ, List.getElem_toArray, List.getElem_cons_zero, List.getElem_cons_succ]))
  refine wpAnyH_at (m := #[true, true, true, true, true, true, true, true, true, true, true, true, true, true, true, true, true, true, true, true, true, true, true, true, true, true, true, false, false, false, false, false, false]) (by kernel_rfl) ?_
  (refine wpAnyH_take (i := 27) (v := ?_) rfl (by kernel_rfl) (by kernel_rfl) (by kernel_rfl) (fun _ _ _ h => h) (Or.inl ⟨by rfl, ?_⟩) hHeld ?_; rotate_left; (focus (intro w hSw; (try dsimp only at hSw); go_simp; try with_reducible rfl)); (try simp only [Act.put, List.setIfInBounds_toArray, List.set_cons_zero, List.set_cons_succ, List.getElem_toArray, List.getElem_cons_zero, List.getElem_cons_succ])); (refine wpAnyH_take (i := 28) (v := ?_) rfl (by kernel_rfl) (by kernel_rfl) (by kernel_rfl) (fun _ _ _ h => h) (Or.inl ⟨by rfl, ?_⟩) hHeld ?_; rotate_left; (focus (intro w hSw; (try dsimp only at hSw); go_simp; try with_reducible rfl)); (try simp only [Act.put, List.setIfInBounds_toArray, List.set_cons_zero, List.set_cons_succ, List.getElem_toArray, List.getElem_cons_zero, List.getElem_cons_succ])); (refine wpAnyH_take (i := 29) (v := ?_) rfl (by kernel_rfl) (by kernel_rfl) (by kernel_rfl) (fun _ _ _ h => h) (Or.inl ⟨by rfl, ?_⟩) hHeld ?_; rotate_left; (focus (intro w hSw; (try dsimp only at hSw); go_simp; try with_reducible rfl)); (try simp only [Act.put, List.setIfInBounds_toArray, List.set_cons_zero, List.set_cons_succ, List.getElem_toArray, List.getElem_cons_zero, List.getElem_cons_succ]))
  refine wpAnyH_at (m := #[true, true, true, true, true, true, true, true, true, true, true, true, true, true, true, true, true, true, true, true, true, true, true, true, true, true, true, true, true, true, false, false, false]) (by kernel_rfl) ?_
  (refine wpAnyH_ready (rs := [30]) (by kernel_rfl) (by simp) ?_; refine AllReadyH.cons rfl (fun K hK => ?_) AllReadyH.nil; go_simp; refine (known4_any _).mono ?_; rintro e y8 ⟨rfl, hs⟩; refine hK.out _ _ ?_ (fun hHeldN => ?_); (focus ((try dsimp only); (exact hHeld.trans (hs.mono hHeld.size)))); clear hK K hHeld; have hHeld := hHeldN; clear hHeldN; (try simp only [Act.put, List.setIfInBounds_toArray, List.set_cons_zero, List.set_cons_succ, List.getElem_toArray, List.getElem_cons_zero, List.getElem_cons_succ]))
  clear hs
  refine wpAnyH_at (m := #[true, true, true, true, true, true, true, true, true, true, true, true, true, true, true, true, true, true, true, true, true, true, true, true, true, true, true, true, true, true, true, false, false]) (by kernel_rfl) ?_
  (refine wpAnyH_take (i := 31) (v := ?_) rfl (by kernel_rfl) (by kernel_rfl) (by kernel_rfl) (fun _ _ _ h => h) (Or.inl ⟨by rfl, ?_⟩) hHeld ?_; rotate_left; (focus (intro w hSw; (try dsimp only at hSw); go_simp; try with_reducible rfl)); (try simp only [Act.put, List.setIfInBounds_toArray, List.set_cons_zero, List.set_cons_succ, List.getElem_toArray, List.getElem_cons_zero, List.getElem_cons_succ])); (refine wpAnyH_take (i := 32) (v := ?_) rfl (by kernel_rfl) (by kernel_rfl) (by kernel_rfl) (fun _ _ _ h => h) (Or.inl ⟨by rfl, ?_⟩) hHeld ?_; rotate_left; (focus (intro w hSw; (try dsimp only at hSw); go_simp; try with_reducible rfl)); (try simp only [Act.put, List.setIfInBounds_toArray, List.set_cons_zero, List.set_cons_succ, List.getElem_toArray, List.getElem_cons_zero, List.getElem_cons_succ]))
  refine wpAnyH_done (by kernel_rfl) ?_ _
  have HBZ := Lib.hid (HBM.out.trans ((HT.out.trans (hHeld.mono HT.out.size)).mono HBM.out.size))
  clear hHeld
  go_wp2_with fail
  go_ret
  exact ⟨rfl, HBZ.out⟩
theorem icmpBytes_walk (m : Mg) (a : Option Addr) (c : Nat) (B : List UInt8) (o : Mg) (a' : Option Addr) (c' : Nat) (C : List UInt8) (pv : Value) (l : List UInt8) (w : World) (hm : m.Ok) (hB : Bytes w (.slice a B.length c) B) (hBl : B.length ≤ 9223372036854775807) (ho : o.Ok) (hC : Bytes w (.slice a' C.length c') C) (hCl : C.length ≤ 9223372036854775807) (hv : Bytes w pv l) (hl : l.length ≤ 9223372036854775807) :
    Calls Try.prog 5 #[.agg #[.int .u8 (m.ty : Nat), .int .u8 (m.co : Nat), .int .u8 (m.r0 : Nat), .int .u8 (m.r1 : Nat), .int .u8 (m.r2 : Nat), .int .u8 (m.r3 : Nat), .slice a B.length c], .agg #[.int .u8 (o.ty : Nat), .int .u8 (o.co : Nat), .int .u8 (o.r0 : Nat), .int .u8 (o.r1 : Nat), .int .u8 (o.r2 : Nat), .int .u8 (o.r3 : Nat), .slice a' C.length c'], pv] w fun e w' => e = .returned (.bool true) ∧ Below w.heap.size w w' := by
  obtain ⟨pa, pc, rfl⟩ := hv.form
  rcases Nat.lt_or_ge 9000 B.length with h1 | h1
  · exact eb_a1 m o a a' pa c c' pc _ _ _ w (by omega)
  · rcases Nat.lt_or_ge 9000 C.length with h2 | h2
    · exact eb_a2 m o a a' pa c c' pc _ _ _ w (by omega) (by omega)
    · rcases Nat.lt_or_ge 9000 l.length with h3 | h3
      · exact eb_a3 m o a a' pa c c' pc _ _ _ w (by omega) (by omega) (by omega)
      · cases hok : okM l with
        | true => exact eb_y m o a a' pa c c' pc _ _ _ B C l w hm ho rfl rfl rfl hB hC hv (by omega) (by omega) (by omega) hok
        | false => exact eb_n m o a a' pa c c' pc _ _ _ B C l w hm ho rfl rfl rfl hB hC hv (by omega) (by omega) (by omega) hok
end Go.Proofs.Ytnhkkpcepppgoaa
