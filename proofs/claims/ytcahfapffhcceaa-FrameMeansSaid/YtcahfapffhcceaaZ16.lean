/- The walk of the law FrameMeans. -/
import Derived.Test.YtcahfapffhcceaaZ12
import Derived.Test.YtcahfapffhcceaaZ14
import Derived.Test.YtcahfapffhcceaaZ15

set_option linter.unusedSimpArgs false
set_option linter.unusedVariables false
namespace Go.Proofs.Ytcahfapffhcceaa
open Go.RowKit
attribute [local go_sem ↓] Go.wp_at_zero Go.wp_at_succ

theorem of6_bad (v : Value) (l : List UInt8) (w : World) (h : Bytes w v l) (hl : l.length ≤ 9000) (hno : okF l = false) : Calls Try.prog 14 #[v] w fun e w' => (∃ a c, e = .returned (.tuple #[.agg #[.int .i64 0, .int .i64 0, .int .u64 0, .int .u64 0, .int .u64 0, .int .u64 0, .int .u64 0, .int .u64 0, .slice a 0 c], .int .i64 4])) ∧ Below w.heap.size w w' := by
  refine (of6W_any v _ w h hl).mono ?_
  rintro e w' ⟨u, rfl, ho, hb⟩
  obtain ⟨e1, e2, e3⟩ := o_no hno
  rw [e2] at ho
  obtain ⟨a, c, rfl⟩ := ho.form
  exact ⟨⟨a, c, by rw [e1, e3]; rfl⟩, hb⟩
theorem own_at {w : World} {B g n c : Nat} {l : List UInt8} (h : OwnB w B (.slice (some ⟨g, 0, none⟩) n c) l) {j : Nat} (hj : j < l.length) : w.cell? ⟨g, j, none⟩ = some (.int .u8 (Sm.at0 l j : Nat)) ∧ w.frozen? ⟨g, j, none⟩ = false := by
  obtain ⟨g', cap, cur, e, _, hg, _, _⟩ := h.row (by omega)
  obtain ⟨b, o, e2, _, hx⟩ := h.bytes.at hj
  simp only [Value.slice.injEq, Option.some.injEq, Addr.mk.injEq, and_true] at e e2
  obtain ⟨rfl, _, rfl⟩ := e
  obtain ⟨rfl, rfl⟩ := e2
  rw [Nat.zero_add] at hx
  refine ⟨?_, by unfold World.frozen?; simp [hg]⟩
  rw [hx]; unfold Sm.at0; rw [List.getElem?_eq_getElem hj]; rfl
set_option maxHeartbeats 16000000 in
set_option maxRecDepth 100000 in
theorem hw_long (f : Fr) (a : Option Addr) (c m : Nat) (at_ : Int) (wd : Nat) (mo : UInt8) (w : World) (h : (5000 : Int) < m) :
    Calls Try.prog 5 #[.agg #[.int .i64 f.k, .int .i64 f.n, .int .u64 (f.mb : Nat), .int .u64 (f.mt : Nat), .int .u64 (f.tb : Nat), .int .u64 (f.tt : Nat), .int .u64 (f.s : Nat), .int .u64 (f.a : Nat), .slice a m c], .int .i64 at_, .int .u16 (wd : Nat), .int .u8 (mo.toNat : Int)] w fun e w' => e = .returned (.bool true) ∧ Below w.heap.size w w' := by
  obtain ⟨wz, hwz⟩ : ∃ wz, wz = (w.alloc (.cells #[.int .i64 f.k, .int .i64 f.n, .int .u64 (f.mb : Nat), .int .u64 (f.mt : Nat), .int .u64 (f.tb : Nat), .int .u64 (f.tt : Nat), .int .u64 (f.s : Nat), .int .u64 (f.a : Nat), .slice a m c] 28)) := ⟨_, rfl⟩
  have HB := Lib.hid (show Below w.heap.size w wz by rw [hwz]; go_grown)
  have HF := Lib.hid (show BlkAt 28 (w.heap.size) [.int .i64 f.k, .int .i64 f.n, .int .u64 (f.mb : Nat), .int .u64 (f.mt : Nat), .int .u64 (f.tb : Nat), .int .u64 (f.tt : Nat), .int .u64 (f.s : Nat), .int .u64 (f.a : Nat), .slice a m c] wz by
    have h9 := BlkAt.new (t := 28) w [.int .i64 f.k, .int .i64 f.n, .int .u64 (f.mb : Nat), .int .u64 (f.mt : Nat), .int .u64 (f.tb : Nat), .int .u64 (f.tt : Nat), .int .u64 (f.s : Nat), .int .u64 (f.a : Nat), .slice a m c]
    rw [hwz]; simpa using h9)
  go_enter Try.func5, Try.ntmps5
  go_wp2_with fail
  rw [← hwz]
  clear hwz
  refine (known6_any _).mono ?_
  rintro e w1 ⟨rfl, hb⟩
  have HF := Lib.hid (HF.out.later hb)
  have HB := Lib.hid (below_of HB.out hb)
  clear hb
  have c0 := BlkAt.cell HF.out (j := 0) rfl
  have c1 := BlkAt.cell HF.out (j := 1) rfl
  have c2 := BlkAt.cell HF.out (j := 2) rfl
  have c3 := BlkAt.cell HF.out (j := 3) rfl
  have c4 := BlkAt.cell HF.out (j := 4) rfl
  have c5 := BlkAt.cell HF.out (j := 5) rfl
  have c6 := BlkAt.cell HF.out (j := 6) rfl
  have c7 := BlkAt.cell HF.out (j := 7) rfl
  have c8 := BlkAt.cell HF.out (j := 8) rfl
  go_wp2_with fail
  go_ret
  exact ⟨rfl, HB.out⟩
set_option maxHeartbeats 16000000 in
set_option maxRecDepth 100000 in
theorem hw_no (f : Fr) (a : Option Addr) (c m : Nat) (at_ : Int) (wd : Nat) (mo : UInt8) (w : World) (B : List UInt8) (hm : m = B.length) (hB : Bytes w (.slice a B.length c) B) (hl : B.length ≤ 5000) (hmay : mayF f B = false) :
    Calls Try.prog 5 #[.agg #[.int .i64 f.k, .int .i64 f.n, .int .u64 (f.mb : Nat), .int .u64 (f.mt : Nat), .int .u64 (f.tb : Nat), .int .u64 (f.tt : Nat), .int .u64 (f.s : Nat), .int .u64 (f.a : Nat), .slice a m c], .int .i64 at_, .int .u16 (wd : Nat), .int .u8 (mo.toNat : Int)] w fun e w' => e = .returned (.bool true) ∧ Below w.heap.size w w' := by
  obtain ⟨wz, hwz⟩ : ∃ wz, wz = (w.alloc (.cells #[.int .i64 f.k, .int .i64 f.n, .int .u64 (f.mb : Nat), .int .u64 (f.mt : Nat), .int .u64 (f.tb : Nat), .int .u64 (f.tt : Nat), .int .u64 (f.s : Nat), .int .u64 (f.a : Nat), .slice a m c] 28)) := ⟨_, rfl⟩
  have HB := Lib.hid (show Below w.heap.size w wz by rw [hwz]; go_grown)
  have HF := Lib.hid (show BlkAt 28 (w.heap.size) [.int .i64 f.k, .int .i64 f.n, .int .u64 (f.mb : Nat), .int .u64 (f.mt : Nat), .int .u64 (f.tb : Nat), .int .u64 (f.tt : Nat), .int .u64 (f.s : Nat), .int .u64 (f.a : Nat), .slice a m c] wz by
    have h9 := BlkAt.new (t := 28) w [.int .i64 f.k, .int .i64 f.n, .int .u64 (f.mb : Nat), .int .u64 (f.mt : Nat), .int .u64 (f.tb : Nat), .int .u64 (f.tt : Nat), .int .u64 (f.s : Nat), .int .u64 (f.a : Nat), .slice a m c]
    rw [hwz]; simpa using h9)
  have k1 : (m : Int) ≤ 5000 := by omega
  have HBW : Hid (∀ W, Below w.heap.size w W → Calls Try.prog 9 #[.agg #[.int .i64 f.k, .int .i64 f.n, .int .u64 (f.mb : Nat), .int .u64 (f.mt : Nat), .int .u64 (f.tb : Nat), .int .u64 (f.tt : Nat), .int .u64 (f.s : Nat), .int .u64 (f.a : Nat), .slice a m c]] W fun e w' => e = .returned (.tuple #[.slice none 0 0, .int .i64 2]) ∧ Below W.heap.size W w') := fun W hW => by
    have h9 := bytesF_no f _ B W (hB.later hW) (by omega) hmay
    rw [← hm] at h9; exact h9
  clear hm hB hl hmay
  go_enter Try.func5, Try.ntmps5
  go_wp2_with fail
  rw [← hwz]
  clear hwz
  refine (known6_any _).mono ?_
  rintro e w1 ⟨rfl, hb⟩
  have HF := Lib.hid (HF.out.later hb)
  have HB := Lib.hid (below_of HB.out hb)
  clear hb
  have c0 := BlkAt.cell HF.out (j := 0) rfl
  have c1 := BlkAt.cell HF.out (j := 1) rfl
  have c2 := BlkAt.cell HF.out (j := 2) rfl
  have c3 := BlkAt.cell HF.out (j := 3) rfl
  have c4 := BlkAt.cell HF.out (j := 4) rfl
  have c5 := BlkAt.cell HF.out (j := 5) rfl
  have c6 := BlkAt.cell HF.out (j := 6) rfl
  have c7 := BlkAt.cell HF.out (j := 7) rfl
  have c8 := BlkAt.cell HF.out (j := 8) rfl
  go_wp2_with fail
  refine (HBW.out _ HB.out).mono ?_
  rintro e w2 ⟨rfl, hb⟩
  have HB := Lib.hid (below_of HB.out hb)
  clear hb
  clear c0 c1 c2 c3 c4 c5 c6 c7 c8
  go_wp2_with fail
  refine (num6_any 2 _).mono ?_
  rintro e wn ⟨rfl, rfl⟩
  go_wp2_with fail
  go_ret
  exact ⟨rfl, HB.out⟩
set_option maxHeartbeats 16000000 in
set_option maxRecDepth 100000 in
theorem hw_out (f : Fr) (a : Option Addr) (c m : Nat) (at_ : Int) (wd : Nat) (mo : UInt8) (w : World) (ho : f.Ok) (B : List UInt8) (hm : m = B.length) (hB : Bytes w (.slice a B.length c) B) (hl : B.length ≤ 5000) (hmay : mayF f B = true) (hat : at_ < 0 ∨ (((frL f B).length / 2 : Nat) : Int) ≤ at_) :
    Calls Try.prog 5 #[.agg #[.int .i64 f.k, .int .i64 f.n, .int .u64 (f.mb : Nat), .int .u64 (f.mt : Nat), .int .u64 (f.tb : Nat), .int .u64 (f.tt : Nat), .int .u64 (f.s : Nat), .int .u64 (f.a : Nat), .slice a m c], .int .i64 at_, .int .u16 (wd : Nat), .int .u8 (mo.toNat : Int)] w fun e w' => e = .returned (.bool true) ∧ Below w.heap.size w w' := by
  obtain ⟨wz, hwz⟩ : ∃ wz, wz = (w.alloc (.cells #[.int .i64 f.k, .int .i64 f.n, .int .u64 (f.mb : Nat), .int .u64 (f.mt : Nat), .int .u64 (f.tb : Nat), .int .u64 (f.tt : Nat), .int .u64 (f.s : Nat), .int .u64 (f.a : Nat), .slice a m c] 28)) := ⟨_, rfl⟩
  have HB := Lib.hid (show Below w.heap.size w wz by rw [hwz]; go_grown)
  have HF := Lib.hid (show BlkAt 28 (w.heap.size) [.int .i64 f.k, .int .i64 f.n, .int .u64 (f.mb : Nat), .int .u64 (f.mt : Nat), .int .u64 (f.tb : Nat), .int .u64 (f.tt : Nat), .int .u64 (f.s : Nat), .int .u64 (f.a : Nat), .slice a m c] wz by
    have h9 := BlkAt.new (t := 28) w [.int .i64 f.k, .int .i64 f.n, .int .u64 (f.mb : Nat), .int .u64 (f.mt : Nat), .int .u64 (f.tb : Nat), .int .u64 (f.tt : Nat), .int .u64 (f.s : Nat), .int .u64 (f.a : Nat), .slice a m c]
    rw [hwz]; simpa using h9)
  have k1 : (m : Int) ≤ 5000 := by omega
  obtain ⟨_, _, hl2048⟩ := may_of6 hmay
  have hok := ok_L ho hmay
  obtain ⟨p1, p2⟩ := frP_L ho hmay
  obtain ⟨o1, o2, o3⟩ := o_yes hok
  have hKl := frL_length f B
  obtain ⟨K, hK⟩ : ∃ K, K = frL f B := ⟨_, rfl⟩
  rw [← hK] at hok p1 p2 o1 o2 o3 hKl hat
  obtain ⟨S, hS⟩ : ∃ S, S = K.length := ⟨_, rfl⟩
  obtain ⟨S1, hS1⟩ : ∃ s, s + 1 = S := ⟨S - 1, by omega⟩
  rw [← hS] at hat
  have HBW : Hid (∀ W, Below w.heap.size w W → Calls Try.prog 9 #[.agg #[.int .i64 f.k, .int .i64 f.n, .int .u64 (f.mb : Nat), .int .u64 (f.mt : Nat), .int .u64 (f.tb : Nat), .int .u64 (f.tt : Nat), .int .u64 (f.s : Nat), .int .u64 (f.a : Nat), .slice a m c]] W fun e w' => ∃ v, e = .returned (.tuple #[v, .int .i64 0]) ∧ OwnB w' W.heap.size v K ∧ Below W.heap.size W w') := fun W hW => by
    have h9 := bytesF_yes f ho _ B W (hB.later hW) hmay
    rw [← hK, ← hm] at h9; exact h9
  have HOF : Hid (∀ v W, Bytes W v K → Calls Try.prog 14 #[v] W fun e w' => ∃ u, e = .returned (.tuple #[.agg #[.int .i64 f.k, .int .i64 f.n, .int .u64 (f.mb : Nat), .int .u64 (f.mt : Nat), .int .u64 (f.tb : Nat), .int .u64 (f.tt : Nat), .int .u64 (f.s : Nat), .int .u64 (f.a : Nat), u], .int .i64 0]) ∧ OwnB w' W.heap.size u B ∧ Below W.heap.size W w') := fun v W h => by
    have h9 := of6W_any v _ W h (by omega)
    unfold OfA at h9
    rw [o1, o2, o3, p1, p2] at h9; exact h9
  have HBB : Hid (∀ W, Below w.heap.size w W → Bytes W (.slice a m c) B) := fun W hW => by rw [hm]; exact hB.later hW
  have HCUT := Lib.hid (ok_cut hok (n := S1) (by omega))
  have HMORE := Lib.hid (ok_more hok mo)
  have HH : Hid (S = K.length ∧ S1 + 1 = S ∧ S ≤ 2102 ∧ 54 ≤ S ∧ m = B.length) := ⟨hS, hS1, by omega, by omega, hm⟩
  have e1 : wrap64 ((S : Int) - 1) = (S1 : Int) := by rw [IntWalk.wrap64_in _ ⟨by omega, by omega⟩]; omega
  have e1' : (S : Int) - 1 = (S1 : Int) := by omega
  have kS : (S : Int) ≤ 2102 := by omega
  have kS0 : (54 : Int) ≤ S := by omega
  have HAT : Hid (at_ < 0 ∨ ((S / 2 : Nat) : Int) ≤ at_) := hat
  clear hat
  clear ho hm hB hl hmay hok p1 p2 o1 o2 o3 hKl hK hS hS1 hl2048
  go_enter Try.func5, Try.ntmps5
  go_wp2_with fail
  rw [← hwz]
  clear hwz
  refine (known6_any _).mono ?_
  rintro e w1 ⟨rfl, hb⟩
  have HF := Lib.hid (HF.out.later hb)
  have HB := Lib.hid (below_of HB.out hb)
  clear hb
  have c0 := BlkAt.cell HF.out (j := 0) rfl
  have c1 := BlkAt.cell HF.out (j := 1) rfl
  have c2 := BlkAt.cell HF.out (j := 2) rfl
  have c3 := BlkAt.cell HF.out (j := 3) rfl
  have c4 := BlkAt.cell HF.out (j := 4) rfl
  have c5 := BlkAt.cell HF.out (j := 5) rfl
  have c6 := BlkAt.cell HF.out (j := 6) rfl
  have c7 := BlkAt.cell HF.out (j := 7) rfl
  have c8 := BlkAt.cell HF.out (j := 8) rfl
  go_wp2_with fail
  refine (HBW.out _ HB.out).mono ?_
  rintro e w2 ⟨x, rfl, hx, hb⟩
  have hx := OwnB.weak hx HB.out.size
  obtain ⟨g, cap, _, rfl, hbg, _, hnc, _⟩ := hx.row (by have := HH.out; omega)
  rw [← HH.out.1] at hx ⊢
  have HX := Lib.hid hx
  have HGW : Hid (w.heap.size ≤ g) := hbg
  have kcap : S ≤ cap := by have := HH.out; omega
  have HF := Lib.hid (HF.out.later hb)
  have HB := Lib.hid (below_of HB.out hb)
  clear hb hx hbg hnc
  clear c0 c1 c2 c3 c4 c5 c6 c7 c8
  go_wp2_with (go_at_call 13; refine (num6_any _ _).mono ?_; rintro e wn ⟨rfl, rfl⟩)
  refine (HOF.out _ _ HX.out.bytes).mono ?_
  rintro e w3 ⟨u, rfl, hu, hb⟩
  obtain ⟨ua, uc, rfl⟩ := hu.form
  rw [← HH.out.2.2.2.2] at hu ⊢
  have q := hb.alloc hb.size (.cells #[.int .i64 f.k, .int .i64 f.n, .int .u64 (f.mb : Nat), .int .u64 (f.mt : Nat), .int .u64 (f.tb : Nat), .int .u64 (f.tt : Nat), .int .u64 (f.s : Nat), .int .u64 (f.a : Nat), .slice ua m uc] 28)
  have HU := Lib.hid (Bytes.later hu.bytes (ba1 _ (.cells #[.int .i64 f.k, .int .i64 f.n, .int .u64 (f.mb : Nat), .int .u64 (f.mt : Nat), .int .u64 (f.tb : Nat), .int .u64 (f.tt : Nat), .int .u64 (f.s : Nat), .int .u64 (f.a : Nat), .slice ua m uc] 28)))
  have HY := Lib.hid (show BlkAt 28 w3.heap.size [.int .i64 f.k, .int .i64 f.n, .int .u64 (f.mb : Nat), .int .u64 (f.mt : Nat), .int .u64 (f.tb : Nat), .int .u64 (f.tt : Nat), .int .u64 (f.s : Nat), .int .u64 (f.a : Nat), .slice ua m uc] (w3.alloc (.cells #[.int .i64 f.k, .int .i64 f.n, .int .u64 (f.mb : Nat), .int .u64 (f.mt : Nat), .int .u64 (f.tb : Nat), .int .u64 (f.tt : Nat), .int .u64 (f.s : Nat), .int .u64 (f.a : Nat), .slice ua m uc] 28)) from BlkAt.new w3 _)
  have HX := Lib.hid (OwnB.later HX.out q)
  have HF := Lib.hid (HF.out.later q)
  have HB := Lib.hid (below_of HB.out q)
  clear hb q hu
  have c0 := BlkAt.cell HY.out (j := 0) rfl
  have c1 := BlkAt.cell HY.out (j := 1) rfl
  have c2 := BlkAt.cell HY.out (j := 2) rfl
  have c3 := BlkAt.cell HY.out (j := 3) rfl
  have c4 := BlkAt.cell HY.out (j := 4) rfl
  have c5 := BlkAt.cell HY.out (j := 5) rfl
  have c6 := BlkAt.cell HY.out (j := 6) rfl
  have c7 := BlkAt.cell HY.out (j := 7) rfl
  have c8 := BlkAt.cell HY.out (j := 8) rfl
  have d0 := BlkAt.cell HF.out (j := 0) rfl
  have d1 := BlkAt.cell HF.out (j := 1) rfl
  have d2 := BlkAt.cell HF.out (j := 2) rfl
  have d3 := BlkAt.cell HF.out (j := 3) rfl
  have d4 := BlkAt.cell HF.out (j := 4) rfl
  have d5 := BlkAt.cell HF.out (j := 5) rfl
  have d6 := BlkAt.cell HF.out (j := 6) rfl
  have d7 := BlkAt.cell HF.out (j := 7) rfl
  have d8 := BlkAt.cell HF.out (j := 8) rfl
  go_wp2_with (go_at_call 13; refine (num6_any _ _).mono ?_; rintro e wn ⟨rfl, rfl⟩)
  obtain ⟨wy, hwy⟩ : ∃ W, W = w3.alloc (.cells #[.int .i64 f.k, .int .i64 f.n, .int .u64 (f.mb : Nat), .int .u64 (f.mt : Nat), .int .u64 (f.tb : Nat), .int .u64 (f.tt : Nat), .int .u64 (f.s : Nat), .int .u64 (f.a : Nat), .slice ua m uc] 28) := ⟨_, rfl⟩
  rw [← hwy] at HB HX HU HY HF ⊢
  clear hwy
  have hsm := sameFR_any f f (.slice ua m uc) (.slice a m c) B B wy HU.out (HBB.out _ HB.out)
  rw [sameF_refl] at hsm
  refine hsm.mono ?_
  rintro e w4 ⟨rfl, hb⟩
  have HX := Lib.hid (OwnB.later HX.out hb)
  have HB := Lib.hid (below_of HB.out hb)
  clear hb hsm HU HY HF c0 c1 c2 c3 c4 c5 c6 c7 c8 d0 d1 d2 d3 d4 d5 d6 d7 d8
  obtain ⟨hrh, hP⟩ := HX.out.bytes.cut_h (S1 : Int) S1 rfl (by have := HH.out; omega)
  have HP := Lib.hid hP
  clear hP
  go_wp2_with fail
  refine (of6_bad _ _ _ HP.out (by have := HH.out; simp; omega) HCUT.out).mono ?_
  rintro e w5 ⟨⟨ra, rc, rfl⟩, hb⟩
  have HX := Lib.hid (OwnB.later HX.out hb)
  have HB := Lib.hid (below_of HB.out hb)
  clear hb HP hrh
  go_wp2_with (at_builtin; refine wpList_app rfl (.const (.slice none 0 0)) (.tmp 54) rfl w5.heap.size (.slice none 0 0) _ [] K rfl rfl (OwnB.nil _ _) HX.out.bytes (by have := HH.out; simp; omega) (Nat.le_refl _) ?_)
  intro v6 w6 ho6 hb6 hg6
  have H6 := Lib.hid ho6
  have hB6 := Lib.hid (show Below w5.heap.size w5 w6 from hb6)
  clear ho6 hb6 hg6
  go_wp2_with (at_builtin; refine wpList_app rfl (.tmp 55) (.tmp 57) rfl w5.heap.size v6 _ K [mo] rfl rfl (H6.out.alloc _) (bytes_lit w6 [mo]) (by have := HH.out; simp; omega) (by have := hB6.out.size; simp; omega) ?_)
  intro v7 w7 ho7 hb7 hg7
  have hB7 : Below w5.heap.size w5 w7 := (hB6.out.alloc hB6.out.size _).trans hb7
  have H7 := Lib.hid ho7.bytes
  have HX := Lib.hid (OwnB.later HX.out hB7)
  have HB := Lib.hid (below_of HB.out hB7)
  clear ho7 hb7 hg7 hB7 H6 hB6
  go_wp2_with fail
  refine (of6_bad _ _ _ H7.out (by have := HH.out; simp; omega) HMORE.out).mono ?_
  rintro e w8 ⟨⟨sa, sc, rfl⟩, hb⟩
  have q := hb.alloc hb.size (.cells #[.int .i64 0, .int .i64 0, .int .u64 0, .int .u64 0, .int .u64 0, .int .u64 0, .int .u64 0, .int .u64 0, .slice sa 0 sc] 28)
  have HX := Lib.hid (OwnB.later HX.out q)
  have HB := Lib.hid (below_of HB.out q)
  clear hb q H7
  obtain ⟨w9, hw9⟩ : ∃ W, W = w8.alloc (.cells #[.int .i64 0, .int .i64 0, .int .u64 0, .int .u64 0, .int .u64 0, .int .u64 0, .int .u64 0, .int .u64 0, .slice sa 0 sc] 28) := ⟨_, rfl⟩
  rw [← hw9] at HB HX
  have hdv : (S : Int) / 2 = ((S / 2 : Nat) : Int) := by omega
  rcases HAT.out with h | h
  · have q1 : at_ < 0 := h
    go_wp2_with (go_at_call 13; refine (num6_any _ _).mono ?_; rintro e wn ⟨rfl, rfl⟩)
    rw [← hw9]
    go_ret
    exact ⟨rfl, HB.out⟩
  · have q1 : (S : Int) / 2 ≤ at_ := by omega
    have q0 : 0 ≤ at_ := by omega
    clear hdv
    go_wp2_with (go_at_call 13; refine (num6_any _ _).mono ?_; rintro e wn ⟨rfl, rfl⟩)
    rw [← hw9]
    go_ret
    exact ⟨rfl, HB.out⟩
set_option maxHeartbeats 16000000 in
set_option maxRecDepth 100000 in
theorem hw_eq1 (f : Fr) (a : Option Addr) (c m : Nat) (at_ : Int) (wd : Nat) (mo : UInt8) (w : World) (ho : f.Ok) (B : List UInt8) (hm : m = B.length) (hB : Bytes w (.slice a B.length c) B) (hl : B.length ≤ 5000) (hmay : mayF f B = true) (k : Nat) (hka : at_ = (k : Int)) (hat : 2 * k + 1 < (frL f B).length) (hwd : wd < 65536) (p q : Nat) (hp : p = Sm.at0 (frL f B) (2 * k)) (hq : q = Sm.at0 (frL f B) (2 * k + 1)) (heq : 256 * p + q = wd) :
    Calls Try.prog 5 #[.agg #[.int .i64 f.k, .int .i64 f.n, .int .u64 (f.mb : Nat), .int .u64 (f.mt : Nat), .int .u64 (f.tb : Nat), .int .u64 (f.tt : Nat), .int .u64 (f.s : Nat), .int .u64 (f.a : Nat), .slice a m c], .int .i64 at_, .int .u16 (wd : Nat), .int .u8 (mo.toNat : Int)] w fun e w' => e = .returned (.bool true) ∧ Below w.heap.size w w' := by
  subst hka
  obtain ⟨wz, hwz⟩ : ∃ wz, wz = (w.alloc (.cells #[.int .i64 f.k, .int .i64 f.n, .int .u64 (f.mb : Nat), .int .u64 (f.mt : Nat), .int .u64 (f.tb : Nat), .int .u64 (f.tt : Nat), .int .u64 (f.s : Nat), .int .u64 (f.a : Nat), .slice a m c] 28)) := ⟨_, rfl⟩
  have HB := Lib.hid (show Below w.heap.size w wz by rw [hwz]; go_grown)
  have HF := Lib.hid (show BlkAt 28 (w.heap.size) [.int .i64 f.k, .int .i64 f.n, .int .u64 (f.mb : Nat), .int .u64 (f.mt : Nat), .int .u64 (f.tb : Nat), .int .u64 (f.tt : Nat), .int .u64 (f.s : Nat), .int .u64 (f.a : Nat), .slice a m c] wz by
    have h9 := BlkAt.new (t := 28) w [.int .i64 f.k, .int .i64 f.n, .int .u64 (f.mb : Nat), .int .u64 (f.mt : Nat), .int .u64 (f.tb : Nat), .int .u64 (f.tt : Nat), .int .u64 (f.s : Nat), .int .u64 (f.a : Nat), .slice a m c]
    rw [hwz]; simpa using h9)
  have k1 : (m : Int) ≤ 5000 := by omega
  obtain ⟨_, _, hl2048⟩ := may_of6 hmay
  have hok := ok_L ho hmay
  obtain ⟨p1, p2⟩ := frP_L ho hmay
  obtain ⟨o1, o2, o3⟩ := o_yes hok
  have hKl := frL_length f B
  obtain ⟨K, hK⟩ : ∃ K, K = frL f B := ⟨_, rfl⟩
  rw [← hK] at hp hq hok p1 p2 o1 o2 o3 hKl hat
  obtain ⟨S, hS⟩ : ∃ S, S = K.length := ⟨_, rfl⟩
  obtain ⟨S1, hS1⟩ : ∃ s, s + 1 = S := ⟨S - 1, by omega⟩
  rw [← hS] at hat
  have HBW : Hid (∀ W, Below w.heap.size w W → Calls Try.prog 9 #[.agg #[.int .i64 f.k, .int .i64 f.n, .int .u64 (f.mb : Nat), .int .u64 (f.mt : Nat), .int .u64 (f.tb : Nat), .int .u64 (f.tt : Nat), .int .u64 (f.s : Nat), .int .u64 (f.a : Nat), .slice a m c]] W fun e w' => ∃ v, e = .returned (.tuple #[v, .int .i64 0]) ∧ OwnB w' W.heap.size v K ∧ Below W.heap.size W w') := fun W hW => by
    have h9 := bytesF_yes f ho _ B W (hB.later hW) hmay
    rw [← hK, ← hm] at h9; exact h9
  have HOF : Hid (∀ v W, Bytes W v K → Calls Try.prog 14 #[v] W fun e w' => ∃ u, e = .returned (.tuple #[.agg #[.int .i64 f.k, .int .i64 f.n, .int .u64 (f.mb : Nat), .int .u64 (f.mt : Nat), .int .u64 (f.tb : Nat), .int .u64 (f.tt : Nat), .int .u64 (f.s : Nat), .int .u64 (f.a : Nat), u], .int .i64 0]) ∧ OwnB w' W.heap.size u B ∧ Below W.heap.size W w') := fun v W h => by
    have h9 := of6W_any v _ W h (by omega)
    unfold OfA at h9
    rw [o1, o2, o3, p1, p2] at h9; exact h9
  have HBB : Hid (∀ W, Below w.heap.size w W → Bytes W (.slice a m c) B) := fun W hW => by rw [hm]; exact hB.later hW
  have HCUT := Lib.hid (ok_cut hok (n := S1) (by omega))
  have HMORE := Lib.hid (ok_more hok mo)
  have HH : Hid (S = K.length ∧ S1 + 1 = S ∧ S ≤ 2102 ∧ 54 ≤ S ∧ m = B.length) := ⟨hS, hS1, by omega, by omega, hm⟩
  have e1 : wrap64 ((S : Int) - 1) = (S1 : Int) := by rw [IntWalk.wrap64_in _ ⟨by omega, by omega⟩]; omega
  have e1' : (S : Int) - 1 = (S1 : Int) := by omega
  have kS : (S : Int) ≤ 2102 := by omega
  have kS0 : (54 : Int) ≤ S := by omega
  have bp : p < 256 := by rw [hp]; exact Sm.at0_lt _ _
  have bq : q < 256 := by rw [hq]; exact Sm.at0_lt _ _
  obtain ⟨x', hx'⟩ : ∃ x : UInt8, x.toNat = wd / 256 := ⟨UInt8.ofNat (wd / 256), by rw [UInt8.toNat_ofNat']; omega⟩
  obtain ⟨y', hy'⟩ : ∃ y : UInt8, y.toNat = wd % 256 := ⟨UInt8.ofNat (wd % 256), by rw [UInt8.toNat_ofNat']; omega⟩
  obtain ⟨mN, hmN⟩ : ∃ x, x = 256 * p + q := ⟨_, rfl⟩
  have HPQ : Hid (p < 256 ∧ q < 256 ∧ mN = 256 * p + q ∧ 2 * k + 1 < S ∧ p = Sm.at0 K (2 * k) ∧ q = Sm.at0 K (2 * k + 1) ∧ x'.toNat = wd / 256 ∧ y'.toNat = wd % 256 ∧ wd < 65536) := ⟨bp, bq, hmN, hat, hp, hq, hx', hy', hwd⟩
  have z1 : (mN : Int) = (wd : Int) := by omega
  have z2 : ((mN : Int) == (wd : Int)) = true := beq_iff_eq.2 z1
  clear hat hwd hp hq bp bq hx' hy' hmN heq z1
  clear ho hm hB hl hmay hok p1 p2 o1 o2 o3 hKl hK hS hS1 hl2048
  go_enter Try.func5, Try.ntmps5
  go_wp2_with fail
  rw [← hwz]
  clear hwz
  refine (known6_any _).mono ?_
  rintro e w1 ⟨rfl, hb⟩
  have HF := Lib.hid (HF.out.later hb)
  have HB := Lib.hid (below_of HB.out hb)
  clear hb
  have c0 := BlkAt.cell HF.out (j := 0) rfl
  have c1 := BlkAt.cell HF.out (j := 1) rfl
  have c2 := BlkAt.cell HF.out (j := 2) rfl
  have c3 := BlkAt.cell HF.out (j := 3) rfl
  have c4 := BlkAt.cell HF.out (j := 4) rfl
  have c5 := BlkAt.cell HF.out (j := 5) rfl
  have c6 := BlkAt.cell HF.out (j := 6) rfl
  have c7 := BlkAt.cell HF.out (j := 7) rfl
  have c8 := BlkAt.cell HF.out (j := 8) rfl
  go_wp2_with fail
  refine (HBW.out _ HB.out).mono ?_
  rintro e w2 ⟨x, rfl, hx, hb⟩
  have hx := OwnB.weak hx HB.out.size
  obtain ⟨g, cap, _, rfl, hbg, _, hnc, _⟩ := hx.row (by have := HH.out; omega)
  rw [← HH.out.1] at hx ⊢
  have HX := Lib.hid hx
  have HGW : Hid (w.heap.size ≤ g) := hbg
  have kcap : S ≤ cap := by have := HH.out; omega
  have HF := Lib.hid (HF.out.later hb)
  have HB := Lib.hid (below_of HB.out hb)
  clear hb hx hbg hnc
  clear c0 c1 c2 c3 c4 c5 c6 c7 c8
  go_wp2_with (go_at_call 13; refine (num6_any _ _).mono ?_; rintro e wn ⟨rfl, rfl⟩)
  refine (HOF.out _ _ HX.out.bytes).mono ?_
  rintro e w3 ⟨u, rfl, hu, hb⟩
  obtain ⟨ua, uc, rfl⟩ := hu.form
  rw [← HH.out.2.2.2.2] at hu ⊢
  have q := hb.alloc hb.size (.cells #[.int .i64 f.k, .int .i64 f.n, .int .u64 (f.mb : Nat), .int .u64 (f.mt : Nat), .int .u64 (f.tb : Nat), .int .u64 (f.tt : Nat), .int .u64 (f.s : Nat), .int .u64 (f.a : Nat), .slice ua m uc] 28)
  have HU := Lib.hid (Bytes.later hu.bytes (ba1 _ (.cells #[.int .i64 f.k, .int .i64 f.n, .int .u64 (f.mb : Nat), .int .u64 (f.mt : Nat), .int .u64 (f.tb : Nat), .int .u64 (f.tt : Nat), .int .u64 (f.s : Nat), .int .u64 (f.a : Nat), .slice ua m uc] 28)))
  have HY := Lib.hid (show BlkAt 28 w3.heap.size [.int .i64 f.k, .int .i64 f.n, .int .u64 (f.mb : Nat), .int .u64 (f.mt : Nat), .int .u64 (f.tb : Nat), .int .u64 (f.tt : Nat), .int .u64 (f.s : Nat), .int .u64 (f.a : Nat), .slice ua m uc] (w3.alloc (.cells #[.int .i64 f.k, .int .i64 f.n, .int .u64 (f.mb : Nat), .int .u64 (f.mt : Nat), .int .u64 (f.tb : Nat), .int .u64 (f.tt : Nat), .int .u64 (f.s : Nat), .int .u64 (f.a : Nat), .slice ua m uc] 28)) from BlkAt.new w3 _)
  have HX := Lib.hid (OwnB.later HX.out q)
  have HF := Lib.hid (HF.out.later q)
  have HB := Lib.hid (below_of HB.out q)
  clear hb q hu
  have c0 := BlkAt.cell HY.out (j := 0) rfl
  have c1 := BlkAt.cell HY.out (j := 1) rfl
  have c2 := BlkAt.cell HY.out (j := 2) rfl
  have c3 := BlkAt.cell HY.out (j := 3) rfl
  have c4 := BlkAt.cell HY.out (j := 4) rfl
  have c5 := BlkAt.cell HY.out (j := 5) rfl
  have c6 := BlkAt.cell HY.out (j := 6) rfl
  have c7 := BlkAt.cell HY.out (j := 7) rfl
  have c8 := BlkAt.cell HY.out (j := 8) rfl
  have d0 := BlkAt.cell HF.out (j := 0) rfl
  have d1 := BlkAt.cell HF.out (j := 1) rfl
  have d2 := BlkAt.cell HF.out (j := 2) rfl
  have d3 := BlkAt.cell HF.out (j := 3) rfl
  have d4 := BlkAt.cell HF.out (j := 4) rfl
  have d5 := BlkAt.cell HF.out (j := 5) rfl
  have d6 := BlkAt.cell HF.out (j := 6) rfl
  have d7 := BlkAt.cell HF.out (j := 7) rfl
  have d8 := BlkAt.cell HF.out (j := 8) rfl
  go_wp2_with (go_at_call 13; refine (num6_any _ _).mono ?_; rintro e wn ⟨rfl, rfl⟩)
  obtain ⟨wy, hwy⟩ : ∃ W, W = w3.alloc (.cells #[.int .i64 f.k, .int .i64 f.n, .int .u64 (f.mb : Nat), .int .u64 (f.mt : Nat), .int .u64 (f.tb : Nat), .int .u64 (f.tt : Nat), .int .u64 (f.s : Nat), .int .u64 (f.a : Nat), .slice ua m uc] 28) := ⟨_, rfl⟩
  rw [← hwy] at HB HX HU HY HF ⊢
  clear hwy
  have hsm := sameFR_any f f (.slice ua m uc) (.slice a m c) B B wy HU.out (HBB.out _ HB.out)
  rw [sameF_refl] at hsm
  refine hsm.mono ?_
  rintro e w4 ⟨rfl, hb⟩
  have HX := Lib.hid (OwnB.later HX.out hb)
  have HB := Lib.hid (below_of HB.out hb)
  clear hb hsm HU HY HF c0 c1 c2 c3 c4 c5 c6 c7 c8 d0 d1 d2 d3 d4 d5 d6 d7 d8
  obtain ⟨hrh, hP⟩ := HX.out.bytes.cut_h (S1 : Int) S1 rfl (by have := HH.out; omega)
  have HP := Lib.hid hP
  clear hP
  go_wp2_with fail
  refine (of6_bad _ _ _ HP.out (by have := HH.out; simp; omega) HCUT.out).mono ?_
  rintro e w5 ⟨⟨ra, rc, rfl⟩, hb⟩
  have HX := Lib.hid (OwnB.later HX.out hb)
  have HB := Lib.hid (below_of HB.out hb)
  clear hb HP hrh
  go_wp2_with (at_builtin; refine wpList_app rfl (.const (.slice none 0 0)) (.tmp 54) rfl w5.heap.size (.slice none 0 0) _ [] K rfl rfl (OwnB.nil _ _) HX.out.bytes (by have := HH.out; simp; omega) (Nat.le_refl _) ?_)
  intro v6 w6 ho6 hb6 hg6
  have H6 := Lib.hid ho6
  have hB6 := Lib.hid (show Below w5.heap.size w5 w6 from hb6)
  clear ho6 hb6 hg6
  go_wp2_with (at_builtin; refine wpList_app rfl (.tmp 55) (.tmp 57) rfl w5.heap.size v6 _ K [mo] rfl rfl (H6.out.alloc _) (bytes_lit w6 [mo]) (by have := HH.out; simp; omega) (by have := hB6.out.size; simp; omega) ?_)
  intro v7 w7 ho7 hb7 hg7
  have hB7 : Below w5.heap.size w5 w7 := (hB6.out.alloc hB6.out.size _).trans hb7
  have H7 := Lib.hid ho7.bytes
  have HX := Lib.hid (OwnB.later HX.out hB7)
  have HB := Lib.hid (below_of HB.out hB7)
  clear ho7 hb7 hg7 hB7 H6 hB6
  go_wp2_with fail
  refine (of6_bad _ _ _ H7.out (by have := HH.out; simp; omega) HMORE.out).mono ?_
  rintro e w8 ⟨⟨sa, sc, rfl⟩, hb⟩
  have q := hb.alloc hb.size (.cells #[.int .i64 0, .int .i64 0, .int .u64 0, .int .u64 0, .int .u64 0, .int .u64 0, .int .u64 0, .int .u64 0, .slice sa 0 sc] 28)
  have HX := Lib.hid (OwnB.later HX.out q)
  have HB := Lib.hid (below_of HB.out q)
  clear hb q H7
  obtain ⟨w9, hw9⟩ : ∃ W, W = w8.alloc (.cells #[.int .i64 0, .int .i64 0, .int .u64 0, .int .u64 0, .int .u64 0, .int .u64 0, .int .u64 0, .int .u64 0, .slice sa 0 sc] 28) := ⟨_, rfl⟩
  rw [← hw9] at HB HX
  have kk := HPQ.out.2.2.2.1
  have hdv : (k : Int) < (S : Int) / 2 := by omega
  have k0 : (0 : Int) ≤ (k : Int) := by omega
  obtain ⟨hN, hh⟩ : ∃ hN : Nat, (S : Int) / 2 = (hN : Int) := ⟨S / 2, by omega⟩
  have k2 : (k : Int) < hN := by omega
  have k3 : (hN : Int) ≤ 1051 := by omega
  clear hdv
  go_wp2_with (go_at_call 13; refine (num6_any _ _).mono ?_; rintro e wn ⟨rfl, rfl⟩)
  rw [← hw9]
  clear hw9 hh
  go_wp2_with fail
  have i1 : (2 * (k : Int)) < S := by omega
  have i2 : (2 * (k : Int)) + 1 < S := by omega
  obtain ⟨c1, f1⟩ := own_at HX.out (j := 2 * k) (by have := HH.out; omega)
  obtain ⟨c2', f2⟩ := own_at HX.out (j := 2 * k + 1) (by have := HH.out; omega)
  rw [← HPQ.out.2.2.2.2.1] at c1
  rw [← HPQ.out.2.2.2.2.2.1] at c2'
  have bp := HPQ.out.1
  have bq := HPQ.out.2.1
  clear k2
  have hw1 : IntKind.u16.wrap (256 * (p : Int)) = 256 * (p : Int) := IntWalk.u16_in _ ⟨by omega, by omega⟩
  have hw2 : IntKind.u16.wrap (256 * (p : Int) + (q : Int)) = (mN : Int) := by rw [IntWalk.u16_in _ ⟨by omega, by omega⟩]; have := HPQ.out.2.2.1; omega
  go_quiet (fail)
  have hn2 : (wd : Int) < 65536 := by have := HPQ.out; omega
  have bm : (mN : Int) < 65536 := by have := HPQ.out; omega
  clear hw1 hw2
  rename_i nq
  go_wp2_with fail
  go_ret
  exact ⟨rfl, below_drewN HB.out nq⟩
set_option maxHeartbeats 16000000 in
set_option maxRecDepth 100000 in
theorem hw_eq2 (f : Fr) (a : Option Addr) (c m : Nat) (at_ : Int) (wd : Nat) (mo : UInt8) (w : World) (ho : f.Ok) (B : List UInt8) (hm : m = B.length) (hB : Bytes w (.slice a B.length c) B) (hl : B.length ≤ 5000) (hmay : mayF f B = true) (k : Nat) (hka : at_ = (k : Int)) (hat : 2 * k + 1 < (frL f B).length) (hwd : wd < 65536) (p q : Nat) (hp : p = Sm.at0 (frL f B) (2 * k)) (hq : q = Sm.at0 (frL f B) (2 * k + 1)) (hne : 256 * p + q ≠ wd) (heq2 : (256 * p + q) % 65535 = wd % 65535) :
    Calls Try.prog 5 #[.agg #[.int .i64 f.k, .int .i64 f.n, .int .u64 (f.mb : Nat), .int .u64 (f.mt : Nat), .int .u64 (f.tb : Nat), .int .u64 (f.tt : Nat), .int .u64 (f.s : Nat), .int .u64 (f.a : Nat), .slice a m c], .int .i64 at_, .int .u16 (wd : Nat), .int .u8 (mo.toNat : Int)] w fun e w' => e = .returned (.bool true) ∧ Below w.heap.size w w' := by
  subst hka
  obtain ⟨wz, hwz⟩ : ∃ wz, wz = (w.alloc (.cells #[.int .i64 f.k, .int .i64 f.n, .int .u64 (f.mb : Nat), .int .u64 (f.mt : Nat), .int .u64 (f.tb : Nat), .int .u64 (f.tt : Nat), .int .u64 (f.s : Nat), .int .u64 (f.a : Nat), .slice a m c] 28)) := ⟨_, rfl⟩
  have HB := Lib.hid (show Below w.heap.size w wz by rw [hwz]; go_grown)
  have HF := Lib.hid (show BlkAt 28 (w.heap.size) [.int .i64 f.k, .int .i64 f.n, .int .u64 (f.mb : Nat), .int .u64 (f.mt : Nat), .int .u64 (f.tb : Nat), .int .u64 (f.tt : Nat), .int .u64 (f.s : Nat), .int .u64 (f.a : Nat), .slice a m c] wz by
    have h9 := BlkAt.new (t := 28) w [.int .i64 f.k, .int .i64 f.n, .int .u64 (f.mb : Nat), .int .u64 (f.mt : Nat), .int .u64 (f.tb : Nat), .int .u64 (f.tt : Nat), .int .u64 (f.s : Nat), .int .u64 (f.a : Nat), .slice a m c]
    rw [hwz]; simpa using h9)
  have k1 : (m : Int) ≤ 5000 := by omega
  obtain ⟨_, _, hl2048⟩ := may_of6 hmay
  have hok := ok_L ho hmay
  obtain ⟨p1, p2⟩ := frP_L ho hmay
  obtain ⟨o1, o2, o3⟩ := o_yes hok
  have hKl := frL_length f B
  obtain ⟨K, hK⟩ : ∃ K, K = frL f B := ⟨_, rfl⟩
  rw [← hK] at hp hq hok p1 p2 o1 o2 o3 hKl hat
  obtain ⟨S, hS⟩ : ∃ S, S = K.length := ⟨_, rfl⟩
  obtain ⟨S1, hS1⟩ : ∃ s, s + 1 = S := ⟨S - 1, by omega⟩
  rw [← hS] at hat
  have HBW : Hid (∀ W, Below w.heap.size w W → Calls Try.prog 9 #[.agg #[.int .i64 f.k, .int .i64 f.n, .int .u64 (f.mb : Nat), .int .u64 (f.mt : Nat), .int .u64 (f.tb : Nat), .int .u64 (f.tt : Nat), .int .u64 (f.s : Nat), .int .u64 (f.a : Nat), .slice a m c]] W fun e w' => ∃ v, e = .returned (.tuple #[v, .int .i64 0]) ∧ OwnB w' W.heap.size v K ∧ Below W.heap.size W w') := fun W hW => by
    have h9 := bytesF_yes f ho _ B W (hB.later hW) hmay
    rw [← hK, ← hm] at h9; exact h9
  have HOF : Hid (∀ v W, Bytes W v K → Calls Try.prog 14 #[v] W fun e w' => ∃ u, e = .returned (.tuple #[.agg #[.int .i64 f.k, .int .i64 f.n, .int .u64 (f.mb : Nat), .int .u64 (f.mt : Nat), .int .u64 (f.tb : Nat), .int .u64 (f.tt : Nat), .int .u64 (f.s : Nat), .int .u64 (f.a : Nat), u], .int .i64 0]) ∧ OwnB w' W.heap.size u B ∧ Below W.heap.size W w') := fun v W h => by
    have h9 := of6W_any v _ W h (by omega)
    unfold OfA at h9
    rw [o1, o2, o3, p1, p2] at h9; exact h9
  have HBB : Hid (∀ W, Below w.heap.size w W → Bytes W (.slice a m c) B) := fun W hW => by rw [hm]; exact hB.later hW
  have HCUT := Lib.hid (ok_cut hok (n := S1) (by omega))
  have HMORE := Lib.hid (ok_more hok mo)
  have HH : Hid (S = K.length ∧ S1 + 1 = S ∧ S ≤ 2102 ∧ 54 ≤ S ∧ m = B.length) := ⟨hS, hS1, by omega, by omega, hm⟩
  have e1 : wrap64 ((S : Int) - 1) = (S1 : Int) := by rw [IntWalk.wrap64_in _ ⟨by omega, by omega⟩]; omega
  have e1' : (S : Int) - 1 = (S1 : Int) := by omega
  have kS : (S : Int) ≤ 2102 := by omega
  have kS0 : (54 : Int) ≤ S := by omega
  have bp : p < 256 := by rw [hp]; exact Sm.at0_lt _ _
  have bq : q < 256 := by rw [hq]; exact Sm.at0_lt _ _
  obtain ⟨x', hx'⟩ : ∃ x : UInt8, x.toNat = wd / 256 := ⟨UInt8.ofNat (wd / 256), by rw [UInt8.toNat_ofNat']; omega⟩
  obtain ⟨y', hy'⟩ : ∃ y : UInt8, y.toNat = wd % 256 := ⟨UInt8.ofNat (wd % 256), by rw [UInt8.toNat_ofNat']; omega⟩
  obtain ⟨mN, hmN⟩ : ∃ x, x = 256 * p + q := ⟨_, rfl⟩
  have HPQ : Hid (p < 256 ∧ q < 256 ∧ mN = 256 * p + q ∧ 2 * k + 1 < S ∧ p = Sm.at0 K (2 * k) ∧ q = Sm.at0 K (2 * k + 1) ∧ x'.toNat = wd / 256 ∧ y'.toNat = wd % 256 ∧ wd < 65536) := ⟨bp, bq, hmN, hat, hp, hq, hx', hy', hwd⟩
  have z2 : ((mN : Int) == (wd : Int)) = false := beq_eq_false_iff_ne.2 (by omega)
  have z3 : ((mN : Int) % 65535 == (wd : Int) % 65535) = true := beq_iff_eq.2 (by omega)
  clear hat hwd hp hq bp bq hx' hy' hmN hne heq2
  clear ho hm hB hl hmay hok p1 p2 o1 o2 o3 hKl hK hS hS1 hl2048
  go_enter Try.func5, Try.ntmps5
  go_wp2_with fail
  rw [← hwz]
  clear hwz
  refine (known6_any _).mono ?_
  rintro e w1 ⟨rfl, hb⟩
  have HF := Lib.hid (HF.out.later hb)
  have HB := Lib.hid (below_of HB.out hb)
  clear hb
  have c0 := BlkAt.cell HF.out (j := 0) rfl
  have c1 := BlkAt.cell HF.out (j := 1) rfl
  have c2 := BlkAt.cell HF.out (j := 2) rfl
  have c3 := BlkAt.cell HF.out (j := 3) rfl
  have c4 := BlkAt.cell HF.out (j := 4) rfl
  have c5 := BlkAt.cell HF.out (j := 5) rfl
  have c6 := BlkAt.cell HF.out (j := 6) rfl
  have c7 := BlkAt.cell HF.out (j := 7) rfl
  have c8 := BlkAt.cell HF.out (j := 8) rfl
  go_wp2_with fail
  refine (HBW.out _ HB.out).mono ?_
  rintro e w2 ⟨x, rfl, hx, hb⟩
  have hx := OwnB.weak hx HB.out.size
  obtain ⟨g, cap, _, rfl, hbg, _, hnc, _⟩ := hx.row (by have := HH.out; omega)
  rw [← HH.out.1] at hx ⊢
  have HX := Lib.hid hx
  have HGW : Hid (w.heap.size ≤ g) := hbg
  have kcap : S ≤ cap := by have := HH.out; omega
  have HF := Lib.hid (HF.out.later hb)
  have HB := Lib.hid (below_of HB.out hb)
  clear hb hx hbg hnc
  clear c0 c1 c2 c3 c4 c5 c6 c7 c8
  go_wp2_with (go_at_call 13; refine (num6_any _ _).mono ?_; rintro e wn ⟨rfl, rfl⟩)
  refine (HOF.out _ _ HX.out.bytes).mono ?_
  rintro e w3 ⟨u, rfl, hu, hb⟩
  obtain ⟨ua, uc, rfl⟩ := hu.form
  rw [← HH.out.2.2.2.2] at hu ⊢
  have q := hb.alloc hb.size (.cells #[.int .i64 f.k, .int .i64 f.n, .int .u64 (f.mb : Nat), .int .u64 (f.mt : Nat), .int .u64 (f.tb : Nat), .int .u64 (f.tt : Nat), .int .u64 (f.s : Nat), .int .u64 (f.a : Nat), .slice ua m uc] 28)
  have HU := Lib.hid (Bytes.later hu.bytes (ba1 _ (.cells #[.int .i64 f.k, .int .i64 f.n, .int .u64 (f.mb : Nat), .int .u64 (f.mt : Nat), .int .u64 (f.tb : Nat), .int .u64 (f.tt : Nat), .int .u64 (f.s : Nat), .int .u64 (f.a : Nat), .slice ua m uc] 28)))
  have HY := Lib.hid (show BlkAt 28 w3.heap.size [.int .i64 f.k, .int .i64 f.n, .int .u64 (f.mb : Nat), .int .u64 (f.mt : Nat), .int .u64 (f.tb : Nat), .int .u64 (f.tt : Nat), .int .u64 (f.s : Nat), .int .u64 (f.a : Nat), .slice ua m uc] (w3.alloc (.cells #[.int .i64 f.k, .int .i64 f.n, .int .u64 (f.mb : Nat), .int .u64 (f.mt : Nat), .int .u64 (f.tb : Nat), .int .u64 (f.tt : Nat), .int .u64 (f.s : Nat), .int .u64 (f.a : Nat), .slice ua m uc] 28)) from BlkAt.new w3 _)
  have HX := Lib.hid (OwnB.later HX.out q)
  have HF := Lib.hid (HF.out.later q)
  have HB := Lib.hid (below_of HB.out q)
  clear hb q hu
  have c0 := BlkAt.cell HY.out (j := 0) rfl
  have c1 := BlkAt.cell HY.out (j := 1) rfl
  have c2 := BlkAt.cell HY.out (j := 2) rfl
  have c3 := BlkAt.cell HY.out (j := 3) rfl
  have c4 := BlkAt.cell HY.out (j := 4) rfl
  have c5 := BlkAt.cell HY.out (j := 5) rfl
  have c6 := BlkAt.cell HY.out (j := 6) rfl
  have c7 := BlkAt.cell HY.out (j := 7) rfl
  have c8 := BlkAt.cell HY.out (j := 8) rfl
  have d0 := BlkAt.cell HF.out (j := 0) rfl
  have d1 := BlkAt.cell HF.out (j := 1) rfl
  have d2 := BlkAt.cell HF.out (j := 2) rfl
  have d3 := BlkAt.cell HF.out (j := 3) rfl
  have d4 := BlkAt.cell HF.out (j := 4) rfl
  have d5 := BlkAt.cell HF.out (j := 5) rfl
  have d6 := BlkAt.cell HF.out (j := 6) rfl
  have d7 := BlkAt.cell HF.out (j := 7) rfl
  have d8 := BlkAt.cell HF.out (j := 8) rfl
  go_wp2_with (go_at_call 13; refine (num6_any _ _).mono ?_; rintro e wn ⟨rfl, rfl⟩)
  obtain ⟨wy, hwy⟩ : ∃ W, W = w3.alloc (.cells #[.int .i64 f.k, .int .i64 f.n, .int .u64 (f.mb : Nat), .int .u64 (f.mt : Nat), .int .u64 (f.tb : Nat), .int .u64 (f.tt : Nat), .int .u64 (f.s : Nat), .int .u64 (f.a : Nat), .slice ua m uc] 28) := ⟨_, rfl⟩
  rw [← hwy] at HB HX HU HY HF ⊢
  clear hwy
  have hsm := sameFR_any f f (.slice ua m uc) (.slice a m c) B B wy HU.out (HBB.out _ HB.out)
  rw [sameF_refl] at hsm
  refine hsm.mono ?_
  rintro e w4 ⟨rfl, hb⟩
  have HX := Lib.hid (OwnB.later HX.out hb)
  have HB := Lib.hid (below_of HB.out hb)
  clear hb hsm HU HY HF c0 c1 c2 c3 c4 c5 c6 c7 c8 d0 d1 d2 d3 d4 d5 d6 d7 d8
  obtain ⟨hrh, hP⟩ := HX.out.bytes.cut_h (S1 : Int) S1 rfl (by have := HH.out; omega)
  have HP := Lib.hid hP
  clear hP
  go_wp2_with fail
  refine (of6_bad _ _ _ HP.out (by have := HH.out; simp; omega) HCUT.out).mono ?_
  rintro e w5 ⟨⟨ra, rc, rfl⟩, hb⟩
  have HX := Lib.hid (OwnB.later HX.out hb)
  have HB := Lib.hid (below_of HB.out hb)
  clear hb HP hrh
  go_wp2_with (at_builtin; refine wpList_app rfl (.const (.slice none 0 0)) (.tmp 54) rfl w5.heap.size (.slice none 0 0) _ [] K rfl rfl (OwnB.nil _ _) HX.out.bytes (by have := HH.out; simp; omega) (Nat.le_refl _) ?_)
  intro v6 w6 ho6 hb6 hg6
  have H6 := Lib.hid ho6
  have hB6 := Lib.hid (show Below w5.heap.size w5 w6 from hb6)
  clear ho6 hb6 hg6
  go_wp2_with (at_builtin; refine wpList_app rfl (.tmp 55) (.tmp 57) rfl w5.heap.size v6 _ K [mo] rfl rfl (H6.out.alloc _) (bytes_lit w6 [mo]) (by have := HH.out; simp; omega) (by have := hB6.out.size; simp; omega) ?_)
  intro v7 w7 ho7 hb7 hg7
  have hB7 : Below w5.heap.size w5 w7 := (hB6.out.alloc hB6.out.size _).trans hb7
  have H7 := Lib.hid ho7.bytes
  have HX := Lib.hid (OwnB.later HX.out hB7)
  have HB := Lib.hid (below_of HB.out hB7)
  clear ho7 hb7 hg7 hB7 H6 hB6
  go_wp2_with fail
  refine (of6_bad _ _ _ H7.out (by have := HH.out; simp; omega) HMORE.out).mono ?_
  rintro e w8 ⟨⟨sa, sc, rfl⟩, hb⟩
  have q := hb.alloc hb.size (.cells #[.int .i64 0, .int .i64 0, .int .u64 0, .int .u64 0, .int .u64 0, .int .u64 0, .int .u64 0, .int .u64 0, .slice sa 0 sc] 28)
  have HX := Lib.hid (OwnB.later HX.out q)
  have HB := Lib.hid (below_of HB.out q)
  clear hb q H7
  obtain ⟨w9, hw9⟩ : ∃ W, W = w8.alloc (.cells #[.int .i64 0, .int .i64 0, .int .u64 0, .int .u64 0, .int .u64 0, .int .u64 0, .int .u64 0, .int .u64 0, .slice sa 0 sc] 28) := ⟨_, rfl⟩
  rw [← hw9] at HB HX
  have kk := HPQ.out.2.2.2.1
  have hdv : (k : Int) < (S : Int) / 2 := by omega
  have k0 : (0 : Int) ≤ (k : Int) := by omega
  obtain ⟨hN, hh⟩ : ∃ hN : Nat, (S : Int) / 2 = (hN : Int) := ⟨S / 2, by omega⟩
  have k2 : (k : Int) < hN := by omega
  have k3 : (hN : Int) ≤ 1051 := by omega
  clear hdv
  go_wp2_with (go_at_call 13; refine (num6_any _ _).mono ?_; rintro e wn ⟨rfl, rfl⟩)
  rw [← hw9]
  clear hw9 hh
  go_wp2_with fail
  have i1 : (2 * (k : Int)) < S := by omega
  have i2 : (2 * (k : Int)) + 1 < S := by omega
  obtain ⟨c1, f1⟩ := own_at HX.out (j := 2 * k) (by have := HH.out; omega)
  obtain ⟨c2', f2⟩ := own_at HX.out (j := 2 * k + 1) (by have := HH.out; omega)
  rw [← HPQ.out.2.2.2.2.1] at c1
  rw [← HPQ.out.2.2.2.2.2.1] at c2'
  have bp := HPQ.out.1
  have bq := HPQ.out.2.1
  clear k2
  have hw1 : IntKind.u16.wrap (256 * (p : Int)) = 256 * (p : Int) := IntWalk.u16_in _ ⟨by omega, by omega⟩
  have hw2 : IntKind.u16.wrap (256 * (p : Int) + (q : Int)) = (mN : Int) := by rw [IntWalk.u16_in _ ⟨by omega, by omega⟩]; have := HPQ.out.2.2.1; omega
  go_quiet (fail)
  have hn2 : (wd : Int) < 65536 := by have := HPQ.out; omega
  have bm : (mN : Int) < 65536 := by have := HPQ.out; omega
  clear hw1 hw2
  rename_i nq
  go_wp2_with fail
  go_ret
  exact ⟨rfl, below_drewN HB.out nq⟩
set_option maxHeartbeats 16000000 in
set_option maxRecDepth 100000 in
theorem hw_ne (f : Fr) (a : Option Addr) (c m : Nat) (at_ : Int) (wd : Nat) (mo : UInt8) (w : World) (ho : f.Ok) (B : List UInt8) (hm : m = B.length) (hB : Bytes w (.slice a B.length c) B) (hl : B.length ≤ 5000) (hmay : mayF f B = true) (k : Nat) (hka : at_ = (k : Int)) (hat : 2 * k + 1 < (frL f B).length) (hwd : wd < 65536) (p q : Nat) (hp : p = Sm.at0 (frL f B) (2 * k)) (hq : q = Sm.at0 (frL f B) (2 * k + 1)) (hne : 256 * p + q ≠ wd) (hne2 : (256 * p + q) % 65535 ≠ wd % 65535) :
    Calls Try.prog 5 #[.agg #[.int .i64 f.k, .int .i64 f.n, .int .u64 (f.mb : Nat), .int .u64 (f.mt : Nat), .int .u64 (f.tb : Nat), .int .u64 (f.tt : Nat), .int .u64 (f.s : Nat), .int .u64 (f.a : Nat), .slice a m c], .int .i64 at_, .int .u16 (wd : Nat), .int .u8 (mo.toNat : Int)] w fun e w' => e = .returned (.bool true) ∧ Below w.heap.size w w' := by
  subst hka
  obtain ⟨wz, hwz⟩ : ∃ wz, wz = (w.alloc (.cells #[.int .i64 f.k, .int .i64 f.n, .int .u64 (f.mb : Nat), .int .u64 (f.mt : Nat), .int .u64 (f.tb : Nat), .int .u64 (f.tt : Nat), .int .u64 (f.s : Nat), .int .u64 (f.a : Nat), .slice a m c] 28)) := ⟨_, rfl⟩
  have HB := Lib.hid (show Below w.heap.size w wz by rw [hwz]; go_grown)
  have HF := Lib.hid (show BlkAt 28 (w.heap.size) [.int .i64 f.k, .int .i64 f.n, .int .u64 (f.mb : Nat), .int .u64 (f.mt : Nat), .int .u64 (f.tb : Nat), .int .u64 (f.tt : Nat), .int .u64 (f.s : Nat), .int .u64 (f.a : Nat), .slice a m c] wz by
    have h9 := BlkAt.new (t := 28) w [.int .i64 f.k, .int .i64 f.n, .int .u64 (f.mb : Nat), .int .u64 (f.mt : Nat), .int .u64 (f.tb : Nat), .int .u64 (f.tt : Nat), .int .u64 (f.s : Nat), .int .u64 (f.a : Nat), .slice a m c]
    rw [hwz]; simpa using h9)
  have k1 : (m : Int) ≤ 5000 := by omega
  obtain ⟨_, _, hl2048⟩ := may_of6 hmay
  have hok := ok_L ho hmay
  obtain ⟨p1, p2⟩ := frP_L ho hmay
  obtain ⟨o1, o2, o3⟩ := o_yes hok
  have hKl := frL_length f B
  obtain ⟨K, hK⟩ : ∃ K, K = frL f B := ⟨_, rfl⟩
  rw [← hK] at hp hq hok p1 p2 o1 o2 o3 hKl hat
  obtain ⟨S, hS⟩ : ∃ S, S = K.length := ⟨_, rfl⟩
  obtain ⟨S1, hS1⟩ : ∃ s, s + 1 = S := ⟨S - 1, by omega⟩
  rw [← hS] at hat
  have HBW : Hid (∀ W, Below w.heap.size w W → Calls Try.prog 9 #[.agg #[.int .i64 f.k, .int .i64 f.n, .int .u64 (f.mb : Nat), .int .u64 (f.mt : Nat), .int .u64 (f.tb : Nat), .int .u64 (f.tt : Nat), .int .u64 (f.s : Nat), .int .u64 (f.a : Nat), .slice a m c]] W fun e w' => ∃ v, e = .returned (.tuple #[v, .int .i64 0]) ∧ OwnB w' W.heap.size v K ∧ Below W.heap.size W w') := fun W hW => by
    have h9 := bytesF_yes f ho _ B W (hB.later hW) hmay
    rw [← hK, ← hm] at h9; exact h9
  have HOF : Hid (∀ v W, Bytes W v K → Calls Try.prog 14 #[v] W fun e w' => ∃ u, e = .returned (.tuple #[.agg #[.int .i64 f.k, .int .i64 f.n, .int .u64 (f.mb : Nat), .int .u64 (f.mt : Nat), .int .u64 (f.tb : Nat), .int .u64 (f.tt : Nat), .int .u64 (f.s : Nat), .int .u64 (f.a : Nat), u], .int .i64 0]) ∧ OwnB w' W.heap.size u B ∧ Below W.heap.size W w') := fun v W h => by
    have h9 := of6W_any v _ W h (by omega)
    unfold OfA at h9
    rw [o1, o2, o3, p1, p2] at h9; exact h9
  have HBB : Hid (∀ W, Below w.heap.size w W → Bytes W (.slice a m c) B) := fun W hW => by rw [hm]; exact hB.later hW
  have HCUT := Lib.hid (ok_cut hok (n := S1) (by omega))
  have HMORE := Lib.hid (ok_more hok mo)
  have HH : Hid (S = K.length ∧ S1 + 1 = S ∧ S ≤ 2102 ∧ 54 ≤ S ∧ m = B.length) := ⟨hS, hS1, by omega, by omega, hm⟩
  have e1 : wrap64 ((S : Int) - 1) = (S1 : Int) := by rw [IntWalk.wrap64_in _ ⟨by omega, by omega⟩]; omega
  have e1' : (S : Int) - 1 = (S1 : Int) := by omega
  have kS : (S : Int) ≤ 2102 := by omega
  have kS0 : (54 : Int) ≤ S := by omega
  have bp : p < 256 := by rw [hp]; exact Sm.at0_lt _ _
  have bq : q < 256 := by rw [hq]; exact Sm.at0_lt _ _
  obtain ⟨x', hx'⟩ : ∃ x : UInt8, x.toNat = wd / 256 := ⟨UInt8.ofNat (wd / 256), by rw [UInt8.toNat_ofNat']; omega⟩
  obtain ⟨y', hy'⟩ : ∃ y : UInt8, y.toNat = wd % 256 := ⟨UInt8.ofNat (wd % 256), by rw [UInt8.toNat_ofNat']; omega⟩
  obtain ⟨mN, hmN⟩ : ∃ x, x = 256 * p + q := ⟨_, rfl⟩
  have HNO := Lib.hid (ok_word hok (k := k) (by omega) x' y' p q hp hq (by rw [hx', hy', show 256 * (wd / 256) + wd % 256 = wd by omega]; exact hne2))
  have HPQ : Hid (p < 256 ∧ q < 256 ∧ mN = 256 * p + q ∧ 2 * k + 1 < S ∧ p = Sm.at0 K (2 * k) ∧ q = Sm.at0 K (2 * k + 1) ∧ x'.toNat = wd / 256 ∧ y'.toNat = wd % 256 ∧ wd < 65536) := ⟨bp, bq, hmN, hat, hp, hq, hx', hy', hwd⟩
  have z2 : ((mN : Int) == (wd : Int)) = false := beq_eq_false_iff_ne.2 (by omega)
  have z3 : ((mN : Int) % 65535 == (wd : Int) % 65535) = false := beq_eq_false_iff_ne.2 (by omega)
  clear hat hwd hp hq bp bq hx' hy' hmN hne hne2
  clear ho hm hB hl hmay hok p1 p2 o1 o2 o3 hKl hK hS hS1 hl2048
  go_enter Try.func5, Try.ntmps5
  go_wp2_with fail
  rw [← hwz]
  clear hwz
  refine (known6_any _).mono ?_
  rintro e w1 ⟨rfl, hb⟩
  have HF := Lib.hid (HF.out.later hb)
  have HB := Lib.hid (below_of HB.out hb)
  clear hb
  have c0 := BlkAt.cell HF.out (j := 0) rfl
  have c1 := BlkAt.cell HF.out (j := 1) rfl
  have c2 := BlkAt.cell HF.out (j := 2) rfl
  have c3 := BlkAt.cell HF.out (j := 3) rfl
  have c4 := BlkAt.cell HF.out (j := 4) rfl
  have c5 := BlkAt.cell HF.out (j := 5) rfl
  have c6 := BlkAt.cell HF.out (j := 6) rfl
  have c7 := BlkAt.cell HF.out (j := 7) rfl
  have c8 := BlkAt.cell HF.out (j := 8) rfl
  go_wp2_with fail
  refine (HBW.out _ HB.out).mono ?_
  rintro e w2 ⟨x, rfl, hx, hb⟩
  have hx := OwnB.weak hx HB.out.size
  obtain ⟨g, cap, _, rfl, hbg, _, hnc, _⟩ := hx.row (by have := HH.out; omega)
  rw [← HH.out.1] at hx ⊢
  have HX := Lib.hid hx
  have HGW : Hid (w.heap.size ≤ g) := hbg
  have kcap : S ≤ cap := by have := HH.out; omega
  have HF := Lib.hid (HF.out.later hb)
  have HB := Lib.hid (below_of HB.out hb)
  clear hb hx hbg hnc
  clear c0 c1 c2 c3 c4 c5 c6 c7 c8
  go_wp2_with (go_at_call 13; refine (num6_any _ _).mono ?_; rintro e wn ⟨rfl, rfl⟩)
  refine (HOF.out _ _ HX.out.bytes).mono ?_
  rintro e w3 ⟨u, rfl, hu, hb⟩
  obtain ⟨ua, uc, rfl⟩ := hu.form
  rw [← HH.out.2.2.2.2] at hu ⊢
  have q := hb.alloc hb.size (.cells #[.int .i64 f.k, .int .i64 f.n, .int .u64 (f.mb : Nat), .int .u64 (f.mt : Nat), .int .u64 (f.tb : Nat), .int .u64 (f.tt : Nat), .int .u64 (f.s : Nat), .int .u64 (f.a : Nat), .slice ua m uc] 28)
  have HU := Lib.hid (Bytes.later hu.bytes (ba1 _ (.cells #[.int .i64 f.k, .int .i64 f.n, .int .u64 (f.mb : Nat), .int .u64 (f.mt : Nat), .int .u64 (f.tb : Nat), .int .u64 (f.tt : Nat), .int .u64 (f.s : Nat), .int .u64 (f.a : Nat), .slice ua m uc] 28)))
  have HY := Lib.hid (show BlkAt 28 w3.heap.size [.int .i64 f.k, .int .i64 f.n, .int .u64 (f.mb : Nat), .int .u64 (f.mt : Nat), .int .u64 (f.tb : Nat), .int .u64 (f.tt : Nat), .int .u64 (f.s : Nat), .int .u64 (f.a : Nat), .slice ua m uc] (w3.alloc (.cells #[.int .i64 f.k, .int .i64 f.n, .int .u64 (f.mb : Nat), .int .u64 (f.mt : Nat), .int .u64 (f.tb : Nat), .int .u64 (f.tt : Nat), .int .u64 (f.s : Nat), .int .u64 (f.a : Nat), .slice ua m uc] 28)) from BlkAt.new w3 _)
  have HX := Lib.hid (OwnB.later HX.out q)
  have HF := Lib.hid (HF.out.later q)
  have HB := Lib.hid (below_of HB.out q)
  clear hb q hu
  have c0 := BlkAt.cell HY.out (j := 0) rfl
  have c1 := BlkAt.cell HY.out (j := 1) rfl
  have c2 := BlkAt.cell HY.out (j := 2) rfl
  have c3 := BlkAt.cell HY.out (j := 3) rfl
  have c4 := BlkAt.cell HY.out (j := 4) rfl
  have c5 := BlkAt.cell HY.out (j := 5) rfl
  have c6 := BlkAt.cell HY.out (j := 6) rfl
  have c7 := BlkAt.cell HY.out (j := 7) rfl
  have c8 := BlkAt.cell HY.out (j := 8) rfl
  have d0 := BlkAt.cell HF.out (j := 0) rfl
  have d1 := BlkAt.cell HF.out (j := 1) rfl
  have d2 := BlkAt.cell HF.out (j := 2) rfl
  have d3 := BlkAt.cell HF.out (j := 3) rfl
  have d4 := BlkAt.cell HF.out (j := 4) rfl
  have d5 := BlkAt.cell HF.out (j := 5) rfl
  have d6 := BlkAt.cell HF.out (j := 6) rfl
  have d7 := BlkAt.cell HF.out (j := 7) rfl
  have d8 := BlkAt.cell HF.out (j := 8) rfl
  go_wp2_with (go_at_call 13; refine (num6_any _ _).mono ?_; rintro e wn ⟨rfl, rfl⟩)
  obtain ⟨wy, hwy⟩ : ∃ W, W = w3.alloc (.cells #[.int .i64 f.k, .int .i64 f.n, .int .u64 (f.mb : Nat), .int .u64 (f.mt : Nat), .int .u64 (f.tb : Nat), .int .u64 (f.tt : Nat), .int .u64 (f.s : Nat), .int .u64 (f.a : Nat), .slice ua m uc] 28) := ⟨_, rfl⟩
  rw [← hwy] at HB HX HU HY HF ⊢
  clear hwy
  have hsm := sameFR_any f f (.slice ua m uc) (.slice a m c) B B wy HU.out (HBB.out _ HB.out)
  rw [sameF_refl] at hsm
  refine hsm.mono ?_
  rintro e w4 ⟨rfl, hb⟩
  have HX := Lib.hid (OwnB.later HX.out hb)
  have HB := Lib.hid (below_of HB.out hb)
  clear hb hsm HU HY HF c0 c1 c2 c3 c4 c5 c6 c7 c8 d0 d1 d2 d3 d4 d5 d6 d7 d8
  obtain ⟨hrh, hP⟩ := HX.out.bytes.cut_h (S1 : Int) S1 rfl (by have := HH.out; omega)
  have HP := Lib.hid hP
  clear hP
  go_wp2_with fail
  refine (of6_bad _ _ _ HP.out (by have := HH.out; simp; omega) HCUT.out).mono ?_
  rintro e w5 ⟨⟨ra, rc, rfl⟩, hb⟩
  have HX := Lib.hid (OwnB.later HX.out hb)
  have HB := Lib.hid (below_of HB.out hb)
  clear hb HP hrh
  go_wp2_with (at_builtin; refine wpList_app rfl (.const (.slice none 0 0)) (.tmp 54) rfl w5.heap.size (.slice none 0 0) _ [] K rfl rfl (OwnB.nil _ _) HX.out.bytes (by have := HH.out; simp; omega) (Nat.le_refl _) ?_)
  intro v6 w6 ho6 hb6 hg6
  have H6 := Lib.hid ho6
  have hB6 := Lib.hid (show Below w5.heap.size w5 w6 from hb6)
  clear ho6 hb6 hg6
  go_wp2_with (at_builtin; refine wpList_app rfl (.tmp 55) (.tmp 57) rfl w5.heap.size v6 _ K [mo] rfl rfl (H6.out.alloc _) (bytes_lit w6 [mo]) (by have := HH.out; simp; omega) (by have := hB6.out.size; simp; omega) ?_)
  intro v7 w7 ho7 hb7 hg7
  have hB7 : Below w5.heap.size w5 w7 := (hB6.out.alloc hB6.out.size _).trans hb7
  have H7 := Lib.hid ho7.bytes
  have HX := Lib.hid (OwnB.later HX.out hB7)
  have HB := Lib.hid (below_of HB.out hB7)
  clear ho7 hb7 hg7 hB7 H6 hB6
  go_wp2_with fail
  refine (of6_bad _ _ _ H7.out (by have := HH.out; simp; omega) HMORE.out).mono ?_
  rintro e w8 ⟨⟨sa, sc, rfl⟩, hb⟩
  have q := hb.alloc hb.size (.cells #[.int .i64 0, .int .i64 0, .int .u64 0, .int .u64 0, .int .u64 0, .int .u64 0, .int .u64 0, .int .u64 0, .slice sa 0 sc] 28)
  have HX := Lib.hid (OwnB.later HX.out q)
  have HB := Lib.hid (below_of HB.out q)
  clear hb q H7
  obtain ⟨w9, hw9⟩ : ∃ W, W = w8.alloc (.cells #[.int .i64 0, .int .i64 0, .int .u64 0, .int .u64 0, .int .u64 0, .int .u64 0, .int .u64 0, .int .u64 0, .slice sa 0 sc] 28) := ⟨_, rfl⟩
  rw [← hw9] at HB HX
  have kk := HPQ.out.2.2.2.1
  have hdv : (k : Int) < (S : Int) / 2 := by omega
  have k0 : (0 : Int) ≤ (k : Int) := by omega
  obtain ⟨hN, hh⟩ : ∃ hN : Nat, (S : Int) / 2 = (hN : Int) := ⟨S / 2, by omega⟩
  have k2 : (k : Int) < hN := by omega
  have k3 : (hN : Int) ≤ 1051 := by omega
  clear hdv
  go_wp2_with (go_at_call 13; refine (num6_any _ _).mono ?_; rintro e wn ⟨rfl, rfl⟩)
  rw [← hw9]
  clear hw9 hh
  go_wp2_with fail
  have i1 : (2 * (k : Int)) < S := by omega
  have i2 : (2 * (k : Int)) + 1 < S := by omega
  obtain ⟨c1, f1⟩ := own_at HX.out (j := 2 * k) (by have := HH.out; omega)
  obtain ⟨c2', f2⟩ := own_at HX.out (j := 2 * k + 1) (by have := HH.out; omega)
  rw [← HPQ.out.2.2.2.2.1] at c1
  rw [← HPQ.out.2.2.2.2.2.1] at c2'
  have bp := HPQ.out.1
  have bq := HPQ.out.2.1
  clear k2
  have hw1 : IntKind.u16.wrap (256 * (p : Int)) = 256 * (p : Int) := IntWalk.u16_in _ ⟨by omega, by omega⟩
  have hw2 : IntKind.u16.wrap (256 * (p : Int) + (q : Int)) = (mN : Int) := by rw [IntWalk.u16_in _ ⟨by omega, by omega⟩]; have := HPQ.out.2.2.1; omega
  go_quiet (fail)
  have hn2 : (wd : Int) < 65536 := by have := HPQ.out; omega
  have bm : (mN : Int) < 65536 := by have := HPQ.out; omega
  clear hw1 hw2
  have hx2 : (wd : Int) / 256 = (x'.toNat : Int) := by have := HPQ.out; omega
  have hy2 : (wd : Int) % 256 = (y'.toNat : Int) := by have := HPQ.out; omega
  have bx := x'.toNat_lt
  have by' := y'.toNat_lt
  rename_i nq
  have HO2 := Lib.hid (((HX.out.later (below_dr0 _ _ nq)).set HH.out.1 (2 * k) x').set (by simp; exact HH.out.1) (2 * k + 1) y')
  have hb7 : Below w.heap.size w9 (((w9.drewN nq).setCell ⟨g, 2 * k, none⟩ (.int .u8 (x'.toNat : Int))).setCell ⟨g, 2 * k + 1, none⟩ (.int .u8 (y'.toNat : Int))) := by
    refine Below.setCell (Below.setCell ?_ HGW.out _) HGW.out _
    exact below_dr0 _ _ _
  have HB7 := Lib.hid (HB.out.trans hb7)
  clear hb7
  go_wp2_with fail
  refine (of6_bad _ _ _ HO2.out.bytes (by have := HH.out; simp; omega) HNO.out).mono ?_
  rintro e w10 ⟨⟨ta, tc, rfl⟩, hb⟩
  have HB := Lib.hid (below_of HB7.out hb)
  clear hb
  go_wp2_with (go_at_call 13; refine (num6_any _ _).mono ?_; rintro e wn ⟨rfl, rfl⟩)
  go_ret
  exact ⟨rfl, HB.out⟩
theorem frameMeans_walk (f : Fr) (u : Value) (B : List UInt8) (at_ wd mo : Int) (w : World) (hk : f.Ok) (hB : Bytes w u B) (_hl : B.length ≤ 9223372036854775807) (hw0 : 0 ≤ wd) (hw1 : wd < 65536) (hm0 : 0 ≤ mo) (hm1 : mo < 256) :
    Calls Try.prog 5 #[.agg #[.int .i64 f.k, .int .i64 f.n, .int .u64 (f.mb : Nat), .int .u64 (f.mt : Nat), .int .u64 (f.tb : Nat), .int .u64 (f.tt : Nat), .int .u64 (f.s : Nat), .int .u64 (f.a : Nat), u], .int .i64 at_, .int .u16 wd, .int .u8 mo] w fun e w' => e = .returned (.bool true) ∧ Below w.heap.size w w' := by
  obtain ⟨a, c, rfl⟩ := hB.form
  obtain ⟨wd, rfl⟩ := Int.eq_ofNat_of_zero_le hw0
  obtain ⟨mn, rfl⟩ := Int.eq_ofNat_of_zero_le hm0
  obtain ⟨mo, hmo⟩ : ∃ x : UInt8, x.toNat = mn := ⟨UInt8.ofNat mn, by rw [UInt8.toNat_ofNat']; omega⟩
  rw [← hmo]
  rcases Nat.lt_or_ge 5000 B.length with h | h
  · exact hw_long f a c _ at_ wd mo w (by omega)
  · cases hmay : mayF f B with
    | false => exact hw_no f a c _ at_ wd mo w B rfl hB h hmay
    | true =>
      by_cases h2 : at_ < 0 ∨ (((frL f B).length / 2 : Nat) : Int) ≤ at_
      · exact hw_out f a c _ at_ wd mo w hk B rfl hB h hmay h2
      · obtain ⟨k, hka⟩ := Int.eq_ofNat_of_zero_le (show 0 ≤ at_ by omega)
        have hat : 2 * k + 1 < (frL f B).length := by omega
        by_cases h3 : 256 * Sm.at0 (frL f B) (2 * k) + Sm.at0 (frL f B) (2 * k + 1) = wd
        · exact hw_eq1 f a c _ at_ wd mo w hk B rfl hB h hmay k hka hat (by omega) _ _ rfl rfl h3
        · by_cases h4 : (256 * Sm.at0 (frL f B) (2 * k) + Sm.at0 (frL f B) (2 * k + 1)) % 65535 = wd % 65535
          · exact hw_eq2 f a c _ at_ wd mo w hk B rfl hB h hmay k hka hat (by omega) _ _ rfl rfl h3 h4
          · exact hw_ne f a c _ at_ wd mo w hk B rfl hB h hmay k hka hat (by omega) _ _ rfl rfl h3 h4
end Go.Proofs.Ytcahfapffhcceaa
