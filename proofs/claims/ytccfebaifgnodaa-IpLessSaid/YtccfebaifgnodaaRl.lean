/- The walk of ref03.Less. -/
import Derived.Test.YtccfebaifgnodaaRp
import Derived.Test.YtccfebaifgnodaaRq
import Derived.Test.YtccfebaifgnodaaIz
import Derived.Test.YtccfebaifgnodaaKp
namespace Go.Proofs.Ytccfebaifgnodaa
open Go.RowKit
attribute [local go_sem ↓] Go.wp_at_zero Go.wp_at_succ

set_option maxRecDepth 100000 in
set_option maxHeartbeats 2000000 in
theorem lessR_bad (a : Option Addr) (c : Nat) (l : List UInt8) (hl : l.length ≤ 1000000) (w : World) (hv : Bytes w (.slice a l.length c) l) (hf : flt l ≠ 0) :
    Calls Try.prog 33 #[.slice a l.length c] w (AnsO w [] 4) := by
  have hpa := parseR_no _ l hl w hv hf
  unfold NoR at hpa
  obtain ⟨f, hfe⟩ : ∃ f, f = flt l := ⟨_, rfl⟩
  rw [← hfe] at hf hpa
  have g1 : ((f : Int) != 0) = true := by rw [bne_iff_ne]; omega
  have HPA := Lib.hid hpa
  clear hf hfe hpa hv
  go_enter Try.func33, Try.ntmps33
  go_wp2_with fail
  refine HPA.out.mono ?_
  rintro e w1 ⟨rfl, hb1⟩
  go_wp2_with fail
  go_ret2
  exact ⟨_, rfl, OwnB.nil _ _, by first | exact hb1.alloc hb1.size _ | go_grown⟩
set_option maxRecDepth 100000 in
set_option maxHeartbeats 2000000 in
theorem lessR_zero (bx ox c : Nat) (l : List UInt8) (hl : l.length ≤ 1000000) (w : World) (hv : Bytes w (.slice (some ⟨bx, ox, none⟩) l.length c) l) (hf : flt l = 0) (ht : Sm.at0 l 8 = 0) :
    Calls Try.prog 33 #[.slice (some ⟨bx, ox, none⟩) l.length c] w (AnsO w [] 7) := by
  have hpa := parseR_yes bx ox c l hl w hv hf
  have HPA := Lib.hid hpa
  have HT := Lib.hid ht
  clear hf ht hpa hv
  go_enter Try.func33, Try.ntmps33
  go_wp2_with fail
  refine HPA.out.mono ?_
  rintro e w1 ⟨u, v, rfl, hu, hv1, hb1⟩
  obtain ⟨ua, uc, rfl⟩ := hu.form
  obtain ⟨va, vc, rfl⟩ := hv1.form
  rw [HT.out]
  have HB1 := Lib.hid hb1
  clear hu hv1 hb1
  go_wp2_with fail
  go_ret2
  exact ⟨_, rfl, OwnB.nil _ _, HB1.out.alloc HB1.out.size _⟩
theorem set_two (a b : UInt8) : ∀ (l : List UInt8) (i : Nat), i + 1 < l.length → (l.set i a).set (i + 1) b = spl l i [a, b]
  | x :: y :: t, 0, _ => by simp [spl]
  | x :: t, i + 1, h => by
    have := set_two a b t i (by simpa using h)
    show x :: (t.set i a).set (i + 1) b = _
    rw [this]
    simp [spl, Nat.add_assoc, Nat.add_comm, Nat.add_left_comm]
  | [_], 0, h => by simp at h
  | [], _, h => by simp at h
theorem at0_set_same (l : List UInt8) (i : Nat) (v : UInt8) (h : i < l.length) : Sm.at0 (l.set i v) i = v.toNat := by unfold Sm.at0; rw [List.getElem?_set_self h]; rfl
theorem at0_set_ne (l : List UInt8) (i j : Nat) (v : UInt8) (h : i ≠ j) : Sm.at0 (l.set i v) j = Sm.at0 l j := by unfold Sm.at0; rw [List.getElem?_set_ne h]
theorem less_sets (l : List UInt8) (h20 : 20 ≤ l.length) (h0 : Sm.at0 l 8 ≠ 0) :
    lessC l = Sm.changed (256 * Sm.at0 l 10 + Sm.at0 l 11) (256 * Sm.at0 l 8 + Sm.at0 l 9) (256 * Sm.at0 l 8 + Sm.at0 l 9 - 256) ∧ ((l.set 8 (UInt8.ofNat (Sm.at0 l 8 - 1))).set 10 (UInt8.ofNat (lessC l / 256))).set 11 (UInt8.ofNat (lessC l % 256)) = lessL l := by
  have h8 := Sm.at0_lt l 8
  have hd : (decL l).length = l.length := by unfold decL; simp
  have e1 : numAt (decL l) 8 2 = 256 * Sm.at0 l 8 + Sm.at0 l 9 - 256 := by
    rw [numAt_2 (by omega)]
    have a : Sm.at0 (decL l) 8 = Sm.at0 l 8 - 1 := by
      unfold decL
      rw [at0_set_same _ _ _ (by omega), UInt8.toNat_ofNat']
      simp; omega
    have b : Sm.at0 (decL l) (8 + 1) = Sm.at0 l 9 := at0_set_ne _ _ _ _ (by omega)
    rw [a, b]; omega
  refine ⟨?_, ?_⟩
  · unfold lessC
    rw [numAt_2 (by omega), numAt_2 (by omega), e1]
  · unfold lessL
    rw [putL_2, ← set_two _ _ _ _ (by omega)]
    have e : UInt8.ofNat (lessC l % 256) = UInt8.ofNat (lessC l) := by apply UInt8.toNat_inj.1; simp
    rw [e]; rfl
theorem OwnB.setL {w : World} {B g cap : Nat} {l : List UInt8} (h : OwnB w B (.slice (some ⟨g, 0, none⟩) l.length cap) l) (i x : Nat) (hx : x < 256) (hi : i < l.length) :
    OwnB (w.setCell ⟨g, i, none⟩ (.int .u8 (x : Nat))) B (.slice (some ⟨g, 0, none⟩) (l.set i (UInt8.ofNat x)).length cap) (l.set i (UInt8.ofNat x)) := by rw [List.length_set]; exact OwnB.set h i x hx hi
end Go.Proofs.Ytccfebaifgnodaa
