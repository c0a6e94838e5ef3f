/- The walk of the law SumTotals. -/
import Derived.Test.YtlgdmfbpkmokaaaSk
import Derived.Test.YtlgdmfbpkmokaaaSr
import Derived.Test.YtlgdmfbpkmokaaaMj
namespace Go.Proofs.Ytlgdmfbpkmokaaa
open Go.RowKit
attribute [local go_sem ↓] Go.wp_at_zero Go.wp_at_succ

theorem below_tr {w w1 w2 : World} (h : Below w.heap.size w w1) (h2 : Below w1.heap.size w1 w2) : Below w.heap.size w w2 := h.trans (h2.mono h.size)

set_option maxHeartbeats 2000000 in
theorem sumTotals_yes (a : Option Addr) (c : Nat) (l : List UInt8) (v : Value) (L : List (List UInt8)) (w : World) (hv : Lists w v L) (hb : Bytes w (.slice a l.length c) l)
    (hm : L.length + L.flatten.length ≤ 9000) (hl : l.length ≤ 9000) (hL : L.length ≤ 9223372036854775807) (hS : ∀ l ∈ L, l.length ≤ 9223372036854775807) :
    Calls Try.prog 3 #[v, .slice a l.length c] w fun e w' => e = .returned (.bool true) ∧ Below w.heap.size w w' := by
  have hmu : muchB L = false := by unfold muchB; exact decide_eq_false (by omega)
  have HM := Lib.hid hmu
  have HV := Lib.hid hv
  have HB := Lib.hid hb
  have HS := Lib.hid hS
  have g1 : (l.length : Int) ≤ 9000 := by omega
  clear hmu hv hb hS
  go_enter Try.func3, Try.ntmps3
  go_wp2_with fail
  refine (much_any v L w HV.out hL HS.out).mono ?_
  rintro e w0 ⟨rfl, rfl⟩
  rw [HM.out]
  go_wp2_with fail
  refine (joinR_any v L w HV.out (by omega) (by omega)).mono ?_
  rintro e w1 ⟨u, rfl, hu, hb1⟩
  have HU := Lib.hid hu
  have H1 := Lib.hid hb1
  clear hu hb1
  go_wp2_with fail
  refine (totalW_any w1 v L (HV.out.later H1.out) (by omega) (by omega)).mono ?_
  rintro e w2 ⟨rfl, hb2⟩
  have HU := Lib.hid (HU.out.later hb2)
  have H1 := Lib.hid (below_tr H1.out hb2)
  clear hb2
  go_wp2_with fail
  refine (totalR_any u _ w2 HU.out (by omega)).mono ?_
  rintro e w3 ⟨rfl, hb3⟩
  have HU := Lib.hid (HU.out.later hb3)
  have H1 := Lib.hid (below_tr H1.out hb3)
  clear hb3
  go_wp2_with fail
  refine (checkW_any w3 v L (HV.out.later H1.out) (by omega) (by omega)).mono ?_
  rintro e w4 ⟨rfl, hb4⟩
  have HU := Lib.hid (HU.out.later hb4)
  have H1 := Lib.hid (below_tr H1.out hb4)
  clear hb4
  go_wp2_with fail
  refine (checkR_any u _ w4 HU.out (by omega)).mono ?_
  rintro e w5 ⟨rfl, hb5⟩
  have H1 := Lib.hid (below_tr H1.out hb5)
  clear hb5
  go_wp2_with fail
  refine (total_one w5 _ l (HB.out.later H1.out) (by omega)).mono ?_
  rintro e w6 ⟨rfl, hb6⟩
  have H1 := Lib.hid (below_tr H1.out hb6)
  clear hb6
  go_wp2_with fail
  refine (totalR_any _ _ w6 (HB.out.later H1.out) (by omega)).mono ?_
  rintro e w7 ⟨rfl, hb7⟩
  have H1 := Lib.hid (below_tr H1.out hb7)
  clear hb7
  go_wp2_with fail
  refine (goodW_any w7 _ l (HB.out.later H1.out) (by omega)).mono ?_
  rintro e w8 ⟨rfl, hb8⟩
  have H1 := Lib.hid (below_tr H1.out hb8)
  clear hb8
  obtain ⟨t, ht⟩ : ∃ t, t = Sm.tot l := ⟨_, rfl⟩
  have HT := Lib.hid ht
  rw [← ht]
  clear ht
  go_wp2_with fail
  refine (totalR_any _ _ w8 (HB.out.later H1.out) (by omega)).mono ?_
  rintro e w9 ⟨rfl, hb9⟩
  rw [← HT.out]
  have H1 := Lib.hid (below_tr H1.out hb9)
  clear hb9
  have hq : ((t == 65535) == ((t : Int) == 65535)) = true := by
    rw [beq_iff_eq, Bool.eq_iff_iff]; simp; omega
  go_wp2_with fail
  refine (known2_any _).mono ?_
  rintro e w10 ⟨rfl, hb10⟩
  go_wp2_with fail
  go_ret
  exact ⟨rfl, below_tr H1.out hb10⟩
set_option maxHeartbeats 1000000 in
theorem sumTotals_no (a : Option Addr) (c : Nat) (l : List UInt8) (v : Value) (L : List (List UInt8)) (w : World) (hv : Lists w v L)
    (hm : 9000 < L.length + L.flatten.length ∨ 9000 < l.length) (hL : L.length ≤ 9223372036854775807) (hS : ∀ l ∈ L, l.length ≤ 9223372036854775807) :
    Calls Try.prog 3 #[v, .slice a l.length c] w fun e w' => e = .returned (.bool true) ∧ Below w.heap.size w w' := by
  have HV := Lib.hid hv
  have HS := Lib.hid hS
  clear hv hS
  cases hmu : muchB L with
  | true =>
    have HM := Lib.hid hmu
    clear hmu hm
    go_enter Try.func3, Try.ntmps3
    go_wp2_with fail
    refine (much_any v L w HV.out hL HS.out).mono ?_
    rintro e w0 ⟨rfl, rfl⟩
    rw [HM.out]
    go_wp2_with fail
    refine (known2_any _).mono ?_
    rintro e w10 ⟨rfl, hb10⟩
    go_wp2_with fail
    go_ret
    exact ⟨rfl, hb10⟩
  | false =>
    have h9 : 9000 < l.length := by
      have := of_decide_eq_false hmu
      omega
    have g1 : (9000 : Int) < l.length := by omega
    have HM := Lib.hid hmu
    clear hmu hm
    go_enter Try.func3, Try.ntmps3
    go_wp2_with fail
    refine (much_any v L w HV.out hL HS.out).mono ?_
    rintro e w0 ⟨rfl, rfl⟩
    rw [HM.out]
    go_wp2_with fail
    refine (known2_any _).mono ?_
    rintro e w10 ⟨rfl, hb10⟩
    go_wp2_with fail
    go_ret
    exact ⟨rfl, hb10⟩
theorem sumTotals_walk (v : Value) (L : List (List UInt8)) (u : Value) (l : List UInt8) (w : World) (hv : Lists w v L) (hL : L.length ≤ 9223372036854775807) (hS : ∀ l ∈ L, l.length ≤ 9223372036854775807) (hb : Bytes w u l) (_hl : l.length ≤ 9223372036854775807) :
    Calls Try.prog 3 #[v, u] w fun e w' => e = .returned (.bool true) ∧ Below w.heap.size w w' := by
  obtain ⟨a, c, rfl⟩ := hb.form
  by_cases h : L.length + L.flatten.length ≤ 9000 ∧ l.length ≤ 9000
  · exact sumTotals_yes a c l v L w hv hb h.1 h.2 hL hS
  · exact sumTotals_no a c l v L w hv (by omega) hL hS
end Go.Proofs.Ytlgdmfbpkmokaaa
