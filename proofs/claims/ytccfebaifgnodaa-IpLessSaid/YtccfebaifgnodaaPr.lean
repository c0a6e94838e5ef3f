/- The walk of ref03.Routed. -/
import Derived.Test.YtccfebaifgnodaaPt
import Derived.Test.YtccfebaifgnodaaJm
namespace Go.Proofs.Ytccfebaifgnodaa
open Go.RowKit
attribute [local go_sem ↓] Go.wp_at_zero Go.wp_at_succ

theorem routed_parts {L : List UInt8} {A : List (Nat × Nat)} (h : PtsOf L A) : routedB L = A.any fun p => isRoute (Sm.at0 L p.1) := by
  unfold routedB routedK
  rw [h.raws, List.any_map]
  exact any_raws isRoute rfl A h.pts
/-- What Parts tells, with its list read. -/
theorem partsR_any (v0 : Value) (L : List UInt8) (hL : L.length ≤ 1000) (w : World) (hv : Bytes w v0 L) :
    Calls Try.prog 40 #[v0] w fun e w' => ∃ a c A, e = .returned (.tuple #[.slice a A.length c, .bool (Om.ok L)]) ∧ PtR w' (.slice a A.length c) A ∧ A.length ≤ L.length ∧ (∀ p ∈ A, PtOk L p) ∧ Om.raws L = rawsP L A ∧ Below w.heap.size w w' :=
  (partsW_any v0 L hL w hv).mono fun e w' h => by
    rcases h with ⟨v, A, rfl, h1, h2, h3⟩ | ⟨rfl, h1, h2⟩
    · obtain ⟨a, c, rfl⟩ := h1.form
      exact ⟨a, c, A, by rw [h2.ok], h1.reads, h2.al, h2.pts, h2.raws, h3⟩
    · exact ⟨none, 0, [], by rw [h1]; rfl, .inl ⟨rfl, _, _, rfl⟩, Nat.zero_le _, by simp, by rw [raws_no h1]; rfl, h2⟩
theorem any_take_succ {α : Type} {A : List α} {k : Nat} {p : α} (h : A[k]? = some p) (f : α → Bool) : (A.take (k + 1)).any f = ((A.take k).any f || f p) := by
  rw [List.take_add_one, List.any_append, h]; simp

set_option maxHeartbeats 4000000 in
set_option maxRecDepth 100000 in
theorem routedR_any (v0 : Value) (L : List UInt8) (hL : L.length ≤ 1000) (w : World) (hv : Bytes w v0 L) :
    Calls Try.prog 31 #[v0] w fun e w' => e = .returned (.bool (routedB L)) ∧ Below w.heap.size w w' := by
  obtain ⟨a, c, rfl⟩ := hv.form
  have HV := Lib.hid hv
  have HP := Lib.hid (partsR_any _ L hL w hv)
  have hL2 : (L.length : Int) ≤ 1000 := by omega
  clear hv
  go_enter Try.func31, Try.ntmps31
  go_wp2_with fail
  refine HP.out.mono ?_
  rintro e w1 ⟨a1, c1, A, rfl, hr, hal, hpo, hraw, hb1⟩
  have hrt : routedB L = A.any fun p => isRoute (Sm.at0 L p.1) := by
    unfold routedB routedK
    rw [hraw, List.any_map]
    exact any_raws isRoute rfl A hpo
  obtain ⟨N, hN⟩ : ∃ N, N = A.length := ⟨_, rfl⟩
  rw [← hN] at hr hal ⊢
  have HR := Lib.hid hr
  have HN := Lib.hid (And.intro hN (And.intro hpo hrt))
  have HB1 := Lib.hid hb1
  have hN2 : (N : Int) ≤ 1000 := by omega
  clear hr hpo hraw hrt hN hb1
  go_wp2_with fail
  go_loopw [5] (fun i wr => ∃ k : Nat, k ≤ N ∧ i = .int .i64 (k : Nat) ∧ Hid (((A.take k).any fun p => isRoute (Sm.at0 L p.1)) = false) ∧ Hid (Below w1.heap.size w1 wr)) (fun i _ => N - (intOf i).toNat)
  case atStart => exact ⟨0, Nat.zero_le _, rfl, rfl, Below.refl _ _⟩
  case round =>
    obtain ⟨k, hk, rfl, HF, HB⟩ := hrel
    rcases Nat.lt_or_ge k N with hlt | hge
    · have g1 : (k : Int) < N := by omega
      have hkl : k < A.length := by rw [← HN.out.1]; exact hlt
      obtain ⟨p, hp⟩ : ∃ p, p = A[k] := ⟨_, rfl⟩
      have hpk : A[k]? = some p := by rw [hp]; exact List.getElem?_eq_getElem hkl
      obtain ⟨b, o, rfl, hbl, hc0, _⟩ := PtR.at HR.out hpk
      have hpo := HN.out.2.1 p (by rw [hp]; exact List.getElem_mem hkl)
      obtain ⟨m, hm⟩ : ∃ m, m = p.1 := ⟨_, rfl⟩
      rw [← hm] at hc0
      have hmL : m < L.length := by rw [hm]; have := hpo.1; have := hpo.2.1; omega
      obtain ⟨bx, ox, rfl, hbx, hex⟩ := HV.out.at1 hmL
      obtain ⟨x, hx⟩ : ∃ x : Nat, x = Sm.at0 L m := ⟨_, rfl⟩
      rw [← hx] at hex
      have e0 : wr.cell? ⟨b, o + k * 2, none⟩ = some (.int .i64 (m : Nat)) := by rw [Nat.mul_comm]; exact cell_later' HB.out hbl hc0
      have e1 : wr.cell? ⟨bx, ox + m, none⟩ = some (.int .u8 (x : Nat)) := cell_later' (HB1.out.trans (HB.out.mono HB1.out.size)) hbx hex
      have g2 : (m : Int) < L.length := by omega
      have HS := Lib.hid (And.intro (any_take_succ hpk fun p => isRoute (Sm.at0 L p.1)) (And.intro (show isRoute (Sm.at0 L p.1) = isRoute x by rw [hx, hm]) hpk))
      have hrc := route_cases x
      clear hc0 hex hx hp hpk hpo hm hkl
      by_cases h1 : x = 131
      · have g3 : ((x : Int) == 131) = true := by rw [beq_iff_eq]; omega
        have HT : Hid (routedB L = true) := by
          show _ = _
          rw [HN.out.2.2, List.any_eq_true]
          exact ⟨p, List.mem_of_getElem? HS.out.2.2, by rw [HS.out.2.1, hrc, h1]; rfl⟩
        clear h1 hrc
        go_wp2_with fail
        go_ret
        exact ⟨ret_b HT.out.symm, HB1.out.trans (HB.out.mono HB1.out.size)⟩
      · have g3 : ((x : Int) == 131) = false := by rw [beq_eq_false_iff_ne]; omega
        by_cases h2 : x = 137
        · have g4 : ((x : Int) == 137) = true := by rw [beq_iff_eq]; omega
          have HT : Hid (routedB L = true) := by
            show _ = _
            rw [HN.out.2.2, List.any_eq_true]
            exact ⟨p, List.mem_of_getElem? HS.out.2.2, by rw [HS.out.2.1, hrc, h2]; rfl⟩
          clear h1 h2 hrc
          go_wp2_with fail
          go_ret
          exact ⟨ret_b HT.out.symm, HB1.out.trans (HB.out.mono HB1.out.size)⟩
        · have g4 : ((x : Int) == 137) = false := by rw [beq_eq_false_iff_ne]; omega
          have HF2 : Hid (((A.take (k + 1)).any fun p => isRoute (Sm.at0 L p.1)) = false) := by
            show _ = _
            rw [HS.out.1, HF.out, HS.out.2.1, hrc]; simp [h1, h2]
          clear h1 h2 hrc
          go_wp2_with fail
          go_roundw
          case rel => exact ⟨k + 1, by omega, by go_num, HF2, HB⟩
          case measure => simp [intOf]; omega
    · have e : k = N := by omega
      subst e
      have HT : Hid (routedB L = false) := by
        show _ = _
        have := HF.out
        rw [HN.out.1, List.take_length] at this
        rw [HN.out.2.2, this]
      have g1 : (k : Int) ≤ k := by omega
      go_wp2_with fail
      go_ret
      exact ⟨ret_b HT.out.symm, HB1.out.trans (HB.out.mono HB1.out.size)⟩
end Go.Proofs.Ytccfebaifgnodaa
