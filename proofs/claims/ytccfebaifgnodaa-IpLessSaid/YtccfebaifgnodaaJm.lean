/- Options told whole: plain mathematics. -/
import Derived.Test.YtccfebaifgnodaaIr
namespace Go.Proofs.Ytccfebaifgnodaa
open Sm

theorem at0_app {l r : List UInt8} {i : Nat} (h : i < l.length) : at0 (l ++ r) i = at0 l i := by unfold at0; rw [List.getElem?_append_left h]
/-- A row of whole options is read as it is. -/
theorem seq_flat : ∀ R : List (List UInt8), (∀ r ∈ R, 2 ≤ r.length ∧ 2 ≤ at0 r 0 ∧ at0 r 1 = r.length) → Om.seq R.flatten = R.map some
  | [], _ => by simp [Om.seq_nil]
  | r :: R, h => by
    obtain ⟨h1, h2, h3⟩ := h r (List.mem_cons_self ..)
    have e0 : at0 (r ++ R.flatten) 0 = at0 r 0 := at0_app (by omega)
    have e1 : at0 (r ++ R.flatten) 1 = r.length := by rw [at0_app (by omega), h3]
    rw [List.flatten_cons, Om.seq_opt (by omega) (by omega) (by rw [e1, List.length_append]; omega), e1, List.take_left', List.drop_left', seq_flat R (fun r hr => h r (List.mem_cons_of_mem _ hr))]
    · rfl
    · rfl
    · rfl
theorem raws_wf (L : List UInt8) : ∀ r ∈ Om.raws L, 2 ≤ r.length ∧ 2 ≤ at0 r 0 ∧ at0 r 1 = r.length := by
  intro r hr
  unfold Om.raws at hr
  split at hr
  · obtain ⟨o, ho, he⟩ := List.mem_filterMap.1 hr
    simp only [id] at he
    subst he
    exact Om.seq_some _ L (Nat.le_refl _) r ho
  · cases hr
theorem ok_flat (L : List UInt8) : Om.ok (Om.raws L).flatten = true ∧ Om.raws (Om.raws L).flatten = Om.raws L := by
  have h := seq_flat _ (raws_wf L)
  have hok : Om.ok (Om.raws L).flatten = true := by unfold Om.ok; rw [h]; simp
  refine ⟨hok, ?_⟩
  generalize Om.raws L = R at h hok ⊢
  unfold Om.raws
  rw [hok, h, if_pos rfl, List.filterMap_map]
  simp
theorem raws_no {L : List UInt8} (h : Om.ok L = false) : Om.raws L = [] := by unfold Om.raws; rw [h]; rfl
theorem copied_no {L : List UInt8} (h : Om.ok L = false) : copied L = [] := by unfold copied; rw [h]; rfl
theorem routed_no {L : List UInt8} (h : Om.ok L = false) : routedB L = false := by unfold routedB; rw [raws_no h]; rfl
theorem copied_mod (L : List UInt8) : (copied L).length % 4 = 0 := by
  unfold copied; split
  · unfold pad; rw [List.length_append, List.length_replicate]; omega
  · rfl
theorem raw_eq {r : List UInt8} (h : 2 ≤ r.length) : UInt8.ofNat (at0 r 0) :: UInt8.ofNat (at0 r 1) :: r.drop 2 = r := by
  match r, h with
  | a :: b :: t, _ => simp [at0]
theorem seq_total : ∀ (n : Nat) (l : List UInt8), l.length ≤ n → ((Om.seq l).filterMap id).flatten.length ≤ l.length
  | 0, l, h => by
    have : l = [] := List.length_eq_zero_iff.1 (by omega)
    subst this; rw [Om.seq_nil]; simp
  | n + 1, l, h => by
    rcases Nat.eq_zero_or_pos l.length with h0 | h0
    · have : l = [] := List.length_eq_zero_iff.1 h0
      subst this; rw [Om.seq_nil]; simp
    · by_cases h1 : at0 l 0 = 0
      · rw [Om.seq_end h1]; simp
      · by_cases h2 : at0 l 0 = 1
        · rw [Om.seq_nop h0 h2]
          have := seq_total n (l.drop 1) (by simp; omega)
          simp only [List.length_drop] at this; omega
        · by_cases h3 : l.length < 2 ∨ at0 l 1 < 2 ∨ l.length < at0 l 1
          · rw [Om.seq_bad h0 (by omega) h3]; simp
          · rw [Om.seq_opt (by omega) (by omega) (by omega)]
            have := seq_total n (l.drop (at0 l 1)) (by simp; omega)
            simp only [List.length_drop, List.filterMap_cons, id, List.flatten_cons, List.length_append, List.length_take] at this ⊢
            omega
theorem raws_total (L : List UInt8) : (Om.raws L).flatten.length ≤ L.length := by
  unfold Om.raws; split
  · exact seq_total _ L (Nat.le_refl _)
  · simp
theorem take_flat_le {R : List (List UInt8)} (k : Nat) : (R.take k).flatten.length ≤ R.flatten.length := by
  have : R.flatten = (R.take k).flatten ++ (R.drop k).flatten := by rw [← List.flatten_append, List.take_append_drop]
  rw [this, List.length_append]; omega
theorem take_flat_succ {R : List (List UInt8)} {k : Nat} (h : k < R.length) : (R.take (k + 1)).flatten = (R.take k).flatten ++ R[k] := by
  rw [List.take_succ_eq_append_getElem h, List.flatten_append, List.flatten_singleton]
theorem routed_take {R : List (List UInt8)} {k : Nat} (h : k < R.length) : routedK ((R.take (k + 1)).map kd) = (routedK ((R.take k).map kd) || isRoute (at0 R[k] 0)) := by
  unfold routedK
  rw [List.take_succ_eq_append_getElem h, List.map_append, List.any_append]
  simp [kd]
theorem route_cases (z : Nat) : isRoute z = (decide (z = 131) || decide (z = 137)) := by unfold isRoute; rw [Bool.eq_iff_iff]; simp
end Go.Proofs.Ytccfebaifgnodaa
