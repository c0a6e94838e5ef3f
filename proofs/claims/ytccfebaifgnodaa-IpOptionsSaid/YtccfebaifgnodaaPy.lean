/- The options that are copied, read again: plain mathematics. -/
import Derived.Test.YtccfebaifgnodaaPc
import Derived.Deep.RegionHeld
namespace Go.Proofs.Ytccfebaifgnodaa
open Go.RowKit Sm

theorem seq_flat2 : ∀ (R : List (List UInt8)) (Z : List UInt8), (∀ r ∈ R, 2 ≤ r.length ∧ 2 ≤ at0 r 0 ∧ at0 r 1 = r.length) → Om.seq (R.flatten ++ Z) = R.map some ++ Om.seq Z
  | [], Z, _ => rfl
  | r :: R, Z, h => by
    obtain ⟨h1, h2, h3⟩ := h r (List.mem_cons_self ..)
    rw [List.flatten_cons, List.append_assoc]
    have e0 : at0 (r ++ (R.flatten ++ Z)) 0 = at0 r 0 := at0_app (by omega)
    have e1 : at0 (r ++ (R.flatten ++ Z)) 1 = at0 r 1 := at0_app (by omega)
    rw [Om.seq_opt (by omega) (by omega) (by rw [e1, h3, List.length_append]; omega), e1, h3, List.take_left, List.drop_left, seq_flat2 R Z (fun q hq => h q (List.mem_cons_of_mem _ hq))]
    rfl
theorem seq_zeros (n : Nat) : Om.seq (List.replicate n 0) = [] := by
  cases n with
  | zero => exact Om.seq_nil
  | succ n => exact Om.seq_end rfl
/-- Is it copied? -/
def isCop (r : List UInt8) : Bool := decide (128 ≤ at0 r 0)
theorem flat_filter (R : List (List UInt8)) : (R.flatMap fun r => if 128 ≤ at0 r 0 then r else []) = (R.filter isCop).flatten := by
  induction R with
  | nil => rfl
  | cons r R ih =>
    rw [List.flatMap_cons, ih]
    by_cases h : 128 ≤ at0 r 0
    · rw [List.filter_cons_of_pos (by simp [isCop, h]), if_pos h]; rfl
    · rw [List.filter_cons_of_neg (by simp [isCop, h]), if_neg h]; rfl
theorem fm_map_some (R : List (List UInt8)) : (R.map some).filterMap id = R := by induction R <;> simp_all
theorem cop_again (L : List UInt8) : Om.ok (copied L) = true ∧ Om.raws (copied L) = (Om.raws L).filter isCop := by
  have hs : Om.seq (copied L) = ((Om.raws L).filter isCop).map some := by
    rw [copied_raws, flat_filter]
    unfold pad
    rw [seq_flat2 _ _ (fun r hr => raws_wf L r ((List.mem_filter.1 hr).1)), seq_zeros, List.append_nil]
  have hok : Om.ok (copied L) = true := by unfold Om.ok; rw [hs]; simp
  exact ⟨hok, by unfold Om.raws; rw [hok, if_pos rfl, hs, fm_map_some]; rfl⟩
theorem flat_filter_le (R : List (List UInt8)) (f : List UInt8 → Bool) : (R.filter f).flatten.length ≤ R.flatten.length := by
  induction R with
  | nil => exact Nat.le_refl _
  | cons r R ih =>
    rw [List.flatten_cons, List.length_append]
    by_cases h : f r = true
    · rw [List.filter_cons_of_pos h, List.flatten_cons, List.length_append]; omega
    · rw [List.filter_cons_of_neg h]; omega
theorem copied_le (L : List UInt8) : (copied L).length ≤ L.length + 3 := by
  rw [copied_raws, flat_filter]
  unfold pad
  rw [List.length_append, List.length_replicate]
  have h1 := flat_filter_le (Om.raws L) isCop
  have h2 := raws_total L
  omega
theorem filter_at {R : List (List UInt8)} {k : Nat} (h : k < R.length) (f : List UInt8 → Bool) (hf : f R[k] = true) : (R.filter f)[((R.take k).filter f).length]? = some R[k] := by
  have e : R = R.take k ++ R[k] :: R.drop (k + 1) := by rw [← List.drop_eq_getElem_cons h, List.take_append_drop]
  have e2 : R.filter f = (R.take k).filter f ++ R[k] :: (R.drop (k + 1)).filter f := by
    conv => lhs; rw [e]
    rw [List.filter_append, List.filter_cons_of_pos hf]
  rw [e2, List.getElem?_append_right (Nat.le_refl _), Nat.sub_self]; rfl
theorem filter_len_succ {R : List (List UInt8)} {k : Nat} (h : k < R.length) (f : List UInt8 → Bool) : ((R.take (k + 1)).filter f).length = ((R.take k).filter f).length + (if f R[k] = true then 1 else 0) := by
  rw [List.take_add_one, List.getElem?_eq_getElem h, Option.toList_some, List.filter_append, List.length_append]
  by_cases h1 : f R[k] = true <;> simp [h1]
/-- A region under a promise that holds more. -/
theorem wpAnyH_str {P : Program} {md : Region.Mode} {ops : Array Oper} {Q : Exit → Act → World → Prop} {S S' : World → Prop} (h : ∀ w, S' w → S w) : ∀ (fuel : Nat) (listed : Array Bool) (a : Act) (w : World), wpAnyH P md ops Q S' fuel listed a w → wpAnyH P md ops Q S fuel listed a w
  | 0, _, _, _, H => H
  | fuel + 1, _, _, _, H => ⟨H.1, fun i hi => wpOp_mono (fun a' w' h' => ⟨h _ h'.1, wpAnyH_str h fuel _ a' w' h'.2⟩) (H.2 i hi)⟩
end Go.Proofs.Ytccfebaifgnodaa
