/- A reference's parts of options: plain mathematics. -/
import Derived.Test.YtccfebaifgnodaaOm
namespace Go.Proofs.Ytccfebaifgnodaa
open Sm

theorem ok_nil : Om.ok [] = true := by unfold Om.ok; rw [Om.seq_nil]; rfl
theorem ok_end {l : List UInt8} (h : at0 l 0 = 0) : Om.ok l = true := by unfold Om.ok; rw [Om.seq_end h]; rfl
theorem ok_nop {l : List UInt8} (h0 : 0 < l.length) (h : at0 l 0 = 1) : Om.ok l = Om.ok (l.drop 1) := by unfold Om.ok; rw [Om.seq_nop h0 h]
theorem ok_bad {l : List UInt8} (h0 : 0 < l.length) (h1 : 2 ≤ at0 l 0) (h : l.length < 2 ∨ at0 l 1 < 2 ∨ l.length < at0 l 1) : Om.ok l = false := by unfold Om.ok; rw [Om.seq_bad h0 h1 h]; rfl
theorem ok_opt {l : List UInt8} (h1 : 2 ≤ at0 l 0) (h2 : 2 ≤ at0 l 1) (h3 : at0 l 1 ≤ l.length) : Om.ok l = Om.ok (l.drop (at0 l 1)) := by unfold Om.ok; rw [Om.seq_opt h1 h2 h3, List.contains_cons]; simp
theorem fm_nil : (Om.seq []).filterMap id = [] := by rw [Om.seq_nil]; rfl
theorem fm_end {l : List UInt8} (h : at0 l 0 = 0) : (Om.seq l).filterMap id = [] := by rw [Om.seq_end h]; rfl
theorem fm_nop {l : List UInt8} (h0 : 0 < l.length) (h : at0 l 0 = 1) : (Om.seq l).filterMap id = (Om.seq (l.drop 1)).filterMap id := by rw [Om.seq_nop h0 h]
theorem fm_opt {l : List UInt8} (h1 : 2 ≤ at0 l 0) (h2 : 2 ≤ at0 l 1) (h3 : at0 l 1 ≤ l.length) : (Om.seq l).filterMap id = l.take (at0 l 1) :: (Om.seq (l.drop (at0 l 1))).filterMap id := by rw [Om.seq_opt h1 h2 h3]; simp
/-- The bytes of a part. -/
def cutP (L : List UInt8) (p : Nat × Nat) : List UInt8 := (L.drop p.1).take p.2
/-- What of the parts is an option. -/
def rawsP (L : List UInt8) (A : List (Nat × Nat)) : List (List UInt8) := (A.filter fun p => at0 L p.1 != 1).map (cutP L)
theorem rawsP_snoc (L : List UInt8) (A : List (Nat × Nat)) (p : Nat × Nat) : rawsP L (A ++ [p]) = rawsP L A ++ (if at0 L p.1 = 1 then [] else [cutP L p]) := by
  unfold rawsP
  rw [List.filter_append, List.map_append]
  by_cases h : at0 L p.1 = 1 <;> simp [h]
/-- A part that lies in the bytes. -/
def PtOk (L : List UInt8) (p : Nat × Nat) : Prop := 1 ≤ p.2 ∧ p.1 + p.2 ≤ L.length ∧ (at0 L p.1 ≠ 1 → 2 ≤ p.2 ∧ 2 ≤ at0 L p.1)
/-- While the parts are gathered: those up to i. -/
structure PtInv (L : List UInt8) (A : List (Nat × Nat)) (i : Nat) : Prop where
  le : i ≤ L.length
  al : A.length ≤ i
  pts : ∀ p ∈ A, PtOk L p
  ok : Om.ok L = Om.ok (L.drop i)
  raws : (Om.seq L).filterMap id = rawsP L A ++ (Om.seq (L.drop i)).filterMap id
theorem PtInv.start (L : List UInt8) : PtInv L [] 0 := ⟨Nat.zero_le _, Nat.le_refl _, by simp, rfl, rfl⟩
theorem at0_dr (L : List UInt8) (i j : Nat) : at0 (L.drop i) j = at0 L (i + j) := by unfold at0; rw [List.getElem?_drop]
theorem PtInv.nop {L : List UInt8} {A : List (Nat × Nat)} {i : Nat} (h : PtInv L A i) (hi : i < L.length) (h1 : at0 L i = 1) : PtInv L (A ++ [(i, 1)]) (i + 1) := by
  obtain ⟨a, b, c, d, e⟩ := h
  have h0 : 0 < (L.drop i).length := by rw [List.length_drop]; omega
  have h2 : at0 (L.drop i) 0 = 1 := by rw [at0_dr]; exact h1
  refine ⟨hi, by simp; omega, fun p hp => ?_, ?_, ?_⟩
  · rcases List.mem_append.1 hp with h | h
    · exact c p h
    · rw [List.mem_singleton.1 h]; exact ⟨Nat.le_refl _, hi, fun h => absurd h1 h⟩
  · rw [d, ok_nop h0 h2, List.drop_drop]
  · rw [e, fm_nop h0 h2, List.drop_drop, rawsP_snoc, if_pos h1, List.append_nil]
theorem PtInv.opt {L : List UInt8} {A : List (Nat × Nat)} {i n : Nat} (h : PtInv L A i) (h0 : 2 ≤ at0 L i) (hn : n = at0 L (i + 1)) (h2 : 2 ≤ n) (h3 : i + n ≤ L.length) : PtInv L (A ++ [(i, n)]) (i + n) := by
  obtain ⟨a, b, c, d, e⟩ := h
  have k0 : 2 ≤ at0 (L.drop i) 0 := by rw [at0_dr]; exact h0
  have k1 : at0 (L.drop i) 1 = n := by rw [at0_dr]; exact hn.symm
  refine ⟨h3, by simp; omega, fun p hp => ?_, ?_, ?_⟩
  · rcases List.mem_append.1 hp with h | h
    · exact c p h
    · rw [List.mem_singleton.1 h]; exact ⟨by omega, h3, fun _ => ⟨h2, h0⟩⟩
  · rw [d, ok_opt k0 (by omega) (by rw [k1, List.length_drop]; omega), k1, List.drop_drop]
  · rw [e, fm_opt k0 (by omega) (by rw [k1, List.length_drop]; omega), k1, List.drop_drop, rawsP_snoc, if_neg (show ¬ at0 L i = 1 by omega), List.append_assoc]; rfl
theorem PtInv.bad {L : List UInt8} {A : List (Nat × Nat)} {i : Nat} (h : PtInv L A i) (hi : i < L.length) (h0 : 2 ≤ at0 L i) (hb : L.length ≤ i + 1 ∨ at0 L (i + 1) < 2 ∨ L.length < i + at0 L (i + 1)) : Om.ok L = false := by
  rw [h.ok, ok_bad (by rw [List.length_drop]; omega) (by rw [at0_dr]; exact h0)]
  rw [at0_dr, List.length_drop]; omega
/-- All parts. -/
structure PtsOf (L : List UInt8) (A : List (Nat × Nat)) : Prop where
  al : A.length ≤ L.length
  pts : ∀ p ∈ A, PtOk L p
  ok : Om.ok L = true
  raws : Om.raws L = rawsP L A
theorem PtInv.stop {L : List UInt8} {A : List (Nat × Nat)} {i : Nat} (h : PtInv L A i) (hs : L.length ≤ i ∨ at0 L i = 0) : PtsOf L A := by
  obtain ⟨a, b, c, d, e⟩ := h
  have k : Om.ok (L.drop i) = true ∧ (Om.seq (L.drop i)).filterMap id = [] := by
    rcases hs with h | h
    · rw [List.drop_eq_nil_of_le h]; exact ⟨ok_nil, fm_nil⟩
    · have : at0 (L.drop i) 0 = 0 := by rw [at0_dr]; exact h
      exact ⟨ok_end this, fm_end this⟩
  have hok : Om.ok L = true := by rw [d]; exact k.1
  exact ⟨by omega, c, hok, by unfold Om.raws; rw [hok, if_pos rfl, e, k.2, List.append_nil]⟩
theorem at0_tk {l : List UInt8} {n i : Nat} (h : i < n) : at0 (l.take n) i = at0 l i := by unfold at0; rw [List.getElem?_take, if_pos h]
theorem at0_cut {L : List UInt8} {p : Nat × Nat} (h : PtOk L p) : at0 (cutP L p) 0 = at0 L p.1 := by
  have := h.1
  unfold cutP; rw [at0_tk (by omega), at0_dr]; rfl
theorem cut_len {L : List UInt8} {p : Nat × Nat} (h : PtOk L p) : (cutP L p).length = p.2 := by
  have := h.2.1
  unfold cutP; rw [List.length_take, List.length_drop]; omega
theorem any_raws {L : List UInt8} (f : Nat → Bool) (hf : f 1 = false) : ∀ A : List (Nat × Nat), (∀ p ∈ A, PtOk L p) → ((rawsP L A).any fun r => f (at0 r 0)) = A.any fun p => f (at0 L p.1)
  | [], _ => rfl
  | p :: A, h => by
    have ih := any_raws f hf A (fun q hq => h q (List.mem_cons_of_mem _ hq))
    have hp := at0_cut (h p (List.mem_cons_self ..))
    unfold rawsP at ih ⊢
    by_cases h1 : at0 L p.1 = 1
    · rw [List.filter_cons_of_neg (by simp [h1]), ih, List.any_cons, h1, hf, Bool.false_or]
    · rw [List.filter_cons_of_pos (by simp [h1]), List.map_cons, List.any_cons, ih, List.any_cons, hp]
theorem flat_raws {L : List UInt8} : ∀ A : List (Nat × Nat), (∀ p ∈ A, PtOk L p) → ((rawsP L A).flatMap fun r => if 128 ≤ at0 r 0 then r else []) = A.flatMap fun p => if 128 ≤ at0 L p.1 then cutP L p else []
  | [], _ => rfl
  | p :: A, h => by
    have ih := flat_raws A (fun q hq => h q (List.mem_cons_of_mem _ hq))
    have hp := at0_cut (h p (List.mem_cons_self ..))
    unfold rawsP at ih ⊢
    by_cases h1 : at0 L p.1 = 1
    · rw [List.filter_cons_of_neg (by simp [h1]), ih, List.flatMap_cons, if_neg (by omega), List.nil_append]
    · rw [List.filter_cons_of_pos (by simp [h1]), List.map_cons, List.flatMap_cons, ih, List.flatMap_cons, hp]
end Go.Proofs.Ytccfebaifgnodaa
