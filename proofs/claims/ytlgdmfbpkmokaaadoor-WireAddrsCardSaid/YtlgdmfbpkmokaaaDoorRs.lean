/- Plain: texts split, and what the reference reads of them, is what the program reads. -/
import Derived.Test.YtlgdmfbpkmokaaaDoorRn
import Derived.Test.YtlgdmfbpkmokaaaDoorWq
namespace Go.Proofs.YtlgdmfbpkmokaaaDoor
open Go.RowKit

/-- A text's parts between bytes c. -/
def splitL (c : UInt8) : List UInt8 → List (List UInt8)
  | [] => [[]]
  | x :: r => if x = c then [] :: splitL c r else match splitL c r with
    | [] => [[x]]
    | p :: ps => (x :: p) :: ps
/-- Bytes ahead of the first part. -/
def ahead (q : List UInt8) : List (List UInt8) → List (List UInt8)
  | [] => [q]
  | p :: ps => (q ++ p) :: ps
theorem splitL_ne (c : UInt8) (l : List UInt8) : ∃ p ps, splitL c l = p :: ps := by
  cases l with
  | nil => exact ⟨[], [], rfl⟩
  | cons x r =>
    unfold splitL
    split
    · exact ⟨_, _, rfl⟩
    · split <;> exact ⟨_, _, rfl⟩
theorem split_hit (c : UInt8) (r : List UInt8) : splitL c (c :: r) = [] :: splitL c r := by simp [splitL]
theorem split_miss {c x : UInt8} (h : x ≠ c) (r : List UInt8) : splitL c (x :: r) = ahead [x] (splitL c r) := by
  obtain ⟨p, ps, e⟩ := splitL_ne c r
  rw [show splitL c (x :: r) = (match splitL c r with | [] => [[x]] | p :: ps => (x :: p) :: ps) by rw [splitL, if_neg h], e]; rfl
theorem ahead_ahead (a b : List UInt8) (s : List (List UInt8)) : ahead a (ahead b s) = ahead (a ++ b) s := by
  cases s <;> simp [ahead]
theorem ahead_nil (c : UInt8) (l : List UInt8) : ahead [] (splitL c l) = splitL c l := by
  obtain ⟨p, ps, e⟩ := splitL_ne c l
  rw [e]; rfl
theorem split_no {c : UInt8} : ∀ {a : List UInt8}, c ∉ a → splitL c a = [a]
  | [], _ => rfl
  | x :: a, h => by
    have h1 : x ≠ c := fun e => h (by simp [e])
    have h2 : c ∉ a := fun e => h (by simp [e])
    rw [split_miss h1, split_no h2]; rfl
theorem split_mid {c : UInt8} (r : List UInt8) : ∀ {a : List UInt8}, c ∉ a → splitL c (a ++ c :: r) = a :: splitL c r
  | [], _ => split_hit c r
  | x :: a, h => by
    have h1 : x ≠ c := fun e => h (by simp [e])
    have h2 : c ∉ a := fun e => h (by simp [e])
    rw [List.cons_append, split_miss h1, split_mid r h2]; rfl
theorem split_cut (c : UInt8) (l : List UInt8) : splitL c l = if (Lib.cut l [c]).2.2 = true then (Lib.cut l [c]).1 :: splitL c (Lib.cut l [c]).2.1 else [(Lib.cut l [c]).1] := by
  by_cases h : c ∈ l
  · obtain ⟨a, r, rfl, ha⟩ := List.eq_append_cons_of_mem h
    rw [cut_mid a r c ha, split_mid r ha]; rfl
  · rw [cut_no l c h, split_no h]; rfl

/-! ### Numbers -/
theorem table : ∀ v : Fin 256, Lib.atoiAll (Lib.itoa (v.val : Int)) = .ok (v.val : Int) ∧ refOk (Lib.itoa (v.val : Int)) = true ∧ decN (Lib.itoa (v.val : Int)) = v.val := by decide +kernel
theorem decN_snoc (r : List UInt8) (b : UInt8) : decN (r ++ [b]) = 10 * decN r + (b.toNat - 48) := by simp [decN]
theorem decN_pos : ∀ (l : List UInt8), l ≠ [] → l.all dig = true → l.head? ≠ some 48 → 0 < decN l := by
  intro l
  induction h : l.length generalizing l with
  | zero => intro h1; exact absurd (List.eq_nil_of_length_eq_zero h) h1
  | succ n ih =>
    intro h1 h2 h3
    obtain ⟨r, b, rfl⟩ : ∃ r b, l = r ++ [b] := ⟨l.dropLast, l.getLast h1, (List.dropLast_concat_getLast _).symm⟩
    rw [decN_snoc]
    by_cases hr : r = []
    · subst hr
      have hb : b ≠ 48 := fun e => h3 (by simp [e])
      have hd : dig b = true := by simpa using h2
      simp [dig] at hd
      have : b.toNat ≠ 48 := fun e => hb (UInt8.toNat_inj.1 e)
      omega
    · have := ih r (by simp at h; omega) hr (by simp at h2; simpa using h2.1) (by
        cases r with
        | nil => exact absurd rfl hr
        | cons x r => simpa using h3)
      omega
theorem dec_text : ∀ (l : List UInt8), l ≠ [] → l.all dig = true → (1 < l.length → l.head? ≠ some 48) → Lib.decDigits (decN l) = l := by
  intro l
  induction h : l.length generalizing l with
  | zero => intro h1; exact absurd (List.eq_nil_of_length_eq_zero h) h1
  | succ n ih =>
    intro h1 h2 h3
    obtain ⟨r, b, rfl⟩ : ∃ r b, l = r ++ [b] := ⟨l.dropLast, l.getLast h1, (List.dropLast_concat_getLast _).symm⟩
    have hd : dig b = true := by
      rw [List.all_append, Bool.and_eq_true] at h2
      simpa using h2.2
    simp [dig] at hd
    have hb : UInt8.ofNat (48 + (b.toNat - 48)) = b := by rw [show 48 + (b.toNat - 48) = b.toNat by omega]; exact UInt8.ofNat_toNat
    rw [decN_snoc, Lib.decDigits]
    by_cases hr : r = []
    · subst hr
      have e : decN [] = 0 := rfl
      rw [e, dif_pos (by omega), show 48 + (10 * 0 + (b.toNat - 48)) = 48 + (b.toNat - 48) by omega, hb]; rfl
    · have hra : r.all dig = true := by rw [List.all_append, Bool.and_eq_true] at h2; exact h2.1
      have hlr : 1 < n + 1 := by
        have := List.length_pos_iff.2 hr
        rw [← h]; simp; omega
      have hrh : r.head? ≠ some 48 := by
        cases r with
        | nil => exact absurd rfl hr
        | cons x r => simpa using h3 hlr
      have hp := decN_pos r hr hra hrh
      rw [dif_neg (by omega), show (10 * decN r + (b.toNat - 48)) / 10 = decN r by omega, show (10 * decN r + (b.toNat - 48)) % 10 = b.toNat - 48 by omega, hb]
      rw [ih r (by simp at h; omega) hr hra (fun _ => hrh)]
theorem num_ref (l : List UInt8) (most : Int) (hm : 0 ≤ most ∧ most ≤ 255) : numB l most = refB l most ∧ (refB l most = true → numI l most = decN l) := by
  have back : ∀ v : Int, 0 ≤ v → v ≤ most → l = Lib.itoa v → num? l most = some v ∧ refB l most = true ∧ (decN l : Int) = v := by
    intro v h0 h1 hl
    obtain ⟨n, rfl⟩ := Int.eq_ofNat_of_zero_le h0
    have ht := table ⟨n, by omega⟩
    simp only at ht
    subst hl
    refine ⟨?_, ?_, by rw [ht.2.2]⟩
    · unfold num?
      rw [ht.1]
      simp [h1]
    · unfold refB
      rw [ht.2.1, ht.2.2]
      simpa using h1
  have fwd : refB l most = true → l = Lib.itoa (decN l : Int) ∧ (decN l : Int) ≤ most := by
    intro h
    unfold refB at h
    simp only [Bool.and_eq_true, decide_eq_true_eq] at h
    obtain ⟨hok, hle⟩ := h
    unfold refOk at hok
    simp only [Bool.and_eq_true, decide_eq_true_eq, Bool.not_eq_true', Bool.and_eq_false_iff, decide_eq_false_iff_not] at hok
    obtain ⟨h1, h2, h3, h4⟩ := hok
    have hne : l ≠ [] := by intro e; subst e; simp at h1
    have := dec_text l hne h4 (fun hlt => by rcases h3 with h3 | h3; exact absurd hlt h3; exact h3)
    refine ⟨?_, hle⟩
    unfold Lib.itoa
    rw [if_neg (by omega), Int.toNat_natCast, this]
  constructor
  · cases hr : refB l most with
    | true =>
      obtain ⟨h1, h2⟩ := fwd hr
      have := back _ (by omega) h2 h1
      unfold numB
      rw [this.1]; rfl
    | false =>
      unfold numB
      cases hn : num? l most with
      | none => rfl
      | some v =>
        exfalso
        unfold num? at hn
        split at hn
        · split at hn
          · rename_i hc
            obtain ⟨q1, q2, q3⟩ := hc
            have := back _ q1 q2 q3.symm
            rw [hr] at this
            cases this.2.1
          · cases hn
        · cases hn
  · intro hr
    obtain ⟨h1, h2⟩ := fwd hr
    have := back _ (by omega) h2 h1
    unfold numI
    rw [this.1]; rfl
end Go.Proofs.YtlgdmfbpkmokaaaDoor
