/- Options of a header: plain mathematics; no program in it. -/
import Derived.Test.YtccfebaifgnodaaSm
namespace Go.Proofs.Ytccfebaifgnodaa
namespace Om
open Sm

/-- What goes over bytes tells: each option, and nothing where one may not be (the last then). -/
def seq (l : List UInt8) : List (Option (List UInt8)) :=
  if l = [] then []
  else if at0 l 0 = 0 then []
  else if at0 l 0 = 1 then seq (l.drop 1)
  else if l.length < 2 ∨ at0 l 1 < 2 ∨ l.length < at0 l 1 then [none]
  else some (l.take (at0 l 1)) :: seq (l.drop (at0 l 1))
termination_by l.length
decreasing_by
  · rename_i h _ _; have : 0 < l.length := List.length_pos_iff.2 h; simp; omega
  · rename_i h _ _ h2; have : 0 < l.length := List.length_pos_iff.2 h; simp; omega

theorem seq_nil : seq [] = [] := by rw [seq]; rfl
theorem seq_end {l : List UInt8} (h : at0 l 0 = 0) : seq l = [] := by
  rw [seq]; split <;> first | rfl | rw [if_pos h]
theorem seq_nop {l : List UInt8} (h0 : 0 < l.length) (h : at0 l 0 = 1) : seq l = seq (l.drop 1) := by
  rw [seq, if_neg (List.length_pos_iff.1 h0), if_neg (by omega), if_pos h]
theorem seq_bad {l : List UInt8} (h0 : 0 < l.length) (h1 : 2 ≤ at0 l 0) (h : l.length < 2 ∨ at0 l 1 < 2 ∨ l.length < at0 l 1) : seq l = [none] := by
  rw [seq, if_neg (List.length_pos_iff.1 h0), if_neg (by omega), if_neg (by omega), if_pos h]
theorem seq_opt {l : List UInt8} (h1 : 2 ≤ at0 l 0) (h2 : 2 ≤ at0 l 1) (h3 : at0 l 1 ≤ l.length) : seq l = some (l.take (at0 l 1)) :: seq (l.drop (at0 l 1)) := by
  rw [seq, if_neg (List.length_pos_iff.1 (by omega)), if_neg (by omega), if_neg (by omega), if_neg (by omega)]

/-- May they be? -/
def ok (l : List UInt8) : Bool := !(seq l).contains none
/-- The options, whole, where they may be; none where not. -/
def raws (l : List UInt8) : List (List UInt8) := if ok l then (seq l).filterMap id else []
theorem seq_some : ∀ (n : Nat) (l : List UInt8), l.length ≤ n → ∀ r, some r ∈ seq l → 2 ≤ r.length ∧ 2 ≤ at0 r 0 ∧ at0 r 1 = r.length
  | 0, l, h, r, hr => by
    have : l = [] := List.length_eq_zero_iff.1 (by omega)
    subst this; rw [seq_nil] at hr; cases hr
  | n + 1, l, h, r, hr => by
    rcases Nat.eq_zero_or_pos l.length with h0 | h0
    · have : l = [] := List.length_eq_zero_iff.1 h0
      subst this; rw [seq_nil] at hr; cases hr
    · by_cases h1 : at0 l 0 = 0
      · rw [seq_end h1] at hr; cases hr
      · by_cases h2 : at0 l 0 = 1
        · rw [seq_nop h0 h2] at hr
          exact seq_some n _ (by simp; omega) r hr
        · by_cases h3 : l.length < 2 ∨ at0 l 1 < 2 ∨ l.length < at0 l 1
          · rw [seq_bad h0 (by omega) h3] at hr; simp at hr
          · rw [seq_opt (by omega) (by omega) (by omega)] at hr
            rcases List.mem_cons.1 hr with e | e
            · simp only [Option.some.injEq] at e
              subst e
              have e0 : at0 (l.take (at0 l 1)) 0 = at0 l 0 := by unfold at0; rw [List.getElem?_take, if_pos (by show 0 < at0 l 1; omega)]
              have e1 : at0 (l.take (at0 l 1)) 1 = at0 l 1 := by
                have : 1 < at0 l 1 := by omega
                show (((l.take (at0 l 1))[1]?).map UInt8.toNat).getD 0 = _
                rw [List.getElem?_take, if_pos this]; rfl
              rw [e0, e1, List.length_take]; omega
            · exact seq_some n _ (by simp; omega) r e
theorem seq_len : ∀ (n : Nat) (l : List UInt8), l.length ≤ n → (seq l).length ≤ l.length
  | 0, l, h => by
    have : l = [] := List.length_eq_zero_iff.1 (by omega)
    subst this; rw [seq_nil]; simp
  | n + 1, l, h => by
    rcases Nat.eq_zero_or_pos l.length with h0 | h0
    · have : l = [] := List.length_eq_zero_iff.1 h0
      subst this; rw [seq_nil]; simp
    · by_cases h1 : at0 l 0 = 0
      · rw [seq_end h1]; simp
      · by_cases h2 : at0 l 0 = 1
        · rw [seq_nop h0 h2]
          have := seq_len n (l.drop 1) (by simp; omega)
          simp at this ⊢; omega
        · by_cases h3 : l.length < 2 ∨ at0 l 1 < 2 ∨ l.length < at0 l 1
          · rw [seq_bad h0 (by omega) h3]; simp; omega
          · rw [seq_opt (by omega) (by omega) (by omega)]
            have := seq_len n (l.drop (at0 l 1)) (by simp; omega)
            simp at this ⊢; omega
end Om
end Go.Proofs.Ytccfebaifgnodaa
