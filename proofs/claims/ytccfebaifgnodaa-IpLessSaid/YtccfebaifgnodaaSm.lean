/- Plain numbers of the layer sum: sums of words with carry; no program in it. -/
namespace Go.Proofs.Ytccfebaifgnodaa
namespace Sm

/-- x + y with carry, of words. -/
def addC (x y : Nat) : Nat := if x + y < 65536 then x + y else x + y - 65535
/-- A number's words, summed with carry. -/
def canon (n : Nat) : Nat := if n = 0 then 0 else (n - 1) % 65535 + 1

theorem addC_lt {x y : Nat} (hx : x < 65536) (hy : y < 65536) : addC x y < 65536 := by unfold addC; split <;> omega
theorem canon_lt (n : Nat) : canon n < 65536 := by unfold canon; split <;> omega
theorem addC_canon (n w : Nat) (hw : w < 65536) : addC (canon n) w = canon (n + w) := by
  unfold addC canon
  by_cases h : n = 0
  · subst h
    by_cases h2 : w = 0
    · subst h2; rfl
    · simp only [if_true]; rw [if_neg (by omega : ¬ 0 + w = 0)]; split <;> omega
  · simp only [if_neg h, if_neg (show ¬ n + w = 0 by omega)]
    split <;> omega
theorem canon_id {n : Nat} (h : n < 65536) : canon n = n := by unfold canon; split <;> omega
theorem addC_canon2 (n m : Nat) : addC (canon n) (canon m) = canon (n + m) := by
  rw [addC_canon _ _ (canon_lt m)]
  unfold canon
  by_cases h : m = 0
  · subst h; simp
  · rw [if_neg h, if_neg (by omega : ¬ n + ((m - 1) % 65535 + 1) = 0), if_neg (by omega : ¬ n + m = 0)]; omega
theorem addC_comm (x y : Nat) : addC x y = addC y x := by unfold addC; rw [Nat.add_comm]
theorem addC_zero {x : Nat} (h : x < 65536) : addC x 0 = x := by unfold addC; rw [if_pos (by omega)]; rfl
theorem addC_rest {x : Nat} (h : x < 65536) : addC x (65535 - x) = 65535 := by unfold addC; split <;> omega
theorem addC_assoc {x y z : Nat} (hx : x < 65536) (hy : y < 65536) (hz : z < 65536) : addC (addC x y) z = addC x (addC y z) := by
  unfold addC; (repeat' split) <;> omega

/-- The byte at a place, a nought behind the end. -/
def at0 (l : List UInt8) (i : Nat) : Nat := (l[i]?.map UInt8.toNat).getD 0
theorem at0_lt (l : List UInt8) (i : Nat) : at0 l i < 256 := by
  unfold at0
  cases h : l[i]? with
  | none => simp
  | some x => simp; exact x.toNat_lt
/-- Word k. -/
def word (l : List UInt8) (k : Nat) : Nat := 256 * at0 l (2 * k) + at0 l (2 * k + 1)
theorem word_lt (l : List UInt8) (k : Nat) : word l k < 65536 := by
  unfold word; have := at0_lt l (2 * k); have := at0_lt l (2 * k + 1); omega
/-- The sum of the first k words, without carry. -/
def upto (l : List UInt8) : Nat → Nat
  | 0 => 0
  | k + 1 => upto l k + word l k
/-- The sum of bytes. -/
def tot (l : List UInt8) : Nat := canon (upto l ((l.length + 1) / 2))
theorem tot_lt (l : List UInt8) : tot l < 65536 := canon_lt _
theorem step (l : List UInt8) (k : Nat) : addC (canon (upto l k)) (word l k) = canon (upto l (k + 1)) := addC_canon _ _ (word_lt l k)

theorem at0_zero {l : List UInt8} {i : Nat} (h : l.length ≤ i) : at0 l i = 0 := by
  unfold at0; rw [List.getElem?_eq_none h]; rfl
theorem upto_more (l : List UInt8) : ∀ d : Nat, upto l ((l.length + 1) / 2 + d) = upto l ((l.length + 1) / 2)
  | 0 => rfl
  | d + 1 => by
    show upto l ((l.length + 1) / 2 + d) + word l ((l.length + 1) / 2 + d) = _
    rw [upto_more l d]
    unfold word
    rw [at0_zero (by omega), at0_zero (by omega)]
    rfl
theorem upto_any (l : List UInt8) {k : Nat} (h : (l.length + 1) / 2 ≤ k) : upto l k = upto l ((l.length + 1) / 2) := by
  have := upto_more l (k - (l.length + 1) / 2)
  rwa [show (l.length + 1) / 2 + (k - (l.length + 1) / 2) = k by omega] at this

theorem at0_left {a b : List UInt8} {i : Nat} (h : i < a.length) : at0 (a ++ b) i = at0 a i := by
  unfold at0; rw [List.getElem?_append_left h]
theorem at0_right {a b : List UInt8} {i : Nat} (h : a.length ≤ i) : at0 (a ++ b) i = at0 b (i - a.length) := by
  unfold at0; rw [List.getElem?_append_right h]
theorem upto_left {a b : List UInt8} : ∀ k : Nat, 2 * k ≤ a.length → upto (a ++ b) k = upto a k
  | 0, _ => rfl
  | k + 1, h => by
    show upto (a ++ b) k + word (a ++ b) k = upto a k + word a k
    rw [upto_left k (by omega)]
    unfold word
    rw [at0_left (by omega), at0_left (by omega)]
theorem upto_right {a b : List UInt8} {n : Nat} (h : a.length = 2 * n) : ∀ k : Nat, upto (a ++ b) (n + k) = upto a n + upto b k
  | 0 => by rw [Nat.add_zero, upto_left n (by omega)]; rfl
  | k + 1 => by
    show upto (a ++ b) (n + k) + word (a ++ b) (n + k) = upto a n + (upto b k + word b k)
    rw [upto_right h k]
    unfold word
    rw [at0_right (by omega), at0_right (by omega), h, show 2 * (n + k) - 2 * n = 2 * k by omega, show 2 * (n + k) + 1 - 2 * n = 2 * k + 1 by omega]
    omega
/-- All words' sum, without carry. -/
def all (l : List UInt8) : Nat := upto l ((l.length + 1) / 2)
theorem tot_all (l : List UInt8) : tot l = canon (all l) := rfl
theorem all_append {a b : List UInt8} {n : Nat} (h : a.length = 2 * n) : all (a ++ b) = all a + all b := by
  unfold all
  rw [List.length_append, show (a.length + b.length + 1) / 2 = n + (b.length + 1) / 2 by omega, upto_right h, show (a.length + 1) / 2 = n by omega]
theorem tot_append {a b : List UInt8} {n : Nat} (h : a.length = 2 * n) : tot (a ++ b) = addC (tot a) (tot b) := by
  rw [tot_all, tot_all, tot_all, addC_canon2, all_append h]
theorem all_pair (x y : UInt8) : all [x, y] = 256 * x.toNat + y.toNat := by
  simp [all, upto, word, at0]
theorem all_zeros2 : all [0, 0] = 0 := by rw [all_pair]; rfl
/-- Turned at an even place. -/
theorem tot_turned {l : List UInt8} {n : Nat} (h : 2 * n ≤ l.length) (he : l.length % 2 = 0) : tot (l.drop (2 * n) ++ l.take (2 * n)) = tot l := by
  have h1 : (l.take (2 * n)).length = 2 * n := by simp; omega
  have h2 : (l.drop (2 * n)).length = 2 * ((l.length - 2 * n) / 2) := by simp; omega
  rw [tot_append h2, addC_comm, ← tot_append h1, List.take_append_drop]
theorem tot_wide {l : List UInt8} {n : Nat} (h : 2 * n ≤ l.length) : tot (l.take (2 * n) ++ [0, 0] ++ l.drop (2 * n)) = tot l := by
  have h1 : (l.take (2 * n)).length = 2 * n := by simp; omega
  have h3 : (l.take (2 * n) ++ [0, 0]).length = 2 * (n + 1) := by simp; omega
  rw [tot_all, all_append h3, all_append h1, all_zeros2, Nat.add_zero, ← all_append h1, List.take_append_drop]
  rfl
theorem tot_parts {l : List UInt8} {n : Nat} (h : 2 * n ≤ l.length) : tot l = addC (tot (l.take (2 * n))) (tot (l.drop (2 * n))) := by
  have h1 : (l.take (2 * n)).length = 2 * n := by simp; omega
  rw [← tot_append h1, List.take_append_drop]
/-- With their checksum behind them they are good. -/
theorem tot_good {l : List UInt8} {n : Nat} (h : l.length = 2 * n) {x y : UInt8} (hx : x.toNat = (65535 - tot l) / 256) (hy : y.toNat = (65535 - tot l) % 256) : tot (l ++ [x, y]) = 65535 := by
  have := tot_lt l
  rw [tot_append h, tot_all [x, y], all_pair, canon_id (by omega), hx, hy]
  have e : 256 * ((65535 - tot l) / 256) + (65535 - tot l) % 256 = 65535 - tot l := by omega
  rw [e]
  exact addC_rest this
/-- The words are changed by one: the sums go along. -/
theorem all_change {a b : List UInt8} {n : Nat} (h : a.length = 2 * n) (x y x' y' : UInt8) :
    all (a ++ [x', y'] ++ b) + (256 * x.toNat + y.toNat) = all (a ++ [x, y] ++ b) + (256 * x'.toNat + y'.toNat) := by
  have h1 : (a ++ [x, y]).length = 2 * (n + 1) := by simp; omega
  have h2 : (a ++ [x', y']).length = 2 * (n + 1) := by simp; omega
  rw [all_append h1, all_append h2, all_append h, all_append h, all_pair, all_pair]
  omega
theorem all_zero_iff : ∀ (l : List UInt8), all l = 0 ↔ ∀ i < l.length, at0 l i = 0 := by
  intro l
  have key : ∀ k, upto l k = 0 ↔ ∀ i < 2 * k, at0 l i = 0 := by
    intro k
    induction k with
    | zero => simp [upto]
    | succ k ih =>
      show upto l k + word l k = 0 ↔ _
      constructor
      · intro h i hi
        have h1 : upto l k = 0 := by omega
        have h2 : word l k = 0 := by omega
        unfold word at h2
        rcases Nat.lt_or_ge i (2 * k) with h3 | h3
        · exact ih.1 h1 i h3
        · rcases (show i = 2 * k ∨ i = 2 * k + 1 by omega) with rfl | rfl <;> omega
      · intro h
        have h1 := ih.2 (fun i hi => h i (by omega))
        unfold word
        rw [h1, h (2 * k) (by omega), h (2 * k + 1) (by omega)]
  unfold all
  rw [key]
  constructor
  · intro h i hi; exact h i (by omega)
  · intro h i hi
    rcases Nat.lt_or_ge i l.length with h1 | h1
    · exact h i h1
    · exact at0_zero h1
/-- The changed checksum. -/
def changed (c m n : Nat) : Nat := 65535 - addC (addC (65535 - c) (65535 - m)) n
theorem canon_pos {n : Nat} (h : 0 < n) : canon (n + 65535) = canon n := by
  unfold canon; rw [if_neg (by omega), if_neg (by omega)]; omega
theorem changed_of {S S' m n : Nat} (hm : m < 65536) (hn : n < 65536) (hS : S' + m = S + n) :
    65535 - canon S' = changed (65535 - canon S) m n ∨ S' = 0 ∧ 65535 - canon S' = 65535 ∧ changed (65535 - canon S) m n = 0 := by
  have hc := canon_lt S
  have e : changed (65535 - canon S) m n = 65535 - canon (S' + 65535) := by
    unfold changed
    rw [show 65535 - (65535 - canon S) = canon S by omega, addC_canon _ _ (by omega), addC_canon _ _ hn]
    congr 2
    omega
  rw [e]
  rcases Nat.eq_zero_or_pos S' with h | h
  · right; subst h; exact ⟨rfl, rfl, rfl⟩
  · left; rw [canon_pos h]

end Sm
end Go.Proofs.Ytccfebaifgnodaa
