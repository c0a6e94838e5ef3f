/- What Unhex gives. -/
import Derived.Test.YtlgdmfbpkmokaaaDoorWx
import Derived.Test.YtlgdmfbpkmokaaaDoorShelf
namespace Go.Proofs.YtlgdmfbpkmokaaaDoor
open Go.RowKit
attribute [local go_sem ↓] Go.wp_at_zero Go.wp_at_succ

/-- The number of a digit of sixteen, or -1. -/
def hexv (c : UInt8) : Int := if 48 ≤ c.toNat ∧ c.toNat ≤ 57 then (c.toNat : Int) - 48 else if 97 ≤ c.toNat ∧ c.toNat ≤ 102 then (c.toNat : Int) - 87 else -1
def unhexL : List UInt8 → Option (List UInt8)
  | [] => some []
  | [_] => none
  | a :: b :: r => if hexv a < 0 ∨ hexv b < 0 then none else (unhexL r).map fun t => UInt8.ofNat (16 * (hexv a).toNat + (hexv b).toNat) :: t
theorem hexv_bd (c : UInt8) : -1 ≤ hexv c ∧ hexv c ≤ 15 := by
  unfold hexv
  (repeat' split) <;> omega
theorem index_fin : ∀ c : Fin 256, Lib.indexByte [48, 49, 50, 51, 52, 53, 54, 55, 56, 57, 97, 98, 99, 100, 101, 102] (UInt8.ofNat c.val) = hexv (UInt8.ofNat c.val) := by decide +kernel
theorem index_hex (c : UInt8) : Lib.indexByte [48, 49, 50, 51, 52, 53, 54, 55, 56, 57, 97, 98, 99, 100, 101, 102] c = hexv c := by
  have := index_fin ⟨c.toNat, c.toNat_lt⟩
  simpa using this

def unhexB (s : ByteArray) : List UInt8 := (unhexL s.data.toList).getD []
def unhexE (s : ByteArray) : Int := if (unhexL s.data.toList).isSome then 0 else 4

theorem unhexL_append : ∀ (n : Nat) (a b x : List UInt8), a.length ≤ n → unhexL a = some x → unhexL (a ++ b) = (unhexL b).map (x ++ ·) := by
  intro n
  induction n with
  | zero =>
    intro a b x ha h
    have := List.eq_nil_of_length_eq_zero (Nat.le_zero.1 ha)
    subst this
    simp only [unhexL, Option.some.injEq] at h
    subst h
    simp
  | succ n ih =>
    intro a b x ha h
    match a, h with
    | [], h => simp only [unhexL, Option.some.injEq] at h; subst h; simp
    | [_], h => simp [unhexL] at h
    | p :: q :: r, h =>
      simp only [unhexL, List.cons_append] at h ⊢
      split at h
      · cases h
      · rename_i hc
        rw [if_neg hc]
        cases hr : unhexL r with
        | none => rw [hr] at h; cases h
        | some t =>
          rw [hr] at h
          simp only [Option.map_some, Option.some.injEq] at h
          subst h
          rw [ih r b t (by simp at ha; omega) hr]
          cases unhexL b <;> simp
theorem unhexL_step {l x : List UInt8} {k : Nat} (h : unhexL (l.take (2 * k)) = some x) (hk : 2 * k + 1 < l.length) (h0 : ¬ hexv l[2 * k] < 0) (h1 : ¬ hexv l[2 * k + 1] < 0) :
    unhexL (l.take (2 * (k + 1))) = some (x ++ [UInt8.ofNat (16 * (hexv l[2 * k]).toNat + (hexv l[2 * k + 1]).toNat)]) := by
  have e : l.take (2 * (k + 1)) = l.take (2 * k) ++ [l[2 * k], l[2 * k + 1]] := by
    rw [show 2 * (k + 1) = 2 * k + 2 by omega, List.take_add, ← List.getElem_cons_drop (h := show 2 * k < l.length by omega), ← List.getElem_cons_drop (h := hk)]
    rfl
  rw [e, unhexL_append _ _ _ _ (Nat.le_refl _) h]
  simp [unhexL, h0, h1]
theorem unhexL_bad {l x : List UInt8} {k : Nat} (h : unhexL (l.take (2 * k)) = some x) (hk : 2 * k + 1 < l.length) (h0 : hexv l[2 * k] < 0 ∨ hexv l[2 * k + 1] < 0) :
    unhexL l = none := by
  have e : l = l.take (2 * k) ++ (l[2 * k] :: l[2 * k + 1] :: l.drop (2 * k + 2)) := by
    conv => lhs; rw [← List.take_append_drop (2 * k) l]
    rw [← List.getElem_cons_drop (h := show 2 * k < l.length by omega), ← List.getElem_cons_drop (h := hk)]
  rw [e, unhexL_append _ _ _ _ (Nat.le_refl _) h]
  simp [unhexL, h0]
theorem unhexL_odd {l x : List UInt8} {k : Nat} (h : unhexL (l.take (2 * k)) = some x) (hk : l.length = 2 * k + 1) : unhexL l = none := by
  have e : l = l.take (2 * k) ++ [l[2 * k]] := by
    conv => lhs; rw [← List.take_append_drop (2 * k) l]
    rw [← List.getElem_cons_drop (h := show 2 * k < l.length by omega), List.drop_eq_nil_of_le (by omega)]
  rw [e, unhexL_append _ _ _ _ (Nat.le_refl _) h]
  simp [unhexL]

/-- A row whose first bytes are x and whose others are nought. -/
def rowU (x : List UInt8) (m : Nat) : List UInt8 := x ++ List.replicate (m - x.length) 0
theorem rowU_set {x : List UInt8} {m : Nat} (h : x.length < m) (c : UInt8) : (bv (rowU x m)).set x.length (.int .u8 (c.toNat : Int)) = bv (rowU (x ++ [c]) m) := by
  have e : m - x.length = (m - (x ++ [c]).length) + 1 := by simp; omega
  unfold rowU bv
  rw [e, List.replicate_succ, List.map_append, List.set_append_right _ _ (by simp)]
  simp

theorem unhexL_len : ∀ (n : Nat) (a x : List UInt8), a.length ≤ n → unhexL a = some x → a.length = 2 * x.length := by
  intro n
  induction n with
  | zero =>
    intro a x ha h
    have := List.eq_nil_of_length_eq_zero (Nat.le_zero.1 ha)
    subst this
    simp only [unhexL, Option.some.injEq] at h
    subst h
    rfl
  | succ n ih =>
    intro a x ha h
    match a, h with
    | [], h => simp only [unhexL, Option.some.injEq] at h; subst h; rfl
    | [_], h => simp [unhexL] at h
    | p :: q :: r, h =>
      simp only [unhexL] at h
      split at h
      · cases h
      · cases hr : unhexL r with
        | none => rw [hr] at h; cases h
        | some t =>
          rw [hr] at h
          simp only [Option.map_some, Option.some.injEq] at h
          subst h
          have := ih r t (by simp at ha; omega) hr
          simp; omega
theorem at_list (s : ByteArray) (j : Nat) (h : j < s.size) (h2 : j < s.data.toList.length) : s.data.toList[j] = s[j] := by
  rw [Array.getElem_toList]; rfl
theorem or_zero8 : ∀ d : Fin 16, bits .or .u8 0 (d.val : Int) = (d.val : Int) := by decide +kernel
theorem or_join8 : ∀ d e : Fin 16, bits .or .u8 ((d.val : Int) * 16) (e.val : Int) = (d.val : Int) * 16 + (e.val : Int) := by decide +kernel
theorem or_z {d : Int} (h : 0 ≤ d) (h2 : d ≤ 15) : bits .or .u8 0 d = d := by
  have := or_zero8 ⟨d.toNat, by omega⟩
  simpa [Int.toNat_of_nonneg h] using this
theorem or_j {d e : Int} (h : 0 ≤ d) (h2 : d ≤ 15) (h3 : 0 ≤ e) (h4 : e ≤ 15) : bits .or .u8 (d * 16) e = d * 16 + e := by
  have := or_join8 ⟨d.toNat, by omega⟩ ⟨e.toNat, by omega⟩
  simpa [Int.toNat_of_nonneg h, Int.toNat_of_nonneg h3] using this
theorem unhex_no {s : ByteArray} (h : unhexL s.data.toList = none) : unhexB s = [] ∧ unhexE s = 4 := by simp [unhexB, unhexE, h]
theorem unhex_yes {s : ByteArray} {x : List UInt8} (h : unhexL s.data.toList = some x) : unhexB s = x ∧ unhexE s = 0 := by simp [unhexB, unhexE, h]
/-- What of two digits has been read. -/
def Acc (p q : Int) (t : Nat) (a : Int) : Prop := (t = 0 → a = 0) ∧ (t = 1 → a = p ∧ 0 ≤ p) ∧ (t = 2 → 0 ≤ p ∧ 0 ≤ q ∧ a = 16 * p + q)
theorem Acc.step {p q : Int} {t : Nat} {a d : Int} (h : Acc p q t a) (ht : t < 2) (h0 : t = 0 → d = p) (h1 : t = 1 → d = q) (hd : 0 ≤ d) : Acc p q (t + 1) (16 * a + d) := by
  obtain ⟨a0, a1, a2⟩ := h
  unfold Acc
  have : t = 0 ∨ t = 1 := by omega
  rcases this with rfl | rfl
  · have := a0 rfl; have := h0 rfl; exact ⟨by omega, by omega, by omega⟩
  · have := a1 rfl; have := h1 rfl; exact ⟨by omega, by omega, by omega⟩
end Go.Proofs.YtlgdmfbpkmokaaaDoor
