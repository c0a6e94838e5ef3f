/- StoreKeeps: the law's walk. -/
import Derived.Test.YtoinjapmioldaaaZ02
import Derived.Test.YtoinjapmioldaaaZ05
import Derived.Test.YtoinjapmioldaaaZ06

set_option linter.unusedSimpArgs false
set_option linter.unusedVariables false
namespace Go.Proofs.Ytoinjapmioldaaa
open Go.RowKit
attribute [local go_sem ↓] Go.wp_at_zero Go.wp_at_succ

/-- A store that holds these bytes, with power, without a fuse. -/
def full (l : List UInt8) : St := ⟨l.map fun x => (x, false), false, -1, 0, false⟩
theorem full_nw (n : Nat) : nw n = full (List.replicate n 0) := by simp [full, nw]
theorem full_wgo : ∀ (b : List UInt8) (k : Nat) (l : List UInt8), wgo b k (full l) = full (b.foldl (fun (p : List UInt8 × Nat) x => (p.1.set p.2 x, p.2 + 1)) (l, k)).1
  | [], _, _ => rfl
  | x :: r, k, l => by
    unfold wgo
    rw [if_neg (by simp [full])]
    have e : (full l).step k x = full (l.set k x) := by simp [full, St.step, List.map_set]
    rw [e, full_wgo r (k + 1) (l.set k x)]
    rfl
theorem fold_spl : ∀ (b : List UInt8) (k : Nat) (l : List UInt8), k + b.length ≤ l.length → (b.foldl (fun (p : List UInt8 × Nat) x => (p.1.set p.2 x, p.2 + 1)) (l, k)).1 = spl l k b
  | [], k, l, _ => by simp [spl]
  | x :: r, k, l, h => by
    simp only [List.length_cons] at h
    rw [List.foldl_cons, fold_spl r (k + 1) (l.set k x) (by simp; omega)]
    unfold spl
    simp only [List.length_cons]
    have hk : k < l.length := by omega
    rw [List.take_set, List.take_succ_eq_append_getElem hk, List.set_append_right _ _ (by simp; omega), List.drop_set]
    have e : (l.take k).length = k := by simp; omega
    rw [e, Nat.sub_self, if_pos (by omega), show k + 1 + r.length = k + (r.length + 1) by omega]
    simp
theorem full_wr {l b : List UInt8} {k : Nat} (h : k + b.length ≤ l.length) : wrE (full l) k b = 0 ∧ wrS (full l) k b = full (spl l k b) := by
  have hl : (full l).c.length = l.length := by simp [full]
  have hi : inn (full l).c.length k b.length = true := inn_iff.2 ⟨by omega, by omega, by omega⟩
  have hw : wgo b k (full l) = full (spl l k b) := by rw [full_wgo, fold_spl b k l h]
  unfold wrE wrS
  rw [if_pos hi, if_pos (And.intro hi (show (full l).dead = false from rfl)), Int.toNat_natCast, hw]
  exact ⟨by rw [if_neg (show ¬ (full l).dead = true by simp [full]), if_neg (show ¬ (full (spl l k b)).dead = true by simp [full])], rfl⟩
theorem full_no {l b : List UInt8} {k : Nat} (h : ¬ k + b.length ≤ l.length) : wrE (full l) k b = 2 ∧ wrS (full l) k b = full l := by
  have hl : (full l).c.length = l.length := by simp [full]
  have hi : ¬ inn (full l).c.length k b.length = true := by rw [inn_iff]; omega
  unfold wrE wrS
  rw [if_neg hi, if_neg (fun h2 => hi h2.1)]
  exact ⟨rfl, rfl⟩
theorem full_rd (l : List UInt8) (n : Nat) (h : l.length = n) : rdE (full l) 0 n = 0 ∧ rdB (full l) 0 n = l := by
  subst h
  have hl : (full l).c.length = l.length := by simp [full]
  have hi : inn (full l).c.length 0 l.length = true := inn_iff.2 ⟨by omega, by omega, by omega⟩
  have hL : rdL (full l) 0 l.length = l.map fun x => (x, false) := by
    unfold rdL full
    simp only [Int.toNat_zero, List.drop_zero, Int.toNat_natCast]
    rw [List.take_of_length_le (by simp)]
  have e : rdE (full l) 0 l.length = 0 := by
    unfold rdE
    rw [if_pos hi, hL]
    simp [full]
  refine ⟨e, ?_⟩
  unfold rdB
  rw [if_pos e, hL, List.map_map]
  exact List.map_id l

theorem place {z : Int} {m : Nat} (h1 : 1 ≤ m) (h2 : m ≤ 60) : ∃ K : Nat, K < m ∧ (wrap64 (z.tmod m + m)).tmod m = (K : Int) := by
  have a := Int.tmod_lt_of_pos z (show (0 : Int) < m by omega)
  have b := Int.lt_tmod_of_pos z (show (0 : Int) < m by omega)
  rw [IntWalk.wrap64_in _ ⟨by omega, by omega⟩, Int.tmod_eq_emod_of_nonneg (by omega)]
  have c := Int.emod_nonneg (z.tmod m + m) (show (m : Int) ≠ 0 by omega)
  have d := Int.emod_lt_of_pos (z.tmod m + m) (show (0 : Int) < m by omega)
  obtain ⟨K, hK⟩ := Int.eq_ofNat_of_zero_le c
  exact ⟨K, by omega, hK⟩
end Go.Proofs.Ytoinjapmioldaaa
