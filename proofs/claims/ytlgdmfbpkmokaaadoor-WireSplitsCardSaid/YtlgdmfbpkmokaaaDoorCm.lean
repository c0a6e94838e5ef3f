/- Plain: bytes cut by sizes. -/
import Derived.Test.YtlgdmfbpkmokaaaDoorAp
import Derived.Test.YtlgdmfbpkmokaaaDoorRo
namespace Go.Proofs.YtlgdmfbpkmokaaaDoor
open Go.RowKit

def cutGo : List UInt8 → List Int → Option (List (List UInt8))
  | l, [] => if l = [] then some [] else none
  | l, n :: r => if (l.length : Int) < n then none else (cutGo (l.drop n.toNat) r).map (l.take n.toNat :: ·)
/-- What the cut answers: the parts and the error. -/
def cutP (l : List UInt8) (zs : List Int) : List (List UInt8) := if zs.any (· < 0) = true then [] else (cutGo l zs).getD []
def cutN (l : List UInt8) (zs : List Int) : Int := if zs.any (· < 0) = true then 2 else if (cutGo l zs).isSome = true then 0 else 4

theorem cutGo_long {l : List UInt8} {n : Int} {r : List Int} (h : (l.length : Int) < n) : cutGo l (n :: r) = none := by simp [cutGo, h]
theorem cutGo_fits {l : List UInt8} {n : Int} {r : List Int} (h : ¬ (l.length : Int) < n) : cutGo l (n :: r) = (cutGo (l.drop n.toNat) r).map (l.take n.toNat :: ·) := by simp [cutGo, h]
theorem any_drop {zs : List Int} (h : zs.any (· < 0) = false) {k : Nat} (hk : k < zs.length) : 0 ≤ zs[k] := by
  have := List.any_eq_false.1 h zs[k] (List.getElem_mem hk)
  simpa using this
theorem drop_cons {zs : List Int} {k : Nat} (h : k < zs.length) : zs.drop k = zs[k] :: zs.drop (k + 1) := List.drop_eq_getElem_cons h
/-- One part more. -/
theorem cut_step {l cur : List UInt8} {zs : List Int} {done : List (List UInt8)} {k : Nat} (hk : k < zs.length) (h : cutGo l zs = (cutGo cur (zs.drop k)).map (done ++ ·)) (hn : ¬ (cur.length : Int) < zs[k]) :
    cutGo l zs = (cutGo (cur.drop zs[k].toNat) (zs.drop (k + 1))).map ((done ++ [cur.take zs[k].toNat]) ++ ·) := by
  rw [h, drop_cons hk, cutGo_fits hn, Option.map_map]
  congr 1
  funext x
  simp
theorem cut_stop {l cur : List UInt8} {zs : List Int} {done : List (List UInt8)} {k : Nat} (hk : k < zs.length) (h : cutGo l zs = (cutGo cur (zs.drop k)).map (done ++ ·)) (hn : (cur.length : Int) < zs[k]) : cutGo l zs = none := by
  rw [h, drop_cons hk, cutGo_long hn]; rfl
theorem cut_end {l cur : List UInt8} {zs : List Int} {done : List (List UInt8)} (h : cutGo l zs = (cutGo cur (zs.drop zs.length)).map (done ++ ·)) : cutGo l zs = if cur = [] then some done else none := by
  rw [h, List.drop_length]
  unfold cutGo
  split <;> simp_all
theorem cut_neg {l : List UInt8} {zs : List Int} (h : zs.any (· < 0) = true) : cutP l zs = [] ∧ cutN l zs = 2 := by simp [cutP, cutN, h]
theorem cut_none {l : List UInt8} {zs : List Int} (h : zs.any (· < 0) = false) (h2 : cutGo l zs = none) : cutP l zs = [] ∧ cutN l zs = 4 := by simp [cutP, cutN, h, h2]
theorem cut_some {l : List UInt8} {zs : List Int} {P : List (List UInt8)} (h : zs.any (· < 0) = false) (h2 : cutGo l zs = some P) : cutP l zs = P ∧ cutN l zs = 0 := by simp [cutP, cutN, h, h2]
theorem cutGo_flat : ∀ (zs : List Int) (l : List UInt8) (P : List (List UInt8)), cutGo l zs = some P → P.flatten = l
  | [], l, P, h => by
    unfold cutGo at h
    split at h
    · injection h with h; subst h; simp_all
    · cases h
  | n :: r, l, P, h => by
    unfold cutGo at h
    split at h
    · cases h
    · obtain ⟨Q, h1, rfl⟩ := Option.map_eq_some_iff.1 h
      rw [List.flatten_cons, cutGo_flat r _ Q h1, List.take_append_drop]
theorem cutGo_len : ∀ (zs : List Int) (l : List UInt8) (P : List (List UInt8)), cutGo l zs = some P → P.length = zs.length
  | [], l, P, h => by
    unfold cutGo at h
    split at h
    · injection h with h; subst h; rfl
    · cases h
  | n :: r, l, P, h => by
    unfold cutGo at h
    split at h
    · cases h
    · obtain ⟨Q, h1, rfl⟩ := Option.map_eq_some_iff.1 h
      simp [cutGo_len r _ Q h1]
theorem cutP_len (l : List UInt8) (zs : List Int) : (cutP l zs).length ≤ zs.length := by
  unfold cutP
  split
  · simp
  · cases h : cutGo l zs with
    | none => simp
    | some P => simp [cutGo_len zs l P h]
theorem cutP_part (l : List UInt8) (zs : List Int) : ∀ p ∈ cutP l zs, p.length ≤ l.length := by
  intro p hp
  unfold cutP at hp
  split at hp
  · simp at hp
  · cases h : cutGo l zs with
    | none => rw [h] at hp; simp at hp
    | some P =>
      rw [h] at hp
      simp at hp
      have h1 := cutGo_flat zs l P h
      obtain ⟨a, b, rfl⟩ := List.append_of_mem hp
      rw [← h1]; simp; omega
end Go.Proofs.YtlgdmfbpkmokaaaDoor
