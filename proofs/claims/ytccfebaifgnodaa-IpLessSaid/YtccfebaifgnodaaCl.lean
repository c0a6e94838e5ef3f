/- The contract of bytes.Clone. -/
import Derived.Test.YtccfebaifgnodaaAp
import Derived.Test.YtccfebaifgnodaaShelf
namespace Go.Proofs.Ytccfebaifgnodaa
open Go.RowKit
theorem clone_any (v : Value) (l : List UInt8) (w : World) (hv : Bytes w v l) (hl : l.length ≤ 140737488355328) :
    Calls Try.prog 38 #[v] w fun e w' => ∃ v', e = .returned v' ∧ OwnB w' w.heap.size v' l ∧ Below w.heap.size w w' := by
  obtain ⟨a, c, rfl⟩ := hv.form
  cases a with
  | none =>
    obtain ⟨e1, rfl, rfl⟩ := hv.noaddr
    refine (Try.bytes_Clone_nil _ _ w).mono ?_
    rintro e w' ⟨rfl, rfl⟩
    exact ⟨_, rfl, OwnB.nil _ _, Below.refl _ _⟩
  | some ad =>
    refine (Try.bytes_Clone_at ad l.length c (l.map fun b => (b.toNat : Int)) w (by simp) hl (fun i hi => ?_)).mono ?_
    · have := hv.news i (.int .u8 (l[i].toNat : Int)) (by simp [bv, hi])
      rw [this]; simp [hi]
    · rintro e w' ⟨v', rfl, h1, _, h2⟩
      refine ⟨v', rfl, ?_, h2⟩
      rw [List.map_map] at h1
      exact h1
end Go.Proofs.Ytccfebaifgnodaa
