/- A number of some bytes, read by the reference. -/
import Derived.Test.YtccfebaifgnodaaIn
import Derived.Test.YtccfebaifgnodaaIs
import Derived.Test.YtccfebaifgnodaaWr
import Derived.Test.YtccfebaifgnodaaSr
import Derived.Test.YtccfebaifgnodaaIf
namespace Go.Proofs.Ytccfebaifgnodaa
open Go.RowKit
/-- A number of some bytes, read by the reference. -/
theorem getR_at {wm : World} {a : Option Addr} {n c : Nat} {l : List UInt8} (hv : Bytes wm (.slice a n c) l) (i k : Nat) (hk : k ≤ 8) (h : i + k ≤ l.length) :
    ∃ a', (∀ w, (Instr.slice 22 (.slice a n c) (some (.int .i64 (i : Int))) (some (.int .i64 ((i + k : Nat) : Int))) none).run Try.prog w = .ok (.slice a' k (c - i)) w) ∧ ∀ W, Below wm.heap.size wm W → Calls Try.prog 39 #[.slice a' k (c - i)] W fun e w' => e = .returned (.int .u64 (numAt l i k : Nat)) ∧ W = w' := by
  obtain ⟨a', h1, h2⟩ := hv.cut_lh (i : Int) ((i + k : Nat) : Int) i (i + k) rfl rfl (by omega) h
  rw [Nat.add_sub_cancel_left] at h1 h2
  exact ⟨a', h1, fun W hb => getR_any _ _ W (h2.later hb) (by rw [List.length_drop, List.length_take]; omega)⟩

end Go.Proofs.Ytccfebaifgnodaa
