/- Small forms of the contracts, for regions. -/
import Derived.Test.YtlgdmfbpkmokaaaSk
namespace Go.Proofs.Ytlgdmfbpkmokaaa
open Go.RowKit

theorem total_of (w : World) (v : Value) (l : List UInt8) (t : Nat) (ht : t = Sm.tot l) (hl : l.length ≤ 10000) (h : Lists w v [l]) :
    Calls Try.prog 12 #[v] w fun e w' => e = .returned (.int .u16 (t : Int)) ∧ Below w.heap.size w w' := by
  subst ht
  refine (totalW_any w v [l] h (by simp) (by simpa using hl)).mono ?_
  rintro e w1 ⟨rfl, hb⟩
  exact ⟨by simp, hb⟩
theorem check_of (w : World) (v : Value) (l : List UInt8) (t : Nat) (ht : t = Sm.tot l) (hl : l.length ≤ 10000) (h : Lists w v [l]) :
    Calls Try.prog 14 #[v] w fun e w' => e = .returned (.int .u16 (65535 - (t : Int))) ∧ Below w.heap.size w w' := by
  subst ht
  have hb := Sm.tot_lt l
  refine (checkW_any w v [l] h (by simp) (by simpa using hl)).mono ?_
  rintro e w1 ⟨rfl, hb⟩
  exact ⟨ret_i (by simp; omega), hb⟩
theorem below_of {w w1 w2 : World} (h : Below w.heap.size w w1) (h2 : Below w1.heap.size w1 w2) : Below w.heap.size w w2 := h.trans (h2.mono h.size)
end Go.Proofs.Ytlgdmfbpkmokaaa
