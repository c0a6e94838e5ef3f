/- Walks of small functions of the layer wire and of its reference: what they return, and that they leave memory alone but for new blocks. -/
import Derived.Test.YtccfebaifgnodaaC0
import Derived.Test.YtccfebaifgnodaaP
namespace Go.Proofs.Ytccfebaifgnodaa
open Go.RowKit
theorem xor_shr {a b n : Int} (ha : 0 ≤ a) (ha2 : a < 4294967296) (hb : 0 ≤ b) (hb2 : b < 4294967296) (h : Wp.fst a n = a) :
    (bits BinOp.xor IntKind.u32 a b / 2 ^ (32 - n).toNat == 0) = decide (Wp.fst b n = a) := by
  rw [u32_xor a b ha ha2 hb hb2]
  obtain ⟨a', rfl⟩ := Int.eq_ofNat_of_zero_le ha
  obtain ⟨b', rfl⟩ := Int.eq_ofNat_of_zero_le hb
  exact Wp.xor_fst a' b' _ n rfl h

end Go.Proofs.Ytccfebaifgnodaa
