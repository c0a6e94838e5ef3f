/- A region that draws its order, cut at what is done: one lemma for each set of done operations. -/
import Derived.Test.YtlgdmfbpkmokaaaDoorC0
import Derived.Deep.RegionHeld3
import Derived.Deep.AppendLies
namespace Go.Proofs.YtlgdmfbpkmokaaaDoor
open Go.RowKit
theorem wpAnyH_cut {P : Program} {md : Region.Mode} {ops : Array Oper} {Q : Exit → Act → World → Prop} {S : World → Prop} {fuel : Nat} {listed : Array Bool} {a : Act} {w : World}
    (m : Array Bool) (fm : Nat) (I : Act → World → Prop)
    (tail : ∀ (l : Array Bool) (A : Act) (w1 : World), l = m → I A w1 → S w1 → wpAnyH P md ops Q S fm l A w1)
    (main : (∀ (l : Array Bool) (A : Act) (w1 : World), l = m → I A w1 → S w1 → wpAnyH P md ops Q S fm l A w1) → wpAnyH P md ops Q S fuel listed a w) : wpAnyH P md ops Q S fuel listed a w := main tail
end Go.Proofs.YtlgdmfbpkmokaaaDoor
