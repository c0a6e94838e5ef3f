/- A region that draws its order, cut at what is done: one lemma for each set of done operations. -/
import Derived.Test.YtccfebaifgnodaaC0
import Derived.Deep.RegionHeld3
import Derived.Deep.AppendLies
namespace Go.Proofs.Ytccfebaifgnodaa
open Go.RowKit
theorem wpAnyH_cut {P : Program} {md : Region.Mode} {ops : Array Oper} {Q : Exit → Act → World → Prop} {S : World → Prop} {fuel : Nat} {listed : Array Bool} {a : Act} {w : World}
    (m : Array Bool) (fm : Nat) (I : Act → World → Prop)
    (tail : ∀ (l : Array Bool) (A : Act) (w1 : World), l = m → I A w1 → S w1 → wpAnyH P md ops Q S fm l A w1)
    (main : (∀ (l : Array Bool) (A : Act) (w1 : World), l = m → I A w1 → S w1 → wpAnyH P md ops Q S fm l A w1) → wpAnyH P md ops Q S fuel listed a w) : wpAnyH P md ops Q S fuel listed a w := main tail
/-- A region, cut behind it: what its walk leaves is said once. -/
theorem wp_region_fin {P : Program} {Q : Exit → Act → World → Prop} {S : World → Prop} {id : Nat} {ops : Array Oper} {a : Act} {w : World} (I : Act → World → Prop) (hm : P.follows .mixedOrders = true) (hS : S w.drew) (h1 : ∀ A w3, I A w3 → Q .normal A w3)
    (h : (∀ A w3, I A w3 → Q .normal A w3) → S w.drew → wpAnyH P .any ops Q S ops.size (Array.replicate ops.size false) a w.drew) : (Code.region id ops true).wp P Q a w :=
  wp_region_held_drew hm hS (h h1)
end Go.Proofs.Ytccfebaifgnodaa
