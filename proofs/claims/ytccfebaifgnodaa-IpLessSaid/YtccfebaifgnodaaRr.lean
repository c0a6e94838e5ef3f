/- A region that draws its order, in a round of a range over a function: by its plain walk. No function of the program in it. -/
import Derived.Test.YtccfebaifgnodaaC0
import Derived.RangeFuncNested
import Derived.RangeFuncCalls
import Derived.OwnWalkIn
namespace Go.Proofs.Ytccfebaifgnodaa
open Go.RowKit

def onlyN (Q : Exit → Act → World → Prop) : Exit → Act → World → Prop
  | .normal, a, w => Q .normal a w
  | _, _, _ => False
section
variable {l n : Nat} {P : Program} {Q : Exit → Act → World → Prop}
theorem upon_round {o : Oper} {a : Act} {K K' : Act → World → Prop} (hK : ∀ a w, K a w → K' a w) : ∀ r : Result Next, o.upon P a K (onlyN Q) r → o.uponIn (Fence.wide.inRound l) n P a K' Q r
  | .ok (.value _) _, h => hK _ _ h
  | .ok .skip _, h => hK _ _ h
  | .ok (.defer _) _, h => hK _ _ h
  | .ok (.enter f args) w', h => ⟨fun h => by simp [Fence.wide] at h, CallsIn.inRound l (callsIn_wide.2 (Calls.mono (show Calls P f args w' _ from h) (fun e w'' hr => by
      cases e with
      | returned v => exact hK _ _ hr
      | panicked c => exact hr.elim
      | outgrown => obtain ⟨_, _, h⟩ := hr; exact h.elim)))⟩
  | .ok (.row row args) w', h => ⟨fun h => by simp [Fence.wide] at h, fun c cs _ => by
      obtain ⟨v, w'', hr, hs⟩ := (show Rows P row args w' _ from h) c cs
      exact ⟨v, w'', hK _ _ hr, stepsIn_wide.2 hs⟩⟩
  | .halt (.panic _) _, h => h.elim
  | .ok (.round ..) _, h => h.elim
theorem opIn_round {o : Oper} {a : Act} {w : World} {K K' : Act → World → Prop} (hK : ∀ a w, K a w → K' a w) (hd : ∀ c, o.op ≠ .defer c) (h : o.wp P a w K (onlyN Q)) : o.wpIn (Fence.wide.inRound l) n P a w K' Q :=
  ⟨fun _ _ => trivial, by rw [Oper.semAt_plain _ _ _ hd]; exact upon_round hK _ h⟩

def noDefer (ops : Array Oper) : Bool := ops.all fun o => match o.op with | .defer _ => false | _ => true
theorem noDefer_spec {ops : Array Oper} (h : noDefer ops = true) (i : Nat) (o : Oper) (ho : ops[i]? = some o) : ∀ c, o.op ≠ .defer c := by
  intro c hc
  have h2 := Array.all_eq_true.1 h i (Array.getElem?_eq_some_iff.1 ho).1
  rw [(Array.getElem?_eq_some_iff.1 ho).2, hc] at h2
  cases h2
theorem anyIn_round {md : Region.Mode} {ops : Array Oper} (hd : noDefer ops = true) : ∀ (fuel : Nat) (listed : Array Bool) (a : Act) (w : World), wpAny P md ops (onlyN Q) fuel listed a w → wpAnyIn (Fence.wide.inRound l) n P md ops Q fuel listed a w
  | 0, _, _, _, h => ⟨h.1, h.2⟩
  | fuel + 1, listed, a, w, h => ⟨fun he => h.1 he, fun i hi => by
      have h2 := h.2 i hi
      have ih := anyIn_round (md := md) hd fuel (listed.setIfInBounds i true)
      unfold wpOp at h2
      unfold wpOpIn
      cases ho : ops[i]? with
      | none => rw [ho] at h2; exact ih _ _ h2
      | some o =>
        rw [ho] at h2
        simp only at h2 ⊢
        by_cases hw : Region.wanted o (yielded ops a.tmps) = true
        · rw [if_pos hw] at h2 ⊢
          rcases h2 with h2 | ⟨_, _, _, h2⟩
          · exact opIn_round ih (noDefer_spec hd i o ho) h2
          · exact h2.elim
        · rw [if_neg hw] at h2 ⊢
          exact ⟨fun _ _ => trivial, ih _ _ h2⟩⟩
/-- The region in a round, by its walk with a condition held. -/
theorem wpIn_region_round {S : World → Prop} {id : Nat} {ops : Array Oper} {a : Act} {w : World} (hm : P.follows .mixedOrders = true) (hd : noDefer ops = true) (hS : S w.drew)
    (h : S w.drew → wpAnyH P .any ops (onlyN Q) S ops.size (Array.replicate ops.size false) a w.drew) : (Code.region id ops true).wpIn (Fence.wide.inRound l) n P Q a w :=
  wpIn_region_any hm (anyIn_round hd _ _ _ _ (wpAny_of_held _ _ _ _ (h hS)))
theorem wpIn_region_fin {S I : World → Prop} {id : Nat} {ops : Array Oper} {a : Act} {w : World} (hm : P.follows .mixedOrders = true) (hd : noDefer ops = true) (hS : S w.drew) (h1 : ∀ A w3, I w3 → Q .normal A w3)
    (h : (∀ A w3, I w3 → onlyN Q .normal A w3) → S w.drew → wpAnyH P .any ops (onlyN Q) S ops.size (Array.replicate ops.size false) a w.drew) : (Code.region id ops true).wpIn (Fence.wide.inRound l) n P Q a w :=
  wpIn_region_round hm hd hS (h fun A w3 hi => h1 A w3 hi)
end
end Go.Proofs.Ytccfebaifgnodaa
