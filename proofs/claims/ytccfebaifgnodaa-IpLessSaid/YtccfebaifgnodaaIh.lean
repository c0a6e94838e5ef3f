/- A header's block in memory. -/
import Derived.Test.YtccfebaifgnodaaIf
import Derived.Test.YtccfebaifgnodaaCl
import Derived.Deep.MidRow
import Derived.Test.YtccfebaifgnodaaOl
namespace Go.Proofs.Ytccfebaifgnodaa
open Go.RowKit

/-- The cells of a header of noughts. -/
def hz : List Value := [.int .u8 0, .int .u16 0, .bool false, .bool false, .bool false, .int .i64 0, .int .u8 0, .int .u8 0, .int .u32 0, .int .u32 0, .slice none 0 0]
/-- A header's block. -/
def HdAt (g : Nat) (cs : List Value) (w : World) : Prop := w.heap[g]? = some (.cells cs.toArray 28 (0, 0))
theorem HdAt.lt {g : Nat} {cs : List Value} {w : World} (h : HdAt g cs w) : g < w.heap.size := (Array.getElem?_eq_some_iff.1 h).1
theorem HdAt.later {g : Nat} {cs : List Value} {w w' : World} (h : HdAt g cs w) (hb : Below w.heap.size w w') : HdAt g cs w' := (hb.block g h.lt).trans h
theorem HdAt.new (w : World) (cs : List Value) : HdAt w.heap.size cs (w.alloc (.cells cs.toArray 28)) := World.alloc_heap_new w _
theorem HdAt.cell {g : Nat} {cs : List Value} {w : World} (h : HdAt g cs w) {j : Nat} {x : Value} (hx : cs[j]? = some x) : w.cell? ⟨g, j, none⟩ = some x := by
  rw [cell_of_row w g j cs.toArray _ (0, 0) h]; simpa using hx
theorem HdAt.frozen {g : Nat} {cs : List Value} {w : World} (h : HdAt g cs w) (j : Nat) : w.frozen? ⟨g, j, none⟩ = false := by
  unfold World.frozen?; simp [show w.heap[g]? = _ from h]
theorem HdAt.set {g : Nat} {cs : List Value} {w : World} (h : HdAt g cs w) (j : Nat) (x : Value) : HdAt g (cs.set j x) (w.setCell ⟨g, j, none⟩ x) := by
  have hl := h.lt
  have hk : w.heap[g] = .cells cs.toArray 28 (0, 0) := (Array.getElem?_eq_some_iff.1 h).2
  show (w.heap.modify g _)[g]? = _
  rw [Array.getElem?_eq_getElem (by rw [Array.size_modify]; exact hl), Array.getElem_modify_self, hk]
  simp
theorem HdAt.other {g b : Nat} {cs : List Value} {w : World} (h : HdAt g cs w) (hne : g ≠ b) (j : Nat) (x : Value) : HdAt g cs (w.setCell ⟨b, j, none⟩ x) := by
  show (w.setCell ⟨b, j, none⟩ x).heap[g]? = _
  rw [Below.heap_setCell _ _ _ _ (by simpa using hne)]; exact h
theorem HdAt.range {g : Nat} {cs : List Value} {w : World} (h : HdAt g cs w) : w.rangeAt g 0 cs := fun j v hv => by rw [Nat.zero_add]; exact h.cell hv
theorem grownBy_setCell_at (W : World) (b j : Nat) (v : Value) : W.grownBy (W.setCell ⟨b, j, none⟩ v) (some b) :=
  ⟨rfl, rfl, rfl, (KeepsWalks.setCell W _ v).size, fun k _ hk => Below.heap_setCell _ _ _ k (fun e => hk (by rw [e]))⟩
theorem HdAt.own {g : Nat} {cs : List Value} {w : World} (h : HdAt g cs w) (j : Nat) (x : Value) {B : Nat} {v : Value} {l : List UInt8} (ho : OwnB w B v l) : OwnB (w.setCell ⟨g, j, none⟩ x) B v l := by
  refine World.ownsRow.kept ho (grownBy_setCell_at w g j x) ?_
  cases hv : v.ownBlock with
  | none => exact .inl rfl
  | some b =>
    refine .inr fun e => ?_
    obtain ⟨cur, hc⟩ := own_block ho hv
    simp only [Option.some.injEq] at e
    subst e
    have h2 : w.heap[b]? = _ := h
    rw [hc] at h2
    simp at h2
/-- Eleven stores into a header's block. -/
theorem HdAt.set11 {g : Nat} {w : World} {c0 c1 c2 c3 c4 c5 c6 c7 c8 c9 c10 : Value} (h : HdAt g [c0, c1, c2, c3, c4, c5, c6, c7, c8, c9, c10] w) (x0 x1 x2 x3 x4 x5 x6 x7 x8 x9 x10 : Value) :
    HdAt g [x0, x1, x2, x3, x4, x5, x6, x7, x8, x9, x10] (((((((((((w.setCell ⟨g, 0, none⟩ x0).setCell ⟨g, 1, none⟩ x1).setCell ⟨g, 2, none⟩ x2).setCell ⟨g, 3, none⟩ x3).setCell ⟨g, 4, none⟩ x4).setCell ⟨g, 5, none⟩ x5).setCell ⟨g, 6, none⟩ x6).setCell ⟨g, 7, none⟩ x7).setCell ⟨g, 8, none⟩ x8).setCell ⟨g, 9, none⟩ x9).setCell ⟨g, 10, none⟩ x10) ∧ (∀ B v l, OwnB w B v l → OwnB (((((((((((w.setCell ⟨g, 0, none⟩ x0).setCell ⟨g, 1, none⟩ x1).setCell ⟨g, 2, none⟩ x2).setCell ⟨g, 3, none⟩ x3).setCell ⟨g, 4, none⟩ x4).setCell ⟨g, 5, none⟩ x5).setCell ⟨g, 6, none⟩ x6).setCell ⟨g, 7, none⟩ x7).setCell ⟨g, 8, none⟩ x8).setCell ⟨g, 9, none⟩ x9).setCell ⟨g, 10, none⟩ x10) B v l) ∧ (∀ B, B ≤ g → Below B w (((((((((((w.setCell ⟨g, 0, none⟩ x0).setCell ⟨g, 1, none⟩ x1).setCell ⟨g, 2, none⟩ x2).setCell ⟨g, 3, none⟩ x3).setCell ⟨g, 4, none⟩ x4).setCell ⟨g, 5, none⟩ x5).setCell ⟨g, 6, none⟩ x6).setCell ⟨g, 7, none⟩ x7).setCell ⟨g, 8, none⟩ x8).setCell ⟨g, 9, none⟩ x9).setCell ⟨g, 10, none⟩ x10)) ∧ (∀ g' cs', g' ≠ g → HdAt g' cs' w → HdAt g' cs' (((((((((((w.setCell ⟨g, 0, none⟩ x0).setCell ⟨g, 1, none⟩ x1).setCell ⟨g, 2, none⟩ x2).setCell ⟨g, 3, none⟩ x3).setCell ⟨g, 4, none⟩ x4).setCell ⟨g, 5, none⟩ x5).setCell ⟨g, 6, none⟩ x6).setCell ⟨g, 7, none⟩ x7).setCell ⟨g, 8, none⟩ x8).setCell ⟨g, 9, none⟩ x9).setCell ⟨g, 10, none⟩ x10)) := by
  have h1 := HdAt.set h 0 x0
  have h2 := HdAt.set h1 1 x1
  have h3 := HdAt.set h2 2 x2
  have h4 := HdAt.set h3 3 x3
  have h5 := HdAt.set h4 4 x4
  have h6 := HdAt.set h5 5 x5
  have h7 := HdAt.set h6 6 x6
  have h8 := HdAt.set h7 7 x7
  have h9 := HdAt.set h8 8 x8
  have h10 := HdAt.set h9 9 x9
  have h11 := HdAt.set h10 10 x10
  refine ⟨h11, fun B v l ho => ?_, fun B hB => ?_, fun g' cs' hne hh => ?_⟩
  · exact HdAt.own h10 10 x10 (HdAt.own h9 9 x9 (HdAt.own h8 8 x8 (HdAt.own h7 7 x7 (HdAt.own h6 6 x6 (HdAt.own h5 5 x5 (HdAt.own h4 4 x4 (HdAt.own h3 3 x3 (HdAt.own h2 2 x2 (HdAt.own h1 1 x1 (HdAt.own h 0 x0 (ho)))))))))))
  · exact (((((((((((Below.refl _ _).setCell (p := ⟨g, 0, none⟩) hB x0).setCell (p := ⟨g, 1, none⟩) hB x1).setCell (p := ⟨g, 2, none⟩) hB x2).setCell (p := ⟨g, 3, none⟩) hB x3).setCell (p := ⟨g, 4, none⟩) hB x4).setCell (p := ⟨g, 5, none⟩) hB x5).setCell (p := ⟨g, 6, none⟩) hB x6).setCell (p := ⟨g, 7, none⟩) hB x7).setCell (p := ⟨g, 8, none⟩) hB x8).setCell (p := ⟨g, 9, none⟩) hB x9).setCell (p := ⟨g, 10, none⟩) hB x10
  · exact HdAt.other (HdAt.other (HdAt.other (HdAt.other (HdAt.other (HdAt.other (HdAt.other (HdAt.other (HdAt.other (HdAt.other (HdAt.other (hh) hne 0 x0) hne 1 x1) hne 2 x2) hne 3 x3) hne 4 x4) hne 5 x5) hne 6 x6) hne 7 x7) hne 8 x8) hne 9 x9) hne 10 x10
end Go.Proofs.Ytccfebaifgnodaa
