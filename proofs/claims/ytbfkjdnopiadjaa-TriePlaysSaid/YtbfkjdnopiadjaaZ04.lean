/- A region that draws its order, cut at what is done: one lemma for each set of done operations.
   trie's is, needed, without: the walks.
   A tree of prefixes, and a trie, in memory; none, ready, New, top, Len, Copy, size, Nodes: the walks.
   What changes: all but some blocks stands.
   A block of cells in memory, whatever its type. -/
import Derived.Deep.MidRow
import Derived.RangeFuncRecord
import Derived.IntWalk
import Derived.Deep.RegionHeld3
import Derived.Deep.AppendLies
import Derived.Test.YtbfkjdnopiadjaaZ02
import Derived.Test.YtbfkjdnopiadjaaZ03

set_option linter.unusedSimpArgs false
set_option linter.unusedVariables false
namespace Go.Proofs.Ytbfkjdnopiadjaa
open Go.RowKit

/-- A block whose cells are these. -/
def BlkAt (t : TypeId) (g : Nat) (cs : List Value) (w : World) : Prop := w.heap[g]? = some (.cells cs.toArray t (0, 0))
section
variable {t : TypeId}
theorem BlkAt.lt {g : Nat} {cs : List Value} {w : World} (h : BlkAt t g cs w) : g < w.heap.size := (Array.getElem?_eq_some_iff.1 h).1
theorem BlkAt.later {g : Nat} {cs : List Value} {w w' : World} (h : BlkAt t g cs w) (hb : Below w.heap.size w w') : BlkAt t g cs w' := (hb.block g h.lt).trans h
theorem BlkAt.new (w : World) (cs : List Value) : BlkAt t w.heap.size cs (w.alloc (.cells cs.toArray t)) := World.alloc_heap_new w _
theorem BlkAt.cell {g : Nat} {cs : List Value} {w : World} (h : BlkAt t g cs w) {j : Nat} {x : Value} (hx : cs[j]? = some x) : w.cell? ⟨g, j, none⟩ = some x := by
  rw [cell_of_row w g j cs.toArray _ (0, 0) h]; simpa using hx
theorem BlkAt.frozen {g : Nat} {cs : List Value} {w : World} (h : BlkAt t g cs w) (j : Nat) : w.frozen? ⟨g, j, none⟩ = false := by
  unfold World.frozen?; simp [show w.heap[g]? = _ from h]
theorem BlkAt.set {g : Nat} {cs : List Value} {w : World} (h : BlkAt t g cs w) (j : Nat) (x : Value) : BlkAt t g (cs.set j x) (w.setCell ⟨g, j, none⟩ x) := by
  have hl := h.lt
  have hk : w.heap[g] = .cells cs.toArray t (0, 0) := (Array.getElem?_eq_some_iff.1 h).2
  show (w.heap.modify g _)[g]? = _
  rw [Array.getElem?_eq_getElem (by rw [Array.size_modify]; exact hl), Array.getElem_modify_self, hk]
  simp
theorem BlkAt.other {g b : Nat} {cs : List Value} {w : World} (h : BlkAt t g cs w) (hne : g ≠ b) (j : Nat) (x : Value) : BlkAt t g cs (w.setCell ⟨b, j, none⟩ x) := by
  show (w.setCell ⟨b, j, none⟩ x).heap[g]? = _
  rw [Below.heap_setCell _ _ _ _ (by simpa using hne)]; exact h
theorem BlkAt.range {g : Nat} {cs : List Value} {w : World} (h : BlkAt t g cs w) : w.rangeAt g 0 cs := fun j v hv => by rw [Nat.zero_add]; exact h.cell hv
end
end Go.Proofs.Ytbfkjdnopiadjaa

namespace Go.Proofs.Ytbfkjdnopiadjaa
open Go.RowKit

/-- All but these blocks stands as it was. -/
structure Chg (l : List Nat) (w w' : World) : Prop where
  low : Below 0 w w'
  rest : ∀ b, b < w.heap.size → b ∉ l → w'.heap[b]? = w.heap[b]?
theorem Chg.refl (l : List Nat) (w : World) : Chg l w w := ⟨Below.refl _ _, fun _ _ _ => rfl⟩
theorem Chg.size {l : List Nat} {w w' : World} (h : Chg l w w') : w.heap.size ≤ w'.heap.size := h.low.size
theorem Chg.trans {l : List Nat} {w w' w'' : World} (h : Chg l w w') (h' : Chg l w' w'') : Chg l w w'' :=
  ⟨h.low.trans h'.low, fun b hb hn => (h'.rest b (Nat.lt_of_lt_of_le hb h.size) hn).trans (h.rest b hb hn)⟩
theorem Chg.mono {l l' : List Nat} {w w' : World} (h : Chg l w w') (hl : ∀ b ∈ l, b ∈ l') : Chg l' w w' := ⟨h.low, fun b hb hn => h.rest b hb (fun h2 => hn (hl b h2))⟩
theorem Chg.of_below {w w' : World} (l : List Nat) (h : Below w.heap.size w w') : Chg l w w' := ⟨h.mono (Nat.zero_le _), fun b hb _ => h.block b hb⟩
theorem Chg.below {l : List Nat} {w w' : World} (h : Chg l w w') {B : Nat} (hB : B ≤ w.heap.size) (hl : ∀ b ∈ l, B ≤ b) : Below B w w' :=
  ⟨h.low.os, h.low.tape, h.low.output, h.low.size, fun b hb => h.rest b (by omega) (fun h2 => by have := hl b h2; omega)⟩
theorem Chg.set {l : List Nat} {w w' : World} (h : Chg l w w') {b : Nat} (hb : b ∈ l) (j : Nat) (x : Value) : Chg l w (w'.setCell ⟨b, j, none⟩ x) :=
  h.trans ⟨(Below.refl _ _).setCell (Nat.zero_le _) _, fun k _ hk => Below.heap_setCell _ _ _ _ (fun e => hk (by rw [e]; exact hb))⟩
theorem Chg.alloc {l : List Nat} {w w' : World} (h : Chg l w w') (o : Obj) : Chg l w (w'.alloc o) := h.trans (Chg.of_below _ ((Below.refl _ _).alloc (Nat.le_refl _) o))
theorem Chg.drew {l : List Nat} {w w' : World} (h : Chg l w w') : Chg l w w'.drew := ⟨h.low.drew, h.rest⟩
theorem Chg.blk {l : List Nat} {w w' : World} (hm : Chg l w w') {t : TypeId} {g : Nat} {cs : List Value} (h : BlkAt t g cs w) (hg : g ∉ l) : BlkAt t g cs w' := (hm.rest g h.lt hg).trans h
theorem Chg.heap {l : List Nat} {w w' : World} (hm : Chg l w w') {g : Nat} {o : Obj} (h : w.heap[g]? = some o) (hg : g ∉ l) : w'.heap[g]? = some o := (hm.rest g (Array.getElem?_eq_some_iff.1 h).1 hg).trans h
theorem Chg.owns {l : List Nat} {w w' : World} (hm : Chg l w w') {B : Nat} {e : TypeId} {size n : Nat} {v : Value} {xs : List Value} (h : w.ownsRow B e size v n xs) (hg : ∀ g, v.ownBlock = some g → g ∉ l) : w'.ownsRow B e size v n xs := by
  obtain ⟨hl, h0 | ⟨g, cap, cur, rfl, hb1, h2, hr⟩⟩ := h
  · exact ⟨hl, .inl h0⟩
  · exact ⟨hl, .inr ⟨g, cap, cur, rfl, hb1, hm.heap h2 (hg g rfl), hr⟩⟩
theorem Chg.cell {l : List Nat} {w w' : World} (hm : Chg l w w') {a : Addr} {u : Value} (h : w.cell? a = some u) (hg : a.block ∉ l) : w'.cell? a = some u := by
  rw [World.cell?_of_block (hm.rest a.block (World.block_lt_of_cell? _ _ h) hg)]; exact h
end Go.Proofs.Ytbfkjdnopiadjaa

namespace Go.Proofs.Ytbfkjdnopiadjaa
open Go.RowKit
attribute [local go_sem ↓] Go.wp_at_zero Go.wp_at_succ
open Tp (Pf Ok mn bit com Tr)

/-- A node's cells. -/
def nc (q : Pf) (o : Option Int) (vl vr : Value) : List Value := [.int .u32 q.1, .int .i64 q.2, .int .i64 (o.getD 0), .bool o.isSome, vl, vr]
/-- A tree, in memory. -/
def TrAt (w : World) : Value → Tr → Prop
  | v, .nil => v = .pointer none
  | v, .node q o l r => ∃ b vl vr, v = .pointer (some ⟨b, 0, none⟩) ∧ BlkAt 92 b (nc q o vl vr) w ∧ TrAt w vl l ∧ TrAt w vr r
/-- All nodes stand. -/
def Stay (w w' : World) : Prop := ∀ b cs, BlkAt 92 b cs w → BlkAt 92 b cs w'
theorem Stay.refl (w : World) : Stay w w := fun _ _ h => h
theorem Stay.trans {w w' w'' : World} (h : Stay w w') (h' : Stay w' w'') : Stay w w'' := fun b cs hb => h' b cs (h b cs hb)
theorem Stay.of_below {w w' : World} (h : Below w.heap.size w w') : Stay w w' := fun _ _ hb => hb.later h
theorem Stay.of_chg {w w' : World} {l : List Nat} (hm : Chg l w w') (h : ∀ b ∈ l, ∀ cs, ¬ BlkAt 92 b cs w) : Stay w w' :=
  fun b cs hb => hm.blk hb (fun hl => h b hl cs hb)
theorem TrAt.stay {w w' : World} (h : Stay w w') : ∀ {v : Value} {T : Tr}, TrAt w v T → TrAt w' v T
  | _, .nil, ht => ht
  | _, .node _ _ _ _, ⟨b, vl, vr, hv, hb, hl, hr⟩ => ⟨b, vl, vr, hv, h _ _ hb, TrAt.stay h hl, TrAt.stay h hr⟩
theorem TrAt.later {w w' : World} {v : Value} {T : Tr} (ht : TrAt w v T) (h : Below w.heap.size w w') : TrAt w' v T := ht.stay (Stay.of_below h)
theorem TrAt.ptr {w : World} {v : Value} {T : Tr} (h : TrAt w v T) : ∃ a, v = .pointer a := by
  cases T with
  | nil => exact ⟨_, h⟩
  | node q o l r => obtain ⟨b, vl, vr, hv, _⟩ := h; exact ⟨_, hv⟩
/-- A block of another type is no node. -/
theorem BlkAt.no {t t' : TypeId} {b : Nat} {cs cs' : List Value} {w : World} (h : BlkAt t b cs w) (hne : t ≠ t') : ¬ BlkAt t' b cs' w := fun h' => by
  have := (show w.heap[b]? = _ from h).symm.trans (show w.heap[b]? = _ from h')
  simp only [Option.some.injEq, Obj.cells.injEq] at this
  exact hne this.2.1
/-- A node's cells, in memory. -/
theorem nd_cells {b : Nat} {q : Pf} {o : Option Int} {vl vr : Value} {w : World} (h : BlkAt 92 b (nc q o vl vr) w) :
    w.cell? ⟨b, 0, none⟩ = some (.int .u32 q.1) ∧ w.cell? ⟨b, 1, none⟩ = some (.int .i64 q.2) ∧ w.cell? ⟨b, 2, none⟩ = some (.int .i64 (o.getD 0)) ∧ w.cell? ⟨b, 3, none⟩ = some (.bool o.isSome) ∧ w.cell? ⟨b, 4, none⟩ = some vl ∧ w.cell? ⟨b, 5, none⟩ = some vr :=
  ⟨h.cell (j := 0) rfl, h.cell (j := 1) rfl, h.cell (j := 2) rfl, h.cell (j := 3) rfl, h.cell (j := 4) rfl, h.cell (j := 5) rfl⟩
/-- A trie's cells. -/
def tc (v : Value) (lim : Int) (n : Nat) : List Value := [v, .int .i64 lim, .int .i64 (n : Int), .bool true]
/-- A trie, in memory. -/
structure TSt (p : Nat) (lim : Int) (T : Tr) (w : World) : Prop where
  blk : ∃ v, BlkAt 66 p (tc v lim T.el.length) w ∧ TrAt w v T
  inv : T.Inv
  le : (T.el.length : Int) ≤ lim
  hi : lim ≤ 9223372036854775807
theorem TSt.lt {p : Nat} {lim : Int} {T : Tr} {w : World} (h : TSt p lim T w) : p < w.heap.size := by obtain ⟨v, hb, _⟩ := h.blk; exact hb.lt
theorem TSt.chg {p : Nat} {lim : Int} {T : Tr} {w w' : World} (h : TSt p lim T w) {l : List Nat} (hm : Chg l w w') (h1 : p ∉ l) (h2 : Stay w w') : TSt p lim T w' := by
  obtain ⟨v, hb, ht⟩ := h.blk
  exact ⟨⟨v, hm.blk hb h1, ht.stay h2⟩, h.inv, h.le, h.hi⟩
theorem TSt.later {p : Nat} {lim : Int} {T : Tr} {w w' : World} (h : TSt p lim T w) (hb : Below w.heap.size w w') : TSt p lim T w' := h.chg (Chg.of_below [] hb) (by simp) (Stay.of_below hb)
theorem tr_cells {p : Nat} {v : Value} {lim : Int} {n : Nat} {w : World} (h : BlkAt 66 p (tc v lim n) w) :
    w.cell? ⟨p, 0, none⟩ = some v ∧ w.cell? ⟨p, 1, none⟩ = some (.int .i64 lim) ∧ w.cell? ⟨p, 2, none⟩ = some (.int .i64 (n : Int)) ∧ w.cell? ⟨p, 3, none⟩ = some (.bool true) :=
  ⟨h.cell (j := 0) rfl, h.cell (j := 1) rfl, h.cell (j := 2) rfl, h.cell (j := 3) rfl⟩

theorem noneT {p : Nat} {lim : Int} {T : Tr} {w : World} (h : TSt p lim T w) :
    Calls Try.prog 32 #[.pointer (some ⟨p, 0, none⟩)] w fun e w' => e = .returned (.bool false) ∧ w = w' := by
  obtain ⟨v, hb, _⟩ := h.blk
  obtain ⟨c0, c1, c2, c3⟩ := tr_cells hb
  clear h hb
  go_enter Try.func32, Try.ntmps32
  go_wp2_with fail
  go_ret
  exact ⟨rfl, rfl⟩
/-- What is wrong first, of a prefix. -/
def maE (a n : Int) : Int := if Wp.mayB a n = true then 0 else 2
set_option maxHeartbeats 400000 in
theorem readyT {p : Nat} {lim : Int} {T : Tr} {w : World} (h : TSt p lim T w) (a n : Int) :
    Calls Try.prog 42 #[.pointer (some ⟨p, 0, none⟩), .agg #[.int .u32 a, .int .i64 n]] w fun e w' => e = .returned (.int .i64 (maE a n)) ∧ Below w.heap.size w w' := by
  have HN := Lib.hid (fun o => noneT (h.later (ba1 w o)))
  have HM := Lib.hid (fun (W : World) => mayT a n W)
  unfold maE
  obtain ⟨m, hm⟩ : ∃ m, m = Wp.mayB a n := ⟨_, rfl⟩
  rw [← hm] at HM ⊢
  have HA := Lib.hid (fun o => ba1 w o)
  clear h hm
  go_enter Try.func42, Try.ntmps42
  go_wp2_with fail
  refine (HN.out _).mono ?_
  rintro e w1 ⟨rfl, rfl⟩
  go_wp2_with fail
  refine (HM.out _).mono ?_
  rintro e w1 ⟨rfl, hb⟩
  cases m
  · go_wp2_with fail
    go_ret
    exact ⟨rfl, below_of (HA.out _) hb⟩
  · go_wp2_with fail
    go_ret
    exact ⟨rfl, below_of (HA.out _) hb⟩
/-- A limit, as it is kept. -/
def lm (n : Int) : Int := max n 0
theorem newT (n : Int) (w : World) (h : n ≤ 9223372036854775807) :
    Calls Try.prog 10 #[.int .i64 n] w fun e w' => e = .returned (.pointer (some ⟨w.heap.size, 0, none⟩)) ∧ TSt w.heap.size (lm n) .nil w' ∧ Below w.heap.size w w' := by
  go_enter Try.func10, Try.ntmps10
  go_wp2_with fail
  go_ret
  have hb := BlkAt.new w (t := 66) (tc (.pointer none) (lm n) 0)
  exact ⟨rfl, ⟨⟨_, hb, rfl⟩, trivial, by show (0 : Int) ≤ max n 0; omega, by unfold lm; omega⟩, ba1 _ _⟩
theorem topT {p : Nat} {lim : Int} {T : Tr} {w : World} (h : TSt p lim T w) :
    Calls Try.prog 48 #[.pointer (some ⟨p, 0, none⟩)] w fun e w' => ∃ v, e = .returned v ∧ TrAt w v T ∧ w = w' := by
  obtain ⟨v, hb, ht⟩ := h.blk
  obtain ⟨c0, c1, c2, c3⟩ := tr_cells hb
  have HT := Lib.hid ht
  obtain ⟨a, rfl⟩ := ht.ptr
  clear h hb ht c1 c2 c3
  go_enter Try.func48, Try.ntmps48
  go_wp2_with fail
  go_ret
  exact ⟨_, rfl, HT.out, rfl⟩
/-- A trie that is not there: nil, or a zero one. -/
def NonV (w : World) (tv : Value) : Prop := tv = .pointer none ∨ ∃ z, tv = .pointer (some ⟨z, 0, none⟩) ∧ BlkAt 66 z [.pointer none, .int .i64 0, .int .i64 0, .bool false] w
theorem NonV.later {w w' : World} {tv : Value} (h : NonV w tv) (hb : Below w.heap.size w w') : NonV w' tv := by
  rcases h with h | ⟨z, h, hz⟩
  · exact .inl h
  · exact .inr ⟨z, h, hz.later hb⟩
/-- What has this tree: a trie, or one that is not there. -/
def Tops (w : World) (tv : Value) (T : Tr) : Prop := (∃ t lim, tv = .pointer (some ⟨t, 0, none⟩) ∧ TSt t lim T w) ∨ (NonV w tv ∧ T = .nil)
theorem TSt.tops {p : Nat} {lim : Int} {T : Tr} {w : World} (h : TSt p lim T w) : Tops w (.pointer (some ⟨p, 0, none⟩)) T := .inl ⟨p, lim, rfl, h⟩
theorem Tops.later {w w' : World} {tv : Value} {T : Tr} (h : Tops w tv T) (hb : Below w.heap.size w w') : Tops w' tv T := by
  rcases h with ⟨t, lim, e, h⟩ | ⟨h, e⟩
  · exact .inl ⟨t, lim, e, h.later hb⟩
  · exact .inr ⟨h.later hb, e⟩
theorem Tops.inv {w : World} {tv : Value} {T : Tr} (h : Tops w tv T) : T.Inv := by
  rcases h with ⟨t, lim, e, h⟩ | ⟨h, rfl⟩
  · exact h.inv
  · trivial
theorem topV {w : World} {tv : Value} {T : Tr} (h : Tops w tv T) :
    Calls Try.prog 48 #[tv] w fun e w' => ∃ v, e = .returned v ∧ TrAt w v T ∧ w = w' := by
  rcases h with ⟨t, lim, rfl, h⟩ | ⟨rfl | ⟨z, rfl, hz⟩, rfl⟩
  · exact topT h
  · go_enter Try.func48, Try.ntmps48
    go_wp2_with fail
    go_ret
    exact ⟨_, rfl, rfl, rfl⟩
  · have c0 := hz.cell (j := 0) rfl
    clear hz
    go_enter Try.func48, Try.ntmps48
    go_wp2_with fail
    go_ret
    exact ⟨_, rfl, rfl, rfl⟩
theorem lenT {p : Nat} {lim : Int} {T : Tr} {w : World} (h : TSt p lim T w) :
    Calls Try.prog 26 #[.pointer (some ⟨p, 0, none⟩)] w fun e w' => e = .returned (.int .i64 (T.el.length : Int)) ∧ w = w' := by
  obtain ⟨v, hb, ht⟩ := h.blk
  obtain ⟨c0, c1, c2, c3⟩ := tr_cells hb
  clear h hb ht c1 c0 c3
  go_enter Try.func26, Try.ntmps26
  go_wp2_with fail
  go_ret
  exact ⟨rfl, rfl⟩
/-- The copy of a trie. -/
theorem copyT {p : Nat} {lim : Int} {T : Tr} {w : World} (h : TSt p lim T w) :
    Calls Try.prog 11 #[.pointer (some ⟨p, 0, none⟩)] w fun e w' => ∃ c, e = .returned (.pointer (some ⟨c, 0, none⟩)) ∧ w.heap.size ≤ c ∧ TSt c lim T w' ∧ Below w.heap.size w w' := by
  obtain ⟨v, hb, ht⟩ := h.blk
  obtain ⟨c0, c1, c2, c3⟩ := tr_cells hb
  have HN := Lib.hid (noneT h)
  have HH := Lib.hid h
  have HT := Lib.hid ht
  obtain ⟨a, rfl⟩ := ht.ptr
  clear h hb ht
  go_enter Try.func11, Try.ntmps11
  go_wp2_with fail
  refine HN.out.mono ?_
  rintro e w1 ⟨rfl, rfl⟩
  go_wp2_with fail
  go_ret
  have hb := BlkAt.new w (t := 66) (tc (.pointer a) lim T.el.length)
  exact ⟨_, rfl, Nat.le_refl _, ⟨⟨_, hb, HT.out.later (ba1 _ _)⟩, HH.out.inv, HH.out.le, HH.out.hi⟩, ba1 _ _⟩
theorem drew_stay (w : World) (n : Nat) : Below w.heap.size w (w.drewN n) := below_dr0 _ _ _
set_option maxHeartbeats 1000000 in
/-- How many nodes there are from a node on down. -/
theorem sizeT : ∀ (T : Tr) (v : Value) (w : World), TrAt w v T → T.size ≤ 1000000 →
    Calls Try.prog 49 #[v] w fun e w' => e = .returned (.int .i64 (T.size : Int)) ∧ ∃ m, w' = w.drewN m
  | .nil, _, w, ht, _ => by
    obtain rfl := ht
    go_enter Try.func49, Try.ntmps49
    go_wp2_with fail
    go_ret
    exact ⟨rfl, 0, rfl⟩
  | .node q o l r, _, w, ht, hs => by
    obtain ⟨b, vl, vr, rfl, hb, hl, hr⟩ := ht
    obtain ⟨c0, c1, c2, c3, c4, c5⟩ := nd_cells hb
    simp only [Tr.size] at hs ⊢
    have HL := Lib.hid (fun n => (sizeT l vl (w.drewN n) (hl.later (drew_stay w n)) (by omega)).mono (R' := fun e w'' => e = .returned (.int .i64 (l.size : Int)) ∧ ∃ m, w'' = w.drewN m) fun _ _ ⟨he, m, hm⟩ => ⟨he, n + m, by rw [hm, World.drewN_drewN]⟩)
    have HR := Lib.hid (fun n => (sizeT r vr (w.drewN n) (hr.later (drew_stay w n)) (by omega)).mono (R' := fun e w'' => e = .returned (.int .i64 (r.size : Int)) ∧ ∃ m, w'' = w.drewN m) fun _ _ ⟨he, m, hm⟩ => ⟨he, n + m, by rw [hm, World.drewN_drewN]⟩)
    clear hb hl hr c0 c1 c2 c3
    obtain ⟨x, hx⟩ : ∃ x, x = l.size := ⟨_, rfl⟩
    obtain ⟨y, hy⟩ : ∃ y, y = r.size := ⟨_, rfl⟩
    rw [← hx, ← hy] at hs
    rw [← hx, ← hy]
    rw [← hx] at HL
    rw [← hy] at HR
    clear hx hy
    go_enter Try.func49, Try.ntmps49
    go_wp2_with fail
    go_quiet ((go_at_call 49; first | with_reducible exact HL.out _ | with_reducible exact HR.out _))
    go_wp2_with fail
    go_ret
    exact ⟨ret_i (by omega), nq, rfl⟩
theorem nodesT {p : Nat} {lim : Int} {T : Tr} {w : World} (h : TSt p lim T w) (hs : T.size ≤ 1000000) :
    Calls Try.prog 27 #[.pointer (some ⟨p, 0, none⟩)] w fun e w' => e = .returned (.int .i64 (T.size : Int)) ∧ Below w.heap.size w w' := by
  have H := Lib.hid (topT h)
  have HS := Lib.hid (fun v ht => sizeT T v w ht hs)
  clear h hs
  go_enter Try.func27, Try.ntmps27
  go_wp2_with fail
  refine H.out.mono ?_
  rintro e w1 ⟨v, rfl, ht, rfl⟩
  go_wp2_with fail
  refine (HS.out v ht).mono ?_
  rintro e w1 ⟨rfl, m, rfl⟩
  go_wp2_with fail
  go_ret
  exact ⟨rfl, below_dr0 _ _ _⟩
end Go.Proofs.Ytbfkjdnopiadjaa

namespace Go.Proofs.Ytbfkjdnopiadjaa
open Go.RowKit
attribute [local go_sem ↓] Go.wp_at_zero Go.wp_at_succ
attribute [local go_sem ↓ high] eqP neP
open Tp (Pf Ok mn bit com Tr isN)

set_option maxHeartbeats 1000000 in
theorem isT {S : Tr} {v : Value} {w : World} (ht : TrAt w v S) (p : Pf) :
    Calls Try.prog 44 #[v, .agg #[.int .u32 p.1, .int .i64 p.2]] w fun e w' => e = .returned (.bool (isN p S)) ∧ Below w.heap.size w w' := by
  have HA := Lib.hid (fun o n => below_drewN (ba1 w o) n)
  cases S with
  | nil =>
    obtain rfl := ht
    simp only [isN]
    go_enter Try.func44, Try.ntmps44
    go_wp2_with fail
    go_quiet (fail)
    go_wp2_with fail
    go_ret
    exact ⟨rfl, HA.out _ _⟩
  | node q o l r =>
    obtain ⟨b, vl, vr, rfl, hb, hl, hr⟩ := ht
    have hlt := hb.lt
    obtain ⟨c0, c1, c2, c3, c4, c5⟩ := nd_cells hb
    clear hb hl hr c2 c4 c5
    cases o with
    | none =>
      simp only [isN, Option.isSome, Bool.false_and] at c3 ⊢
      go_enter Try.func44, Try.ntmps44
      go_wp2_with fail
      go_quiet (fail)
      go_wp2_with fail
      go_ret
      exact ⟨rfl, HA.out _ _⟩
    | some x =>
      have hs := Lib.hid (sameP_eq q p)
      simp only [isN, Option.isSome, Bool.true_and] at c3 ⊢
      go_enter Try.func44, Try.ntmps44
      go_wp2_with fail
      go_quiet (fail)
      rw [hs.out]
      go_wp2_with fail
      go_ret
      exact ⟨rfl, HA.out _ _⟩
/-- What stands where a node was, if something needs it. -/
theorem neededT {b : Nat} {q : Pf} {o : Option Int} {l r : Tr} {vl vr : Value} {w : World} (hb : BlkAt 92 b (nc q o vl vr) w) (hl : TrAt w vl l) (hr : TrAt w vr r) :
    Calls Try.prog 58 #[.pointer (some ⟨b, 0, none⟩)] w fun e w' => ∃ v, e = .returned v ∧ TrAt w v (Tp.mk q o l r) ∧ w = w' := by
  obtain ⟨c0, c1, c2, c3, c4, c5⟩ := nd_cells hb
  have HB := Lib.hid hb
  have HL := Lib.hid hl
  have HR := Lib.hid hr
  clear hb c0 c1 c2
  cases o with
  | some x =>
    have H : Hid (TrAt w (.pointer (some ⟨b, 0, none⟩)) (Tp.mk q (some x) l r)) := by
      have : TrAt w (.pointer (some ⟨b, 0, none⟩)) (Tp.mk q (some x) l r) := ⟨b, vl, vr, rfl, HB.out, HL.out, HR.out⟩
      exact this
    simp only [Option.isSome] at c3
    clear hl hr
    go_enter Try.func58, Try.ntmps58
    go_wp2_with fail
    go_ret
    exact ⟨_, rfl, H.out, rfl⟩
  | none =>
    simp only [Option.isSome] at c3
    cases l with
    | nil =>
      obtain rfl := hl
      have H : Hid (TrAt w vr (Tp.mk q none .nil r)) := by
        have : TrAt w vr (Tp.mk q none .nil r) := by unfold Tp.mk; exact HR.out
        exact this
      obtain ⟨a, rfl⟩ := hr.ptr
      clear hr
      go_enter Try.func58, Try.ntmps58
      go_wp2_with fail
      go_ret
      exact ⟨_, rfl, H.out, rfl⟩
    | node q1 o1 l1 r1 =>
      obtain ⟨b1, vl1, vr1, rfl, _, _, _⟩ := hl
      cases r with
      | nil =>
        obtain rfl := hr
        have H : Hid (TrAt w (.pointer (some ⟨b1, 0, none⟩)) (Tp.mk q none (.node q1 o1 l1 r1) .nil)) := by
          have : TrAt w (.pointer (some ⟨b1, 0, none⟩)) (Tp.mk q none (.node q1 o1 l1 r1) .nil) := by unfold Tp.mk; exact HL.out
          exact this
        go_enter Try.func58, Try.ntmps58
        go_wp2_with fail
        go_ret
        exact ⟨_, rfl, H.out, rfl⟩
      | node q2 o2 l2 r2 =>
        obtain ⟨b2, vl2, vr2, rfl, _, _, _⟩ := hr
        have H : Hid (TrAt w (.pointer (some ⟨b, 0, none⟩)) (Tp.mk q none (.node q1 o1 l1 r1) (.node q2 o2 l2 r2))) := by
          have : TrAt w (.pointer (some ⟨b, 0, none⟩)) (Tp.mk q none (.node q1 o1 l1 r1) (.node q2 o2 l2 r2)) := ⟨b, _, _, rfl, HB.out, HL.out, HR.out⟩
          exact this
        go_enter Try.func58, Try.ntmps58
        go_wp2_with fail
        go_ret
        exact ⟨_, rfl, H.out, rfl⟩
set_option maxHeartbeats 1000000 in
set_option maxRecDepth 100000 in
/-- What stands where a node was, once its prefix is gone. -/
theorem withoutT {b : Nat} {q : Pf} {o : Option Int} {l r : Tr} {vl vr : Value} {w : World} (hb : BlkAt 92 b (nc q o vl vr) w) (hl : TrAt w vl l) (hr : TrAt w vr r) :
    Calls Try.prog 46 #[.pointer (some ⟨b, 0, none⟩)] w fun e w' => ∃ v, e = .returned v ∧ TrAt w' v (Tp.mk q none l r) ∧ Below w.heap.size w w' := by
  have hlt := hb.lt
  obtain ⟨c0, c1, c2, c3, c4, c5⟩ := nd_cells hb
  have HN := Lib.hid (fun (W : World) (g : Nat) (h : Below w.heap.size w W) (hg : BlkAt 92 g (nc q none vl vr) W) => neededT hg (hl.later h) (hr.later h))
  obtain ⟨al, rfl⟩ := hl.ptr
  obtain ⟨ar, rfl⟩ := hr.ptr
  clear hb hl hr c2 c3
  go_enter Try.func46, Try.ntmps46
  go_wp2_with fail
  (refine wp_region_held_drew (S := (fun w' => w'.cell? ⟨b, 0, none⟩ = some (.int .u32 q.1) ∧ w'.cell? ⟨b, 1, none⟩ = some (.int .i64 q.2) ∧ w'.cell? ⟨b, 4, none⟩ = some (.pointer al) ∧ w'.cell? ⟨b, 5, none⟩ = some (.pointer ar))) (by kernel_rfl) ?_ (fun hHeld => ?_); (focus ((try dsimp only); exact ⟨c0, c1, c4, c5⟩)))
  (refine wpAnyH_take (i := 0) (v := ?_) rfl (by kernel_rfl) (by kernel_rfl) (by kernel_rfl) (fun _ _ _ h => h) (Or.inl ⟨by rfl, ?_⟩) hHeld ?_; rotate_left; (focus (intro w hSw; (try dsimp only at hSw); go_simp; try with_reducible rfl)); (try simp only [Act.put, List.setIfInBounds_toArray, List.set_cons_zero, List.set_cons_succ, List.getElem_toArray, List.getElem_cons_zero])); (refine wpAnyH_take (i := 1) (v := ?_) rfl (by kernel_rfl) (by kernel_rfl) (by kernel_rfl) (fun _ _ _ h => h) (Or.inl ⟨by rfl, ?_⟩) hHeld ?_; rotate_left; (focus (intro w hSw; (try dsimp only at hSw); go_simp; try with_reducible rfl)); (try simp only [Act.put, List.setIfInBounds_toArray, List.set_cons_zero, List.set_cons_succ, List.getElem_toArray, List.getElem_cons_zero, List.getElem_cons_succ])); (refine wpAnyH_take (i := 2) (v := ?_) rfl (by kernel_rfl) (by kernel_rfl) (by kernel_rfl) (fun _ _ _ h => h) (Or.inl ⟨by rfl, ?_⟩) hHeld ?_; rotate_left; (focus (intro w hSw; (try dsimp only at hSw); go_simp; try with_reducible rfl)); (try simp only [Act.put, List.setIfInBounds_toArray, List.set_cons_zero, List.set_cons_succ, List.getElem_toArray, List.getElem_cons_zero, List.getElem_cons_succ])); (refine wpAnyH_take (i := 3) (v := ?_) rfl (by kernel_rfl) (by kernel_rfl) (by kernel_rfl) (fun _ _ _ h => h) (Or.inl ⟨by rfl, ?_⟩) hHeld ?_; rotate_left; (focus (intro w hSw; (try dsimp only at hSw); go_simp; try with_reducible rfl)); (try simp only [Act.put, List.setIfInBounds_toArray, List.set_cons_zero, List.set_cons_succ, List.getElem_toArray, List.getElem_cons_zero, List.getElem_cons_succ])); (refine wpAnyH_take (i := 4) (v := ?_) rfl (by kernel_rfl) (by kernel_rfl) (by kernel_rfl) (fun _ _ _ h => h) (Or.inl ⟨by rfl, ?_⟩) hHeld ?_; rotate_left; (focus (intro w hSw; (try dsimp only at hSw); go_simp; try with_reducible rfl)); (try simp only [Act.put, List.setIfInBounds_toArray, List.set_cons_zero, List.set_cons_succ, List.getElem_toArray, List.getElem_cons_zero, List.getElem_cons_succ])); (refine wpAnyH_take (i := 5) (v := ?_) rfl (by kernel_rfl) (by kernel_rfl) (by kernel_rfl) (fun _ _ _ h => h) (Or.inl ⟨by rfl, ?_⟩) hHeld ?_; rotate_left; (focus (intro w hSw; (try dsimp only at hSw); go_simp; try with_reducible rfl)); (try simp only [Act.put, List.setIfInBounds_toArray, List.set_cons_zero, List.set_cons_succ, List.getElem_toArray, List.getElem_cons_zero, List.getElem_cons_succ])); (refine wpAnyH_take (i := 6) (v := ?_) rfl (by kernel_rfl) (by kernel_rfl) (by kernel_rfl) (fun _ _ _ h => h) (Or.inl ⟨by rfl, ?_⟩) hHeld ?_; rotate_left; (focus (intro w hSw; (try dsimp only at hSw); go_simp; try with_reducible rfl)); (try simp only [Act.put, List.setIfInBounds_toArray, List.set_cons_zero, List.set_cons_succ, List.getElem_toArray, List.getElem_cons_zero, List.getElem_cons_succ])); (refine wpAnyH_take (i := 7) (v := ?_) rfl (by kernel_rfl) (by kernel_rfl) (by kernel_rfl) (fun _ _ _ h => h) (Or.inl ⟨by rfl, ?_⟩) hHeld ?_; rotate_left; (focus (intro w hSw; (try dsimp only at hSw); go_simp; try with_reducible rfl)); (try simp only [Act.put, List.setIfInBounds_toArray, List.set_cons_zero, List.set_cons_succ, List.getElem_toArray, List.getElem_cons_zero, List.getElem_cons_succ])); (refine wpAnyH_take (i := 8) (v := ?_) rfl (by kernel_rfl) (by kernel_rfl) (by kernel_rfl) (fun _ _ _ h => h) (Or.inl ⟨by rfl, ?_⟩) hHeld ?_; rotate_left; (focus (intro w hSw; (try dsimp only at hSw); go_simp; try with_reducible rfl)); (try simp only [Act.put, List.setIfInBounds_toArray, List.set_cons_zero, List.set_cons_succ, List.getElem_toArray, List.getElem_cons_zero, List.getElem_cons_succ]))
  (refine wpAnyH_ready (rs := [9]) (by kernel_rfl) (by simp) ?_; refine AllReadyH.cons rfl (fun K hK => ?_) AllReadyH.nil; go_simp; skip; refine hK.out _ _ ?_ (fun hHeldN => ?_); (focus ((try dsimp only); refine ⟨?_, ?_, ?_, ?_⟩ <;> go_side)); clear hK K hHeld; have hHeld := hHeldN; clear hHeldN; (try simp only [Act.put, List.setIfInBounds_toArray, List.set_cons_zero, List.set_cons_succ, List.getElem_toArray, List.getElem_cons_zero, List.getElem_cons_succ]))
  (refine wpAnyH_ready (rs := [10]) (by kernel_rfl) (by simp) ?_; refine AllReadyH.cons rfl (fun K hK => ?_) AllReadyH.nil; go_simp; skip; refine hK.out _ _ ?_ (fun hHeldN => ?_); (focus ((try dsimp only); refine ⟨?_, ?_, ?_, ?_⟩ <;> go_side)); clear hK K hHeld; have hHeld := hHeldN; clear hHeldN; (try simp only [Act.put, List.setIfInBounds_toArray, List.set_cons_zero, List.set_cons_succ, List.getElem_toArray, List.getElem_cons_zero, List.getElem_cons_succ]))
  refine wpAnyH_done (by kernel_rfl) ?_ _
  go_wp2_with fail
  have hB := (ba1 w (.cells (nc q none (.pointer al) (.pointer ar)).toArray 92)).drew
  refine (HN.out _ w.heap.size hB (BlkAt.new w (t := 92) (nc q none (.pointer al) (.pointer ar)))).mono ?_
  rintro e w1 ⟨v, rfl, ht, rfl⟩
  have HT := Lib.hid ht
  obtain ⟨a, rfl⟩ := ht.ptr
  clear ht
  go_wp2_with fail
  go_ret
  exact ⟨_, rfl, HT.out, hB⟩
end Go.Proofs.Ytbfkjdnopiadjaa

namespace Go.Proofs.Ytbfkjdnopiadjaa
open Go.RowKit
theorem wpAnyH_cut {P : Program} {md : Region.Mode} {ops : Array Oper} {Q : Exit → Act → World → Prop} {S : World → Prop} {fuel : Nat} {listed : Array Bool} {a : Act} {w : World}
    (m : Array Bool) (fm : Nat) (I : Act → World → Prop)
    (tail : ∀ (l : Array Bool) (A : Act) (w1 : World), l = m → I A w1 → S w1 → wpAnyH P md ops Q S fm l A w1)
    (main : (∀ (l : Array Bool) (A : Act) (w1 : World), l = m → I A w1 → S w1 → wpAnyH P md ops Q S fm l A w1) → wpAnyH P md ops Q S fuel listed a w) : wpAnyH P md ops Q S fuel listed a w := main tail
/-- A region, cut behind it: what its walk leaves is said once. -/
theorem wp_region_fin {P : Program} {Q : Exit → Act → World → Prop} {S : World → Prop} {id : Nat} {ops : Array Oper} {a : Act} {w : World} (I : Act → World → Prop) (hm : P.follows .mixedOrders = true) (hS : S w.drew) (h1 : ∀ A w3, I A w3 → Q .normal A w3)
    (h : (∀ A w3, I A w3 → Q .normal A w3) → S w.drew → wpAnyH P .any ops Q S ops.size (Array.replicate ops.size false) a w.drew) : (Code.region id ops true).wp P Q a w :=
  wp_region_held_drew hm hS (h h1)
/-- A region under a promise that holds more. -/
theorem wpAnyH_str {P : Program} {md : Region.Mode} {ops : Array Oper} {Q : Exit → Act → World → Prop} {S S' : World → Prop} (h : ∀ w, S' w → S w) : ∀ (fuel : Nat) (listed : Array Bool) (a : Act) (w : World), wpAnyH P md ops Q S' fuel listed a w → wpAnyH P md ops Q S fuel listed a w
  | 0, _, _, _, H => H
  | fuel + 1, _, _, _, H => ⟨H.1, fun i hi => wpOp_mono (fun a' w' h' => ⟨h _ h'.1, wpAnyH_str h fuel _ a' w' h'.2⟩) (H.2 i hi)⟩
/-- The list of what is done, spelled out. -/
theorem wpAnyH_at {P : Program} {md : Region.Mode} {ops : Array Oper} {Q : Exit → Act → World → Prop} {S : World → Prop} {fuel : Nat} {listed : Array Bool} {a : Act} {w : World} {m : Array Bool} (e : listed = m) (h : wpAnyH P md ops Q S fuel m a w) : wpAnyH P md ops Q S fuel listed a w := e ▸ h
end Go.Proofs.Ytbfkjdnopiadjaa
