/- append of whatever comes, by what its run leaves.
   append to an owned slice: its block is the old one or a new one.
   A map whose keys are prefixes, and a range over it: what it holds, and what is still to come.
   Cores, plainly: entries, what is told, what happens.
   Maps whose keys are prefixes: what they hold as a list; store, look-up, delete, len.
   What changes: all but some blocks stands.
   trie.may, has, side, meet: the walks. -/
import Derived.DeepKeys3
import Derived.MapKept
import Derived.Maps.RangeWalk
import Derived.Sort.MapsRangeIn
import Derived.RangeFuncSeq
import Derived.Test.YtdjhgahdiggahaaZ01
import Derived.Test.YtdjhgahdiggahaaZ02
import Derived.Test.YtdjhgahdiggahaaZ03
import Derived.Test.YtdjhgahdiggahaaZ04

set_option linter.unusedSimpArgs false
set_option linter.unusedVariables false
namespace Go.Proofs.Ytdjhgahdiggahaa
open Go.RowKit
attribute [local go_sem ↓] Go.wp_at_zero Go.wp_at_succ
open Tp (Pf Ok mn bit com)

/-- A prefix, as a value. -/
def pv (p : Pf) : Value := .agg #[.int .u32 p.1, .int .i64 p.2]

/-- Two prefixes held against each other. -/
def sameP (a n b m : Int) : Bool := decide (a = b ∧ n = m)
theorem sameP_iff {p q : Pf} : sameP p.1 p.2 q.1 q.2 = true ↔ p = q := by unfold sameP; rw [decide_eq_true_iff]; exact ⟨fun h => Prod.ext h.1 h.2, fun h => by rw [h]; exact ⟨rfl, rfl⟩⟩
theorem sameP_eq (p q : Pf) : sameP p.1 p.2 q.1 q.2 = decide (p = q) := by rw [Bool.eq_iff_iff, sameP_iff, decide_eq_true_iff]
theorem eqP (a n b m : Int) (W : World) : (binOp .eql 40 (.agg #[.int .u32 a, .int .i64 n]) (.agg #[.int .u32 b, .int .i64 m])).run Try.prog W = .ok (.bool (sameP a n b m)) W := by
  simp [go_sem, sameP]
  by_cases h1 : a = b <;> by_cases h2 : n = m <;> simp [h1, h2]
theorem neP (a n b m : Int) (W : World) : (binOp .neq 40 (.agg #[.int .u32 a, .int .i64 n]) (.agg #[.int .u32 b, .int .i64 m])).run Try.prog W = .ok (.bool (!sameP a n b m)) W := by
  simp [go_sem, sameP]
  by_cases h1 : a = b <;> by_cases h2 : n = m <;> simp [h1, h2]

end Go.Proofs.Ytdjhgahdiggahaa

namespace Go.Proofs.Ytdjhgahdiggahaa
open Go.RowKit

/-- All but these blocks stands as it was. -/
structure Chg (l : List Nat) (w w' : World) : Prop where
  low : Below 0 w w'
  rest : ∀ b, b < w.heap.size → b ∉ l → w'.heap[b]? = w.heap[b]?
theorem Chg.refl (l : List Nat) (w : World) : Chg l w w := ⟨Below.refl _ _, fun _ _ _ => rfl⟩
theorem Chg.size {l : List Nat} {w w' : World} (h : Chg l w w') : w.heap.size ≤ w'.heap.size := h.low.size
theorem Chg.trans {l : List Nat} {w w' w'' : World} (h : Chg l w w') (h' : Chg l w' w'') : Chg l w w'' :=
  ⟨h.low.trans h'.low, fun b hb hn => (h'.rest b (Nat.lt_of_lt_of_le hb h.size) hn).trans (h.rest b hb hn)⟩
theorem Chg.mono {l l' : List Nat} {w w' : World} (h : Chg l w w') (hl : ∀ b ∈ l, b ∈ l') : Chg l' w w' := ⟨h.low, fun b hb hn => h.rest b hb (fun h2 => hn (hl b h2))⟩
theorem Chg.of_below {w w' : World} (l : List Nat) (h : Below w.heap.size w w') : Chg l w w' := ⟨h.mono (Nat.zero_le _), fun b hb _ => h.block b hb⟩
theorem Chg.below {l : List Nat} {w w' : World} (h : Chg l w w') {B : Nat} (hB : B ≤ w.heap.size) (hl : ∀ b ∈ l, B ≤ b) : Below B w w' :=
  ⟨h.low.os, h.low.tape, h.low.output, h.low.size, fun b hb => h.rest b (by omega) (fun h2 => by have := hl b h2; omega)⟩
theorem Chg.set {l : List Nat} {w w' : World} (h : Chg l w w') {b : Nat} (hb : b ∈ l) (j : Nat) (x : Value) : Chg l w (w'.setCell ⟨b, j, none⟩ x) :=
  h.trans ⟨(Below.refl _ _).setCell (Nat.zero_le _) _, fun k _ hk => Below.heap_setCell _ _ _ _ (fun e => hk (by rw [e]; exact hb))⟩
theorem Chg.alloc {l : List Nat} {w w' : World} (h : Chg l w w') (o : Obj) : Chg l w (w'.alloc o) := h.trans (Chg.of_below _ ((Below.refl _ _).alloc (Nat.le_refl _) o))
theorem Chg.drew {l : List Nat} {w w' : World} (h : Chg l w w') : Chg l w w'.drew := ⟨h.low.drew, h.rest⟩
theorem Chg.blk {l : List Nat} {w w' : World} (hm : Chg l w w') {t : TypeId} {g : Nat} {cs : List Value} (h : BlkAt t g cs w) (hg : g ∉ l) : BlkAt t g cs w' := (hm.rest g h.lt hg).trans h
theorem Chg.heap {l : List Nat} {w w' : World} (hm : Chg l w w') {g : Nat} {o : Obj} (h : w.heap[g]? = some o) (hg : g ∉ l) : w'.heap[g]? = some o := (hm.rest g (Array.getElem?_eq_some_iff.1 h).1 hg).trans h
theorem Chg.owns {l : List Nat} {w w' : World} (hm : Chg l w w') {B : Nat} {e : TypeId} {size n : Nat} {v : Value} {xs : List Value} (h : w.ownsRow B e size v n xs) (hg : ∀ g, v.ownBlock = some g → g ∉ l) : w'.ownsRow B e size v n xs := by
  obtain ⟨hl, h0 | ⟨g, cap, cur, rfl, hb1, h2, hr⟩⟩ := h
  · exact ⟨hl, .inl h0⟩
  · exact ⟨hl, .inr ⟨g, cap, cur, rfl, hb1, hm.heap h2 (hg g rfl), hr⟩⟩
theorem Chg.cell {l : List Nat} {w w' : World} (hm : Chg l w w') {a : Addr} {u : Value} (h : w.cell? a = some u) (hg : a.block ∉ l) : w'.cell? a = some u := by
  rw [World.cell?_of_block (hm.rest a.block (World.block_lt_of_cell? _ _ h) hg)]; exact h
end Go.Proofs.Ytdjhgahdiggahaa

namespace Go.Proofs.Ytdjhgahdiggahaa
open Go.RowKit
attribute [local go_sem ↓] Go.wp_at_zero Go.wp_at_succ
open Tp (Pf Ok)

theorem prefLaw : WideMaps.KeyLaw Try.prog 40 := deep_law (m := 3) (by omega) (by kernel_rfl) (by kernel_rfl) (by kernel_rfl)
/-- A prefix as a key may be. -/
structure Ky (p : Pf) : Prop where
  a0 : 0 ≤ p.1
  a1 : p.1 < 4294967296
  n0 : -9223372036854775808 ≤ p.2
  n1 : p.2 ≤ 9223372036854775807
theorem key_pv {p : Pf} (h : Ky p) : ∃ l, keyOf Try.prog 40 (pv p) = some l := by
  obtain ⟨h0, h1, h2, h3⟩ := h
  have hf : (Try.prog.keyType 40 && (pv p).formed Try.prog 40) = true := by kernel_rfl
  have e0 : IntKind.u32.min = 0 := rfl
  have e1 : IntKind.u32.max = 4294967295 := rfl
  have e2 : IntKind.i64.min = -9223372036854775808 := rfl
  have e3 : IntKind.i64.max = 9223372036854775807 := rfl
  have w0 : (Lit.int .u32 p.1).wf = true := by
    show (decide (IntKind.u32.min ≤ p.1) && decide (p.1 ≤ IntKind.u32.max)) = true
    rw [e0, e1]; simp; omega
  have w1 : (Lit.int .i64 p.2).wf = true := by
    show (decide (IntKind.i64.min ≤ p.2) && decide (p.2 ≤ IntKind.i64.max)) = true
    rw [e2, e3]; simp; omega
  have k0 : ∀ d, Try.prog.keyLits (d + 1) 38 [.int .u32 p.1] = some [.int .u32 p.1] := by
    intro d
    unfold Program.keyLits
    rw [Try.underlying38]
    simp [w0]
  have k1 : ∀ d, Try.prog.keyLits (d + 1) 3 [.int .i64 p.2] = some [.int .i64 p.2] := by
    intro d
    unfold Program.keyLits
    rw [Try.underlying3]
    simp [w1]
  have c0 : Try.prog.cellsOf 40 = 2 := by kernel_rfl
  have c1 : Try.prog.cellsOf 38 = 1 := by kernel_rfl
  have c2 : Try.prog.cellsOf 3 = 1 := by kernel_rfl
  obtain ⟨m, hm⟩ : ∃ m, Try.prog.types.size = m + 1 := ⟨_, rfl⟩
  unfold keyOf
  rw [Try.underlying40]
  simp only [hf, if_true, hm]
  unfold Program.keyLits
  rw [Try.underlying40]
  simp [pv, Value.cells, c0, c1, c2, k0, k1]
theorem pv_inj {p q : Pf} (h : pv p = pv q) : p = q := by
  unfold pv at h
  simp at h
  exact Prod.ext h.1 h.2

/-- A map's block holds these, in some order of its own: that in which they came. -/
structure MAt (g : Nat) (S : List (Pf × Value)) (w : World) : Prop where
  ex : ∃ es clock, w.heap[g]? = some (.map es clock) ∧ es.toList.map (fun e => (e.key, e.val)) = S.map (fun x => (pv x.1, x.2))
  ok : ∀ x ∈ S, Ky x.1
  nd : (S.map Prod.fst).Nodup
theorem MAt.lt {g : Nat} {S : List (Pf × Value)} {w : World} (h : MAt g S w) : g < w.heap.size := by obtain ⟨es, c, hb, _⟩ := h.ex; exact (Array.getElem?_eq_some_iff.1 hb).1
theorem MAt.new (w : World) : MAt w.heap.size [] (w.alloc (.map #[] 0)) := ⟨⟨#[], 0, World.alloc_heap_new w _, rfl⟩, by simp, by simp⟩
theorem MAt.chg {g : Nat} {S : List (Pf × Value)} {w w' : World} (h : MAt g S w) {l : List Nat} (hm : Chg l w w') (hg : g ∉ l) : MAt g S w' := by
  obtain ⟨es, c, hb, e⟩ := h.ex
  exact ⟨⟨es, c, hm.heap hb hg, e⟩, h.ok, h.nd⟩
theorem MAt.later {g : Nat} {S : List (Pf × Value)} {w w' : World} (h : MAt g S w) (hb : Below w.heap.size w w') : MAt g S w' := h.chg (Chg.of_below [] hb) (by simp)
def lookM (S : List (Pf × Value)) (p : Pf) : Option Value := (S.find? fun x => decide (x.1 = p)).map Prod.snd
def putM (S : List (Pf × Value)) (p : Pf) (v : Value) : List (Pf × Value) := if p ∈ S.map Prod.fst then S.map (fun x => if x.1 = p then (p, v) else x) else S ++ [(p, v)]
def delM (S : List (Pf × Value)) (p : Pf) : List (Pf × Value) := S.filter fun x => decide (x.1 ≠ p)

theorem chg_map (w : World) (g : Nat) (o : Obj) : Chg [g] w { w with heap := w.heap.setIfInBounds g o } :=
  ⟨⟨rfl, rfl, rfl, by simp, fun b hb => by omega⟩, fun b _ hb => by
    have : g ≠ b := fun e => hb (by simp [e])
    show (w.heap.setIfInBounds g o)[b]? = _
    simp [this]⟩
theorem MAt.at {g : Nat} {S : List (Pf × Value)} {w : World} {es : Array MapEntry} (e : es.toList.map (fun e => (e.key, e.val)) = S.map (fun x => (pv x.1, x.2))) (k : Nat) : (es.toList[k]?).map (fun e => (e.key, e.val)) = (S[k]?).map (fun x => (pv x.1, x.2)) := by
  have := congrArg (fun l => l[k]?) e
  simpa only [List.getElem?_map] using this
/-- What a look at a key finds. -/
theorem MAt.find {g : Nat} {S : List (Pf × Value)} {w : World} (h : MAt g S w) {es : Array MapEntry} (e : es.toList.map (fun e => (e.key, e.val)) = S.map (fun x => (pv x.1, x.2))) {p : Pf} (hp : Ky p) (W : World) :
    ((Instr.findKey 40 (pv p) es.toList).run Try.prog W = .ok none W ∧ p ∉ S.map Prod.fst) ∨
    ∃ j v e0, (Instr.findKey 40 (pv p) es.toList).run Try.prog W = .ok (some (j, v)) W ∧ es.toList[j]? = some e0 ∧ e0.key = pv p ∧ e0.val = v ∧ S[j]? = some (p, v) := by
  obtain ⟨l, hl⟩ := key_pv hp
  have hall : ∀ x ∈ es.toList, ∃ l, keyOf Try.prog 40 x.key = some l := by
    intro x hx
    have : (x.key, x.val) ∈ S.map (fun x => (pv x.1, x.2)) := by rw [← e]; exact List.mem_map.2 ⟨x, hx, rfl⟩
    obtain ⟨y, hy, hxy⟩ := List.mem_map.1 this
    obtain ⟨l, hl⟩ := key_pv (h.ok y hy)
    exact ⟨l, by rw [← (Prod.mk.inj hxy).1]; exact hl⟩
  rcases prefLaw.find W hl es.toList hall with ⟨h1, h2⟩ | ⟨j, e0, h1, h2, h3⟩
  · refine .inl ⟨h1, fun hm => ?_⟩
    obtain ⟨x, hx, rfl⟩ := List.mem_map.1 hm
    have : (pv x.1, x.2) ∈ es.toList.map (fun e => (e.key, e.val)) := by rw [e]; exact List.mem_map.2 ⟨x, hx, rfl⟩
    obtain ⟨y, hy, hxy⟩ := List.mem_map.1 this
    exact h2 y hy (Prod.mk.inj hxy).1
  · refine .inr ⟨j, e0.val, e0, h1, h2, h3, rfl, ?_⟩
    have := MAt.at (g := g) (w := w) e j
    rw [h2] at this
    cases hs : S[j]? with
    | none => rw [hs] at this; cases this
    | some x =>
      rw [hs] at this
      simp only [Option.map_some, Option.some.injEq, Prod.mk.injEq] at this
      have e1 : x.1 = p := pv_inj (this.1.symm.trans h3)
      rw [← e1, this.2]
theorem nd_at {S : List (Pf × Value)} (h : (S.map Prod.fst).Nodup) {i j : Nat} {x y : Pf × Value} (hi : S[i]? = some x) (hj : S[j]? = some y) (e : x.1 = y.1) : i = j := by
  have a : (S.map Prod.fst)[i]? = some x.1 := by rw [List.getElem?_map, hi]; rfl
  have b : (S.map Prod.fst)[j]? = some x.1 := by rw [List.getElem?_map, hj, e]; rfl
  obtain ⟨hi', ha⟩ := List.getElem?_eq_some_iff.1 a
  obtain ⟨hj', hb⟩ := List.getElem?_eq_some_iff.1 b
  exact (List.getElem_inj h).1 (ha.trans hb.symm)
theorem lookM_at {S : List (Pf × Value)} (h : (S.map Prod.fst).Nodup) {j : Nat} {p : Pf} {v : Value} (hj : S[j]? = some (p, v)) : lookM S p = some v := by
  unfold lookM
  cases hf : S.find? (fun x => decide (x.1 = p)) with
  | none =>
    have := List.find?_eq_none.1 hf (p, v) (List.mem_of_getElem? hj)
    simp at this
  | some x =>
    have h1 := List.find?_some hf
    have h2 := List.mem_of_find?_eq_some hf
    obtain ⟨i, hi⟩ := List.getElem?_of_mem h2
    have e : x.1 = p := of_decide_eq_true h1
    have := nd_at h hi hj e
    subst this
    rw [hi] at hj
    simp at hj
    subst hj
    rfl
theorem lookM_no {S : List (Pf × Value)} {p : Pf} (h : p ∉ S.map Prod.fst) : lookM S p = none := by
  unfold lookM
  rw [List.find?_eq_none.2]
  · rfl
  · intro x hx
    simp
    rintro rfl
    exact h (List.mem_map.2 ⟨x, hx, rfl⟩)

theorem run_lookM {mt e : TypeId} (hm : Try.prog.underlying mt = some (.map 40 e)) {z : Value} (hz : ∀ w, (zeroValue e).run Try.prog w = .ok z w) {g : Nat} {S : List (Pf × Value)} {w : World} (h : MAt g S w) {p : Pf} (hp : Ky p) (c : Bool) :
    (Instr.lookup mt (.map (some g)) (pv p) c).run Try.prog w = .ok (if c then .tuple #[(lookM S p).getD z, .bool (lookM S p).isSome] else (lookM S p).getD z) w := by
  obtain ⟨es, clock, hb, e⟩ := h.ex
  obtain ⟨l, hl⟩ := key_pv hp
  have hc := prefLaw.check w es.isEmpty hl
  rcases h.find e hp w with ⟨h1, h2⟩ | ⟨j, v, e0, h1, h2, h3, h4, h5⟩
  · rw [lookM_no h2]
    simp [Instr.lookup, run_underlying hm, MapKept.run_getObj_map hb, hc, h1, hz w, Result.andThen]
  · rw [lookM_at h.nd h5]
    simp [Instr.lookup, run_underlying hm, MapKept.run_getObj_map hb, hc, h1, Result.andThen]

set_option maxRecDepth 100000 in
theorem run_updM {mt e : TypeId} (hm : Try.prog.underlying mt = some (.map 40 e)) {g : Nat} {S : List (Pf × Value)} {w : World} (h : MAt g S w) {p : Pf} (hp : Ky p) (v : Value) :
    ∃ w', (Instr.mapUpdate mt (.map (some g)) (pv p) v).run Try.prog w = .ok () w' ∧ MAt g (putM S p v) w' ∧ Chg [g] w w' := by
  obtain ⟨es, clock, hb, e⟩ := h.ex
  obtain ⟨l, hl⟩ := key_pv hp
  have hc := prefLaw.check w false hl
  rcases h.find e hp w with ⟨h1, h2⟩ | ⟨j, v0, e0, h1, h2, h3, h4, h5⟩
  · refine ⟨{ w with heap := w.heap.setIfInBounds g (.map (es.push { key := pv p, val := v, born := clock }) (clock + 1)) }, ?_, ⟨⟨_, _, (MapKept.heap_set hb).1, ?_⟩, ?_, ?_⟩, chg_map w g _⟩
    · simp [Instr.mapUpdate, run_underlying hm, MapKept.run_getObj_map hb, hc, h1, MapKept.run_setObj_map _ hb, Result.andThen]
    · unfold putM
      rw [if_neg h2, Array.toList_push, List.map_append, List.map_append, e]; rfl
    · unfold putM
      rw [if_neg h2]
      intro x hx
      rcases List.mem_append.1 hx with hx | hx
      · exact h.ok x hx
      · rw [List.mem_singleton.1 hx]; exact hp
    · unfold putM
      rw [if_neg h2, List.map_append, List.nodup_append]
      exact ⟨h.nd, by simp, fun a ha b hb' => by simp at hb'; subst hb'; exact fun e => h2 (e ▸ ha)⟩
  · have hmem : p ∈ S.map Prod.fst := List.mem_map.2 ⟨_, List.mem_of_getElem? h5, rfl⟩
    have hst := prefLaw.stays w hl
    have hes : es[j]? = some e0 := by simpa using h2
    refine ⟨{ w with heap := w.heap.setIfInBounds g (.map (es.modify j fun e => { e with key := pv p, val := v }) clock) }, ?_, ⟨⟨_, _, (MapKept.heap_set hb).1, ?_⟩, ?_, ?_⟩, chg_map w g _⟩
    · simp [Instr.mapUpdate, run_underlying hm, MapKept.run_getObj_map hb, hc, h1, hes, h3, hst, MapKept.run_setObj_map _ hb, Result.andThen]
    · unfold putM
      rw [if_pos hmem]
      apply List.ext_getElem?
      intro k
      have hk := MAt.at (g := g) (w := w) e k
      rw [List.getElem?_map, List.getElem?_map, List.getElem?_map, Array.toList_modify, List.getElem?_modify]
      cases hs : S[k]? with
      | none =>
        rw [hs] at hk
        cases he : es.toList[k]? with
        | none => rfl
        | some y => rw [he] at hk; cases hk
      | some x =>
        rw [hs] at hk
        cases he : es.toList[k]? with
        | none => rw [he] at hk; cases hk
        | some y =>
          rw [he] at hk
          simp only [Option.map_some, Option.some.injEq, Prod.mk.injEq] at hk
          by_cases hjk : j = k
          · subst hjk
            rw [hs] at h5
            simp only [Option.some.injEq] at h5
            subst h5
            simp
          · have hne : x.1 ≠ p := fun ex => hjk (nd_at h.nd h5 hs ex.symm)
            simp [hjk, hne, hk.1, hk.2]
    · unfold putM
      rw [if_pos hmem]
      intro x hx
      obtain ⟨y, hy, rfl⟩ := List.mem_map.1 hx
      split
      · exact hp
      · exact h.ok y hy
    · unfold putM
      rw [if_pos hmem, List.map_map]
      have : (Prod.fst ∘ fun x : Pf × Value => if x.1 = p then (p, v) else x) = Prod.fst := by
        funext x
        simp only [Function.comp]
        split
        · rename_i hx; exact hx.symm
        · rfl
      rw [this]; exact h.nd
theorem map_erase {α β : Type} (f : α → β) (l : List α) (i : Nat) : (l.map f).eraseIdx i = (l.eraseIdx i).map f := by
  simp [List.eraseIdx_eq_take_drop_succ, List.map_take, List.map_drop]
set_option maxRecDepth 100000 in
theorem run_delM {mt e : TypeId} (hm : Try.prog.underlying mt = some (.map 40 e)) {g : Nat} {S : List (Pf × Value)} {w : World} (h : MAt g S w) {p : Pf} (hp : Ky p) :
    ∃ w', (∀ ty, (Builtin.delete_ #[mt, 40] ty #[.map (some g), pv p]).run Try.prog w = .ok (.tuple #[]) w') ∧ MAt g (delM S p) w' ∧ Chg [g] w w' := by
  obtain ⟨es, clock, hb, e⟩ := h.ex
  obtain ⟨l, hl⟩ := key_pv hp
  have hc := prefLaw.check w es.isEmpty hl
  rcases h.find e hp w with ⟨h1, h2⟩ | ⟨j, v0, e0, h1, h2, h3, h4, h5⟩
  · have ed : delM S p = S := List.filter_eq_self.2 fun x hx => decide_eq_true fun ex => h2 (List.mem_map.2 ⟨x, hx, ex⟩)
    refine ⟨{ w with heap := w.heap.setIfInBounds g (.map es clock) }, fun ty => ?_, ⟨⟨_, _, (MapKept.heap_set hb).1, by rw [ed]; exact e⟩, by rw [ed]; exact h.ok, by rw [ed]; exact h.nd⟩, chg_map w g _⟩
    simp [Builtin.delete_, run_underlying hm, MapKept.run_getObj_map hb, hc, h1, MapKept.run_setObj_map _ hb, Result.andThen]
  · have ed : delM S p = S.eraseIdx j := by
      unfold delM
      have hlt := (List.getElem?_eq_some_iff.1 h5).1
      have ex := (List.getElem?_eq_some_iff.1 h5).2
      rw [List.eraseIdx_eq_take_drop_succ]
      have hsp : S = S.take j ++ (p, v0) :: S.drop (j + 1) := by
        rw [← ex, List.getElem_cons_drop, List.take_append_drop]
      conv => lhs; rw [hsp]
      rw [List.filter_append, List.filter_cons_of_neg (by simp)]
      congr 1
      · refine List.filter_eq_self.2 fun x hx => decide_eq_true fun ex => ?_
        obtain ⟨i, hi⟩ := List.getElem?_of_mem hx
        rw [List.getElem?_take] at hi
        split at hi
        · rename_i hij
          have := nd_at h.nd hi h5 ex
          omega
        · cases hi
      · refine List.filter_eq_self.2 fun x hx => decide_eq_true fun ex => ?_
        obtain ⟨i, hi⟩ := List.getElem?_of_mem hx
        rw [List.getElem?_drop] at hi
        have := nd_at h.nd hi h5 ex
        omega
    refine ⟨{ w with heap := w.heap.setIfInBounds g (.map (es.eraseIdxIfInBounds j) clock) }, fun ty => ?_, ⟨⟨_, _, (MapKept.heap_set hb).1, ?_⟩, ?_, ?_⟩, chg_map w g _⟩
    · simp [Builtin.delete_, run_underlying hm, MapKept.run_getObj_map hb, hc, h1, MapKept.run_setObj_map _ hb, Result.andThen]
    · rw [ed, Array.toList_eraseIdxIfInBounds, ← map_erase, e, map_erase]
    · rw [ed]; exact fun x hx => h.ok x (List.mem_of_mem_eraseIdx hx)
    · unfold delM; exact h.nd.sublist (List.filter_sublist.map _)
theorem run_lenM {mt e : TypeId} (hm : Try.prog.underlying mt = some (.map 40 e)) {g : Nat} {S : List (Pf × Value)} {w : World} (h : MAt g S w) (ty : TypeId) :
    (Builtin.len_ #[mt] ty #[.map (some g)]).run Try.prog w = .ok (.int .i64 (S.length : Nat)) w := by
  obtain ⟨es, clock, hb, e⟩ := h.ex
  have hl : es.size = S.length := by have := congrArg List.length e; simpa using this
  rw [← hl]
  simp [Builtin.len_, run_underlying hm, MapKept.run_getObj_map hb, goInt]
end Go.Proofs.Ytdjhgahdiggahaa

namespace Go.Proofs.Ytdjhgahdiggahaa
namespace Lf
open Tp (Pf)

structure En where
  own : Bool
  tk : Bool
  s : Nat → Int
  to : Int
  fe : Int
  a : Nat → Int
structure Td where
  p : Int
  k : Pf
  d : Int
abbrev En0 : En := ⟨false, false, fun _ => 255, 255, 255, fun _ => 0⟩
def upf (f : Nat → Int) (p : Nat) (v : Int) : Nat → Int := fun q => if q = p then v else f q
theorem upf_self (f : Nat → Int) (p : Nat) (v : Int) : upf f p v p = v := if_pos rfl
theorem upf_ne (f : Nat → Int) {p q : Nat} (v : Int) (h : q ≠ p) : upf f p v q = f q := if_neg h
def far (d c : Int) : Int := if c = 0 then 255 else min (d + c) 255
def dis (c s : Nat → Int) : Nat → Int
  | 0 => 255
  | k + 1 => min (dis c s k) (far (s k) (c k))
def dist (c : Nat → Int) (e : En) : Int := if e.own then 0 else if e.tk then dis c e.s 8 else 255
def En.act (e : En) : Bool := (List.range 8).any fun p => decide (e.a p ≠ 0)
theorem act_iff (e : En) : e.act = true ↔ ∃ p, p < 8 ∧ e.a p ≠ 0 := by
  unfold En.act
  simp
theorem act_no (e : En) : e.act = false ↔ ∀ p, p < 8 → e.a p = 0 := by
  rw [← Bool.not_eq_true, act_iff]
  constructor
  · intro h p hp
    rcases Int.lt_trichotomy (e.a p) 0 with h1 | h1 | h1
    · exact absurd ⟨p, hp, by omega⟩ h
    · exact h1
    · exact absurd ⟨p, hp, by omega⟩ h
  · rintro h ⟨p, hp, h1⟩
    exact h1 (h p hp)
def told (c : Nat → Int) (p : Pf) (d : Int) (k : Nat) : List Td := ((List.range k).filter fun q => decide (c q ≠ 0)).map fun (q : Nat) => ⟨q, p, d⟩
theorem told_succ (c : Nat → Int) (p : Pf) (d : Int) (k : Nat) : told c p d (k + 1) = told c p d k ++ (if c k = 0 then [] else [⟨k, p, d⟩]) := by
  unfold told
  rw [List.range_succ, List.filter_append, List.map_append]
  by_cases h : c k = 0 <;> simp [h]
def tellA (c : Nat → Int) (k : Nat) (a : Nat → Int) : Nat → Int := fun q => if q < k ∧ c q ≠ 0 then a q + 1 else a q
theorem tellA_zero (c : Nat → Int) (a : Nat → Int) : tellA c 0 a = a := by funext q; simp [tellA]
theorem tellA_succ (c : Nat → Int) (k : Nat) (a : Nat → Int) : tellA c (k + 1) a = if c k = 0 then tellA c k a else upf (tellA c k a) k (tellA c k a k + 1) := by
  funext q
  unfold tellA upf
  by_cases h : c k = 0
  · rw [if_pos h]
    by_cases hq : q = k
    · subst hq; simp [h]
    · have : (q < k + 1 ∧ c q ≠ 0) ↔ (q < k ∧ c q ≠ 0) := by constructor <;> rintro ⟨h1, h2⟩ <;> exact ⟨by omega, h2⟩
      simp only [this]
  · rw [if_neg h]
    by_cases hq : q = k
    · subst hq; simp [h]
    · have : (q < k + 1 ∧ c q ≠ 0) ↔ (q < k ∧ c q ≠ 0) := by constructor <;> rintro ⟨h1, h2⟩ <;> exact ⟨by omega, h2⟩
      simp only [this, if_neg hq]
/-- An entry is looked at: what becomes of it, and what is told. -/
def look (c : Nat → Int) (p : Pf) (e : En) : En × List Td :=
  if e.act then ({ e with fe := min e.fe (dist c e) }, [])
  else if e.to = dist c e then ({ e with fe := min e.to (dist c e) }, [])
  else if told c p (dist c e) 8 = [] then ({ e with to := dist c e, fe := dist c e }, [])
  else ({ e with fe := min e.to (dist c e), to := dist c e, a := tellA c 8 e.a }, told c p (dist c e) 8)

/-- Entries by their prefixes. -/
abbrev Es := List (Pf × En)
def keys (L : Es) : List Pf := L.map Prod.fst
def getE (L : Es) (q : Pf) : Option En := (L.find? fun x => decide (x.1 = q)).map Prod.snd
def atK (q : Pf) (f : En → En) (L : Es) : Es := L.map fun x => if x.1 = q then (x.1, f x.2) else x
def mapIn (K : List Pf) (f : En → En) (L : Es) : Es := L.map fun x => if x.1 ∈ K then (x.1, f x.2) else x
def outIn (K : List Pf) (o : Pf → En → List Td) (L : Es) : List Td := K.flatMap fun q => match getE L q with | some e => o q e | none => []
theorem keys_atK (q : Pf) (f : En → En) (L : Es) : keys (atK q f L) = keys L := by
  unfold keys atK
  rw [List.map_map]
  congr 1
  funext x
  simp only [Function.comp]
  split <;> rfl
theorem keys_mapIn (K : List Pf) (f : En → En) (L : Es) : keys (mapIn K f L) = keys L := by
  unfold keys mapIn
  rw [List.map_map]
  congr 1
  funext x
  simp only [Function.comp]
  split <;> rfl
theorem key_inj {L : Es} (h : (keys L).Nodup) {x y : Pf × En} (hx : x ∈ L) (hy : y ∈ L) (e : x.1 = y.1) : x = y := by
  obtain ⟨i, hi⟩ := List.getElem?_of_mem hx
  obtain ⟨j, hj⟩ := List.getElem?_of_mem hy
  have a : (keys L)[i]? = some x.1 := by unfold keys; rw [List.getElem?_map, hi]; rfl
  have b : (keys L)[j]? = some x.1 := by unfold keys; rw [List.getElem?_map, hj, e]; rfl
  obtain ⟨hi', ha⟩ := List.getElem?_eq_some_iff.1 a
  obtain ⟨hj', hb⟩ := List.getElem?_eq_some_iff.1 b
  have := (List.getElem_inj h).1 (ha.trans hb.symm)
  subst this
  rw [hi] at hj
  exact Option.some.inj hj
theorem getE_of {L : Es} (h : (keys L).Nodup) {q : Pf} {e : En} (hm : (q, e) ∈ L) : getE L q = some e := by
  unfold getE
  cases hf : L.find? (fun x => decide (x.1 = q)) with
  | none =>
    have := List.find?_eq_none.1 hf _ hm
    simp at this
  | some x =>
    have h1 : x.1 = q := of_decide_eq_true (List.find?_some (p := fun x : Pf × En => decide (x.1 = q)) hf)
    have := key_inj h (List.mem_of_find?_eq_some hf) hm h1
    rw [this]; rfl
theorem getE_mem {L : Es} {q : Pf} {e : En} (h : getE L q = some e) : (q, e) ∈ L := by
  unfold getE at h
  cases hf : L.find? (fun x => decide (x.1 = q)) with
  | none => rw [hf] at h; cases h
  | some x =>
    rw [hf] at h
    have h1 : x.1 = q := of_decide_eq_true (List.find?_some (p := fun x : Pf × En => decide (x.1 = q)) hf)
    have h2 := List.mem_of_find?_eq_some hf
    simp only [Option.map_some, Option.some.injEq] at h
    rw [← h1, ← h]; exact h2
theorem getE_none {L : Es} {q : Pf} : getE L q = none ↔ q ∉ keys L := by
  unfold getE keys
  rw [Option.map_eq_none_iff, List.find?_eq_none]
  constructor
  · intro h hm
    obtain ⟨x, hx, rfl⟩ := List.mem_map.1 hm
    simpa using h x hx
  · intro h x hx
    simp only [decide_eq_true_eq]
    rintro rfl
    exact h (List.mem_map.2 ⟨x, hx, rfl⟩)
theorem getE_key {L : Es} {q : Pf} (h : q ∈ keys L) : ∃ e, getE L q = some e := by
  cases he : getE L q with
  | none => exact absurd h (getE_none.1 he)
  | some e => exact ⟨e, rfl⟩
theorem getE_mapIn {K : List Pf} (f : En → En) {L : Es} {q : Pf} (h : q ∉ K) : getE (mapIn K f L) q = getE L q := by
  unfold getE mapIn
  induction L with
  | nil => rfl
  | cons x L ih =>
    rw [List.map_cons, List.find?_cons, List.find?_cons]
    by_cases hx : x.1 = q
    · have hk : x.1 ∉ K := by rw [hx]; exact h
      rw [if_neg hk]
      simp only [hx, decide_true, Option.map_some]
    · have : (if x.1 ∈ K then (x.1, f x.2) else x).1 = x.1 := by split <;> rfl
      rw [this]
      simp only [hx, decide_false]
      exact ih
theorem mapIn_nil (f : En → En) (L : Es) : mapIn [] f L = L := by unfold mapIn; simp
theorem mapIn_snoc {K : List Pf} {q : Pf} (f : En → En) (L : Es) (h : q ∉ K) : mapIn (K ++ [q]) f L = atK q f (mapIn K f L) := by
  unfold mapIn atK
  rw [List.map_map]
  apply List.map_congr_left
  intro x _
  simp only [Function.comp, List.mem_append, List.mem_singleton]
  by_cases h1 : x.1 ∈ K
  · have h2 : x.1 ≠ q := fun e => h (e ▸ h1)
    simp [h1, h2]
  · by_cases h2 : x.1 = q
    · rw [if_pos (Or.inr h2), if_neg h1, if_pos h2]
    · rw [if_neg (by rintro (h | h) <;> contradiction), if_neg h1, if_neg h2]
theorem mapIn_all {K : List Pf} (f : En → En) {L : Es} (h : ∀ x ∈ L, x.1 ∈ K) : mapIn K f L = L.map fun x => (x.1, f x.2) := by
  unfold mapIn
  exact List.map_congr_left fun x hx => if_pos (h x hx)
theorem outIn_snoc (K : List Pf) (q : Pf) (o : Pf → En → List Td) (L : Es) : outIn (K ++ [q]) o L = outIn K o L ++ (match getE L q with | some e => o q e | none => []) := by
  unfold outIn; simp
theorem outIn_all {o : Pf → En → List Td} {L : Es} (h : (keys L).Nodup) : outIn (keys L) o L = L.flatMap fun x => o x.1 x.2 := by
  unfold outIn keys
  rw [List.flatMap_map]
  have : ∀ x ∈ L, (match getE L x.1 with | some e => o x.1 e | none => []) = o x.1 x.2 := fun x hx => by rw [getE_of h (e := x.2) hx]
  rw [List.flatMap_def, List.flatMap_def]
  congr 1
  exact List.map_congr_left this
/-- An entry comes, in order. -/
def ins (q : Pf) (e : En) (L : Es) : Es := (L.takeWhile fun x => decide (Tp.lt x.1 q)) ++ (q, e) :: L.dropWhile fun x => decide (Tp.lt x.1 q)
theorem ins_perm (q : Pf) (e : En) (L : Es) : (ins q e L).Perm ((q, e) :: L) := by
  unfold ins
  refine List.perm_middle.trans ?_
  rw [List.takeWhile_append_dropWhile]

structure Co where
  fr : Int
  c : Nat → Int
  L : Es
structure Ev where
  k : Int
  po : Int
  co : Int
  q : Pf
  d : Int
def lookAll (σ : Co) : Co × List Td := ({ σ with L := σ.L.map fun x => (x.1, (look σ.c x.1 x.2).1) }, σ.L.flatMap fun x => (look σ.c x.1 x.2).2)
def quiet (p : Nat) (e : En) : En := { e with s := upf e.s p 255, a := upf e.a p 0 }
def down (σ : Co) (p : Nat) : Co × List Td := lookAll ⟨σ.fr, upf σ.c p 0, σ.L.map fun x => (x.1, quiet p x.2)⟩
def upE (p : Nat) (e : En) : En := if e.to = 255 then e else { e with a := upf e.a p (e.a p + 1) }
def upO (p : Nat) (q : Pf) (e : En) : List Td := if e.to = 255 then [] else [⟨p, q, e.to⟩]
def up (σ : Co) (p : Nat) (v : Int) : Co × List Td := (⟨σ.fr, upf σ.c p v, σ.L.map fun x => (x.1, upE p x.2)⟩, σ.L.flatMap fun x => upO p x.1 x.2)
def portUp (σ : Co) (p : Nat) (v : Int) : Co × List Td := if σ.c p = 0 then up σ p v else ((up (down σ p).1 p v).1, (down σ p).2 ++ (up (down σ p).1 p v).2)
def cost (σ : Co) (p : Nat) (v : Int) : Co × List Td := lookAll ⟨σ.fr, upf σ.c p v, σ.L⟩
def lookK (σ : Co) (q : Pf) : Co × List Td := ({ σ with L := atK q (fun e => (look σ.c q e).1) σ.L }, outIn [q] (fun q e => (look σ.c q e).2) σ.L)
def entry (σ : Co) (q : Pf) : Co := match getE σ.L q with | some _ => σ | none => { σ with L := ins q En0 σ.L }
def heard (σ : Co) (p : Nat) (q : Pf) (d : Int) : Co × List Td := lookK { entry σ q with L := atK q (fun e => { e with s := upf e.s p d }) (entry σ q).L } q
def less (p : Nat) (e : En) : En := { e with a := upf e.a p (e.a p - 1) }
def acked (σ : Co) (p : Nat) (q : Pf) : Co × List Td :=
  match getE σ.L q with
  | some e => if (less p e).act then ({ σ with L := atK q (less p) σ.L }, []) else lookK { σ with L := atK q (less p) σ.L } q
  | none => (σ, [])
def En.there (e : En) : Bool := e.own || ((List.range 8).any fun p => decide (e.s p ≠ 255)) || decide (e.to ≠ 255) || e.act
def leave (σ : Co) : Co := { σ with fr := σ.fr + (σ.L.countP fun x => !x.2.there && x.2.tk), L := σ.L.filter fun x => x.2.there }
def waits (L : Es) : List Pf := keys (L.filter fun x => !x.2.tk)
def takeE (c : Nat → Int) (q : Pf) (e : En) : En × List Td := look c q { e with tk := true }
def take (σ : Co) : Co × List Td :=
  let K := (waits σ.L).take σ.fr.toNat
  (⟨σ.fr - K.length, σ.c, σ.L.map fun x => if x.1 ∈ K then (x.1, (takeE σ.c x.1 x.2).1) else x⟩, outIn K (fun q e => (takeE σ.c q e).2) σ.L)
end Lf
end Go.Proofs.Ytdjhgahdiggahaa

namespace Go.Proofs.Ytdjhgahdiggahaa
open Go.RowKit
open Go.ChangeMaps (setBlock)
open Tp (Pf)

theorem inj_nodup {α β : Type} (f : α → β) {l : List α} (hn : (l.map f).Nodup) {x y : α} (hx : x ∈ l) (hy : y ∈ l) (h : f x = f y) : x = y := by
  obtain ⟨i, hi⟩ := List.getElem?_of_mem hx
  obtain ⟨j, hj⟩ := List.getElem?_of_mem hy
  have a : (l.map f)[i]? = some (f x) := by rw [List.getElem?_map, hi]; rfl
  have b : (l.map f)[j]? = some (f x) := by rw [List.getElem?_map, hj, h]; rfl
  obtain ⟨hi', ha⟩ := List.getElem?_eq_some_iff.1 a
  obtain ⟨hj', hb⟩ := List.getElem?_eq_some_iff.1 b
  have := (List.getElem_inj hn).1 (ha.trans hb.symm)
  subst this
  rw [hi] at hj
  exact Option.some.inj hj
theorem map_filters {α β γ : Type} (f : α → γ) (g : β → γ) (p : α → Bool) (q : β → Bool) : ∀ (l : List α) (m : List β), l.map f = m.map g → (∀ a ∈ l, ∀ b ∈ m, f a = g b → p a = q b) → (l.filter p).map f = (m.filter q).map g
  | [], [], _, _ => rfl
  | [], _ :: _, h, _ => by cases h
  | _ :: _, [], h, _ => by cases h
  | a :: l, b :: m, h, hp => by
    rw [List.map_cons, List.map_cons, List.cons.injEq] at h
    have ih := map_filters f g p q l m h.2 (fun a ha b hb => hp a (List.mem_cons_of_mem _ ha) b (List.mem_cons_of_mem _ hb))
    have h1 := hp a (by simp) b (by simp) h.1
    rw [List.filter_cons, List.filter_cons, h1]
    split
    · rw [List.map_cons, List.map_cons, h.1, ih]
    · exact ih
/-- All but one. -/
def outK (k : Pf) (left : List (Pf × Value)) : List (Pf × Value) := left.filter fun y => decide (y.1 ≠ k)
def kv (e : MapEntry) : Value × Value := (e.key, e.val)
def kw (x : Pf × Value) : Value × Value := (pv x.1, x.2)
/-- A map's block holds these; each entry came at a time of its own. -/
structure MB (g : Nat) (S : List (Pf × Value)) (w : World) : Prop where
  ex : ∃ es clock, w.heap[g]? = some (.map es clock) ∧ es.toList.map kv = S.map kw ∧ (es.toList.map (·.born)).Nodup ∧ ∀ e ∈ es.toList, e.born < clock
  ok : ∀ x ∈ S, Ky x.1
  nd : (S.map Prod.fst).Nodup
section
variable {g r : Nat} {S left : List (Pf × Value)} {w w' : World}
theorem MB.at (h : MB g S w) : MAt g S w := by
  obtain ⟨es, c, h1, h2, _⟩ := h.ex
  exact ⟨⟨es, c, h1, h2⟩, h.ok, h.nd⟩
theorem MB.lt (h : MB g S w) : g < w.heap.size := h.at.lt
theorem MB.new (w : World) : MB w.heap.size [] (w.alloc (.map #[] 0)) := ⟨⟨#[], 0, World.alloc_heap_new w _, rfl, by simp, by simp⟩, by simp, by simp⟩
theorem MB.same (h : MB g S w) (hg : w'.heap[g]? = w.heap[g]?) : MB g S w' := by
  obtain ⟨es, c, h1, h2⟩ := h.ex
  exact ⟨⟨es, c, hg.trans h1, h2⟩, h.ok, h.nd⟩
theorem MB.chg (h : MB g S w) {l : List Nat} (hm : Chg l w w') (hg : g ∉ l) : MB g S w' := by
  obtain ⟨es, c, h1, h2⟩ := h.ex
  exact ⟨⟨es, c, hm.heap h1 hg, h2⟩, h.ok, h.nd⟩
theorem MB.later (h : MB g S w) (hb : Below w.heap.size w w') : MB g S w' := h.chg (Chg.of_below [] hb) (by simp)
theorem run_updB {mt e : TypeId} (hm : Try.prog.underlying mt = some (.map 40 e)) (h : MB g S w) {p : Pf} (hp : Ky p) (hn : p ∉ S.map Prod.fst) (v : Value) :
    ∃ w', (Instr.mapUpdate mt (.map (some g)) (pv p) v).run Try.prog w = .ok () w' ∧ MB g (S ++ [(p, v)]) w' ∧ Chg [g] w w' := by
  obtain ⟨es, clock, hb, e, hn1, hn2⟩ := h.ex
  obtain ⟨l, hl⟩ := key_pv hp
  have hc := prefLaw.check w false hl
  rcases h.at.find e hp w with ⟨h1, h2⟩ | ⟨j, v0, e0, h1, h2, h3, h4, h5⟩
  · refine ⟨{ w with heap := w.heap.setIfInBounds g (.map (es.push { key := pv p, val := v, born := clock }) (clock + 1)) }, ?_, ⟨⟨_, _, (MapKept.heap_set hb).1, ?_, ?_, ?_⟩, ?_, ?_⟩, chg_map w g _⟩
    · simp [Instr.mapUpdate, run_underlying hm, MapKept.run_getObj_map hb, hc, h1, MapKept.run_setObj_map _ hb, Result.andThen]
    · rw [Array.toList_push, List.map_append, List.map_append, e]; rfl
    · rw [Array.toList_push, List.map_append, List.nodup_append]
      refine ⟨hn1, by simp, fun a ha b hb' => ?_⟩
      simp at hb'
      subst hb'
      obtain ⟨x, hx, rfl⟩ := List.mem_map.1 ha
      have := hn2 x hx
      omega
    · intro x hx
      rw [Array.toList_push] at hx
      rcases List.mem_append.1 hx with hx | hx
      · have := hn2 x hx; omega
      · simp at hx; subst hx; simp
    · intro x hx
      rcases List.mem_append.1 hx with hx | hx
      · exact h.ok x hx
      · rw [List.mem_singleton.1 hx]; exact hp
    · rw [List.map_append, List.nodup_append]
      exact ⟨h.nd, by simp, fun a ha b hb' => by simp at hb'; subst hb'; exact fun e => hn (e ▸ ha)⟩
  · exact absurd (List.mem_map.2 ⟨_, List.mem_of_getElem? h5, rfl⟩) hn
/-- A range over it is under way, by the iterator of block r: these are still to come. -/
structure RgB (g r : Nat) (S left : List (Pf × Value)) (w : World) : Prop where
  ex : ∃ es clock since seen c0, w.heap[g]? = some (.map es clock) ∧ w.heap[r]? = some (.mapIter (some g) since seen c0) ∧ es.toList.map kv = S.map kw ∧ (es.toList.map (·.born)).Nodup ∧ (∀ e ∈ es.toList, e.born < clock) ∧ (∀ e ∈ es.toList, e.born < since) ∧ since ≤ c0 ∧ since ≤ clock ∧ (leftOf es seen).toList.map kv = left.map kw
  ok : ∀ x ∈ S, Ky x.1
  nd : (S.map Prod.fst).Nodup
theorem RgB.map (h : RgB g r S left w) : MB g S w := by
  obtain ⟨es, clock, since, seen, c0, h1, _, h3, h4, h5, _⟩ := h.ex
  exact ⟨⟨es, clock, h1, h3, h4, h5⟩, h.ok, h.nd⟩
theorem RgB.same (h : RgB g r S left w) (hg : w'.heap[g]? = w.heap[g]?) (hr : w'.heap[r]? = w.heap[r]?) : RgB g r S left w' := by
  obtain ⟨es, clock, since, seen, c0, h1, h2, h3⟩ := h.ex
  exact ⟨⟨es, clock, since, seen, c0, hg.trans h1, hr.trans h2, h3⟩, h.ok, h.nd⟩
theorem RgB.chg (h : RgB g r S left w) {l : List Nat} (hm : Chg l w w') (hg : g ∉ l) (hr : r ∉ l) : RgB g r S left w' := by
  obtain ⟨es, clock, since, seen, c0, h1, h2, h3⟩ := h.ex
  exact ⟨⟨es, clock, since, seen, c0, hm.heap h1 hg, hm.heap h2 hr, h3⟩, h.ok, h.nd⟩
theorem RgB.later (h : RgB g r S left w) (hb : Below w.heap.size w w') : RgB g r S left w' := h.chg (Chg.of_below [] hb) (by simp) (by simp)
theorem RgB.walks (h : RgB g r S left w) (hk : KeepsWalks w w') : RgB g r S left w' := by
  obtain ⟨es, clock, since, seen, c0, h1, h2, h3⟩ := h.ex
  exact ⟨⟨es, clock, since, seen, c0, hk.same g _ h1 rfl, hk.same r _ h2 rfl, h3⟩, h.ok, h.nd⟩
theorem RgB.iter (h : RgB g r S left w) : ∃ o : Obj, w.heap[r]? = some o ∧ o.isWalk = true := by
  obtain ⟨es, clock, since, seen, c0, h1, h2, h3⟩ := h.ex
  exact ⟨_, h2, rfl⟩
theorem RgB.ne (h : RgB g r S left w) : g ≠ r := by
  obtain ⟨es, clock, since, seen, c0, h1, h2, h3⟩ := h.ex
  rintro rfl
  rw [h1] at h2; cases h2
theorem kw_inj {x y : Pf × Value} (h : kw x = kw y) : x = y := by
  unfold kw at h
  exact Prod.ext (pv_inj (Prod.mk.inj h).1) (Prod.mk.inj h).2
theorem RgB.sub (h : RgB g r S left w) : ∀ x ∈ left, x ∈ S := by
  obtain ⟨es, clock, since, seen, c0, h1, h2, h3, h4, h5, h6, h7, h8, h9⟩ := h.ex
  intro x hx
  have : kw x ∈ (leftOf es seen).toList.map kv := by rw [h9]; exact List.mem_map.2 ⟨x, hx, rfl⟩
  obtain ⟨e, he, hek⟩ := List.mem_map.1 this
  have h10 : kv e ∈ S.map kw := by rw [← h3]; exact List.mem_map.2 ⟨e, (mem_left he).1, rfl⟩
  obtain ⟨y, hy, hyk⟩ := List.mem_map.1 h10
  rw [← kw_inj (hyk.trans hek)]; exact hy
theorem key_es {es : Array MapEntry} (h3 : es.toList.map kv = S.map kw) (nd : (S.map Prod.fst).Nodup) : (es.toList.map (·.key)).Nodup := by
  have e1 : es.toList.map (·.key) = (S.map Prod.fst).map pv := by
    have := congrArg (List.map Prod.fst) h3
    rw [List.map_map, List.map_map] at this
    rw [List.map_map]
    exact this
  rw [e1]
  exact List.Pairwise.map _ (fun a b hab e => hab (pv_inj e)) nd
theorem MB.range (h : MB g S w) {t k e : TypeId} (ht : Try.prog.underlying t = some (.map k e)) :
    ∃ it, (Instr.range t (.map (some g))).run Try.prog w = .ok (.pointer (some ⟨w.heap.size, 0, none⟩)) (w.alloc it) ∧ RgB g w.heap.size S S (w.alloc it) := by
  obtain ⟨es, clock, h1, h2, h3, h4⟩ := h.ex
  refine ⟨.mapIter (some g) clock #[] clock, run_range_map w t k e g es clock ht h1, ⟨⟨es, clock, clock, #[], clock, ?_, World.alloc_heap_new w _, h2, h3, h4, h4, Nat.le_refl _, Nat.le_refl _, ?_⟩, h.ok, h.nd⟩⟩
  · exact ((ba1 w _).block _ (Array.getElem?_eq_some_iff.1 h1).1).trans h1
  · have : leftOf es #[] = es := by unfold leftOf; simp
    rw [this]; exact h2
/-- One more comes, whichever, or none is left. -/
theorem RgB.next (h : RgB g r S left w) (ty : TypeId) :
    (left = [] ∧ (Instr.next (.pointer (some ⟨r, 0, none⟩)) false ty).run Try.prog w = .ok (.tuple #[.bool false]) w) ∨
    ∃ x ∈ left, ∃ w', (Instr.next (.pointer (some ⟨r, 0, none⟩)) false ty).run Try.prog w = .ok (.tuple #[.bool true, pv x.1, x.2]) w' ∧ RgB g r S (outK x.1 left) w' ∧
      (Instr.entry (.pointer (some ⟨r, 0, none⟩))).run Try.prog w' = .ok (.tuple #[pv x.1, x.2]) w' ∧ w.grownBy w' (some r) ∧ w'.heap.size = w.heap.size := by
  obtain ⟨es, clock, since, seen, c0, h1, h2, h3, h4, h5, h6, h7, h8, h9⟩ := h.ex
  rcases run_next_at (P := Try.prog) w ty r g since c0 seen es clock h2 h1 h6 h7 with ⟨h0, hrun⟩ | ⟨e, he, w1, hal, hrun⟩
  · refine .inl ⟨?_, hrun⟩
    have : (leftOf es seen).toList = [] := by rw [← List.length_eq_zero_iff]; simpa using h0
    rw [this] at h9
    exact List.map_eq_nil_iff.1 h9.symm
  · have hmem : kv e ∈ left.map kw := by rw [← h9]; exact List.mem_map.2 ⟨e, he, rfl⟩
    obtain ⟨x, hx, hxk⟩ := List.mem_map.1 hmem
    have hk1 : e.key = pv x.1 := (Prod.mk.inj hxk).1.symm
    have hk2 : e.val = x.2 := (Prod.mk.inj hxk).2.symm
    have hes := (mem_left he).1
    have hr1 : w1.heap[r]? = some (.mapIter (some g) since seen c0) := by rcases hal with rfl | rfl <;> exact h2
    have hb1 : w1.heap[g]? = some (.map es clock) := by rcases hal with rfl | rfl <;> exact h1
    have hlt : r < w1.heap.size := (Array.getElem?_eq_some_iff.1 hr1).1
    have hrr : (setBlock w1 r (.mapIter (some g) since (seen.push e.born) clock)).heap[r]? = some (.mapIter (some g) since (seen.push e.born) clock) := by
      show (w1.heap.setIfInBounds r _)[r]? = _
      simp [hlt]
    have hot : ∀ i, i ≠ r → (setBlock w1 r (.mapIter (some g) since (seen.push e.born) clock)).heap[i]? = w1.heap[i]? := fun i hi => by
      show (w1.heap.setIfInBounds r _)[i]? = _
      rw [Array.getElem?_setIfInBounds, if_neg (fun e => hi e.symm)]
    have hgg := (hot g h.ne).trans hb1
    have hkn := key_es h3 h.nd
    refine .inr ⟨x, hx, _, by rw [hrun, hk1, hk2], ⟨⟨es, clock, since, seen.push e.born, clock, hgg, hrr, h3, h4, h5, h6, h8, h8, ?_⟩, h.ok, h.nd⟩, ?_, ?_, ?_⟩
    · have hf : (leftOf es (seen.push e.born)).toList = (leftOf es seen).toList.filter fun y => decide (y.born ≠ e.born) := by
        unfold leftOf
        rw [Array.toList_filter, Array.toList_filter, List.filter_filter]
        apply List.filter_congr
        intro y _
        rw [contains_push]
        by_cases h : y.born = e.born <;> simp [h]
      rw [hf]
      unfold outK
      refine map_filters kv kw _ _ _ _ h9 (fun a ha b _ hab => ?_)
      have ha' := (mem_left ha).1
      have hak : a.key = pv b.1 := (Prod.mk.inj hab).1
      by_cases hbn : a.born = e.born
      · have : a = e := born_inj h4 ha' hes hbn
        subst this
        have : b.1 = x.1 := pv_inj (hak.symm.trans hk1)
        simp [this]
      · have : b.1 ≠ x.1 := fun e1 => hbn (by rw [inj_nodup (·.key) hkn ha' hes (by show a.key = e.key; rw [hak, hk1, e1])])
        simp [hbn, this]
    · rw [run_entry_at _ r g since seen es clock e hrr hgg hes h4, hk1, hk2]
    · rcases hal with rfl | rfl <;> exact ⟨rfl, rfl, rfl, by simp [setBlock], fun i _ hi => hot i (fun e1 => hi (by rw [e1]))⟩
    · rcases hal with rfl | rfl <;> simp [setBlock]
theorem filter_erase {α : Type} (q : α → Bool) {l : List α} {j : Nat} {x : α} (hj : l[j]? = some x) (hq : q x = false) : (l.eraseIdx j).filter q = l.filter q := by
  obtain ⟨hlt, hx⟩ := List.getElem?_eq_some_iff.1 hj
  rw [List.eraseIdx_eq_take_drop_succ]
  conv => rhs; rw [← List.take_append_drop j l, ← List.getElem_cons_drop hlt]
  rw [List.filter_append, List.filter_append, List.filter_cons_of_neg (by rw [hx, hq]; decide)]
/-- An entry that came already is deleted. -/
theorem RgB.del {mt e : TypeId} (hm : Try.prog.underlying mt = some (.map 40 e)) (h : RgB g r S left w) {p : Pf} (hp : Ky p) (hl : p ∉ left.map Prod.fst) :
    ∃ w', (∀ ty, (Builtin.delete_ #[mt, 40] ty #[.map (some g), pv p]).run Try.prog w = .ok (.tuple #[]) w') ∧ RgB g r (delM S p) left w' ∧ Chg [g] w w' := by
  obtain ⟨es, clock, since, seen, c0, h1, h2, h3, h4, h5, h6, h7, h8, h9⟩ := h.ex
  obtain ⟨w', hrun, hM, hC⟩ := run_delM hm h.map.at hp
  refine ⟨w', hrun, ?_, hC⟩
  obtain ⟨l, hkl⟩ := key_pv hp
  have hc := prefLaw.check w es.isEmpty hkl
  rcases h.map.at.find h3 hp w with ⟨g1, g2⟩ | ⟨j, v0, e0, g1, g2, g3, g4, g5⟩
  · have ed : delM S p = S := List.filter_eq_self.2 fun x hx => decide_eq_true fun ex => g2 (List.mem_map.2 ⟨x, hx, ex⟩)
    have e1 : (Builtin.delete_ #[mt, 40] 0 #[.map (some g), pv p]).run Try.prog w = .ok (.tuple #[]) { w with heap := w.heap.setIfInBounds g (.map es clock) } := by
      simp [Builtin.delete_, run_underlying hm, MapKept.run_getObj_map h1, hc, g1, MapKept.run_setObj_map _ h1, Result.andThen]
    have e2 := (hrun 0).symm.trans e1
    simp only [Result.ok.injEq, true_and] at e2
    subst e2
    exact ⟨⟨es, clock, since, seen, c0, (MapKept.heap_set h1).1, ((MapKept.heap_set h1).2 r h.ne.symm).trans h2, by rw [ed]; exact h3, h4, h5, h6, h7, h8, h9⟩, hM.ok, hM.nd⟩
  · have e1 : (Builtin.delete_ #[mt, 40] 0 #[.map (some g), pv p]).run Try.prog w = .ok (.tuple #[]) { w with heap := w.heap.setIfInBounds g (.map (es.eraseIdxIfInBounds j) clock) } := by
      simp [Builtin.delete_, run_underlying hm, MapKept.run_getObj_map h1, hc, g1, MapKept.run_setObj_map _ h1, Result.andThen]
    have e2 := (hrun 0).symm.trans e1
    simp only [Result.ok.injEq, true_and] at e2
    subst e2
    obtain ⟨es', c', q1, q2⟩ := hM.ex
    rw [(MapKept.heap_set h1).1] at q1
    simp only [Option.some.injEq, Obj.map.injEq] at q1
    obtain ⟨rfl, rfl⟩ := q1
    have hsub : ∀ x ∈ (es.eraseIdxIfInBounds j).toList, x ∈ es.toList := fun x hx => by
      rw [Array.toList_eraseIdxIfInBounds] at hx; exact List.mem_of_mem_eraseIdx hx
    refine ⟨⟨_, _, since, seen, c0, (MapKept.heap_set h1).1, ((MapKept.heap_set h1).2 r h.ne.symm).trans h2, q2, ?_, fun x hx => h5 x (hsub x hx), fun x hx => h6 x (hsub x hx), h7, h8, ?_⟩, hM.ok, hM.nd⟩
    · rw [Array.toList_eraseIdxIfInBounds, ← map_erase]
      exact h4.sublist (List.eraseIdx_sublist ..)
    · have hnot : (!seen.contains e0.born) = false := by
        cases hs : (!seen.contains e0.born) with
        | false => rfl
        | true =>
          exfalso
          have hin : e0 ∈ (leftOf es seen).toList := by
            unfold leftOf
            rw [Array.toList_filter, List.mem_filter]
            exact ⟨List.mem_of_getElem? g2, hs⟩
          have : kv e0 ∈ left.map kw := by rw [← h9]; exact List.mem_map.2 ⟨e0, hin, rfl⟩
          obtain ⟨y, hy, hyk⟩ := List.mem_map.1 this
          exact hl (List.mem_map.2 ⟨y, hy, pv_inj ((Prod.mk.inj hyk).1.trans g3)⟩)
      have : (leftOf (es.eraseIdxIfInBounds j) seen).toList = (leftOf es seen).toList := by
        unfold leftOf
        rw [Array.toList_filter, Array.toList_filter, Array.toList_eraseIdxIfInBounds]
        exact filter_erase _ g2 hnot
      rw [this]; exact h9
end
section
variable {w : World} {ops : Array Oper} {rest : List Oper} {o : Oper} {a : Act} {Q : Exit → Act → World → Prop} {F : Fence} {n : Nat}
theorem wpList_rangeB (hg : o.guard = none) (m : Operand) (t k e : TypeId) (hop : o.op = Op.range t m) (ht : Try.prog.underlying t = some (.map k e)) {b : Nat} {S : List (Pf × Value)} (hm : a.eval m = .map (some b)) (h : MB b S w)
    (hK : ∀ it, RgB b w.heap.size S S (w.alloc it) → wpList Try.prog ops Q rest (a.put o.dst (.pointer (some ⟨w.heap.size, 0, none⟩))) (w.alloc it)) : wpList Try.prog ops Q (o :: rest) a w := by
  refine wpList_plain hg fun K' hK' => ?_
  obtain ⟨it, hrun, hr⟩ := h.range ht
  unfold Oper.wp
  simp [execOp, hop, hm, hrun, Result.andThen]
  exact hK' _ _ (hK it hr)
theorem wpListIn_rangeB (hg : o.guard = none) (m : Operand) (t k e : TypeId) (hop : o.op = Op.range t m) (ht : Try.prog.underlying t = some (.map k e)) {b : Nat} {S : List (Pf × Value)} (hm : a.eval m = .map (some b)) (h : MB b S w)
    (hK : ∀ it, RgB b w.heap.size S S (w.alloc it) → wpListIn F n Try.prog ops Q rest (a.put o.dst (.pointer (some ⟨w.heap.size, 0, none⟩))) (w.alloc it)) : wpListIn F n Try.prog ops Q (o :: rest) a w := by
  refine wpListIn_plain hg fun K' hK' => ?_
  obtain ⟨it, hrun, hr⟩ := h.range ht
  unfold Oper.wpIn
  refine ⟨by simp [Oper.about, hop], ?_⟩
  rw [Oper.semAt_plain F _ _ (by rw [hop]; intro c hc'; cases hc')]
  simp [execOp, hop, hm, hrun, Result.andThen]
  exact hK' _ _ (hK it hr)
theorem wpList_nextB (hg : o.guard = none) (it : Operand) (hop : o.op = Op.next it false) {b r : Nat} {S left : List (Pf × Value)} (hit : a.eval it = .pointer (some ⟨r, 0, none⟩)) (h : RgB b r S left w)
    (hDone : left = [] → wpList Try.prog ops Q rest (a.put o.dst (.tuple #[.bool false])) w)
    (hMore : ∀ (x : Pf × Value) (w' : World), x ∈ left → RgB b r S (outK x.1 left) w' → (Instr.entry (.pointer (some ⟨r, 0, none⟩))).run Try.prog w' = .ok (.tuple #[pv x.1, x.2]) w' → w.grownBy w' (some r) → w'.heap.size = w.heap.size →
      wpList Try.prog ops Q rest (a.put o.dst (.tuple #[.bool true, pv x.1, x.2])) w') : wpList Try.prog ops Q (o :: rest) a w := by
  refine wpList_plain hg fun K' hK' => ?_
  unfold Oper.wp
  rcases h.next o.type with ⟨h0, hrun⟩ | ⟨x, hx, w', hrun, hrg, hen, hgr, hsz⟩
  · simp [execOp, hop, hit, hrun, Result.andThen]
    exact hK' _ _ (hDone h0)
  · simp [execOp, hop, hit, hrun, Result.andThen]
    exact hK' _ _ (hMore x w' hx hrg hen hgr hsz)
theorem wpListIn_nextB (hg : o.guard = none) (it : Operand) (hop : o.op = Op.next it false) {b r : Nat} {S left : List (Pf × Value)} (hit : a.eval it = .pointer (some ⟨r, 0, none⟩)) (h : RgB b r S left w)
    (hDone : left = [] → wpListIn F n Try.prog ops Q rest (a.put o.dst (.tuple #[.bool false])) w)
    (hMore : ∀ (x : Pf × Value) (w' : World), x ∈ left → RgB b r S (outK x.1 left) w' → (Instr.entry (.pointer (some ⟨r, 0, none⟩))).run Try.prog w' = .ok (.tuple #[pv x.1, x.2]) w' → w.grownBy w' (some r) → w'.heap.size = w.heap.size →
      wpListIn F n Try.prog ops Q rest (a.put o.dst (.tuple #[.bool true, pv x.1, x.2])) w') : wpListIn F n Try.prog ops Q (o :: rest) a w := by
  refine wpListIn_plain hg fun K' hK' => ?_
  unfold Oper.wpIn
  refine ⟨by simp [Oper.about, hop], ?_⟩
  rw [Oper.semAt_plain F _ _ (by rw [hop]; intro c hc'; cases hc')]
  rcases h.next o.type with ⟨h0, hrun⟩ | ⟨x, hx, w', hrun, hrg, hen, hgr, hsz⟩
  · simp [execOp, hop, hit, hrun, Result.andThen]
    exact hK' _ _ (hDone h0)
  · simp [execOp, hop, hit, hrun, Result.andThen]
    exact hK' _ _ (hMore x w' hx hrg hen hgr hsz)
end
end Go.Proofs.Ytdjhgahdiggahaa

namespace Go.Proofs.Ytdjhgahdiggahaa
open Go.RowKit

theorem app_fresh {w w' : World} {v' : Value} (base : Nat) (t ty e : TypeId) (i : TypeInfo) (z : Value) (size bytes : Nat) (ht : (Try.prog).underlying t = some (.slice e)) (hi : (Try.prog).info? e = some i) (hz : i.zero = some z)
    (hsize : i.size = size) (hby : i.bytes = bytes) (hzs : z.cells.size = size) (hsz : 0 < size)
    (v : Value) (n : Nat) (xs : List Value) (hown : w.ownsRow base e size v n xs)
    (a : Addr) (m c : Nat) (news : List Value) (hl : news.length = m * size) (hnews : ∀ j u, news[j]? = some u → w.cell? (a.add j) = some u) (h1 : ∀ u ∈ news, u.oneCell' = true)
    (h63 : n + m ≤ maxLen) (hbytes : (n + m) * bytes ≤ 140737488355328)
    (hr : (Builtin.append_ #[t, t] ty #[v, .slice (some a) m c]).run Try.prog w = .ok v' w') (g : Nat) (hg : v'.ownBlock = some g) : v.ownBlock = some g ∨ w.heap.size ≤ g := by
  subst hsize
  subst hby
  rcases hown.2 with ⟨rfl, rfl⟩ | ⟨g0, cap, cur, rfl, hbg, hg0, hnc, hcm, hcs, htake⟩
  · have hx : xs = [] := List.eq_nil_of_length_eq_zero (by simpa using hown.1)
    subst hx
    obtain ⟨v2, w2, hr2, ho2, _⟩ := run_append_own (P := Try.prog) (w := w) w.heap.size t ty e i z i.size i.bytes ht hi hz rfl rfl hzs hsz (.slice none 0 0) 0 [] (World.ownsRow_nil w _ _ _) a m c news hl hnews h1 h63 hbytes (Nat.le_refl _)
    rw [hr2] at hr
    cases hr
    exact .inr (ho2.lt g hg).1
  · by_cases hroom : n + m ≤ cap
    · have hfit : n * i.size + news.length ≤ cur.size := by rw [hl, hcs, ← Nat.add_mul]; exact Nat.mul_le_mul_right _ hroom
      have hr2 := run_append_room (P := Try.prog) w t ty e i ht hi g0 n cap cur hg0 a m c news hl hnews h1 hroom hfit
      rw [hr2] at hr
      cases hr
      exact .inl hg
    · have holds : ∀ j u, xs[j]? = some u → w.cell? ((⟨g0, 0, none⟩ : Addr).add j) = some u := hown.cells (g := g0) rfl
      have hr2 := run_append_grow (P := Try.prog) w t ty e i z ht hi hz ⟨g0, 0, none⟩ n cap xs hown.1 holds a m c news hl hnews (by omega) (by unfold maxLen at h63; omega) (growslice_fits (by omega) hbytes)
      rw [hr2] at hr
      cases hr
      simp [Value.ownBlock] at hg
      exact .inr (by omega)
/-- The old row's cells stand, behind an append to it. -/
theorem app_keeps {w w' : World} {v' : Value} (base : Nat) (t ty e : TypeId) (i : TypeInfo) (z : Value) (size bytes : Nat) (ht : (Try.prog).underlying t = some (.slice e)) (hi : (Try.prog).info? e = some i) (hz : i.zero = some z)
    (hsize : i.size = size) (hby : i.bytes = bytes) (hzs : z.cells.size = size) (hsz : 0 < size)
    (v : Value) (n : Nat) (xs : List Value) (hown : w.ownsRow base e size v n xs)
    (a : Addr) (m c : Nat) (news : List Value) (hl : news.length = m * size) (hnews : ∀ j u, news[j]? = some u → w.cell? (a.add j) = some u) (h1 : ∀ u ∈ news, u.oneCell' = true)
    (h63 : n + m ≤ maxLen) (hbytes : (n + m) * bytes ≤ 140737488355328) (hbase : base ≤ w.heap.size)
    (hr : (Builtin.append_ #[t, t] ty #[v, .slice (some a) m c]).run Try.prog w = .ok v' w') (g : Nat) (hg : v.ownBlock = some g) : ∀ j u, xs[j]? = some u → w'.cell? ((⟨g, 0, none⟩ : Addr).add j) = some u := by
  obtain ⟨v2, w2, hr2, ho2, _⟩ := run_append_own (P := Try.prog) (w := w) base t ty e i z size bytes ht hi hz hsize hby hzs hsz v n xs hown a m c news hl hnews h1 h63 hbytes hbase
  rw [hr2] at hr
  cases hr
  subst hsize
  subst hby
  rcases hown.2 with ⟨rfl, rfl⟩ | ⟨g0, cap, cur, rfl, hbg, hg0, hnc, hcm, hcs, htake⟩
  · simp [Value.ownBlock] at hg
  · obtain rfl : g0 = g := by simpa [Value.ownBlock] using hg
    by_cases hroom : n + m ≤ cap
    · have hfit : n * i.size + news.length ≤ cur.size := by rw [hl, hcs, ← Nat.add_mul]; exact Nat.mul_le_mul_right _ hroom
      have hr3 := run_append_room (P := Try.prog) w t ty e i ht hi g0 n cap cur hg0 a m c news hl hnews h1 hroom hfit
      rw [hr3] at hr2
      cases hr2
      intro j u hj
      exact ho2.cells (g := g0) rfl j u (by rw [List.getElem?_append_left (List.getElem?_eq_some_iff.1 hj).1]; exact hj)
    · have holds : ∀ j u, xs[j]? = some u → w.cell? ((⟨g0, 0, none⟩ : Addr).add j) = some u := hown.cells (g := g0) rfl
      have hr3 := run_append_grow (P := Try.prog) w t ty e i z ht hi hz ⟨g0, 0, none⟩ n cap xs hown.1 holds a m c news hl hnews (by omega) (by unfold maxLen at h63; omega) (growslice_fits (by omega) hbytes)
      rw [hr3] at hr2
      cases hr2
      intro j u hj
      have hb : Below w.heap.size w (w.drew.alloc (.cells (xs.toArray ++ news.toArray ++ Builtin.zeroCells z.cells (grownCap w (n + m) cap e - (n + m))) e)) := (Below.refl _ _).drew.trans (show Below w.heap.size w.drew _ from ba1 w.drew _)
      exact cell_later hb (holds j u hj)
end Go.Proofs.Ytdjhgahdiggahaa

namespace Go.Proofs.Ytdjhgahdiggahaa
open Go.RowKit

theorem add0 (g k : Nat) : (⟨g, 0, none⟩ : Addr).add k = ⟨g, k, none⟩ := by cases k <;> simp [Addr.add]
/-- append of whatever comes, by what its run leaves. -/
theorem wpList_appG {w : World} {ops : Array Oper} {rest : List Oper} {o : Oper} {a : Act} {Q : Exit → Act → World → Prop} (hgd : o.guard = none) (s x : Operand) (t t' : TypeId)
    (ho : o.op = .call { callee := .builtin .append, args := #[s, x], argTypes := #[t, t'] }) (v u : Value) (R : Value → World → Prop) (hs : a.eval s = v) (hx : a.eval x = u)
    (hr : ∀ ty, ∃ v' w', (Builtin.append_ #[t, t'] ty #[v, u]).run Try.prog w = .ok v' w' ∧ R v' w') (h : ∀ v' w', R v' w' → wpList Try.prog ops Q rest (a.put o.dst v') w') : wpList Try.prog ops Q (o :: rest) a w :=
  wpList_plain hgd fun K hK => by
    obtain ⟨v', w', hr, h2⟩ := hr o.type
    unfold Oper.wp execOp
    simp only [ho, resolve, invoke, builtin, Sem.run_bind, Sem.run_pure, Result.andThen_ok, List.map_toArray, List.map_cons, List.map_nil, hs, hx, hr]
    exact hK _ _ (h v' w' h2)
/-- At a step of a region that draws its order. -/
theorem step_appG {w : World} {ops : Array Oper} {o : Oper} {a : Act} {K : Act → World → Prop} {Q : Exit → Act → World → Prop} {E : Prop} (hgd : o.guard = none) (s x : Operand) (t t' : TypeId)
    (ho : o.op = .call { callee := .builtin .append, args := #[s, x], argTypes := #[t, t'] }) (v u : Value) (R : Value → World → Prop) (hs : a.eval s = v) (hx : a.eval x = u)
    (hr : ∀ ty, ∃ v' w', (Builtin.append_ #[t, t'] ty #[v, u]).run Try.prog w = .ok v' w' ∧ R v' w') (h : ∀ v' w', R v' w' → K (a.put o.dst v') w') :
    if Region.wanted o (yielded ops a.tmps) = true then Oper.wp Try.prog o a w K Q else E := by
  have hw : Region.wanted o (yielded ops a.tmps) = true := by simp [Region.wanted, hgd]
  rw [if_pos hw]
  obtain ⟨v', w', hr, h2⟩ := hr o.type
  unfold Oper.wp execOp
  simp only [ho, resolve, invoke, builtin, Sem.run_bind, Sem.run_pure, Result.andThen_ok, List.map_toArray, List.map_cons, List.map_nil, hs, hx, hr]
  exact h v' w' h2
end Go.Proofs.Ytdjhgahdiggahaa
