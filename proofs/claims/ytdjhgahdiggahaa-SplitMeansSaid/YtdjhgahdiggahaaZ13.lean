/- Rows of ints in blocks of their own: made, sorted; the closure by which places are put in order.
   compare, and slices.SortFunc by it: a slice of prefixes in order.
   A slice of things of k cells each that is owned: read, append.
   append of whatever comes, by what its run leaves.
   append to an owned slice: its block is the old one or a new one.
   A map whose keys are prefixes, and a range over it: what it holds, and what is still to come. -/
import Derived.Maps.RangeWalk
import Derived.Sort.MapsRangeIn
import Derived.RangeFuncSeq
import Derived.Shelf.SlSortCmp.WholeK
import Derived.Shelf.Small.Bits
import Derived.Shelf.Lay
import Derived.Laws.OwnMore
import Derived.Test.YtdjhgahdiggahaaZ01
import Derived.Test.YtdjhgahdiggahaaZ03
import Derived.Test.YtdjhgahdiggahaaZ04
import Derived.Test.YtdjhgahdiggahaaZ07
import Derived.Test.YtdjhgahdiggahaaZ10
import Derived.Test.YtdjhgahdiggahaaZ12

set_option linter.unusedSimpArgs false
set_option linter.unusedVariables false
namespace Go.Proofs.Ytdjhgahdiggahaa
open Go.RowKit
open Go.ChangeMaps (setBlock)
open Tp (Pf)

theorem inj_nodup {α β : Type} (f : α → β) {l : List α} (hn : (l.map f).Nodup) {x y : α} (hx : x ∈ l) (hy : y ∈ l) (h : f x = f y) : x = y := by
  obtain ⟨i, hi⟩ := List.getElem?_of_mem hx
  obtain ⟨j, hj⟩ := List.getElem?_of_mem hy
  have a : (l.map f)[i]? = some (f x) := by rw [List.getElem?_map, hi]; rfl
  have b : (l.map f)[j]? = some (f x) := by rw [List.getElem?_map, hj, h]; rfl
  obtain ⟨hi', ha⟩ := List.getElem?_eq_some_iff.1 a
  obtain ⟨hj', hb⟩ := List.getElem?_eq_some_iff.1 b
  have := (List.getElem_inj hn).1 (ha.trans hb.symm)
  subst this
  rw [hi] at hj
  exact Option.some.inj hj
theorem map_filters {α β γ : Type} (f : α → γ) (g : β → γ) (p : α → Bool) (q : β → Bool) : ∀ (l : List α) (m : List β), l.map f = m.map g → (∀ a ∈ l, ∀ b ∈ m, f a = g b → p a = q b) → (l.filter p).map f = (m.filter q).map g
  | [], [], _, _ => rfl
  | [], _ :: _, h, _ => by cases h
  | _ :: _, [], h, _ => by cases h
  | a :: l, b :: m, h, hp => by
    rw [List.map_cons, List.map_cons, List.cons.injEq] at h
    have ih := map_filters f g p q l m h.2 (fun a ha b hb => hp a (List.mem_cons_of_mem _ ha) b (List.mem_cons_of_mem _ hb))
    have h1 := hp a (by simp) b (by simp) h.1
    rw [List.filter_cons, List.filter_cons, h1]
    split
    · rw [List.map_cons, List.map_cons, h.1, ih]
    · exact ih
/-- All but one. -/
def outK (k : Pf) (left : List (Pf × Value)) : List (Pf × Value) := left.filter fun y => decide (y.1 ≠ k)
def kv (e : MapEntry) : Value × Value := (e.key, e.val)
def kw (x : Pf × Value) : Value × Value := (pv x.1, x.2)
/-- A map's block holds these; each entry came at a time of its own. -/
structure MB (g : Nat) (S : List (Pf × Value)) (w : World) : Prop where
  ex : ∃ es clock, w.heap[g]? = some (.map es clock) ∧ es.toList.map kv = S.map kw ∧ (es.toList.map (·.born)).Nodup ∧ ∀ e ∈ es.toList, e.born < clock
  ok : ∀ x ∈ S, Ky x.1
  nd : (S.map Prod.fst).Nodup
section
variable {g r : Nat} {S left : List (Pf × Value)} {w w' : World}
theorem MB.at (h : MB g S w) : MAt g S w := by
  obtain ⟨es, c, h1, h2, _⟩ := h.ex
  exact ⟨⟨es, c, h1, h2⟩, h.ok, h.nd⟩
theorem MB.lt (h : MB g S w) : g < w.heap.size := h.at.lt
theorem MB.new (w : World) : MB w.heap.size [] (w.alloc (.map #[] 0)) := ⟨⟨#[], 0, World.alloc_heap_new w _, rfl, by simp, by simp⟩, by simp, by simp⟩
theorem MB.same (h : MB g S w) (hg : w'.heap[g]? = w.heap[g]?) : MB g S w' := by
  obtain ⟨es, c, h1, h2⟩ := h.ex
  exact ⟨⟨es, c, hg.trans h1, h2⟩, h.ok, h.nd⟩
theorem MB.chg (h : MB g S w) {l : List Nat} (hm : Chg l w w') (hg : g ∉ l) : MB g S w' := by
  obtain ⟨es, c, h1, h2⟩ := h.ex
  exact ⟨⟨es, c, hm.heap h1 hg, h2⟩, h.ok, h.nd⟩
theorem MB.later (h : MB g S w) (hb : Below w.heap.size w w') : MB g S w' := h.chg (Chg.of_below [] hb) (by simp)
theorem run_updB {mt e : TypeId} (hm : Try.prog.underlying mt = some (.map 40 e)) (h : MB g S w) {p : Pf} (hp : Ky p) (hn : p ∉ S.map Prod.fst) (v : Value) :
    ∃ w', (Instr.mapUpdate mt (.map (some g)) (pv p) v).run Try.prog w = .ok () w' ∧ MB g (S ++ [(p, v)]) w' ∧ Chg [g] w w' := by
  obtain ⟨es, clock, hb, e, hn1, hn2⟩ := h.ex
  obtain ⟨l, hl⟩ := key_pv hp
  have hc := prefLaw.check w false hl
  rcases h.at.find e hp w with ⟨h1, h2⟩ | ⟨j, v0, e0, h1, h2, h3, h4, h5⟩
  · refine ⟨{ w with heap := w.heap.setIfInBounds g (.map (es.push { key := pv p, val := v, born := clock }) (clock + 1)) }, ?_, ⟨⟨_, _, (MapKept.heap_set hb).1, ?_, ?_, ?_⟩, ?_, ?_⟩, chg_map w g _⟩
    · simp [Instr.mapUpdate, run_underlying hm, MapKept.run_getObj_map hb, hc, h1, MapKept.run_setObj_map _ hb, Result.andThen]
    · rw [Array.toList_push, List.map_append, List.map_append, e]; rfl
    · rw [Array.toList_push, List.map_append, List.nodup_append]
      refine ⟨hn1, by simp, fun a ha b hb' => ?_⟩
      simp at hb'
      subst hb'
      obtain ⟨x, hx, rfl⟩ := List.mem_map.1 ha
      have := hn2 x hx
      omega
    · intro x hx
      rw [Array.toList_push] at hx
      rcases List.mem_append.1 hx with hx | hx
      · have := hn2 x hx; omega
      · simp at hx; subst hx; simp
    · intro x hx
      rcases List.mem_append.1 hx with hx | hx
      · exact h.ok x hx
      · rw [List.mem_singleton.1 hx]; exact hp
    · rw [List.map_append, List.nodup_append]
      exact ⟨h.nd, by simp, fun a ha b hb' => by simp at hb'; subst hb'; exact fun e => hn (e ▸ ha)⟩
  · exact absurd (List.mem_map.2 ⟨_, List.mem_of_getElem? h5, rfl⟩) hn
/-- A range over it is under way, by the iterator of block r: these are still to come. -/
structure RgB (g r : Nat) (S left : List (Pf × Value)) (w : World) : Prop where
  ex : ∃ es clock since seen c0, w.heap[g]? = some (.map es clock) ∧ w.heap[r]? = some (.mapIter (some g) since seen c0) ∧ es.toList.map kv = S.map kw ∧ (es.toList.map (·.born)).Nodup ∧ (∀ e ∈ es.toList, e.born < clock) ∧ (∀ e ∈ es.toList, e.born < since) ∧ since ≤ c0 ∧ since ≤ clock ∧ (leftOf es seen).toList.map kv = left.map kw
  ok : ∀ x ∈ S, Ky x.1
  nd : (S.map Prod.fst).Nodup
theorem RgB.map (h : RgB g r S left w) : MB g S w := by
  obtain ⟨es, clock, since, seen, c0, h1, _, h3, h4, h5, _⟩ := h.ex
  exact ⟨⟨es, clock, h1, h3, h4, h5⟩, h.ok, h.nd⟩
theorem RgB.same (h : RgB g r S left w) (hg : w'.heap[g]? = w.heap[g]?) (hr : w'.heap[r]? = w.heap[r]?) : RgB g r S left w' := by
  obtain ⟨es, clock, since, seen, c0, h1, h2, h3⟩ := h.ex
  exact ⟨⟨es, clock, since, seen, c0, hg.trans h1, hr.trans h2, h3⟩, h.ok, h.nd⟩
theorem RgB.chg (h : RgB g r S left w) {l : List Nat} (hm : Chg l w w') (hg : g ∉ l) (hr : r ∉ l) : RgB g r S left w' := by
  obtain ⟨es, clock, since, seen, c0, h1, h2, h3⟩ := h.ex
  exact ⟨⟨es, clock, since, seen, c0, hm.heap h1 hg, hm.heap h2 hr, h3⟩, h.ok, h.nd⟩
theorem RgB.later (h : RgB g r S left w) (hb : Below w.heap.size w w') : RgB g r S left w' := h.chg (Chg.of_below [] hb) (by simp) (by simp)
theorem RgB.walks (h : RgB g r S left w) (hk : KeepsWalks w w') : RgB g r S left w' := by
  obtain ⟨es, clock, since, seen, c0, h1, h2, h3⟩ := h.ex
  exact ⟨⟨es, clock, since, seen, c0, hk.same g _ h1 rfl, hk.same r _ h2 rfl, h3⟩, h.ok, h.nd⟩
theorem RgB.iter (h : RgB g r S left w) : ∃ o : Obj, w.heap[r]? = some o ∧ o.isWalk = true := by
  obtain ⟨es, clock, since, seen, c0, h1, h2, h3⟩ := h.ex
  exact ⟨_, h2, rfl⟩
theorem RgB.ne (h : RgB g r S left w) : g ≠ r := by
  obtain ⟨es, clock, since, seen, c0, h1, h2, h3⟩ := h.ex
  rintro rfl
  rw [h1] at h2; cases h2
theorem kw_inj {x y : Pf × Value} (h : kw x = kw y) : x = y := by
  unfold kw at h
  exact Prod.ext (pv_inj (Prod.mk.inj h).1) (Prod.mk.inj h).2
theorem RgB.sub (h : RgB g r S left w) : ∀ x ∈ left, x ∈ S := by
  obtain ⟨es, clock, since, seen, c0, h1, h2, h3, h4, h5, h6, h7, h8, h9⟩ := h.ex
  intro x hx
  have : kw x ∈ (leftOf es seen).toList.map kv := by rw [h9]; exact List.mem_map.2 ⟨x, hx, rfl⟩
  obtain ⟨e, he, hek⟩ := List.mem_map.1 this
  have h10 : kv e ∈ S.map kw := by rw [← h3]; exact List.mem_map.2 ⟨e, (mem_left he).1, rfl⟩
  obtain ⟨y, hy, hyk⟩ := List.mem_map.1 h10
  rw [← kw_inj (hyk.trans hek)]; exact hy
theorem key_es {es : Array MapEntry} (h3 : es.toList.map kv = S.map kw) (nd : (S.map Prod.fst).Nodup) : (es.toList.map (·.key)).Nodup := by
  have e1 : es.toList.map (·.key) = (S.map Prod.fst).map pv := by
    have := congrArg (List.map Prod.fst) h3
    rw [List.map_map, List.map_map] at this
    rw [List.map_map]
    exact this
  rw [e1]
  exact List.Pairwise.map _ (fun a b hab e => hab (pv_inj e)) nd
theorem MB.range (h : MB g S w) {t k e : TypeId} (ht : Try.prog.underlying t = some (.map k e)) :
    ∃ it, (Instr.range t (.map (some g))).run Try.prog w = .ok (.pointer (some ⟨w.heap.size, 0, none⟩)) (w.alloc it) ∧ RgB g w.heap.size S S (w.alloc it) := by
  obtain ⟨es, clock, h1, h2, h3, h4⟩ := h.ex
  refine ⟨.mapIter (some g) clock #[] clock, run_range_map w t k e g es clock ht h1, ⟨⟨es, clock, clock, #[], clock, ?_, World.alloc_heap_new w _, h2, h3, h4, h4, Nat.le_refl _, Nat.le_refl _, ?_⟩, h.ok, h.nd⟩⟩
  · exact ((ba1 w _).block _ (Array.getElem?_eq_some_iff.1 h1).1).trans h1
  · have : leftOf es #[] = es := by unfold leftOf; simp
    rw [this]; exact h2
/-- One more comes, whichever, or none is left. -/
theorem RgB.next (h : RgB g r S left w) (ty : TypeId) :
    (left = [] ∧ (Instr.next (.pointer (some ⟨r, 0, none⟩)) false ty).run Try.prog w = .ok (.tuple #[.bool false]) w) ∨
    ∃ x ∈ left, ∃ w', (Instr.next (.pointer (some ⟨r, 0, none⟩)) false ty).run Try.prog w = .ok (.tuple #[.bool true, pv x.1, x.2]) w' ∧ RgB g r S (outK x.1 left) w' ∧
      (Instr.entry (.pointer (some ⟨r, 0, none⟩))).run Try.prog w' = .ok (.tuple #[pv x.1, x.2]) w' ∧ w.grownBy w' (some r) ∧ w'.heap.size = w.heap.size := by
  obtain ⟨es, clock, since, seen, c0, h1, h2, h3, h4, h5, h6, h7, h8, h9⟩ := h.ex
  rcases run_next_at (P := Try.prog) w ty r g since c0 seen es clock h2 h1 h6 h7 with ⟨h0, hrun⟩ | ⟨e, he, w1, hal, hrun⟩
  · refine .inl ⟨?_, hrun⟩
    have : (leftOf es seen).toList = [] := by rw [← List.length_eq_zero_iff]; simpa using h0
    rw [this] at h9
    exact List.map_eq_nil_iff.1 h9.symm
  · have hmem : kv e ∈ left.map kw := by rw [← h9]; exact List.mem_map.2 ⟨e, he, rfl⟩
    obtain ⟨x, hx, hxk⟩ := List.mem_map.1 hmem
    have hk1 : e.key = pv x.1 := (Prod.mk.inj hxk).1.symm
    have hk2 : e.val = x.2 := (Prod.mk.inj hxk).2.symm
    have hes := (mem_left he).1
    have hr1 : w1.heap[r]? = some (.mapIter (some g) since seen c0) := by rcases hal with rfl | rfl <;> exact h2
    have hb1 : w1.heap[g]? = some (.map es clock) := by rcases hal with rfl | rfl <;> exact h1
    have hlt : r < w1.heap.size := (Array.getElem?_eq_some_iff.1 hr1).1
    have hrr : (setBlock w1 r (.mapIter (some g) since (seen.push e.born) clock)).heap[r]? = some (.mapIter (some g) since (seen.push e.born) clock) := by
      show (w1.heap.setIfInBounds r _)[r]? = _
      simp [hlt]
    have hot : ∀ i, i ≠ r → (setBlock w1 r (.mapIter (some g) since (seen.push e.born) clock)).heap[i]? = w1.heap[i]? := fun i hi => by
      show (w1.heap.setIfInBounds r _)[i]? = _
      rw [Array.getElem?_setIfInBounds, if_neg (fun e => hi e.symm)]
    have hgg := (hot g h.ne).trans hb1
    have hkn := key_es h3 h.nd
    refine .inr ⟨x, hx, _, by rw [hrun, hk1, hk2], ⟨⟨es, clock, since, seen.push e.born, clock, hgg, hrr, h3, h4, h5, h6, h8, h8, ?_⟩, h.ok, h.nd⟩, ?_, ?_, ?_⟩
    · have hf : (leftOf es (seen.push e.born)).toList = (leftOf es seen).toList.filter fun y => decide (y.born ≠ e.born) := by
        unfold leftOf
        rw [Array.toList_filter, Array.toList_filter, List.filter_filter]
        apply List.filter_congr
        intro y _
        rw [contains_push]
        by_cases h : y.born = e.born <;> simp [h]
      rw [hf]
      unfold outK
      refine map_filters kv kw _ _ _ _ h9 (fun a ha b _ hab => ?_)
      have ha' := (mem_left ha).1
      have hak : a.key = pv b.1 := (Prod.mk.inj hab).1
      by_cases hbn : a.born = e.born
      · have : a = e := born_inj h4 ha' hes hbn
        subst this
        have : b.1 = x.1 := pv_inj (hak.symm.trans hk1)
        simp [this]
      · have : b.1 ≠ x.1 := fun e1 => hbn (by rw [inj_nodup (·.key) hkn ha' hes (by show a.key = e.key; rw [hak, hk1, e1])])
        simp [hbn, this]
    · rw [run_entry_at _ r g since seen es clock e hrr hgg hes h4, hk1, hk2]
    · rcases hal with rfl | rfl <;> exact ⟨rfl, rfl, rfl, by simp [setBlock], fun i _ hi => hot i (fun e1 => hi (by rw [e1]))⟩
    · rcases hal with rfl | rfl <;> simp [setBlock]
theorem filter_erase {α : Type} (q : α → Bool) {l : List α} {j : Nat} {x : α} (hj : l[j]? = some x) (hq : q x = false) : (l.eraseIdx j).filter q = l.filter q := by
  obtain ⟨hlt, hx⟩ := List.getElem?_eq_some_iff.1 hj
  rw [List.eraseIdx_eq_take_drop_succ]
  conv => rhs; rw [← List.take_append_drop j l, ← List.getElem_cons_drop hlt]
  rw [List.filter_append, List.filter_append, List.filter_cons_of_neg (by rw [hx, hq]; decide)]
/-- An entry that came already is deleted. -/
theorem RgB.del {mt e : TypeId} (hm : Try.prog.underlying mt = some (.map 40 e)) (h : RgB g r S left w) {p : Pf} (hp : Ky p) (hl : p ∉ left.map Prod.fst) :
    ∃ w', (∀ ty, (Builtin.delete_ #[mt, 40] ty #[.map (some g), pv p]).run Try.prog w = .ok (.tuple #[]) w') ∧ RgB g r (delM S p) left w' ∧ Chg [g] w w' := by
  obtain ⟨es, clock, since, seen, c0, h1, h2, h3, h4, h5, h6, h7, h8, h9⟩ := h.ex
  obtain ⟨w', hrun, hM, hC⟩ := run_delM hm h.map.at hp
  refine ⟨w', hrun, ?_, hC⟩
  obtain ⟨l, hkl⟩ := key_pv hp
  have hc := prefLaw.check w es.isEmpty hkl
  rcases h.map.at.find h3 hp w with ⟨g1, g2⟩ | ⟨j, v0, e0, g1, g2, g3, g4, g5⟩
  · have ed : delM S p = S := List.filter_eq_self.2 fun x hx => decide_eq_true fun ex => g2 (List.mem_map.2 ⟨x, hx, ex⟩)
    have e1 : (Builtin.delete_ #[mt, 40] 0 #[.map (some g), pv p]).run Try.prog w = .ok (.tuple #[]) { w with heap := w.heap.setIfInBounds g (.map es clock) } := by
      simp [Builtin.delete_, run_underlying hm, MapKept.run_getObj_map h1, hc, g1, MapKept.run_setObj_map _ h1, Result.andThen]
    have e2 := (hrun 0).symm.trans e1
    simp only [Result.ok.injEq, true_and] at e2
    subst e2
    exact ⟨⟨es, clock, since, seen, c0, (MapKept.heap_set h1).1, ((MapKept.heap_set h1).2 r h.ne.symm).trans h2, by rw [ed]; exact h3, h4, h5, h6, h7, h8, h9⟩, hM.ok, hM.nd⟩
  · have e1 : (Builtin.delete_ #[mt, 40] 0 #[.map (some g), pv p]).run Try.prog w = .ok (.tuple #[]) { w with heap := w.heap.setIfInBounds g (.map (es.eraseIdxIfInBounds j) clock) } := by
      simp [Builtin.delete_, run_underlying hm, MapKept.run_getObj_map h1, hc, g1, MapKept.run_setObj_map _ h1, Result.andThen]
    have e2 := (hrun 0).symm.trans e1
    simp only [Result.ok.injEq, true_and] at e2
    subst e2
    obtain ⟨es', c', q1, q2⟩ := hM.ex
    rw [(MapKept.heap_set h1).1] at q1
    simp only [Option.some.injEq, Obj.map.injEq] at q1
    obtain ⟨rfl, rfl⟩ := q1
    have hsub : ∀ x ∈ (es.eraseIdxIfInBounds j).toList, x ∈ es.toList := fun x hx => by
      rw [Array.toList_eraseIdxIfInBounds] at hx; exact List.mem_of_mem_eraseIdx hx
    refine ⟨⟨_, _, since, seen, c0, (MapKept.heap_set h1).1, ((MapKept.heap_set h1).2 r h.ne.symm).trans h2, q2, ?_, fun x hx => h5 x (hsub x hx), fun x hx => h6 x (hsub x hx), h7, h8, ?_⟩, hM.ok, hM.nd⟩
    · rw [Array.toList_eraseIdxIfInBounds, ← map_erase]
      exact h4.sublist (List.eraseIdx_sublist ..)
    · have hnot : (!seen.contains e0.born) = false := by
        cases hs : (!seen.contains e0.born) with
        | false => rfl
        | true =>
          exfalso
          have hin : e0 ∈ (leftOf es seen).toList := by
            unfold leftOf
            rw [Array.toList_filter, List.mem_filter]
            exact ⟨List.mem_of_getElem? g2, hs⟩
          have : kv e0 ∈ left.map kw := by rw [← h9]; exact List.mem_map.2 ⟨e0, hin, rfl⟩
          obtain ⟨y, hy, hyk⟩ := List.mem_map.1 this
          exact hl (List.mem_map.2 ⟨y, hy, pv_inj ((Prod.mk.inj hyk).1.trans g3)⟩)
      have : (leftOf (es.eraseIdxIfInBounds j) seen).toList = (leftOf es seen).toList := by
        unfold leftOf
        rw [Array.toList_filter, Array.toList_filter, Array.toList_eraseIdxIfInBounds]
        exact filter_erase _ g2 hnot
      rw [this]; exact h9
end
section
variable {w : World} {ops : Array Oper} {rest : List Oper} {o : Oper} {a : Act} {Q : Exit → Act → World → Prop} {F : Fence} {n : Nat}
theorem wpList_rangeB (hg : o.guard = none) (m : Operand) (t k e : TypeId) (hop : o.op = Op.range t m) (ht : Try.prog.underlying t = some (.map k e)) {b : Nat} {S : List (Pf × Value)} (hm : a.eval m = .map (some b)) (h : MB b S w)
    (hK : ∀ it, RgB b w.heap.size S S (w.alloc it) → wpList Try.prog ops Q rest (a.put o.dst (.pointer (some ⟨w.heap.size, 0, none⟩))) (w.alloc it)) : wpList Try.prog ops Q (o :: rest) a w := by
  refine wpList_plain hg fun K' hK' => ?_
  obtain ⟨it, hrun, hr⟩ := h.range ht
  unfold Oper.wp
  simp [execOp, hop, hm, hrun, Result.andThen]
  exact hK' _ _ (hK it hr)
theorem wpListIn_rangeB (hg : o.guard = none) (m : Operand) (t k e : TypeId) (hop : o.op = Op.range t m) (ht : Try.prog.underlying t = some (.map k e)) {b : Nat} {S : List (Pf × Value)} (hm : a.eval m = .map (some b)) (h : MB b S w)
    (hK : ∀ it, RgB b w.heap.size S S (w.alloc it) → wpListIn F n Try.prog ops Q rest (a.put o.dst (.pointer (some ⟨w.heap.size, 0, none⟩))) (w.alloc it)) : wpListIn F n Try.prog ops Q (o :: rest) a w := by
  refine wpListIn_plain hg fun K' hK' => ?_
  obtain ⟨it, hrun, hr⟩ := h.range ht
  unfold Oper.wpIn
  refine ⟨by simp [Oper.about, hop], ?_⟩
  rw [Oper.semAt_plain F _ _ (by rw [hop]; intro c hc'; cases hc')]
  simp [execOp, hop, hm, hrun, Result.andThen]
  exact hK' _ _ (hK it hr)
theorem wpList_nextB (hg : o.guard = none) (it : Operand) (hop : o.op = Op.next it false) {b r : Nat} {S left : List (Pf × Value)} (hit : a.eval it = .pointer (some ⟨r, 0, none⟩)) (h : RgB b r S left w)
    (hDone : left = [] → wpList Try.prog ops Q rest (a.put o.dst (.tuple #[.bool false])) w)
    (hMore : ∀ (x : Pf × Value) (w' : World), x ∈ left → RgB b r S (outK x.1 left) w' → (Instr.entry (.pointer (some ⟨r, 0, none⟩))).run Try.prog w' = .ok (.tuple #[pv x.1, x.2]) w' → w.grownBy w' (some r) → w'.heap.size = w.heap.size →
      wpList Try.prog ops Q rest (a.put o.dst (.tuple #[.bool true, pv x.1, x.2])) w') : wpList Try.prog ops Q (o :: rest) a w := by
  refine wpList_plain hg fun K' hK' => ?_
  unfold Oper.wp
  rcases h.next o.type with ⟨h0, hrun⟩ | ⟨x, hx, w', hrun, hrg, hen, hgr, hsz⟩
  · simp [execOp, hop, hit, hrun, Result.andThen]
    exact hK' _ _ (hDone h0)
  · simp [execOp, hop, hit, hrun, Result.andThen]
    exact hK' _ _ (hMore x w' hx hrg hen hgr hsz)
theorem wpListIn_nextB (hg : o.guard = none) (it : Operand) (hop : o.op = Op.next it false) {b r : Nat} {S left : List (Pf × Value)} (hit : a.eval it = .pointer (some ⟨r, 0, none⟩)) (h : RgB b r S left w)
    (hDone : left = [] → wpListIn F n Try.prog ops Q rest (a.put o.dst (.tuple #[.bool false])) w)
    (hMore : ∀ (x : Pf × Value) (w' : World), x ∈ left → RgB b r S (outK x.1 left) w' → (Instr.entry (.pointer (some ⟨r, 0, none⟩))).run Try.prog w' = .ok (.tuple #[pv x.1, x.2]) w' → w.grownBy w' (some r) → w'.heap.size = w.heap.size →
      wpListIn F n Try.prog ops Q rest (a.put o.dst (.tuple #[.bool true, pv x.1, x.2])) w') : wpListIn F n Try.prog ops Q (o :: rest) a w := by
  refine wpListIn_plain hg fun K' hK' => ?_
  unfold Oper.wpIn
  refine ⟨by simp [Oper.about, hop], ?_⟩
  rw [Oper.semAt_plain F _ _ (by rw [hop]; intro c hc'; cases hc')]
  rcases h.next o.type with ⟨h0, hrun⟩ | ⟨x, hx, w', hrun, hrg, hen, hgr, hsz⟩
  · simp [execOp, hop, hit, hrun, Result.andThen]
    exact hK' _ _ (hDone h0)
  · simp [execOp, hop, hit, hrun, Result.andThen]
    exact hK' _ _ (hMore x w' hx hrg hen hgr hsz)
end
end Go.Proofs.Ytdjhgahdiggahaa

namespace Go.Proofs.Ytdjhgahdiggahaa
open Go.RowKit

theorem app_fresh {w w' : World} {v' : Value} (base : Nat) (t ty e : TypeId) (i : TypeInfo) (z : Value) (size bytes : Nat) (ht : (Try.prog).underlying t = some (.slice e)) (hi : (Try.prog).info? e = some i) (hz : i.zero = some z)
    (hsize : i.size = size) (hby : i.bytes = bytes) (hzs : z.cells.size = size) (hsz : 0 < size)
    (v : Value) (n : Nat) (xs : List Value) (hown : w.ownsRow base e size v n xs)
    (a : Addr) (m c : Nat) (news : List Value) (hl : news.length = m * size) (hnews : ∀ j u, news[j]? = some u → w.cell? (a.add j) = some u) (h1 : ∀ u ∈ news, u.oneCell' = true)
    (h63 : n + m ≤ maxLen) (hbytes : (n + m) * bytes ≤ 140737488355328)
    (hr : (Builtin.append_ #[t, t] ty #[v, .slice (some a) m c]).run Try.prog w = .ok v' w') (g : Nat) (hg : v'.ownBlock = some g) : v.ownBlock = some g ∨ w.heap.size ≤ g := by
  subst hsize
  subst hby
  rcases hown.2 with ⟨rfl, rfl⟩ | ⟨g0, cap, cur, rfl, hbg, hg0, hnc, hcm, hcs, htake⟩
  · have hx : xs = [] := List.eq_nil_of_length_eq_zero (by simpa using hown.1)
    subst hx
    obtain ⟨v2, w2, hr2, ho2, _⟩ := run_append_own (P := Try.prog) (w := w) w.heap.size t ty e i z i.size i.bytes ht hi hz rfl rfl hzs hsz (.slice none 0 0) 0 [] (World.ownsRow_nil w _ _ _) a m c news hl hnews h1 h63 hbytes (Nat.le_refl _)
    rw [hr2] at hr
    cases hr
    exact .inr (ho2.lt g hg).1
  · by_cases hroom : n + m ≤ cap
    · have hfit : n * i.size + news.length ≤ cur.size := by rw [hl, hcs, ← Nat.add_mul]; exact Nat.mul_le_mul_right _ hroom
      have hr2 := run_append_room (P := Try.prog) w t ty e i ht hi g0 n cap cur hg0 a m c news hl hnews h1 hroom hfit
      rw [hr2] at hr
      cases hr
      exact .inl hg
    · have holds : ∀ j u, xs[j]? = some u → w.cell? ((⟨g0, 0, none⟩ : Addr).add j) = some u := hown.cells (g := g0) rfl
      have hr2 := run_append_grow (P := Try.prog) w t ty e i z ht hi hz ⟨g0, 0, none⟩ n cap xs hown.1 holds a m c news hl hnews (by omega) (by unfold maxLen at h63; omega) (growslice_fits (by omega) hbytes)
      rw [hr2] at hr
      cases hr
      simp [Value.ownBlock] at hg
      exact .inr (by omega)
/-- The old row's cells stand, behind an append to it. -/
theorem app_keeps {w w' : World} {v' : Value} (base : Nat) (t ty e : TypeId) (i : TypeInfo) (z : Value) (size bytes : Nat) (ht : (Try.prog).underlying t = some (.slice e)) (hi : (Try.prog).info? e = some i) (hz : i.zero = some z)
    (hsize : i.size = size) (hby : i.bytes = bytes) (hzs : z.cells.size = size) (hsz : 0 < size)
    (v : Value) (n : Nat) (xs : List Value) (hown : w.ownsRow base e size v n xs)
    (a : Addr) (m c : Nat) (news : List Value) (hl : news.length = m * size) (hnews : ∀ j u, news[j]? = some u → w.cell? (a.add j) = some u) (h1 : ∀ u ∈ news, u.oneCell' = true)
    (h63 : n + m ≤ maxLen) (hbytes : (n + m) * bytes ≤ 140737488355328) (hbase : base ≤ w.heap.size)
    (hr : (Builtin.append_ #[t, t] ty #[v, .slice (some a) m c]).run Try.prog w = .ok v' w') (g : Nat) (hg : v.ownBlock = some g) : ∀ j u, xs[j]? = some u → w'.cell? ((⟨g, 0, none⟩ : Addr).add j) = some u := by
  obtain ⟨v2, w2, hr2, ho2, _⟩ := run_append_own (P := Try.prog) (w := w) base t ty e i z size bytes ht hi hz hsize hby hzs hsz v n xs hown a m c news hl hnews h1 h63 hbytes hbase
  rw [hr2] at hr
  cases hr
  subst hsize
  subst hby
  rcases hown.2 with ⟨rfl, rfl⟩ | ⟨g0, cap, cur, rfl, hbg, hg0, hnc, hcm, hcs, htake⟩
  · simp [Value.ownBlock] at hg
  · obtain rfl : g0 = g := by simpa [Value.ownBlock] using hg
    by_cases hroom : n + m ≤ cap
    · have hfit : n * i.size + news.length ≤ cur.size := by rw [hl, hcs, ← Nat.add_mul]; exact Nat.mul_le_mul_right _ hroom
      have hr3 := run_append_room (P := Try.prog) w t ty e i ht hi g0 n cap cur hg0 a m c news hl hnews h1 hroom hfit
      rw [hr3] at hr2
      cases hr2
      intro j u hj
      exact ho2.cells (g := g0) rfl j u (by rw [List.getElem?_append_left (List.getElem?_eq_some_iff.1 hj).1]; exact hj)
    · have holds : ∀ j u, xs[j]? = some u → w.cell? ((⟨g0, 0, none⟩ : Addr).add j) = some u := hown.cells (g := g0) rfl
      have hr3 := run_append_grow (P := Try.prog) w t ty e i z ht hi hz ⟨g0, 0, none⟩ n cap xs hown.1 holds a m c news hl hnews (by omega) (by unfold maxLen at h63; omega) (growslice_fits (by omega) hbytes)
      rw [hr3] at hr2
      cases hr2
      intro j u hj
      have hb : Below w.heap.size w (w.drew.alloc (.cells (xs.toArray ++ news.toArray ++ Builtin.zeroCells z.cells (grownCap w (n + m) cap e - (n + m))) e)) := (Below.refl _ _).drew.trans (show Below w.heap.size w.drew _ from ba1 w.drew _)
      exact cell_later hb (holds j u hj)
end Go.Proofs.Ytdjhgahdiggahaa

namespace Go.Proofs.Ytdjhgahdiggahaa
open Go.RowKit

theorem add0 (g k : Nat) : (⟨g, 0, none⟩ : Addr).add k = ⟨g, k, none⟩ := by cases k <;> simp [Addr.add]
/-- append of whatever comes, by what its run leaves. -/
theorem wpList_appG {w : World} {ops : Array Oper} {rest : List Oper} {o : Oper} {a : Act} {Q : Exit → Act → World → Prop} (hgd : o.guard = none) (s x : Operand) (t t' : TypeId)
    (ho : o.op = .call { callee := .builtin .append, args := #[s, x], argTypes := #[t, t'] }) (v u : Value) (R : Value → World → Prop) (hs : a.eval s = v) (hx : a.eval x = u)
    (hr : ∀ ty, ∃ v' w', (Builtin.append_ #[t, t'] ty #[v, u]).run Try.prog w = .ok v' w' ∧ R v' w') (h : ∀ v' w', R v' w' → wpList Try.prog ops Q rest (a.put o.dst v') w') : wpList Try.prog ops Q (o :: rest) a w :=
  wpList_plain hgd fun K hK => by
    obtain ⟨v', w', hr, h2⟩ := hr o.type
    unfold Oper.wp execOp
    simp only [ho, resolve, invoke, builtin, Sem.run_bind, Sem.run_pure, Result.andThen_ok, List.map_toArray, List.map_cons, List.map_nil, hs, hx, hr]
    exact hK _ _ (h v' w' h2)
/-- At a step of a region that draws its order. -/
theorem step_appG {w : World} {ops : Array Oper} {o : Oper} {a : Act} {K : Act → World → Prop} {Q : Exit → Act → World → Prop} {E : Prop} (hgd : o.guard = none) (s x : Operand) (t t' : TypeId)
    (ho : o.op = .call { callee := .builtin .append, args := #[s, x], argTypes := #[t, t'] }) (v u : Value) (R : Value → World → Prop) (hs : a.eval s = v) (hx : a.eval x = u)
    (hr : ∀ ty, ∃ v' w', (Builtin.append_ #[t, t'] ty #[v, u]).run Try.prog w = .ok v' w' ∧ R v' w') (h : ∀ v' w', R v' w' → K (a.put o.dst v') w') :
    if Region.wanted o (yielded ops a.tmps) = true then Oper.wp Try.prog o a w K Q else E := by
  have hw : Region.wanted o (yielded ops a.tmps) = true := by simp [Region.wanted, hgd]
  rw [if_pos hw]
  obtain ⟨v', w', hr, h2⟩ := hr o.type
  unfold Oper.wp execOp
  simp only [ho, resolve, invoke, builtin, Sem.run_bind, Sem.run_pure, Result.andThen_ok, List.map_toArray, List.map_cons, List.map_nil, hs, hx, hr]
  exact h v' w' h2
end Go.Proofs.Ytdjhgahdiggahaa

namespace Go.Proofs.Ytdjhgahdiggahaa
open Go.RowKit

structure Elt {α : Type} (et st : TypeId) (k by_ : Nat) (enc : α → List Value) : Prop where
  len : ∀ x, (enc x).length = k
  one : ∀ x, ∀ v ∈ enc x, v.oneCell' = true
  und : (Try.prog).underlying st = some (.slice et)
  inf : ∃ i0 z, (Try.prog).info? et = some i0 ∧ i0.zero = some z ∧ i0.size = k ∧ i0.bytes = by_ ∧ z.cells.size = k
  pos : 0 < k
  few : by_ ≤ 1000
theorem Elt.of {α : Type} {et st : TypeId} {k by_ : Nat} {enc : α → List Value} (z : Value) (h1 : ∀ x, (enc x).length = k) (h2 : ∀ x, ∀ v ∈ enc x, v.oneCell' = true) (h3 : (Try.prog).underlying st = some (.slice et))
    (h4 : ((Try.prog).info? et).map (fun i => (i.zero, i.size, i.bytes)) = some (some z, k, by_)) (h5 : z.cells.size = k) (h6 : 0 < k) (h7 : by_ ≤ 1000) : Elt et st k by_ enc := by
  obtain ⟨i0, hi, hx⟩ := Option.map_eq_some_iff.1 h4
  simp only [Prod.mk.injEq] at hx
  exact ⟨h1, h2, h3, ⟨i0, z, hi, hx.1, hx.2.1, hx.2.2, h5⟩, h6, h7⟩
def OwnG {α : Type} (et : TypeId) (k : Nat) (enc : α → List Value) (w : World) (B : Nat) (v : Value) (L : List α) : Prop := w.ownsRow B et k v L.length (L.flatMap enc)
section
variable {α : Type} {et st : TypeId} {k by_ : Nat} {enc : α → List Value} {w w' : World} {B : Nat} {v : Value} {L : List α}
theorem OwnG.nil (w : World) (B : Nat) : OwnG et k enc w B (.slice none 0 0) [] := World.ownsRow_nil w _ _ _
theorem OwnG.later (h : OwnG et k enc w B v L) (hb : Below w.heap.size w w') : OwnG et k enc w' B v L := ownsRow_later h hb
theorem OwnG.weak {B' : Nat} (h : OwnG et k enc w B' v L) (hB : B ≤ B') : OwnG et k enc w B v L := by
  obtain ⟨hl, h0 | ⟨g, cap, cur, rfl, hb1, hr⟩⟩ := h
  · exact ⟨hl, .inl h0⟩
  · exact ⟨hl, .inr ⟨g, cap, cur, rfl, Nat.le_trans hB hb1, hr⟩⟩
theorem OwnG.form (h : OwnG et k enc w B v L) : ∃ a c, v = .slice a L.length c := by
  rcases h.2 with ⟨rfl, h0⟩ | ⟨g, cap, cur, rfl, _⟩
  · exact ⟨none, 0, by rw [h0]⟩
  · exact ⟨_, cap, rfl⟩
theorem OwnG.cap {a : Option Addr} {n c : Nat} (h : OwnG et k enc w B (.slice a n c) L) : n = L.length ∧ n ≤ c := by
  rcases h.2 with ⟨e, h0⟩ | ⟨g, cap, cur, hv, _, _, h4, _⟩
  · simp only [Value.slice.injEq] at e
    obtain ⟨_, rfl, rfl⟩ := e
    exact ⟨h0.symm, Nat.le_refl _⟩
  · simp only [Value.slice.injEq] at hv
    obtain ⟨_, rfl, rfl⟩ := hv
    exact ⟨rfl, h4⟩
theorem flat_len (E : Elt et st k by_ enc) (L : List α) : (L.flatMap enc).length = L.length * k := by
  induction L with
  | nil => simp
  | cons x L ih => rw [List.flatMap_cons, List.length_append, ih, E.len, List.length_cons, Nat.add_mul]; omega
theorem flat_at (E : Elt et st k by_ enc) : ∀ (L : List α) (j : Nat) (x : α), L[j]? = some x → ∀ i u, (enc x)[i]? = some u → (L.flatMap enc)[j * k + i]? = some u
  | [], _, _, h => by simp at h
  | y :: L, 0, x, h => fun i u hi => by
    simp at h; subst h
    rw [List.flatMap_cons, Nat.zero_mul, Nat.zero_add, List.getElem?_append_left (List.getElem?_eq_some_iff.1 hi).1]; exact hi
  | y :: L, j + 1, x, h => fun i u hi => by
    have ih := flat_at E L j x (by simpa using h) i u hi
    have hl := E.len y
    rw [List.flatMap_cons, List.getElem?_append_right (by rw [hl, Nat.add_mul]; omega), hl]
    rw [show (j + 1) * k + i - k = j * k + i by rw [Nat.add_mul]; omega]; exact ih
theorem OwnG.at (E : Elt et st k by_ enc) {a : Option Addr} {n c : Nat} (h : OwnG et k enc w B (.slice a n c) L) {j : Nat} {x : α} (hj : L[j]? = some x) :
    ∃ g, a = some ⟨g, 0, none⟩ ∧ B ≤ g ∧ ∀ i u, (enc x)[i]? = some u → w.cell? ⟨g, j * k + i, none⟩ = some u := by
  have hl := (List.getElem?_eq_some_iff.1 hj).1
  rcases h.2 with ⟨_, h0⟩ | ⟨g, cap, cur, hv, hb, _⟩
  · omega
  · simp only [Value.slice.injEq] at hv
    obtain ⟨rfl, rfl, rfl⟩ := hv
    refine ⟨g, rfl, hb, fun i u hi => ?_⟩
    have := World.ownsRow.cells h (g := g) rfl (j * k + i) u (flat_at E L j x hj i u hi)
    rw [add0] at this
    exact this
theorem run_ap (E : Elt et st k by_ enc) (ty : TypeId) (x : α) (g : Nat) (h : OwnG et k enc w B v L) (hc : BlkAt et g (enc x) w) (hn : L.length ≤ 900000) (hB : B ≤ w.heap.size) :
    ∃ v' w', (Builtin.append_ #[st, st] ty #[v, .slice (some ⟨g, 0, none⟩) 1 1]).run Try.prog w = .ok v' w' ∧ OwnG et k enc w' B v' (L ++ [x]) ∧ Below B w w' ∧ w.grownBy w' v.ownBlock ∧ ∀ b, v'.ownBlock = some b → v.ownBlock = some b ∨ w.heap.size ≤ b := by
  obtain ⟨i0, z, hi, hz0, hz1, hz2, hz3⟩ := E.inf
  have hnews : ∀ j u, (enc x)[j]? = some u → w.cell? ((⟨g, 0, none⟩ : Addr).add j) = some u := fun j u hj => by rw [add0]; exact hc.cell hj
  have hby : (L.length + 1) * by_ ≤ 140737488355328 := by
    have := Nat.mul_le_mul (show L.length + 1 ≤ 1000000 by omega) E.few
    omega
  obtain ⟨v', w', h1, h2, h3, _⟩ := run_append_own (P := Try.prog) (w := w) B st ty et i0 z k by_ E.und hi hz0 hz1 hz2 hz3 E.pos v L.length _ h ⟨g, 0, none⟩ 1 1 (enc x) (by rw [E.len]; omega) hnews (E.one x) (by unfold maxLen; omega) hby hB
  refine ⟨v', w', h1, ?_, (Below.refl B w).grown h3 hB (fun j hj => own_base h hj), h3, fun b hb => ?_⟩
  · show World.ownsRow _ _ _ _ _ _ _
    rw [List.length_append, List.flatMap_append, List.flatMap_singleton]; exact h2
  · exact app_fresh (w := w) B st ty et i0 z k by_ E.und hi hz0 hz1 hz2 hz3 E.pos v L.length _ h ⟨g, 0, none⟩ 1 1 (enc x) (by rw [E.len]; omega) hnews (E.one x) (by unfold maxLen; omega) hby h1 b hb
end
end Go.Proofs.Ytdjhgahdiggahaa

namespace Go.Proofs.Ytdjhgahdiggahaa
open Go.RowKit Go.Sort
attribute [local go_sem ↓] Go.wp_at_zero Go.wp_at_succ
open Tp (Pf)

def fcell (p : Pf) : List Value := [.int .u32 p.1, .int .i64 p.2]
theorem eltP : Elt 40 22 2 16 fcell :=
  Elt.of (.agg #[.int .u32 0, .int .i64 0]) (fun _ => rfl) (fun p v hv => by simp [fcell] at hv; rcases hv with rfl | rfl <;> rfl) Try.underlying22 (by kernel_rfl) rfl (by decide) (by decide)
abbrev OwnF (w : World) (B : Nat) (v : Value) (L : List Pf) : Prop := OwnG 40 2 fcell w B v L

def cmpZ (a b : Int) : Int := if a < b then -1 else if b < a then 1 else 0
def orZ (c1 c2 : Int) : Int := if c1 = 0 then c2 else c1
theorem or_cmp (p q : Pf) : orZ (cmpZ p.1 q.1) (cmpZ p.2 q.2) = Wp.cmpI p.1 p.2 q.1 q.2 := by
  unfold orZ cmpZ Wp.cmpI
  by_cases h1 : p.1 < q.1
  · simp [h1]
  · by_cases h2 : q.1 < p.1
    · simp [h1, h2]
    · simp [h1, h2]
theorem isNaNA (a : Int) (w : World) : Calls Try.prog 134 #[.int .u32 a] w fun e w' => e = .returned (.bool false) ∧ w = w' := by
  go_enter Try.func134, Try.ntmps134
  go_wp2_with fail
  go_ret
  exact ⟨ret_b (by simp), rfl⟩
theorem isNaNI (a : Int) (w : World) : Calls Try.prog 124 #[.int .i64 a] w fun e w' => e = .returned (.bool false) ∧ w = w' := by
  go_enter Try.func124, Try.ntmps124
  go_wp2_with fail
  go_ret
  exact ⟨ret_b (by simp), rfl⟩
theorem cmpA (a b : Int) (w : World) : Calls Try.prog 120 #[.int .u32 a, .int .u32 b] w fun e w' => e = .returned (.int .i64 (cmpZ a b)) ∧ w = w' := by
  have H1 := Lib.hid (isNaNA a w)
  have H2 := Lib.hid (isNaNA b w)
  obtain ⟨z, hz⟩ : ∃ z, z = cmpZ a b := ⟨_, rfl⟩
  rw [← hz]
  rcases Int.lt_trichotomy a b with h | h | h
  · have k1 : decide (a < b) = true := by simp [h]
    have k2 : decide (b < a) = false := by simp; omega
    have HZ : Hid (z = -1) := by show _ = _; rw [hz]; simp [cmpZ, h]
    clear hz h
    go_enter Try.func120, Try.ntmps120
    go_wp2_with fail
    refine H1.out.mono ?_
    rintro e w1 ⟨rfl, rfl⟩
    go_wp2_with fail
    refine H2.out.mono ?_
    rintro e w1 ⟨rfl, rfl⟩
    go_wp2_with fail
    go_ret
    exact ⟨by rw [HZ.out]; rfl, rfl⟩
  · have k1 : decide (a < b) = false := by simp; omega
    have k2 : decide (b < a) = false := by simp; omega
    have HZ : Hid (z = 0) := by show _ = _; rw [hz]; simp [cmpZ, h]
    clear hz h
    go_enter Try.func120, Try.ntmps120
    go_wp2_with fail
    refine H1.out.mono ?_
    rintro e w1 ⟨rfl, rfl⟩
    go_wp2_with fail
    refine H2.out.mono ?_
    rintro e w1 ⟨rfl, rfl⟩
    go_wp2_with fail
    go_ret
    exact ⟨by rw [HZ.out]; rfl, rfl⟩
  · have k1 : decide (a < b) = false := by simp; omega
    have k2 : decide (b < a) = true := by simp [h]
    have HZ : Hid (z = 1) := by show _ = _; rw [hz]; unfold cmpZ; rw [if_neg (by omega), if_pos h]
    clear hz h
    go_enter Try.func120, Try.ntmps120
    go_wp2_with fail
    refine H1.out.mono ?_
    rintro e w1 ⟨rfl, rfl⟩
    go_wp2_with fail
    refine H2.out.mono ?_
    rintro e w1 ⟨rfl, rfl⟩
    go_wp2_with fail
    go_ret
    exact ⟨by rw [HZ.out]; rfl, rfl⟩
theorem cmpN (a b : Int) (w : World) : Calls Try.prog 107 #[.int .i64 a, .int .i64 b] w fun e w' => e = .returned (.int .i64 (cmpZ a b)) ∧ w = w' := by
  have H1 := Lib.hid (isNaNI a w)
  have H2 := Lib.hid (isNaNI b w)
  obtain ⟨z, hz⟩ : ∃ z, z = cmpZ a b := ⟨_, rfl⟩
  rw [← hz]
  rcases Int.lt_trichotomy a b with h | h | h
  · have k1 : decide (a < b) = true := by simp; omega
    have k2 : decide (b < a) = false := by simp; omega
    have HZ : Hid (z = -1) := by show _ = _; rw [hz]; unfold cmpZ; rw [if_pos h]
    clear hz h
    go_enter Try.func107, Try.ntmps107
    go_wp2_with fail
    refine H1.out.mono ?_
    rintro e w1 ⟨rfl, rfl⟩
    go_wp2_with fail
    refine H2.out.mono ?_
    rintro e w1 ⟨rfl, rfl⟩
    go_wp2_with fail
    go_ret
    exact ⟨by rw [HZ.out]; rfl, rfl⟩
  · have k1 : decide (a < b) = false := by simp; omega
    have k2 : decide (b < a) = false := by simp; omega
    have HZ : Hid (z = 0) := by show _ = _; rw [hz]; unfold cmpZ; rw [if_neg (by omega), if_neg (by omega)]
    clear hz h
    go_enter Try.func107, Try.ntmps107
    go_wp2_with fail
    refine H1.out.mono ?_
    rintro e w1 ⟨rfl, rfl⟩
    go_wp2_with fail
    refine H2.out.mono ?_
    rintro e w1 ⟨rfl, rfl⟩
    go_wp2_with fail
    go_ret
    exact ⟨by rw [HZ.out]; rfl, rfl⟩
  · have k1 : decide (a < b) = false := by simp; omega
    have k2 : decide (b < a) = true := by simp; omega
    have HZ : Hid (z = 1) := by show _ = _; rw [hz]; unfold cmpZ; rw [if_neg (by omega), if_pos h]
    clear hz h
    go_enter Try.func107, Try.ntmps107
    go_wp2_with fail
    refine H1.out.mono ?_
    rintro e w1 ⟨rfl, rfl⟩
    go_wp2_with fail
    refine H2.out.mono ?_
    rintro e w1 ⟨rfl, rfl⟩
    go_wp2_with fail
    go_ret
    exact ⟨by rw [HZ.out]; rfl, rfl⟩

set_option maxRecDepth 100000 in
theorem orV (c1 c2 : Int) {g : Nat} {w : World} (h : BlkAt 3 g [.int .i64 c1, .int .i64 c2] w) :
    Calls Try.prog 106 #[.slice (some ⟨g, 0, none⟩) 2 2] w fun e w' => e = .returned (.int .i64 (orZ c1 c2)) ∧ w = w' := by
  have d0 := h.cell (j := 0) rfl
  have d1 := h.cell (j := 1) rfl
  obtain ⟨z, hz⟩ : ∃ z, z = orZ c1 c2 := ⟨_, rfl⟩
  rw [← hz]
  have HZ := Lib.hid hz
  have HD : Hid (w.cell? ⟨g, 0, none⟩ = some (.int .i64 c1) ∧ w.cell? ⟨g, 1, none⟩ = some (.int .i64 c2)) := ⟨d0, d1⟩
  clear h hz d0 d1
  go_enter Try.func106, Try.ntmps106
  go_wp2_with fail
  go_loopw [8] (fun x wr => ∃ k : Nat, k ≤ 2 ∧ x = .int .i64 k ∧ Hid (w = wr ∧ (0 < k → c1 = 0) ∧ (1 < k → c2 = 0))) (fun x _ => 2 - (intOf x).toNat)
  case atStart => exact ⟨0, by omega, rfl, ⟨rfl, by omega, by omega⟩⟩
  case round =>
    obtain ⟨k, hk, rfl, HK⟩ := hrel
    obtain ⟨rfl, h1, h2⟩ := HK.out
    obtain ⟨d0, d1⟩ := HD.out
    have hk3 : k = 0 ∨ k = 1 ∨ k = 2 := by omega
    rcases hk3 with rfl | rfl | rfl
    · clear h1 h2
      by_cases hc : c1 = 0
      · have q : (c1 != 0) = false := by simp [hc]
        have HC := Lib.hid hc
        clear hc
        go_wp2_with fail
        go_roundw
        case rel => exact ⟨1, by omega, by go_num, ⟨trivial, fun _ => HC.out, by omega⟩⟩
        case measure => simp [intOf]
      · have q : (c1 != 0) = true := by simp [hc]
        have HC := Lib.hid hc
        clear hc
        go_wp2_with fail
        go_ret
        exact ⟨by rw [HZ.out]; unfold orZ; rw [if_neg HC.out]; rfl, rfl⟩
    · have HC := Lib.hid (h1 (by omega))
      clear h1 h2
      by_cases hc : c2 = 0
      · have q : (c2 != 0) = false := by simp [hc]
        have HC2 := Lib.hid hc
        clear hc
        go_wp2_with fail
        go_roundw
        case rel => exact ⟨2, by omega, by go_num, ⟨trivial, fun _ => HC.out, fun _ => HC2.out⟩⟩
        case measure => simp [intOf]
      · have q : (c2 != 0) = true := by simp [hc]
        clear hc
        go_wp2_with fail
        go_ret
        exact ⟨by rw [HZ.out]; unfold orZ; rw [if_pos HC.out]; rfl, rfl⟩
    · have HC := Lib.hid (And.intro (h1 (by omega)) (h2 (by omega)))
      clear h1 h2
      go_wp2_with fail
      go_ret
      exact ⟨by rw [HZ.out]; unfold orZ; rw [if_pos HC.out.1, HC.out.2]; rfl, rfl⟩
/-- Draws, and blocks behind. -/
def GR (A B : World) : Prop := ∃ n os, B = grow (A.drewN n) os
theorem GR.refl (A : World) : GR A A := ⟨0, #[], by rw [grow_empty]; rfl⟩
theorem grow_drew (A : World) (os : Array Obj) : (grow A os).drew = grow A.drew os := rfl
theorem GR.drew {A B : World} (h : GR A B) : GR A B.drew := by
  obtain ⟨n, os, rfl⟩ := h
  exact ⟨n + 1, os, rfl⟩
theorem GR.alloc {A B : World} (h : GR A B) (o : Obj) : GR A (B.alloc o) := by
  obtain ⟨n, os, rfl⟩ := h
  exact ⟨n, os ++ #[o], by rw [alloc_eq_grow, grow_grow]⟩
theorem GR.below {A B : World} (h : GR A B) : Below A.heap.size A B := by
  obtain ⟨n, os, rfl⟩ := h
  refine ⟨rfl, rfl, rfl, by simp [grow, World.drewN], fun b hb => ?_⟩
  show (A.heap ++ os)[b]? = _
  rw [Array.getElem?_append_left hb]
set_option maxRecDepth 100000 in
theorem compareL (p q : Pf) (W : World) : Calls Try.prog 102 #[pv p, pv q] W fun e w' => e = .returned (.int .i64 (Wp.cmpI p.1 p.2 q.1 q.2)) ∧ GR W w' := by
  have HR := Lib.hid (or_cmp p q)
  obtain ⟨z, hz⟩ : ∃ z, z = Wp.cmpI p.1 p.2 q.1 q.2 := ⟨_, rfl⟩
  rw [← hz] at HR ⊢
  clear hz
  obtain ⟨w1, hw1⟩ : ∃ w1, w1 = W.alloc (.cells #[.int .u32 p.1, .int .i64 p.2] 40) := ⟨_, rfl⟩
  obtain ⟨w2, hw2⟩ : ∃ w2, w2 = w1.alloc (.cells #[.int .u32 q.1, .int .i64 q.2] 40) := ⟨_, rfl⟩
  have hg : GR W w2 := by rw [hw2, hw1]; exact ((GR.refl W).alloc _).alloc _
  have hs : w1.heap.size = W.heap.size + 1 := by rw [hw1]; simp
  have hp : BlkAt 40 W.heap.size [.int .u32 p.1, .int .i64 p.2] w2 := by
    have h : BlkAt 40 W.heap.size [.int .u32 p.1, .int .i64 p.2] w1 := by rw [hw1]; exact BlkAt.new _ _
    rw [hw2]; exact h.later (ba1 _ _)
  have hq : BlkAt 40 (W.heap.size + 1) [.int .u32 q.1, .int .i64 q.2] w2 := by
    have h : BlkAt 40 w1.heap.size [.int .u32 q.1, .int .i64 q.2] w2 := by rw [hw2]; exact BlkAt.new _ _
    rw [hs] at h; exact h
  have HG := Lib.hid hg
  have HC : Hid (∀ B, GR w2 B → B.cell? ⟨W.heap.size, 0, none⟩ = some (.int .u32 p.1) ∧ B.cell? ⟨W.heap.size, 1, none⟩ = some (.int .i64 p.2) ∧ B.cell? ⟨W.heap.size + 1, 0, none⟩ = some (.int .u32 q.1) ∧ B.cell? ⟨W.heap.size + 1, 1, none⟩ = some (.int .i64 q.2)) := by
    have : ∀ B, GR w2 B → B.cell? ⟨W.heap.size, 0, none⟩ = some (.int .u32 p.1) ∧ B.cell? ⟨W.heap.size, 1, none⟩ = some (.int .i64 p.2) ∧ B.cell? ⟨W.heap.size + 1, 0, none⟩ = some (.int .u32 q.1) ∧ B.cell? ⟨W.heap.size + 1, 1, none⟩ = some (.int .i64 q.2) := fun B hB =>
      ⟨cell_later hB.below (hp.cell (j := 0) rfl), cell_later hB.below (hp.cell (j := 1) rfl), cell_later hB.below (hq.cell (j := 0) rfl), cell_later hB.below (hq.cell (j := 1) rfl)⟩
    exact this
  have H1 := Lib.hid (fun B => cmpA p.1 q.1 B)
  have H2 := Lib.hid (fun B => cmpN p.2 q.2 B)
  have HW1 := Lib.hid hw1
  have HW2 := Lib.hid hw2
  have HT : Hid (∀ A B, GR W A → GR A B → GR W B) := by
    have : ∀ A B, GR W A → GR A B → GR W B := by
      rintro A B ⟨n, os, rfl⟩ ⟨m, os', rfl⟩
      exact ⟨n + m, os ++ os', by
        show grow (grow ((W.drewN n).drewN m) os) os' = _
        rw [grow_grow]
        congr 1
        simp [World.drewN, Nat.add_assoc]⟩
    exact this
  obtain ⟨c1, hc1⟩ : ∃ c, c = cmpZ p.1 q.1 := ⟨_, rfl⟩
  obtain ⟨c2, hc2⟩ : ∃ c, c = cmpZ p.2 q.2 := ⟨_, rfl⟩
  rw [← hc1] at HR H1
  rw [← hc2] at HR H2
  clear hw1 hw2 hg hs hp hq hc1 hc2
  unfold pv
  go_enter Try.func102, Try.ntmps102
  go_wp2_with fail
  rw [← HW1.out, ← HW2.out]
  (refine wp_region_held_drew (S := (fun w' => GR w2 w')) (by kernel_rfl) ?_ (fun hHeld => ?_); (focus ((try dsimp only); (exact (GR.refl w2).drew))))
  (refine wpAnyH_take (i := 0) (v := ?_) rfl (by kernel_rfl) (by kernel_rfl) (by kernel_rfl) (fun _ _ _ h => h) (Or.inl ⟨by rfl, ?_⟩) hHeld ?_; rotate_left; (focus (intro w hSw; (try dsimp only at hSw); go_simp; try with_reducible rfl)); (try simp only [Act.put, List.setIfInBounds_toArray, List.set_cons_zero, List.set_cons_succ, List.getElem_toArray, List.getElem_cons_zero]))
  (refine wpAnyH_take (i := 1) (v := ?_) rfl (by kernel_rfl) (by kernel_rfl) (by kernel_rfl) (fun _ _ _ h => h) (Or.inl ⟨by rfl, ?_⟩) hHeld ?_; rotate_left; (focus (intro w hSw; (try dsimp only at hSw); go_simp; (have cc := (HC.out _ hSw).1; go_simp; try with_reducible rfl))); (try simp only [Act.put, List.setIfInBounds_toArray, List.set_cons_zero, List.set_cons_succ, List.getElem_toArray, List.getElem_cons_zero, List.getElem_cons_succ]))
  (refine wpAnyH_take (i := 2) (v := ?_) rfl (by kernel_rfl) (by kernel_rfl) (by kernel_rfl) (fun _ _ _ h => h) (Or.inl ⟨by rfl, ?_⟩) hHeld ?_; rotate_left; (focus (intro w hSw; (try dsimp only at hSw); go_simp; try with_reducible rfl)); (try simp only [Act.put, List.setIfInBounds_toArray, List.set_cons_zero, List.set_cons_succ, List.getElem_toArray, List.getElem_cons_zero, List.getElem_cons_succ]))
  (refine wpAnyH_take (i := 3) (v := ?_) rfl (by kernel_rfl) (by kernel_rfl) (by kernel_rfl) (fun _ _ _ h => h) (Or.inl ⟨by rfl, ?_⟩) hHeld ?_; rotate_left; (focus (intro w hSw; (try dsimp only at hSw); go_simp; (have cc := (HC.out _ hSw).2.2.1; go_simp; try with_reducible rfl))); (try simp only [Act.put, List.setIfInBounds_toArray, List.set_cons_zero, List.set_cons_succ, List.getElem_toArray, List.getElem_cons_zero, List.getElem_cons_succ]))
  (refine wpAnyH_take (i := 5) (v := ?_) rfl (by kernel_rfl) (by kernel_rfl) (by kernel_rfl) (fun _ _ _ h => h) (Or.inl ⟨by rfl, ?_⟩) hHeld ?_; rotate_left; (focus (intro w hSw; (try dsimp only at hSw); go_simp; try with_reducible rfl)); (try simp only [Act.put, List.setIfInBounds_toArray, List.set_cons_zero, List.set_cons_succ, List.getElem_toArray, List.getElem_cons_zero, List.getElem_cons_succ]))
  (refine wpAnyH_take (i := 6) (v := ?_) rfl (by kernel_rfl) (by kernel_rfl) (by kernel_rfl) (fun _ _ _ h => h) (Or.inl ⟨by rfl, ?_⟩) hHeld ?_; rotate_left; (focus (intro w hSw; (try dsimp only at hSw); go_simp; (have cc := (HC.out _ hSw).2.1; go_simp; try with_reducible rfl))); (try simp only [Act.put, List.setIfInBounds_toArray, List.set_cons_zero, List.set_cons_succ, List.getElem_toArray, List.getElem_cons_zero, List.getElem_cons_succ]))
  (refine wpAnyH_take (i := 7) (v := ?_) rfl (by kernel_rfl) (by kernel_rfl) (by kernel_rfl) (fun _ _ _ h => h) (Or.inl ⟨by rfl, ?_⟩) hHeld ?_; rotate_left; (focus (intro w hSw; (try dsimp only at hSw); go_simp; try with_reducible rfl)); (try simp only [Act.put, List.setIfInBounds_toArray, List.set_cons_zero, List.set_cons_succ, List.getElem_toArray, List.getElem_cons_zero, List.getElem_cons_succ]))
  (refine wpAnyH_take (i := 8) (v := ?_) rfl (by kernel_rfl) (by kernel_rfl) (by kernel_rfl) (fun _ _ _ h => h) (Or.inl ⟨by rfl, ?_⟩) hHeld ?_; rotate_left; (focus (intro w hSw; (try dsimp only at hSw); go_simp; (have cc := (HC.out _ hSw).2.2.2; go_simp; try with_reducible rfl))); (try simp only [Act.put, List.setIfInBounds_toArray, List.set_cons_zero, List.set_cons_succ, List.getElem_toArray, List.getElem_cons_zero, List.getElem_cons_succ]))
  (refine wpAnyH_ready (rs := [4]) (by kernel_rfl) (by simp) ?_; refine AllReadyH.cons rfl (fun K hK => ?_) AllReadyH.nil; go_simp; refine (H1.out _).mono ?_; rintro e y1 ⟨rfl, rfl⟩; refine hK.out _ _ ?_ (fun hHeldN => ?_); (focus ((try dsimp only); (exact hHeld))); clear hK K hHeld; have hHeld := hHeldN; clear hHeldN; (try simp only [Act.put, List.setIfInBounds_toArray, List.set_cons_zero, List.set_cons_succ, List.getElem_toArray, List.getElem_cons_zero, List.getElem_cons_succ]))
  (refine wpAnyH_ready (rs := [9]) (by kernel_rfl) (by simp) ?_; refine AllReadyH.cons rfl (fun K hK => ?_) AllReadyH.nil; go_simp; refine (H2.out _).mono ?_; rintro e y2 ⟨rfl, rfl⟩; refine hK.out _ _ ?_ (fun hHeldN => ?_); (focus ((try dsimp only); (exact hHeld))); clear hK K hHeld; have hHeld := hHeldN; clear hHeldN; (try simp only [Act.put, List.setIfInBounds_toArray, List.set_cons_zero, List.set_cons_succ, List.getElem_toArray, List.getElem_cons_zero, List.getElem_cons_succ]))
  (refine wpAnyH_ready (rs := [10]) (by kernel_rfl) (by simp) ?_; refine AllReadyH.cons rfl (fun K hK => ?_) AllReadyH.nil; go_simp; skip; refine hK.out _ _ ?_ (fun hHeldN => ?_); (focus ((try dsimp only); (exact hHeld.alloc _))); clear hK K hHeld; have hHeld := hHeldN; clear hHeldN; (try simp only [Act.put, List.setIfInBounds_toArray, List.set_cons_zero, List.set_cons_succ, List.getElem_toArray, List.getElem_cons_zero, List.getElem_cons_succ]))
  (refine wpAnyH_ready (rs := [11]) (by kernel_rfl) (by simp) ?_; refine AllReadyH.cons rfl (fun K hK => ?_) AllReadyH.nil; go_simp; refine (orV c1 c2 ((BlkAt.new w2 [.int .i64 c1, .int .i64 c2]).later (Below.refl _ _).drew)).mono ?_; rintro e y3 ⟨rfl, rfl⟩; refine hK.out _ _ ?_ (fun hHeldN => ?_); (focus ((try dsimp only); (exact hHeld))); clear hK K hHeld; have hHeld := hHeldN; clear hHeldN; (try simp only [Act.put, List.setIfInBounds_toArray, List.set_cons_zero, List.set_cons_succ, List.getElem_toArray, List.getElem_cons_zero, List.getElem_cons_succ]))
  (refine wpAnyH_take (i := 12) (v := ?_) rfl (by kernel_rfl) (by kernel_rfl) (by kernel_rfl) (fun _ _ _ h => h) (Or.inl ⟨by rfl, ?_⟩) hHeld ?_; rotate_left; (focus (intro w hSw; (try dsimp only at hSw); go_simp; try with_reducible rfl)); (try simp only [Act.put, List.setIfInBounds_toArray, List.set_cons_zero, List.set_cons_succ, List.getElem_toArray, List.getElem_cons_zero, List.getElem_cons_succ]))
  refine wpAnyH_done (by kernel_rfl) ?_ _
  have HE := Lib.hid (HT.out _ _ HG.out hHeld)
  clear hHeld
  go_wp2_with fail
  go_ret
  exact ⟨by rw [HR.out]; rfl, HE.out⟩
theorem flatK_list {L : List Pf} : (flatK fcell 2 L.toArray).toList = L.flatMap fcell := by
  apply List.ext_getElem
  · rw [flat_len eltP]; simp
  · intro t h1 h2
    have ht : t < L.length * 2 := by rw [flat_len eltP] at h2; exact h2
    have hj : t / 2 < L.length := by omega
    have hx : L[t / 2]? = some L[t / 2] := List.getElem?_eq_getElem hj
    have hd : (L.toArray)[t / 2]! = L[t / 2] := by simp [hj]
    have hi : ∃ u, (fcell L[t / 2])[t % 2]? = some u := ⟨_, List.getElem?_eq_getElem (by show t % 2 < 2; omega)⟩
    obtain ⟨u, hu⟩ := hi
    have hf := flat_at eltP L (t / 2) _ hx (t % 2) u hu
    rw [show t / 2 * 2 + t % 2 = t by omega] at hf
    have hg := get_flatK fcell 2 L.toArray t (by simpa using ht)
    rw [hd] at hg
    have e1 : (flatK fcell 2 L.toArray).toList[t] = (flatK fcell 2 L.toArray)[t]! := by
      rw [getElem!_pos _ t (by simpa using ht)]; simp
    have e2 : (fcell L[t / 2])[t % 2]! = u := by rw [List.getElem!_eq_getElem?_getD, hu]; rfl
    rw [e1, hg, e2]
    have := List.getElem?_eq_getElem h2
    rw [hf] at this
    exact Option.some.inj this
theorem put_own {w : World} {B g n cap m : Nat} {L M : List Pf} (h : OwnF w B (.slice (some ⟨g, 0, none⟩) n cap) L) (hM : M.length = L.length) (os : Array Obj) :
    OwnF (sortWorldK fcell 2 w g 0 m M.toArray os) B (.slice (some ⟨g, 0, none⟩) n cap) M ∧ Chg [g] w (sortWorldK fcell 2 w g 0 m M.toArray os) := by
  obtain ⟨hn, hc⟩ := h.cap
  rcases h.2 with ⟨e0, _⟩ | ⟨g', cap', cur, e0, hb, hg, h1, h2, h3, h4⟩
  · cases e0
  · simp only [Value.slice.injEq, Option.some.injEq, Addr.mk.injEq] at e0
    obtain ⟨⟨rfl, _⟩, rfl, rfl⟩ := e0
    have hlt : g < w.heap.size := (Array.getElem?_eq_some_iff.1 hg).1
    have hfs : (flatK fcell 2 M.toArray).size = M.length * 2 := by simp
    have hblk : (sortWorldK fcell 2 w g 0 m M.toArray os).heap[g]? = some (.cells (putCells id 0 (flatK fcell 2 M.toArray) cur) 40 (0, 0)) := by
      show ((w.heap.modify g _) ++ os)[g]? = _
      rw [Array.getElem?_append_left (by simpa using hlt), Array.getElem?_modify, if_pos rfl, hg]
      rfl
    have hps : (putCells id 0 (flatK fcell 2 M.toArray) cur).size = cur.size := by simp [putCells]
    refine ⟨⟨by rw [flat_len eltP], .inr ⟨g, cap, _, by rw [hM], hb, hblk, by omega, h2, by rw [hps]; exact h3, ?_⟩⟩, ⟨⟨rfl, rfl, rfl, ?_, fun b hb' => by omega⟩, fun b hb' hn' => ?_⟩⟩
    · rw [← flatK_list]
      apply List.ext_getElem?
      intro j
      rw [List.getElem?_take]
      by_cases hj : j < M.length * 2
      · have hjc : j < cur.size := by rw [h3]; have := Nat.mul_le_mul_right 2 h1; omega
        rw [if_pos hj, Array.getElem?_toList, Array.getElem?_toList]
        unfold putCells
        rw [Array.getElem?_mapIdx, Array.getElem?_eq_getElem hjc, Array.getElem?_eq_getElem (by omega)]
        simp only [Option.map_some]
        rw [if_pos (by omega)]
        simp [getElem!_pos, hj]
      · rw [if_neg hj, Array.getElem?_toList, Array.getElem?_eq_none (by omega)]
    · show w.heap.size ≤ ((w.heap.modify g _) ++ os).size
      simp
    · show ((w.heap.modify g _) ++ os)[b]? = _
      rw [Array.getElem?_append_left (by simpa using hb'), Array.getElem?_modify, if_neg (fun e => hn' (by simp [e]))]
end Go.Proofs.Ytdjhgahdiggahaa

namespace Go.Proofs.Ytdjhgahdiggahaa
open Go.RowKit Go.Sort Go.Shelf
attribute [local go_sem ↓] Go.wp_at_zero Go.wp_at_succ
open Sp

set_option maxRecDepth 100000 in
theorem iv_at2 {L : List Int} {j : Nat} {x : Int} (h : L[j]? = some x) : (iv L)[j]? = some (.int .i64 x) := by
  unfold iv
  rw [List.getElem?_map, h]
  rfl
set_option maxRecDepth 100000 in
theorem iv_set (L : List Int) (j : Nat) (x : Int) : (iv L).set j (.int .i64 x) = iv (L.set j x) := by
  unfold iv
  rw [List.map_set]
abbrev IB (g : Nat) (L : List Int) (w : World) : Prop := BlkAt 3 g (iv L) w
set_option maxRecDepth 100000 in
theorem IB.set {g : Nat} {L : List Int} {w : World} (h : IB g L w) (j : Nat) (x : Int) : IB g (L.set j x) (w.setCell ⟨g, j, none⟩ (.int .i64 x)) := by
  have := BlkAt.set h j (.int .i64 x)
  rw [iv_set] at this
  exact this
set_option maxRecDepth 100000 in
theorem made_iv (n : Nat) : (madeCells (Value.int IntKind.i64 0).cells (n * 1)).toList = iv (List.replicate n 0) := by
  rw [Nat.mul_one]; show (madeCells #[.int .i64 0] n).toList = _
  rw [toList_madeCells_one]; simp [iv]
set_option maxRecDepth 100000 in
theorem make_ints (n : Nat) (w : World) (hn : n ≤ 1000000) :
    ∃ w1, (Instr.makeSlice 62 (.int .i64 (n : Int)) (.int .i64 (n : Int))).run Try.prog w = .ok (.slice (some ⟨w.heap.size, 0, none⟩) n n) w1 ∧ IB w.heap.size (List.replicate n 0) w1 ∧ Below w.heap.size w w1 := by
  have h4 : ((Try.prog).info? 3).map (fun i => (i.zero, i.size, i.bytes)) = some (some (.int .i64 0), 1, 8) := by kernel_rfl
  obtain ⟨i0, hi, hx⟩ := Option.map_eq_some_iff.1 h4
  simp only [Prod.mk.injEq] at hx
  obtain ⟨hz0, hz1, hz2⟩ := hx
  obtain ⟨w1, hmk, hown0, hg0⟩ := run_make_full (P := Try.prog) (w := w) w.heap.size 62 3 i0 (.int .i64 0) 1 Try.underlying62 hi hz0 hz1 .i64 .i64 n (by rw [hz2]; omega) (by unfold maxLen; omega) (Nat.le_refl _)
  refine ⟨w1, hmk, ?_, (Below.refl _ _).grown hg0 (Nat.le_refl _) (by simp)⟩
  rw [made_iv] at hown0
  obtain ⟨h1, h0 | ⟨g, cap, cur, e, _, hb, h2, h3, h5, h6⟩⟩ := hown0
  · cases h0.1
  · simp only [Value.slice.injEq, Option.some.injEq, Addr.mk.injEq] at e
    obtain ⟨⟨rfl, _⟩, _, rfl⟩ := e
    rw [Nat.mul_one] at h5 h6
    rw [List.take_of_length_le (by rw [Array.length_toList, h5]; exact Nat.le_refl _)] at h6
    show w1.heap[w.heap.size]? = _
    rw [hb, ← h6, Array.toArray_toList]
def encFin {n : Nat} (i : Fin n) : Value := .int .i64 (i.val : Int)
set_option maxRecDepth 100000 in
theorem sort_ib {n : Nat} {g m : Nat} {L : List Int} {w : World} (h : IB g L w) (hL : L.length = n) [Inhabited (Fin n)] (M : Array (Fin n)) (hM : M.size = n) (os : Array Obj) :
    IB g (M.toList.map fun i => (i.val : Int)) (sortWorld encFin w g 0 m M os) ∧ Chg [g] w (sortWorld encFin w g 0 m M os) := by
  have hg : w.heap[g]? = some (.cells (iv L).toArray 3 (0, 0)) := h
  have hlt : g < w.heap.size := (Array.getElem?_eq_some_iff.1 hg).1
  have hblk : (sortWorld encFin w g 0 m M os).heap[g]? = some (.cells (putCells encFin 0 M (iv L).toArray) 3 (0, 0)) := by
    show ((w.heap.modify g _) ++ os)[g]? = _
    rw [Array.getElem?_append_left (by simpa using hlt), Array.getElem?_modify, if_pos rfl, hg]
    rfl
  refine ⟨?_, ⟨⟨rfl, rfl, rfl, ?_, fun b hb' => by omega⟩, fun b hb' hn' => ?_⟩⟩
  · show (sortWorld encFin w g 0 m M os).heap[g]? = _
    rw [hblk]
    congr 2
    apply Array.ext_getElem?
    intro j
    unfold putCells iv
    rw [Array.getElem?_mapIdx]
    by_cases hj : j < n
    · have e1 : L[j]? = some (L[j]'(by rw [hL]; exact hj)) := List.getElem?_eq_getElem _
      have e2 : M[j]? = some (M[j]'(by rw [hM]; exact hj)) := Array.getElem?_eq_getElem _
      have e3 : M[j]! = M[j]'(by rw [hM]; exact hj) := getElem!_pos _ j (by rw [hM]; exact hj)
      rw [List.getElem?_toArray, List.getElem?_toArray, List.getElem?_map, List.getElem?_map, List.getElem?_map, e1, Array.getElem?_toList (xs := M), e2]
      simp only [Option.map_some]
      rw [if_pos ⟨Nat.zero_le _, by rw [hM]; omega⟩, Nat.sub_zero, e3]
      rfl
    · rw [List.getElem?_toArray, List.getElem?_toArray, List.getElem?_eq_none (by simp; omega), List.getElem?_eq_none (by simp; omega)]
      rfl
  · show w.heap.size ≤ ((w.heap.modify g _) ++ os).size
    simp
  · show ((w.heap.modify g _) ++ os)[b]? = _
    rw [Array.getElem?_append_left (by simpa using hb'), Array.getElem?_modify, if_neg (fun e => hn' (by simp [e]))]
end Go.Proofs.Ytdjhgahdiggahaa
