/- TrieMeans: plainly. -/
import Derived.Test.YtbfkjdnopiadjaaZ15

set_option linter.unusedSimpArgs false
set_option linter.unusedVariables false
namespace Go.Proofs.Ytbfkjdnopiadjaa
open Go.RowKit
open Tp (Pf Ok En Tr)

/-- A map holds what a rising list holds. -/
def MR (S : List (Pf × Value)) (L : List En) : Prop := ∀ p, lookM S p = (Tp.look L p).map (Value.int .i64)
theorem lookM_cons (x : Pf × Value) (S : List (Pf × Value)) (q : Pf) : lookM (x :: S) q = if x.1 = q then some x.2 else lookM S q := by
  unfold lookM
  by_cases e : x.1 = q
  · rw [if_pos e, List.find?_cons_of_pos (by simpa using e)]; rfl
  · rw [if_neg e, List.find?_cons_of_neg (by simpa using e)]
theorem lookM_del : ∀ (S : List (Pf × Value)) (p q : Pf), lookM (delM S p) q = if q = p then none else lookM S q
  | [], p, q => by simp [delM, lookM]
  | x :: S, p, q => by
    have ih := lookM_del S p q
    unfold delM at ih ⊢
    by_cases e : x.1 = p
    · rw [List.filter_cons_of_neg (by simpa using e), ih, lookM_cons]
      by_cases e2 : q = p
      · rw [if_pos e2, if_pos e2]
      · rw [if_neg e2, if_neg e2, if_neg (fun h => e2 (h.symm.trans e))]
    · rw [List.filter_cons_of_pos (by simpa using e), lookM_cons, lookM_cons, ih]
      by_cases e2 : q = p
      · rw [if_pos e2, if_pos e2, if_neg (fun h => e (h.trans e2))]
      · rw [if_neg e2, if_neg e2]
theorem lookM_map : ∀ (S : List (Pf × Value)) (p q : Pf) (v : Value), p ∈ S.map Prod.fst → lookM (S.map fun x => if x.1 = p then (p, v) else x) q = if q = p then some v else lookM S q
  | x :: S, p, q, v, h => by
    rw [List.map_cons, lookM_cons, lookM_cons]
    by_cases e : x.1 = p
    · rw [if_pos e]
      by_cases e2 : q = p
      · rw [if_pos e2, if_pos e2.symm]
      · rw [if_neg e2, if_neg (fun h => e2 h.symm), if_neg (fun h => e2 (h.symm.trans e))]
        by_cases hm : p ∈ S.map Prod.fst
        · rw [lookM_map S p q v hm, if_neg e2]
        · congr 1
          conv => rhs; rw [← List.map_id S]
          exact List.map_congr_left fun y hy => by
            rw [if_neg (fun e3 => hm (List.mem_map.2 ⟨y, hy, e3⟩))]; rfl
    · rw [if_neg e]
      have hm : p ∈ S.map Prod.fst := by
        rcases List.mem_cons.1 (by simpa using h : p ∈ x.1 :: S.map Prod.fst) with h | h
        · exact absurd h.symm e
        · exact h
      rw [lookM_map S p q v hm]
      by_cases e2 : q = p
      · rw [if_pos e2, if_pos e2, if_neg (fun h => e (h.trans e2))]
      · rw [if_neg e2, if_neg e2]
theorem lookM_app (S : List (Pf × Value)) (p q : Pf) (v : Value) (h : p ∉ S.map Prod.fst) : lookM (S ++ [(p, v)]) q = if q = p then some v else lookM S q := by
  by_cases e : q = p
  · subst e
    rw [if_pos rfl]
    unfold lookM
    rw [List.find?_append]
    have : S.find? (fun x => decide (x.1 = q)) = none := List.find?_eq_none.2 fun x hx => by
      simp
      rintro rfl
      exact h (List.mem_map.2 ⟨x, hx, rfl⟩)
    rw [this]
    simp
  · rw [if_neg e]
    unfold lookM
    rw [List.find?_append]
    have : [(p, v)].find? (fun x => decide (x.1 = q)) = none := List.find?_eq_none.2 fun x hx => by
      simp at hx; subst hx; simp; exact fun e2 => e e2.symm
    rw [this, Option.or_none]
theorem lookM_put (S : List (Pf × Value)) (p q : Pf) (v : Value) : lookM (putM S p v) q = if q = p then some v else lookM S q := by
  unfold putM
  split
  · rename_i h; exact lookM_map S p q v h
  · rename_i h; exact lookM_app S p q v h
theorem MR.put {S : List (Pf × Value)} {L : List En} (h : MR S L) (p : Pf) (x : Int) : MR (putM S p (.int .i64 x)) (Tp.insE L p x) := by
  intro q
  rw [lookM_put, Tp.look_ins]
  by_cases e : q = p
  · rw [if_pos e, if_pos e]; rfl
  · rw [if_neg e, if_neg e]; exact h q
theorem MR.del {S : List (Pf × Value)} {L : List En} (h : MR S L) (p : Pf) : MR (delM S p) (Tp.delE L p) := by
  intro q
  rw [lookM_del, Tp.look_del]
  by_cases e : q = p
  · rw [if_pos e, if_pos e]; rfl
  · rw [if_neg e, if_neg e]; exact h q
theorem look_has' {L : List En} {p : Pf} {u : Int} (h : Tp.look L p = some u) : (p, u) ∈ L := by
  unfold Tp.look at h
  obtain ⟨x, hx, e⟩ := Option.map_eq_some_iff.1 h
  have h0 := List.find?_some hx
  have h1 : x.1 = p := of_decide_eq_true h0
  have h2 := List.mem_of_find?_eq_some hx
  obtain ⟨p', u'⟩ := x
  simp only at h1 e
  subst h1 e
  exact h2
theorem look_key {L : List En} (hu : Tp.Up L) {p : Pf} : p ∈ L.map Prod.fst ↔ (Tp.look L p).isSome = true := by
  constructor
  · intro h
    obtain ⟨x, hx, rfl⟩ := List.mem_map.1 h
    rw [look_mem hu hx]; rfl
  · intro h
    obtain ⟨u, hu⟩ := Option.isSome_iff_exists.1 h
    exact List.mem_map.2 ⟨_, look_has' hu, rfl⟩
theorem lookM_key {S : List (Pf × Value)} {p : Pf} : p ∈ S.map Prod.fst ↔ (lookM S p).isSome = true := by
  constructor
  · intro h
    cases hl : lookM S p with
    | some v => rfl
    | none =>
      exfalso
      unfold lookM at hl
      have := Option.map_eq_none_iff.1 hl
      rw [List.find?_eq_none] at this
      obtain ⟨x, hx, rfl⟩ := List.mem_map.1 h
      exact this x hx (by simp)
  · intro h
    refine Classical.byContradiction fun hn => ?_
    rw [lookM_no hn] at h
    cases h
theorem up_nodup {L : List En} (h : Tp.Up L) : (L.map Prod.fst).Nodup := by
  rw [List.Nodup, List.pairwise_map]
  exact List.Pairwise.imp (fun h => Tp.lt_ne h) h
theorem MR.len {S : List (Pf × Value)} {L : List En} (h : MR S L) (hs : (S.map Prod.fst).Nodup) (hu : Tp.Up L) : S.length = L.length := by
  have same : ∀ p, p ∈ S.map Prod.fst ↔ p ∈ L.map Prod.fst := by
    intro p
    rw [lookM_key, look_key hu, h p]
    cases Tp.look L p <;> simp
  have h1 := Tp.nodup_le _ _ hs (fun x hx => (same x).1 hx)
  have h2 := Tp.nodup_le _ _ (up_nodup hu) (fun x hx => (same x).2 hx)
  simp only [List.length_map] at h1 h2
  omega
theorem MAt.stay {g : Nat} {S : List (Pf × Value)} {w w' : World} (h : MAt g S w) (hc : Chg [g] w w') : Stay w w' := by
  obtain ⟨es, c, hb, _⟩ := h.ex
  refine Stay.of_chg hc fun b hbm cs hn => ?_
  rw [List.mem_singleton.1 hbm] at hn
  have := hb.symm.trans (show w.heap[g]? = _ from hn)
  cases this
theorem MAt.neT {g : Nat} {S : List (Pf × Value)} {w : World} (h : MAt g S w) {t : Nat} {lim : Int} {T : Tr} (ht : TSt t lim T w) : g ≠ t := by
  obtain ⟨es, c, hb, _⟩ := h.ex
  obtain ⟨v, hv, _⟩ := ht.blk
  rintro rfl
  have := hb.symm.trans (show w.heap[g]? = _ from hv)
  cases this
/-- The match, and what is there: none that has the address is longer. -/
theorem last_no {T : Tr} (hT : T.Inv) {a : Int} (h : (lastE (T.el.filter (Tp.hasE a))).2 = false) : lastE (T.el.filter (Tp.hasE a)) = (((0, 0), 0), false) ∧ T.el.filter (Tp.hasE a) = [] := by
  unfold lastE at h ⊢
  cases hg : (T.el.filter (Tp.hasE a)).getLast? with
  | none => rw [hg] at h; exact ⟨rfl, List.getLast?_eq_none_iff.1 hg⟩
  | some x => rw [hg] at h; cases h
theorem last_yes {T : Tr} (hT : T.Inv) {a : Int} {x : En} (h : lastE (T.el.filter (Tp.hasE a)) = (x, true)) : x ∈ T.el ∧ Tp.hasE a x = true ∧ Tp.look T.el x.1 = some x.2 ∧ ∀ y ∈ T.el.filter (Tp.hasE a), y.1.2 ≤ x.1.2 := by
  unfold lastE at h
  cases hg : (T.el.filter (Tp.hasE a)).getLast? with
  | none => rw [hg] at h; cases h
  | some z =>
    rw [hg] at h
    simp only [Prod.mk.injEq, and_true] at h
    have hm := List.mem_of_getLast? hg
    obtain ⟨h1, h2⟩ := List.mem_filter.1 hm
    have e : z = x := Prod.ext (Prod.ext (by rw [← h]) (by rw [← h])) (by rw [← h])
    subst e
    exact ⟨h1, h2, look_mem hT.up h1, Tp.last_most _ _ (Tp.has_rise hT.up hT.okE a) hg⟩
theorem longer_no {T : Tr} (hT : T.Inv) {a : Int} {P : Pf} {u : Int} (hl : Tp.look T.el P = some u) (hh : Wp.hasB P.1 P.2 a = true) : (lastE (T.el.filter (Tp.hasE a))).2 = true ∧ P.2 ≤ (lastE (T.el.filter (Tp.hasE a))).1.1.2 := by
  have hm := look_has' hl
  have hE : Tp.hasE a (P, u) = true := by rw [← has_ok (x := (P, u)) (hT.okE _ hm) a]; exact hh
  have hf : (P, u) ∈ T.el.filter (Tp.hasE a) := List.mem_filter.2 ⟨hm, hE⟩
  cases hb : (lastE (T.el.filter (Tp.hasE a))).2 with
  | false =>
    rw [(last_no hT hb).2] at hf
    cases hf
  | true =>
    have e : lastE (T.el.filter (Tp.hasE a)) = ((lastE (T.el.filter (Tp.hasE a))).1, true) := Prod.ext rfl hb
    exact ⟨rfl, (last_yes hT e).2.2.2 _ hf⟩
theorem run_look2 {mt : TypeId} (hm : Try.prog.underlying mt = some (.map 37 3)) {g : Nat} {S : List (Pf × Value)} {w : World} (h : MAt g S w) {L : List En} (hr : MR S L) {p : Pf} (hp : Ky p) :
    (Instr.lookup mt (.map (some g)) (.agg #[.int .u32 p.1, .int .i64 p.2]) true).run Try.prog w = .ok (.tuple #[.int .i64 ((Tp.look L p).getD 0), .bool (Tp.look L p).isSome]) w := by
  have hz : ∀ w, (zeroValue 3).run Try.prog w = .ok (.int .i64 0) w := fun w => by kernel_rfl
  have := run_lookM hm hz h hp true
  rw [hr p] at this
  simp only [if_true] at this
  cases hl : Tp.look L p with
  | none => rw [hl] at this; exact this
  | some u => rw [hl] at this; exact this
end Go.Proofs.Ytbfkjdnopiadjaa
