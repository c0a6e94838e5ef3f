/- A slice of things of k cells each that is owned: read, append.
   append of whatever comes, by what its run leaves.
   append to an owned slice: its block is the old one or a new one.
   A map whose keys are prefixes, and a range over it: what it holds, and what is still to come.
   Cores, plainly: entries, what is told, what happens. -/
import Derived.Maps.RangeWalk
import Derived.Sort.MapsRangeIn
import Derived.RangeFuncSeq
import Derived.Test.YtdjhgahdiggahaaZ01
import Derived.Test.YtdjhgahdiggahaaZ03
import Derived.Test.YtdjhgahdiggahaaZ07
import Derived.Test.YtdjhgahdiggahaaZ10
import Derived.Test.YtdjhgahdiggahaaZ13

set_option linter.unusedSimpArgs false
set_option linter.unusedVariables false
namespace Go.Proofs.Ytdjhgahdiggahaa
namespace Lf
open Tp (Pf)

structure En where
  own : Bool
  tk : Bool
  s : Nat → Int
  to : Int
  fe : Int
  a : Nat → Int
structure Td where
  p : Int
  k : Pf
  d : Int
abbrev En0 : En := ⟨false, false, fun _ => 255, 255, 255, fun _ => 0⟩
def upf (f : Nat → Int) (p : Nat) (v : Int) : Nat → Int := fun q => if q = p then v else f q
theorem upf_self (f : Nat → Int) (p : Nat) (v : Int) : upf f p v p = v := if_pos rfl
theorem upf_ne (f : Nat → Int) {p q : Nat} (v : Int) (h : q ≠ p) : upf f p v q = f q := if_neg h
def far (d c : Int) : Int := if c = 0 then 255 else min (d + c) 255
def dis (c s : Nat → Int) : Nat → Int
  | 0 => 255
  | k + 1 => min (dis c s k) (far (s k) (c k))
def dist (c : Nat → Int) (e : En) : Int := if e.own then 0 else if e.tk then dis c e.s 8 else 255
def En.act (e : En) : Bool := (List.range 8).any fun p => decide (e.a p ≠ 0)
theorem act_iff (e : En) : e.act = true ↔ ∃ p, p < 8 ∧ e.a p ≠ 0 := by
  unfold En.act
  simp
theorem act_no (e : En) : e.act = false ↔ ∀ p, p < 8 → e.a p = 0 := by
  rw [← Bool.not_eq_true, act_iff]
  constructor
  · intro h p hp
    rcases Int.lt_trichotomy (e.a p) 0 with h1 | h1 | h1
    · exact absurd ⟨p, hp, by omega⟩ h
    · exact h1
    · exact absurd ⟨p, hp, by omega⟩ h
  · rintro h ⟨p, hp, h1⟩
    exact h1 (h p hp)
def told (c : Nat → Int) (p : Pf) (d : Int) (k : Nat) : List Td := ((List.range k).filter fun q => decide (c q ≠ 0)).map fun (q : Nat) => ⟨q, p, d⟩
theorem told_succ (c : Nat → Int) (p : Pf) (d : Int) (k : Nat) : told c p d (k + 1) = told c p d k ++ (if c k = 0 then [] else [⟨k, p, d⟩]) := by
  unfold told
  rw [List.range_succ, List.filter_append, List.map_append]
  by_cases h : c k = 0 <;> simp [h]
def tellA (c : Nat → Int) (k : Nat) (a : Nat → Int) : Nat → Int := fun q => if q < k ∧ c q ≠ 0 then a q + 1 else a q
theorem tellA_zero (c : Nat → Int) (a : Nat → Int) : tellA c 0 a = a := by funext q; simp [tellA]
theorem tellA_succ (c : Nat → Int) (k : Nat) (a : Nat → Int) : tellA c (k + 1) a = if c k = 0 then tellA c k a else upf (tellA c k a) k (tellA c k a k + 1) := by
  funext q
  unfold tellA upf
  by_cases h : c k = 0
  · rw [if_pos h]
    by_cases hq : q = k
    · subst hq; simp [h]
    · have : (q < k + 1 ∧ c q ≠ 0) ↔ (q < k ∧ c q ≠ 0) := by constructor <;> rintro ⟨h1, h2⟩ <;> exact ⟨by omega, h2⟩
      simp only [this]
  · rw [if_neg h]
    by_cases hq : q = k
    · subst hq; simp [h]
    · have : (q < k + 1 ∧ c q ≠ 0) ↔ (q < k ∧ c q ≠ 0) := by constructor <;> rintro ⟨h1, h2⟩ <;> exact ⟨by omega, h2⟩
      simp only [this, if_neg hq]
/-- An entry is looked at: what becomes of it, and what is told. -/
def look (c : Nat → Int) (p : Pf) (e : En) : En × List Td :=
  if e.act then ({ e with fe := min e.fe (dist c e) }, [])
  else if e.to = dist c e then ({ e with fe := min e.to (dist c e) }, [])
  else if told c p (dist c e) 8 = [] then ({ e with to := dist c e, fe := dist c e }, [])
  else ({ e with fe := min e.to (dist c e), to := dist c e, a := tellA c 8 e.a }, told c p (dist c e) 8)

/-- Entries by their prefixes. -/
abbrev Es := List (Pf × En)
def keys (L : Es) : List Pf := L.map Prod.fst
def getE (L : Es) (q : Pf) : Option En := (L.find? fun x => decide (x.1 = q)).map Prod.snd
def atK (q : Pf) (f : En → En) (L : Es) : Es := L.map fun x => if x.1 = q then (x.1, f x.2) else x
def mapIn (K : List Pf) (f : En → En) (L : Es) : Es := L.map fun x => if x.1 ∈ K then (x.1, f x.2) else x
def outIn (K : List Pf) (o : Pf → En → List Td) (L : Es) : List Td := K.flatMap fun q => match getE L q with | some e => o q e | none => []
theorem keys_atK (q : Pf) (f : En → En) (L : Es) : keys (atK q f L) = keys L := by
  unfold keys atK
  rw [List.map_map]
  congr 1
  funext x
  simp only [Function.comp]
  split <;> rfl
theorem keys_mapIn (K : List Pf) (f : En → En) (L : Es) : keys (mapIn K f L) = keys L := by
  unfold keys mapIn
  rw [List.map_map]
  congr 1
  funext x
  simp only [Function.comp]
  split <;> rfl
theorem key_inj {L : Es} (h : (keys L).Nodup) {x y : Pf × En} (hx : x ∈ L) (hy : y ∈ L) (e : x.1 = y.1) : x = y := by
  obtain ⟨i, hi⟩ := List.getElem?_of_mem hx
  obtain ⟨j, hj⟩ := List.getElem?_of_mem hy
  have a : (keys L)[i]? = some x.1 := by unfold keys; rw [List.getElem?_map, hi]; rfl
  have b : (keys L)[j]? = some x.1 := by unfold keys; rw [List.getElem?_map, hj, e]; rfl
  obtain ⟨hi', ha⟩ := List.getElem?_eq_some_iff.1 a
  obtain ⟨hj', hb⟩ := List.getElem?_eq_some_iff.1 b
  have := (List.getElem_inj h).1 (ha.trans hb.symm)
  subst this
  rw [hi] at hj
  exact Option.some.inj hj
theorem getE_of {L : Es} (h : (keys L).Nodup) {q : Pf} {e : En} (hm : (q, e) ∈ L) : getE L q = some e := by
  unfold getE
  cases hf : L.find? (fun x => decide (x.1 = q)) with
  | none =>
    have := List.find?_eq_none.1 hf _ hm
    simp at this
  | some x =>
    have h1 : x.1 = q := of_decide_eq_true (List.find?_some (p := fun x : Pf × En => decide (x.1 = q)) hf)
    have := key_inj h (List.mem_of_find?_eq_some hf) hm h1
    rw [this]; rfl
theorem getE_mem {L : Es} {q : Pf} {e : En} (h : getE L q = some e) : (q, e) ∈ L := by
  unfold getE at h
  cases hf : L.find? (fun x => decide (x.1 = q)) with
  | none => rw [hf] at h; cases h
  | some x =>
    rw [hf] at h
    have h1 : x.1 = q := of_decide_eq_true (List.find?_some (p := fun x : Pf × En => decide (x.1 = q)) hf)
    have h2 := List.mem_of_find?_eq_some hf
    simp only [Option.map_some, Option.some.injEq] at h
    rw [← h1, ← h]; exact h2
theorem getE_none {L : Es} {q : Pf} : getE L q = none ↔ q ∉ keys L := by
  unfold getE keys
  rw [Option.map_eq_none_iff, List.find?_eq_none]
  constructor
  · intro h hm
    obtain ⟨x, hx, rfl⟩ := List.mem_map.1 hm
    simpa using h x hx
  · intro h x hx
    simp only [decide_eq_true_eq]
    rintro rfl
    exact h (List.mem_map.2 ⟨x, hx, rfl⟩)
theorem getE_key {L : Es} {q : Pf} (h : q ∈ keys L) : ∃ e, getE L q = some e := by
  cases he : getE L q with
  | none => exact absurd h (getE_none.1 he)
  | some e => exact ⟨e, rfl⟩
theorem getE_mapIn {K : List Pf} (f : En → En) {L : Es} {q : Pf} (h : q ∉ K) : getE (mapIn K f L) q = getE L q := by
  unfold getE mapIn
  induction L with
  | nil => rfl
  | cons x L ih =>
    rw [List.map_cons, List.find?_cons, List.find?_cons]
    by_cases hx : x.1 = q
    · have hk : x.1 ∉ K := by rw [hx]; exact h
      rw [if_neg hk]
      simp only [hx, decide_true, Option.map_some]
    · have : (if x.1 ∈ K then (x.1, f x.2) else x).1 = x.1 := by split <;> rfl
      rw [this]
      simp only [hx, decide_false]
      exact ih
theorem mapIn_nil (f : En → En) (L : Es) : mapIn [] f L = L := by unfold mapIn; simp
theorem mapIn_snoc {K : List Pf} {q : Pf} (f : En → En) (L : Es) (h : q ∉ K) : mapIn (K ++ [q]) f L = atK q f (mapIn K f L) := by
  unfold mapIn atK
  rw [List.map_map]
  apply List.map_congr_left
  intro x _
  simp only [Function.comp, List.mem_append, List.mem_singleton]
  by_cases h1 : x.1 ∈ K
  · have h2 : x.1 ≠ q := fun e => h (e ▸ h1)
    simp [h1, h2]
  · by_cases h2 : x.1 = q
    · rw [if_pos (Or.inr h2), if_neg h1, if_pos h2]
    · rw [if_neg (by rintro (h | h) <;> contradiction), if_neg h1, if_neg h2]
theorem mapIn_all {K : List Pf} (f : En → En) {L : Es} (h : ∀ x ∈ L, x.1 ∈ K) : mapIn K f L = L.map fun x => (x.1, f x.2) := by
  unfold mapIn
  exact List.map_congr_left fun x hx => if_pos (h x hx)
theorem outIn_snoc (K : List Pf) (q : Pf) (o : Pf → En → List Td) (L : Es) : outIn (K ++ [q]) o L = outIn K o L ++ (match getE L q with | some e => o q e | none => []) := by
  unfold outIn; simp
theorem outIn_all {o : Pf → En → List Td} {L : Es} (h : (keys L).Nodup) : outIn (keys L) o L = L.flatMap fun x => o x.1 x.2 := by
  unfold outIn keys
  rw [List.flatMap_map]
  have : ∀ x ∈ L, (match getE L x.1 with | some e => o x.1 e | none => []) = o x.1 x.2 := fun x hx => by rw [getE_of h (e := x.2) hx]
  rw [List.flatMap_def, List.flatMap_def]
  congr 1
  exact List.map_congr_left this
/-- An entry comes, in order. -/
def ins (q : Pf) (e : En) (L : Es) : Es := (L.takeWhile fun x => decide (Tp.lt x.1 q)) ++ (q, e) :: L.dropWhile fun x => decide (Tp.lt x.1 q)
theorem ins_perm (q : Pf) (e : En) (L : Es) : (ins q e L).Perm ((q, e) :: L) := by
  unfold ins
  refine List.perm_middle.trans ?_
  rw [List.takeWhile_append_dropWhile]

structure Co where
  fr : Int
  c : Nat → Int
  L : Es
structure Ev where
  k : Int
  po : Int
  co : Int
  q : Pf
  d : Int
def lookAll (σ : Co) : Co × List Td := ({ σ with L := σ.L.map fun x => (x.1, (look σ.c x.1 x.2).1) }, σ.L.flatMap fun x => (look σ.c x.1 x.2).2)
def quiet (p : Nat) (e : En) : En := { e with s := upf e.s p 255, a := upf e.a p 0 }
def down (σ : Co) (p : Nat) : Co × List Td := lookAll ⟨σ.fr, upf σ.c p 0, σ.L.map fun x => (x.1, quiet p x.2)⟩
def upE (p : Nat) (e : En) : En := if e.to = 255 then e else { e with a := upf e.a p (e.a p + 1) }
def upO (p : Nat) (q : Pf) (e : En) : List Td := if e.to = 255 then [] else [⟨p, q, e.to⟩]
def up (σ : Co) (p : Nat) (v : Int) : Co × List Td := (⟨σ.fr, upf σ.c p v, σ.L.map fun x => (x.1, upE p x.2)⟩, σ.L.flatMap fun x => upO p x.1 x.2)
def portUp (σ : Co) (p : Nat) (v : Int) : Co × List Td := if σ.c p = 0 then up σ p v else ((up (down σ p).1 p v).1, (down σ p).2 ++ (up (down σ p).1 p v).2)
def cost (σ : Co) (p : Nat) (v : Int) : Co × List Td := lookAll ⟨σ.fr, upf σ.c p v, σ.L⟩
def lookK (σ : Co) (q : Pf) : Co × List Td := ({ σ with L := atK q (fun e => (look σ.c q e).1) σ.L }, outIn [q] (fun q e => (look σ.c q e).2) σ.L)
def entry (σ : Co) (q : Pf) : Co := match getE σ.L q with | some _ => σ | none => { σ with L := ins q En0 σ.L }
def heard (σ : Co) (p : Nat) (q : Pf) (d : Int) : Co × List Td := lookK { entry σ q with L := atK q (fun e => { e with s := upf e.s p d }) (entry σ q).L } q
def less (p : Nat) (e : En) : En := { e with a := upf e.a p (e.a p - 1) }
def acked (σ : Co) (p : Nat) (q : Pf) : Co × List Td :=
  match getE σ.L q with
  | some e => if (less p e).act then ({ σ with L := atK q (less p) σ.L }, []) else lookK { σ with L := atK q (less p) σ.L } q
  | none => (σ, [])
def En.there (e : En) : Bool := e.own || ((List.range 8).any fun p => decide (e.s p ≠ 255)) || decide (e.to ≠ 255) || e.act
def leave (σ : Co) : Co := { σ with fr := σ.fr + (σ.L.countP fun x => !x.2.there && x.2.tk), L := σ.L.filter fun x => x.2.there }
def waits (L : Es) : List Pf := keys (L.filter fun x => !x.2.tk)
def takeE (c : Nat → Int) (q : Pf) (e : En) : En × List Td := look c q { e with tk := true }
def take (σ : Co) : Co × List Td :=
  let K := (waits σ.L).take σ.fr.toNat
  (⟨σ.fr - K.length, σ.c, σ.L.map fun x => if x.1 ∈ K then (x.1, (takeE σ.c x.1 x.2).1) else x⟩, outIn K (fun q e => (takeE σ.c q e).2) σ.L)
end Lf
end Go.Proofs.Ytdjhgahdiggahaa

namespace Go.Proofs.Ytdjhgahdiggahaa
open Go.RowKit
open Go.ChangeMaps (setBlock)
open Tp (Pf)

theorem inj_nodup {α β : Type} (f : α → β) {l : List α} (hn : (l.map f).Nodup) {x y : α} (hx : x ∈ l) (hy : y ∈ l) (h : f x = f y) : x = y := by
  obtain ⟨i, hi⟩ := List.getElem?_of_mem hx
  obtain ⟨j, hj⟩ := List.getElem?_of_mem hy
  have a : (l.map f)[i]? = some (f x) := by rw [List.getElem?_map, hi]; rfl
  have b : (l.map f)[j]? = some (f x) := by rw [List.getElem?_map, hj, h]; rfl
  obtain ⟨hi', ha⟩ := List.getElem?_eq_some_iff.1 a
  obtain ⟨hj', hb⟩ := List.getElem?_eq_some_iff.1 b
  have := (List.getElem_inj hn).1 (ha.trans hb.symm)
  subst this
  rw [hi] at hj
  exact Option.some.inj hj
theorem map_filters {α β γ : Type} (f : α → γ) (g : β → γ) (p : α → Bool) (q : β → Bool) : ∀ (l : List α) (m : List β), l.map f = m.map g → (∀ a ∈ l, ∀ b ∈ m, f a = g b → p a = q b) → (l.filter p).map f = (m.filter q).map g
  | [], [], _, _ => rfl
  | [], _ :: _, h, _ => by cases h
  | _ :: _, [], h, _ => by cases h
  | a :: l, b :: m, h, hp => by
    rw [List.map_cons, List.map_cons, List.cons.injEq] at h
    have ih := map_filters f g p q l m h.2 (fun a ha b hb => hp a (List.mem_cons_of_mem _ ha) b (List.mem_cons_of_mem _ hb))
    have h1 := hp a (by simp) b (by simp) h.1
    rw [List.filter_cons, List.filter_cons, h1]
    split
    · rw [List.map_cons, List.map_cons, h.1, ih]
    · exact ih
/-- All but one. -/
def outK (k : Pf) (left : List (Pf × Value)) : List (Pf × Value) := left.filter fun y => decide (y.1 ≠ k)
def kv (e : MapEntry) : Value × Value := (e.key, e.val)
def kw (x : Pf × Value) : Value × Value := (pv x.1, x.2)
/-- A map's block holds these; each entry came at a time of its own. -/
structure MB (g : Nat) (S : List (Pf × Value)) (w : World) : Prop where
  ex : ∃ es clock, w.heap[g]? = some (.map es clock) ∧ es.toList.map kv = S.map kw ∧ (es.toList.map (·.born)).Nodup ∧ ∀ e ∈ es.toList, e.born < clock
  ok : ∀ x ∈ S, Ky x.1
  nd : (S.map Prod.fst).Nodup
section
variable {g r : Nat} {S left : List (Pf × Value)} {w w' : World}
theorem MB.at (h : MB g S w) : MAt g S w := by
  obtain ⟨es, c, h1, h2, _⟩ := h.ex
  exact ⟨⟨es, c, h1, h2⟩, h.ok, h.nd⟩
theorem MB.lt (h : MB g S w) : g < w.heap.size := h.at.lt
theorem MB.new (w : World) : MB w.heap.size [] (w.alloc (.map #[] 0)) := ⟨⟨#[], 0, World.alloc_heap_new w _, rfl, by simp, by simp⟩, by simp, by simp⟩
theorem MB.same (h : MB g S w) (hg : w'.heap[g]? = w.heap[g]?) : MB g S w' := by
  obtain ⟨es, c, h1, h2⟩ := h.ex
  exact ⟨⟨es, c, hg.trans h1, h2⟩, h.ok, h.nd⟩
theorem MB.chg (h : MB g S w) {l : List Nat} (hm : Chg l w w') (hg : g ∉ l) : MB g S w' := by
  obtain ⟨es, c, h1, h2⟩ := h.ex
  exact ⟨⟨es, c, hm.heap h1 hg, h2⟩, h.ok, h.nd⟩
theorem MB.later (h : MB g S w) (hb : Below w.heap.size w w') : MB g S w' := h.chg (Chg.of_below [] hb) (by simp)
theorem run_updB {mt e : TypeId} (hm : Try.prog.underlying mt = some (.map 40 e)) (h : MB g S w) {p : Pf} (hp : Ky p) (hn : p ∉ S.map Prod.fst) (v : Value) :
    ∃ w', (Instr.mapUpdate mt (.map (some g)) (pv p) v).run Try.prog w = .ok () w' ∧ MB g (S ++ [(p, v)]) w' ∧ Chg [g] w w' := by
  obtain ⟨es, clock, hb, e, hn1, hn2⟩ := h.ex
  obtain ⟨l, hl⟩ := key_pv hp
  have hc := prefLaw.check w false hl
  rcases h.at.find e hp w with ⟨h1, h2⟩ | ⟨j, v0, e0, h1, h2, h3, h4, h5⟩
  · refine ⟨{ w with heap := w.heap.setIfInBounds g (.map (es.push { key := pv p, val := v, born := clock }) (clock + 1)) }, ?_, ⟨⟨_, _, (MapKept.heap_set hb).1, ?_, ?_, ?_⟩, ?_, ?_⟩, chg_map w g _⟩
    · simp [Instr.mapUpdate, run_underlying hm, MapKept.run_getObj_map hb, hc, h1, MapKept.run_setObj_map _ hb, Result.andThen]
    · rw [Array.toList_push, List.map_append, List.map_append, e]; rfl
    · rw [Array.toList_push, List.map_append, List.nodup_append]
      refine ⟨hn1, by simp, fun a ha b hb' => ?_⟩
      simp at hb'
      subst hb'
      obtain ⟨x, hx, rfl⟩ := List.mem_map.1 ha
      have := hn2 x hx
      omega
    · intro x hx
      rw [Array.toList_push] at hx
      rcases List.mem_append.1 hx with hx | hx
      · have := hn2 x hx; omega
      · simp at hx; subst hx; simp
    · intro x hx
      rcases List.mem_append.1 hx with hx | hx
      · exact h.ok x hx
      · rw [List.mem_singleton.1 hx]; exact hp
    · rw [List.map_append, List.nodup_append]
      exact ⟨h.nd, by simp, fun a ha b hb' => by simp at hb'; subst hb'; exact fun e => hn (e ▸ ha)⟩
  · exact absurd (List.mem_map.2 ⟨_, List.mem_of_getElem? h5, rfl⟩) hn
/-- A range over it is under way, by the iterator of block r: these are still to come. -/
structure RgB (g r : Nat) (S left : List (Pf × Value)) (w : World) : Prop where
  ex : ∃ es clock since seen c0, w.heap[g]? = some (.map es clock) ∧ w.heap[r]? = some (.mapIter (some g) since seen c0) ∧ es.toList.map kv = S.map kw ∧ (es.toList.map (·.born)).Nodup ∧ (∀ e ∈ es.toList, e.born < clock) ∧ (∀ e ∈ es.toList, e.born < since) ∧ since ≤ c0 ∧ since ≤ clock ∧ (leftOf es seen).toList.map kv = left.map kw
  ok : ∀ x ∈ S, Ky x.1
  nd : (S.map Prod.fst).Nodup
theorem RgB.map (h : RgB g r S left w) : MB g S w := by
  obtain ⟨es, clock, since, seen, c0, h1, _, h3, h4, h5, _⟩ := h.ex
  exact ⟨⟨es, clock, h1, h3, h4, h5⟩, h.ok, h.nd⟩
theorem RgB.same (h : RgB g r S left w) (hg : w'.heap[g]? = w.heap[g]?) (hr : w'.heap[r]? = w.heap[r]?) : RgB g r S left w' := by
  obtain ⟨es, clock, since, seen, c0, h1, h2, h3⟩ := h.ex
  exact ⟨⟨es, clock, since, seen, c0, hg.trans h1, hr.trans h2, h3⟩, h.ok, h.nd⟩
theorem RgB.chg (h : RgB g r S left w) {l : List Nat} (hm : Chg l w w') (hg : g ∉ l) (hr : r ∉ l) : RgB g r S left w' := by
  obtain ⟨es, clock, since, seen, c0, h1, h2, h3⟩ := h.ex
  exact ⟨⟨es, clock, since, seen, c0, hm.heap h1 hg, hm.heap h2 hr, h3⟩, h.ok, h.nd⟩
theorem RgB.later (h : RgB g r S left w) (hb : Below w.heap.size w w') : RgB g r S left w' := h.chg (Chg.of_below [] hb) (by simp) (by simp)
theorem RgB.walks (h : RgB g r S left w) (hk : KeepsWalks w w') : RgB g r S left w' := by
  obtain ⟨es, clock, since, seen, c0, h1, h2, h3⟩ := h.ex
  exact ⟨⟨es, clock, since, seen, c0, hk.same g _ h1 rfl, hk.same r _ h2 rfl, h3⟩, h.ok, h.nd⟩
theorem RgB.iter (h : RgB g r S left w) : ∃ o : Obj, w.heap[r]? = some o ∧ o.isWalk = true := by
  obtain ⟨es, clock, since, seen, c0, h1, h2, h3⟩ := h.ex
  exact ⟨_, h2, rfl⟩
theorem RgB.ne (h : RgB g r S left w) : g ≠ r := by
  obtain ⟨es, clock, since, seen, c0, h1, h2, h3⟩ := h.ex
  rintro rfl
  rw [h1] at h2; cases h2
theorem kw_inj {x y : Pf × Value} (h : kw x = kw y) : x = y := by
  unfold kw at h
  exact Prod.ext (pv_inj (Prod.mk.inj h).1) (Prod.mk.inj h).2
theorem RgB.sub (h : RgB g r S left w) : ∀ x ∈ left, x ∈ S := by
  obtain ⟨es, clock, since, seen, c0, h1, h2, h3, h4, h5, h6, h7, h8, h9⟩ := h.ex
  intro x hx
  have : kw x ∈ (leftOf es seen).toList.map kv := by rw [h9]; exact List.mem_map.2 ⟨x, hx, rfl⟩
  obtain ⟨e, he, hek⟩ := List.mem_map.1 this
  have h10 : kv e ∈ S.map kw := by rw [← h3]; exact List.mem_map.2 ⟨e, (mem_left he).1, rfl⟩
  obtain ⟨y, hy, hyk⟩ := List.mem_map.1 h10
  rw [← kw_inj (hyk.trans hek)]; exact hy
theorem key_es {es : Array MapEntry} (h3 : es.toList.map kv = S.map kw) (nd : (S.map Prod.fst).Nodup) : (es.toList.map (·.key)).Nodup := by
  have e1 : es.toList.map (·.key) = (S.map Prod.fst).map pv := by
    have := congrArg (List.map Prod.fst) h3
    rw [List.map_map, List.map_map] at this
    rw [List.map_map]
    exact this
  rw [e1]
  exact List.Pairwise.map _ (fun a b hab e => hab (pv_inj e)) nd
theorem MB.range (h : MB g S w) {t k e : TypeId} (ht : Try.prog.underlying t = some (.map k e)) :
    ∃ it, (Instr.range t (.map (some g))).run Try.prog w = .ok (.pointer (some ⟨w.heap.size, 0, none⟩)) (w.alloc it) ∧ RgB g w.heap.size S S (w.alloc it) := by
  obtain ⟨es, clock, h1, h2, h3, h4⟩ := h.ex
  refine ⟨.mapIter (some g) clock #[] clock, run_range_map w t k e g es clock ht h1, ⟨⟨es, clock, clock, #[], clock, ?_, World.alloc_heap_new w _, h2, h3, h4, h4, Nat.le_refl _, Nat.le_refl _, ?_⟩, h.ok, h.nd⟩⟩
  · exact ((ba1 w _).block _ (Array.getElem?_eq_some_iff.1 h1).1).trans h1
  · have : leftOf es #[] = es := by unfold leftOf; simp
    rw [this]; exact h2
/-- One more comes, whichever, or none is left. -/
theorem RgB.next (h : RgB g r S left w) (ty : TypeId) :
    (left = [] ∧ (Instr.next (.pointer (some ⟨r, 0, none⟩)) false ty).run Try.prog w = .ok (.tuple #[.bool false]) w) ∨
    ∃ x ∈ left, ∃ w', (Instr.next (.pointer (some ⟨r, 0, none⟩)) false ty).run Try.prog w = .ok (.tuple #[.bool true, pv x.1, x.2]) w' ∧ RgB g r S (outK x.1 left) w' ∧
      (Instr.entry (.pointer (some ⟨r, 0, none⟩))).run Try.prog w' = .ok (.tuple #[pv x.1, x.2]) w' ∧ w.grownBy w' (some r) ∧ w'.heap.size = w.heap.size := by
  obtain ⟨es, clock, since, seen, c0, h1, h2, h3, h4, h5, h6, h7, h8, h9⟩ := h.ex
  rcases run_next_at (P := Try.prog) w ty r g since c0 seen es clock h2 h1 h6 h7 with ⟨h0, hrun⟩ | ⟨e, he, w1, hal, hrun⟩
  · refine .inl ⟨?_, hrun⟩
    have : (leftOf es seen).toList = [] := by rw [← List.length_eq_zero_iff]; simpa using h0
    rw [this] at h9
    exact List.map_eq_nil_iff.1 h9.symm
  · have hmem : kv e ∈ left.map kw := by rw [← h9]; exact List.mem_map.2 ⟨e, he, rfl⟩
    obtain ⟨x, hx, hxk⟩ := List.mem_map.1 hmem
    have hk1 : e.key = pv x.1 := (Prod.mk.inj hxk).1.symm
    have hk2 : e.val = x.2 := (Prod.mk.inj hxk).2.symm
    have hes := (mem_left he).1
    have hr1 : w1.heap[r]? = some (.mapIter (some g) since seen c0) := by rcases hal with rfl | rfl <;> exact h2
    have hb1 : w1.heap[g]? = some (.map es clock) := by rcases hal with rfl | rfl <;> exact h1
    have hlt : r < w1.heap.size := (Array.getElem?_eq_some_iff.1 hr1).1
    have hrr : (setBlock w1 r (.mapIter (some g) since (seen.push e.born) clock)).heap[r]? = some (.mapIter (some g) since (seen.push e.born) clock) := by
      show (w1.heap.setIfInBounds r _)[r]? = _
      simp [hlt]
    have hot : ∀ i, i ≠ r → (setBlock w1 r (.mapIter (some g) since (seen.push e.born) clock)).heap[i]? = w1.heap[i]? := fun i hi => by
      show (w1.heap.setIfInBounds r _)[i]? = _
      rw [Array.getElem?_setIfInBounds, if_neg (fun e => hi e.symm)]
    have hgg := (hot g h.ne).trans hb1
    have hkn := key_es h3 h.nd
    refine .inr ⟨x, hx, _, by rw [hrun, hk1, hk2], ⟨⟨es, clock, since, seen.push e.born, clock, hgg, hrr, h3, h4, h5, h6, h8, h8, ?_⟩, h.ok, h.nd⟩, ?_, ?_, ?_⟩
    · have hf : (leftOf es (seen.push e.born)).toList = (leftOf es seen).toList.filter fun y => decide (y.born ≠ e.born) := by
        unfold leftOf
        rw [Array.toList_filter, Array.toList_filter, List.filter_filter]
        apply List.filter_congr
        intro y _
        rw [contains_push]
        by_cases h : y.born = e.born <;> simp [h]
      rw [hf]
      unfold outK
      refine map_filters kv kw _ _ _ _ h9 (fun a ha b _ hab => ?_)
      have ha' := (mem_left ha).1
      have hak : a.key = pv b.1 := (Prod.mk.inj hab).1
      by_cases hbn : a.born = e.born
      · have : a = e := born_inj h4 ha' hes hbn
        subst this
        have : b.1 = x.1 := pv_inj (hak.symm.trans hk1)
        simp [this]
      · have : b.1 ≠ x.1 := fun e1 => hbn (by rw [inj_nodup (·.key) hkn ha' hes (by show a.key = e.key; rw [hak, hk1, e1])])
        simp [hbn, this]
    · rw [run_entry_at _ r g since seen es clock e hrr hgg hes h4, hk1, hk2]
    · rcases hal with rfl | rfl <;> exact ⟨rfl, rfl, rfl, by simp [setBlock], fun i _ hi => hot i (fun e1 => hi (by rw [e1]))⟩
    · rcases hal with rfl | rfl <;> simp [setBlock]
theorem filter_erase {α : Type} (q : α → Bool) {l : List α} {j : Nat} {x : α} (hj : l[j]? = some x) (hq : q x = false) : (l.eraseIdx j).filter q = l.filter q := by
  obtain ⟨hlt, hx⟩ := List.getElem?_eq_some_iff.1 hj
  rw [List.eraseIdx_eq_take_drop_succ]
  conv => rhs; rw [← List.take_append_drop j l, ← List.getElem_cons_drop hlt]
  rw [List.filter_append, List.filter_append, List.filter_cons_of_neg (by rw [hx, hq]; decide)]
/-- An entry that came already is deleted. -/
theorem RgB.del {mt e : TypeId} (hm : Try.prog.underlying mt = some (.map 40 e)) (h : RgB g r S left w) {p : Pf} (hp : Ky p) (hl : p ∉ left.map Prod.fst) :
    ∃ w', (∀ ty, (Builtin.delete_ #[mt, 40] ty #[.map (some g), pv p]).run Try.prog w = .ok (.tuple #[]) w') ∧ RgB g r (delM S p) left w' ∧ Chg [g] w w' := by
  obtain ⟨es, clock, since, seen, c0, h1, h2, h3, h4, h5, h6, h7, h8, h9⟩ := h.ex
  obtain ⟨w', hrun, hM, hC⟩ := run_delM hm h.map.at hp
  refine ⟨w', hrun, ?_, hC⟩
  obtain ⟨l, hkl⟩ := key_pv hp
  have hc := prefLaw.check w es.isEmpty hkl
  rcases h.map.at.find h3 hp w with ⟨g1, g2⟩ | ⟨j, v0, e0, g1, g2, g3, g4, g5⟩
  · have ed : delM S p = S := List.filter_eq_self.2 fun x hx => decide_eq_true fun ex => g2 (List.mem_map.2 ⟨x, hx, ex⟩)
    have e1 : (Builtin.delete_ #[mt, 40] 0 #[.map (some g), pv p]).run Try.prog w = .ok (.tuple #[]) { w with heap := w.heap.setIfInBounds g (.map es clock) } := by
      simp [Builtin.delete_, run_underlying hm, MapKept.run_getObj_map h1, hc, g1, MapKept.run_setObj_map _ h1, Result.andThen]
    have e2 := (hrun 0).symm.trans e1
    simp only [Result.ok.injEq, true_and] at e2
    subst e2
    exact ⟨⟨es, clock, since, seen, c0, (MapKept.heap_set h1).1, ((MapKept.heap_set h1).2 r h.ne.symm).trans h2, by rw [ed]; exact h3, h4, h5, h6, h7, h8, h9⟩, hM.ok, hM.nd⟩
  · have e1 : (Builtin.delete_ #[mt, 40] 0 #[.map (some g), pv p]).run Try.prog w = .ok (.tuple #[]) { w with heap := w.heap.setIfInBounds g (.map (es.eraseIdxIfInBounds j) clock) } := by
      simp [Builtin.delete_, run_underlying hm, MapKept.run_getObj_map h1, hc, g1, MapKept.run_setObj_map _ h1, Result.andThen]
    have e2 := (hrun 0).symm.trans e1
    simp only [Result.ok.injEq, true_and] at e2
    subst e2
    obtain ⟨es', c', q1, q2⟩ := hM.ex
    rw [(MapKept.heap_set h1).1] at q1
    simp only [Option.some.injEq, Obj.map.injEq] at q1
    obtain ⟨rfl, rfl⟩ := q1
    have hsub : ∀ x ∈ (es.eraseIdxIfInBounds j).toList, x ∈ es.toList := fun x hx => by
      rw [Array.toList_eraseIdxIfInBounds] at hx; exact List.mem_of_mem_eraseIdx hx
    refine ⟨⟨_, _, since, seen, c0, (MapKept.heap_set h1).1, ((MapKept.heap_set h1).2 r h.ne.symm).trans h2, q2, ?_, fun x hx => h5 x (hsub x hx), fun x hx => h6 x (hsub x hx), h7, h8, ?_⟩, hM.ok, hM.nd⟩
    · rw [Array.toList_eraseIdxIfInBounds, ← map_erase]
      exact h4.sublist (List.eraseIdx_sublist ..)
    · have hnot : (!seen.contains e0.born) = false := by
        cases hs : (!seen.contains e0.born) with
        | false => rfl
        | true =>
          exfalso
          have hin : e0 ∈ (leftOf es seen).toList := by
            unfold leftOf
            rw [Array.toList_filter, List.mem_filter]
            exact ⟨List.mem_of_getElem? g2, hs⟩
          have : kv e0 ∈ left.map kw := by rw [← h9]; exact List.mem_map.2 ⟨e0, hin, rfl⟩
          obtain ⟨y, hy, hyk⟩ := List.mem_map.1 this
          exact hl (List.mem_map.2 ⟨y, hy, pv_inj ((Prod.mk.inj hyk).1.trans g3)⟩)
      have : (leftOf (es.eraseIdxIfInBounds j) seen).toList = (leftOf es seen).toList := by
        unfold leftOf
        rw [Array.toList_filter, Array.toList_filter, Array.toList_eraseIdxIfInBounds]
        exact filter_erase _ g2 hnot
      rw [this]; exact h9
end
section
variable {w : World} {ops : Array Oper} {rest : List Oper} {o : Oper} {a : Act} {Q : Exit → Act → World → Prop} {F : Fence} {n : Nat}
theorem wpList_rangeB (hg : o.guard = none) (m : Operand) (t k e : TypeId) (hop : o.op = Op.range t m) (ht : Try.prog.underlying t = some (.map k e)) {b : Nat} {S : List (Pf × Value)} (hm : a.eval m = .map (some b)) (h : MB b S w)
    (hK : ∀ it, RgB b w.heap.size S S (w.alloc it) → wpList Try.prog ops Q rest (a.put o.dst (.pointer (some ⟨w.heap.size, 0, none⟩))) (w.alloc it)) : wpList Try.prog ops Q (o :: rest) a w := by
  refine wpList_plain hg fun K' hK' => ?_
  obtain ⟨it, hrun, hr⟩ := h.range ht
  unfold Oper.wp
  simp [execOp, hop, hm, hrun, Result.andThen]
  exact hK' _ _ (hK it hr)
theorem wpListIn_rangeB (hg : o.guard = none) (m : Operand) (t k e : TypeId) (hop : o.op = Op.range t m) (ht : Try.prog.underlying t = some (.map k e)) {b : Nat} {S : List (Pf × Value)} (hm : a.eval m = .map (some b)) (h : MB b S w)
    (hK : ∀ it, RgB b w.heap.size S S (w.alloc it) → wpListIn F n Try.prog ops Q rest (a.put o.dst (.pointer (some ⟨w.heap.size, 0, none⟩))) (w.alloc it)) : wpListIn F n Try.prog ops Q (o :: rest) a w := by
  refine wpListIn_plain hg fun K' hK' => ?_
  obtain ⟨it, hrun, hr⟩ := h.range ht
  unfold Oper.wpIn
  refine ⟨by simp [Oper.about, hop], ?_⟩
  rw [Oper.semAt_plain F _ _ (by rw [hop]; intro c hc'; cases hc')]
  simp [execOp, hop, hm, hrun, Result.andThen]
  exact hK' _ _ (hK it hr)
theorem wpList_nextB (hg : o.guard = none) (it : Operand) (hop : o.op = Op.next it false) {b r : Nat} {S left : List (Pf × Value)} (hit : a.eval it = .pointer (some ⟨r, 0, none⟩)) (h : RgB b r S left w)
    (hDone : left = [] → wpList Try.prog ops Q rest (a.put o.dst (.tuple #[.bool false])) w)
    (hMore : ∀ (x : Pf × Value) (w' : World), x ∈ left → RgB b r S (outK x.1 left) w' → (Instr.entry (.pointer (some ⟨r, 0, none⟩))).run Try.prog w' = .ok (.tuple #[pv x.1, x.2]) w' → w.grownBy w' (some r) → w'.heap.size = w.heap.size →
      wpList Try.prog ops Q rest (a.put o.dst (.tuple #[.bool true, pv x.1, x.2])) w') : wpList Try.prog ops Q (o :: rest) a w := by
  refine wpList_plain hg fun K' hK' => ?_
  unfold Oper.wp
  rcases h.next o.type with ⟨h0, hrun⟩ | ⟨x, hx, w', hrun, hrg, hen, hgr, hsz⟩
  · simp [execOp, hop, hit, hrun, Result.andThen]
    exact hK' _ _ (hDone h0)
  · simp [execOp, hop, hit, hrun, Result.andThen]
    exact hK' _ _ (hMore x w' hx hrg hen hgr hsz)
theorem wpListIn_nextB (hg : o.guard = none) (it : Operand) (hop : o.op = Op.next it false) {b r : Nat} {S left : List (Pf × Value)} (hit : a.eval it = .pointer (some ⟨r, 0, none⟩)) (h : RgB b r S left w)
    (hDone : left = [] → wpListIn F n Try.prog ops Q rest (a.put o.dst (.tuple #[.bool false])) w)
    (hMore : ∀ (x : Pf × Value) (w' : World), x ∈ left → RgB b r S (outK x.1 left) w' → (Instr.entry (.pointer (some ⟨r, 0, none⟩))).run Try.prog w' = .ok (.tuple #[pv x.1, x.2]) w' → w.grownBy w' (some r) → w'.heap.size = w.heap.size →
      wpListIn F n Try.prog ops Q rest (a.put o.dst (.tuple #[.bool true, pv x.1, x.2])) w') : wpListIn F n Try.prog ops Q (o :: rest) a w := by
  refine wpListIn_plain hg fun K' hK' => ?_
  unfold Oper.wpIn
  refine ⟨by simp [Oper.about, hop], ?_⟩
  rw [Oper.semAt_plain F _ _ (by rw [hop]; intro c hc'; cases hc')]
  rcases h.next o.type with ⟨h0, hrun⟩ | ⟨x, hx, w', hrun, hrg, hen, hgr, hsz⟩
  · simp [execOp, hop, hit, hrun, Result.andThen]
    exact hK' _ _ (hDone h0)
  · simp [execOp, hop, hit, hrun, Result.andThen]
    exact hK' _ _ (hMore x w' hx hrg hen hgr hsz)
end
end Go.Proofs.Ytdjhgahdiggahaa

namespace Go.Proofs.Ytdjhgahdiggahaa
open Go.RowKit

theorem app_fresh {w w' : World} {v' : Value} (base : Nat) (t ty e : TypeId) (i : TypeInfo) (z : Value) (size bytes : Nat) (ht : (Try.prog).underlying t = some (.slice e)) (hi : (Try.prog).info? e = some i) (hz : i.zero = some z)
    (hsize : i.size = size) (hby : i.bytes = bytes) (hzs : z.cells.size = size) (hsz : 0 < size)
    (v : Value) (n : Nat) (xs : List Value) (hown : w.ownsRow base e size v n xs)
    (a : Addr) (m c : Nat) (news : List Value) (hl : news.length = m * size) (hnews : ∀ j u, news[j]? = some u → w.cell? (a.add j) = some u) (h1 : ∀ u ∈ news, u.oneCell' = true)
    (h63 : n + m ≤ maxLen) (hbytes : (n + m) * bytes ≤ 140737488355328)
    (hr : (Builtin.append_ #[t, t] ty #[v, .slice (some a) m c]).run Try.prog w = .ok v' w') (g : Nat) (hg : v'.ownBlock = some g) : v.ownBlock = some g ∨ w.heap.size ≤ g := by
  subst hsize
  subst hby
  rcases hown.2 with ⟨rfl, rfl⟩ | ⟨g0, cap, cur, rfl, hbg, hg0, hnc, hcm, hcs, htake⟩
  · have hx : xs = [] := List.eq_nil_of_length_eq_zero (by simpa using hown.1)
    subst hx
    obtain ⟨v2, w2, hr2, ho2, _⟩ := run_append_own (P := Try.prog) (w := w) w.heap.size t ty e i z i.size i.bytes ht hi hz rfl rfl hzs hsz (.slice none 0 0) 0 [] (World.ownsRow_nil w _ _ _) a m c news hl hnews h1 h63 hbytes (Nat.le_refl _)
    rw [hr2] at hr
    cases hr
    exact .inr (ho2.lt g hg).1
  · by_cases hroom : n + m ≤ cap
    · have hfit : n * i.size + news.length ≤ cur.size := by rw [hl, hcs, ← Nat.add_mul]; exact Nat.mul_le_mul_right _ hroom
      have hr2 := run_append_room (P := Try.prog) w t ty e i ht hi g0 n cap cur hg0 a m c news hl hnews h1 hroom hfit
      rw [hr2] at hr
      cases hr
      exact .inl hg
    · have holds : ∀ j u, xs[j]? = some u → w.cell? ((⟨g0, 0, none⟩ : Addr).add j) = some u := hown.cells (g := g0) rfl
      have hr2 := run_append_grow (P := Try.prog) w t ty e i z ht hi hz ⟨g0, 0, none⟩ n cap xs hown.1 holds a m c news hl hnews (by omega) (by unfold maxLen at h63; omega) (growslice_fits (by omega) hbytes)
      rw [hr2] at hr
      cases hr
      simp [Value.ownBlock] at hg
      exact .inr (by omega)
/-- The old row's cells stand, behind an append to it. -/
theorem app_keeps {w w' : World} {v' : Value} (base : Nat) (t ty e : TypeId) (i : TypeInfo) (z : Value) (size bytes : Nat) (ht : (Try.prog).underlying t = some (.slice e)) (hi : (Try.prog).info? e = some i) (hz : i.zero = some z)
    (hsize : i.size = size) (hby : i.bytes = bytes) (hzs : z.cells.size = size) (hsz : 0 < size)
    (v : Value) (n : Nat) (xs : List Value) (hown : w.ownsRow base e size v n xs)
    (a : Addr) (m c : Nat) (news : List Value) (hl : news.length = m * size) (hnews : ∀ j u, news[j]? = some u → w.cell? (a.add j) = some u) (h1 : ∀ u ∈ news, u.oneCell' = true)
    (h63 : n + m ≤ maxLen) (hbytes : (n + m) * bytes ≤ 140737488355328) (hbase : base ≤ w.heap.size)
    (hr : (Builtin.append_ #[t, t] ty #[v, .slice (some a) m c]).run Try.prog w = .ok v' w') (g : Nat) (hg : v.ownBlock = some g) : ∀ j u, xs[j]? = some u → w'.cell? ((⟨g, 0, none⟩ : Addr).add j) = some u := by
  obtain ⟨v2, w2, hr2, ho2, _⟩ := run_append_own (P := Try.prog) (w := w) base t ty e i z size bytes ht hi hz hsize hby hzs hsz v n xs hown a m c news hl hnews h1 h63 hbytes hbase
  rw [hr2] at hr
  cases hr
  subst hsize
  subst hby
  rcases hown.2 with ⟨rfl, rfl⟩ | ⟨g0, cap, cur, rfl, hbg, hg0, hnc, hcm, hcs, htake⟩
  · simp [Value.ownBlock] at hg
  · obtain rfl : g0 = g := by simpa [Value.ownBlock] using hg
    by_cases hroom : n + m ≤ cap
    · have hfit : n * i.size + news.length ≤ cur.size := by rw [hl, hcs, ← Nat.add_mul]; exact Nat.mul_le_mul_right _ hroom
      have hr3 := run_append_room (P := Try.prog) w t ty e i ht hi g0 n cap cur hg0 a m c news hl hnews h1 hroom hfit
      rw [hr3] at hr2
      cases hr2
      intro j u hj
      exact ho2.cells (g := g0) rfl j u (by rw [List.getElem?_append_left (List.getElem?_eq_some_iff.1 hj).1]; exact hj)
    · have holds : ∀ j u, xs[j]? = some u → w.cell? ((⟨g0, 0, none⟩ : Addr).add j) = some u := hown.cells (g := g0) rfl
      have hr3 := run_append_grow (P := Try.prog) w t ty e i z ht hi hz ⟨g0, 0, none⟩ n cap xs hown.1 holds a m c news hl hnews (by omega) (by unfold maxLen at h63; omega) (growslice_fits (by omega) hbytes)
      rw [hr3] at hr2
      cases hr2
      intro j u hj
      have hb : Below w.heap.size w (w.drew.alloc (.cells (xs.toArray ++ news.toArray ++ Builtin.zeroCells z.cells (grownCap w (n + m) cap e - (n + m))) e)) := (Below.refl _ _).drew.trans (show Below w.heap.size w.drew _ from ba1 w.drew _)
      exact cell_later hb (holds j u hj)
end Go.Proofs.Ytdjhgahdiggahaa

namespace Go.Proofs.Ytdjhgahdiggahaa
open Go.RowKit

theorem add0 (g k : Nat) : (⟨g, 0, none⟩ : Addr).add k = ⟨g, k, none⟩ := by cases k <;> simp [Addr.add]
/-- append of whatever comes, by what its run leaves. -/
theorem wpList_appG {w : World} {ops : Array Oper} {rest : List Oper} {o : Oper} {a : Act} {Q : Exit → Act → World → Prop} (hgd : o.guard = none) (s x : Operand) (t t' : TypeId)
    (ho : o.op = .call { callee := .builtin .append, args := #[s, x], argTypes := #[t, t'] }) (v u : Value) (R : Value → World → Prop) (hs : a.eval s = v) (hx : a.eval x = u)
    (hr : ∀ ty, ∃ v' w', (Builtin.append_ #[t, t'] ty #[v, u]).run Try.prog w = .ok v' w' ∧ R v' w') (h : ∀ v' w', R v' w' → wpList Try.prog ops Q rest (a.put o.dst v') w') : wpList Try.prog ops Q (o :: rest) a w :=
  wpList_plain hgd fun K hK => by
    obtain ⟨v', w', hr, h2⟩ := hr o.type
    unfold Oper.wp execOp
    simp only [ho, resolve, invoke, builtin, Sem.run_bind, Sem.run_pure, Result.andThen_ok, List.map_toArray, List.map_cons, List.map_nil, hs, hx, hr]
    exact hK _ _ (h v' w' h2)
/-- At a step of a region that draws its order. -/
theorem step_appG {w : World} {ops : Array Oper} {o : Oper} {a : Act} {K : Act → World → Prop} {Q : Exit → Act → World → Prop} {E : Prop} (hgd : o.guard = none) (s x : Operand) (t t' : TypeId)
    (ho : o.op = .call { callee := .builtin .append, args := #[s, x], argTypes := #[t, t'] }) (v u : Value) (R : Value → World → Prop) (hs : a.eval s = v) (hx : a.eval x = u)
    (hr : ∀ ty, ∃ v' w', (Builtin.append_ #[t, t'] ty #[v, u]).run Try.prog w = .ok v' w' ∧ R v' w') (h : ∀ v' w', R v' w' → K (a.put o.dst v') w') :
    if Region.wanted o (yielded ops a.tmps) = true then Oper.wp Try.prog o a w K Q else E := by
  have hw : Region.wanted o (yielded ops a.tmps) = true := by simp [Region.wanted, hgd]
  rw [if_pos hw]
  obtain ⟨v', w', hr, h2⟩ := hr o.type
  unfold Oper.wp execOp
  simp only [ho, resolve, invoke, builtin, Sem.run_bind, Sem.run_pure, Result.andThen_ok, List.map_toArray, List.map_cons, List.map_nil, hs, hx, hr]
  exact h v' w' h2
end Go.Proofs.Ytdjhgahdiggahaa

namespace Go.Proofs.Ytdjhgahdiggahaa
open Go.RowKit

structure Elt {α : Type} (et st : TypeId) (k by_ : Nat) (enc : α → List Value) : Prop where
  len : ∀ x, (enc x).length = k
  one : ∀ x, ∀ v ∈ enc x, v.oneCell' = true
  und : (Try.prog).underlying st = some (.slice et)
  inf : ∃ i0 z, (Try.prog).info? et = some i0 ∧ i0.zero = some z ∧ i0.size = k ∧ i0.bytes = by_ ∧ z.cells.size = k
  pos : 0 < k
  few : by_ ≤ 1000
theorem Elt.of {α : Type} {et st : TypeId} {k by_ : Nat} {enc : α → List Value} (z : Value) (h1 : ∀ x, (enc x).length = k) (h2 : ∀ x, ∀ v ∈ enc x, v.oneCell' = true) (h3 : (Try.prog).underlying st = some (.slice et))
    (h4 : ((Try.prog).info? et).map (fun i => (i.zero, i.size, i.bytes)) = some (some z, k, by_)) (h5 : z.cells.size = k) (h6 : 0 < k) (h7 : by_ ≤ 1000) : Elt et st k by_ enc := by
  obtain ⟨i0, hi, hx⟩ := Option.map_eq_some_iff.1 h4
  simp only [Prod.mk.injEq] at hx
  exact ⟨h1, h2, h3, ⟨i0, z, hi, hx.1, hx.2.1, hx.2.2, h5⟩, h6, h7⟩
def OwnG {α : Type} (et : TypeId) (k : Nat) (enc : α → List Value) (w : World) (B : Nat) (v : Value) (L : List α) : Prop := w.ownsRow B et k v L.length (L.flatMap enc)
section
variable {α : Type} {et st : TypeId} {k by_ : Nat} {enc : α → List Value} {w w' : World} {B : Nat} {v : Value} {L : List α}
theorem OwnG.nil (w : World) (B : Nat) : OwnG et k enc w B (.slice none 0 0) [] := World.ownsRow_nil w _ _ _
theorem OwnG.later (h : OwnG et k enc w B v L) (hb : Below w.heap.size w w') : OwnG et k enc w' B v L := ownsRow_later h hb
theorem OwnG.weak {B' : Nat} (h : OwnG et k enc w B' v L) (hB : B ≤ B') : OwnG et k enc w B v L := by
  obtain ⟨hl, h0 | ⟨g, cap, cur, rfl, hb1, hr⟩⟩ := h
  · exact ⟨hl, .inl h0⟩
  · exact ⟨hl, .inr ⟨g, cap, cur, rfl, Nat.le_trans hB hb1, hr⟩⟩
theorem OwnG.form (h : OwnG et k enc w B v L) : ∃ a c, v = .slice a L.length c := by
  rcases h.2 with ⟨rfl, h0⟩ | ⟨g, cap, cur, rfl, _⟩
  · exact ⟨none, 0, by rw [h0]⟩
  · exact ⟨_, cap, rfl⟩
theorem OwnG.cap {a : Option Addr} {n c : Nat} (h : OwnG et k enc w B (.slice a n c) L) : n = L.length ∧ n ≤ c := by
  rcases h.2 with ⟨e, h0⟩ | ⟨g, cap, cur, hv, _, _, h4, _⟩
  · simp only [Value.slice.injEq] at e
    obtain ⟨_, rfl, rfl⟩ := e
    exact ⟨h0.symm, Nat.le_refl _⟩
  · simp only [Value.slice.injEq] at hv
    obtain ⟨_, rfl, rfl⟩ := hv
    exact ⟨rfl, h4⟩
theorem flat_len (E : Elt et st k by_ enc) (L : List α) : (L.flatMap enc).length = L.length * k := by
  induction L with
  | nil => simp
  | cons x L ih => rw [List.flatMap_cons, List.length_append, ih, E.len, List.length_cons, Nat.add_mul]; omega
theorem flat_at (E : Elt et st k by_ enc) : ∀ (L : List α) (j : Nat) (x : α), L[j]? = some x → ∀ i u, (enc x)[i]? = some u → (L.flatMap enc)[j * k + i]? = some u
  | [], _, _, h => by simp at h
  | y :: L, 0, x, h => fun i u hi => by
    simp at h; subst h
    rw [List.flatMap_cons, Nat.zero_mul, Nat.zero_add, List.getElem?_append_left (List.getElem?_eq_some_iff.1 hi).1]; exact hi
  | y :: L, j + 1, x, h => fun i u hi => by
    have ih := flat_at E L j x (by simpa using h) i u hi
    have hl := E.len y
    rw [List.flatMap_cons, List.getElem?_append_right (by rw [hl, Nat.add_mul]; omega), hl]
    rw [show (j + 1) * k + i - k = j * k + i by rw [Nat.add_mul]; omega]; exact ih
theorem OwnG.at (E : Elt et st k by_ enc) {a : Option Addr} {n c : Nat} (h : OwnG et k enc w B (.slice a n c) L) {j : Nat} {x : α} (hj : L[j]? = some x) :
    ∃ g, a = some ⟨g, 0, none⟩ ∧ B ≤ g ∧ ∀ i u, (enc x)[i]? = some u → w.cell? ⟨g, j * k + i, none⟩ = some u := by
  have hl := (List.getElem?_eq_some_iff.1 hj).1
  rcases h.2 with ⟨_, h0⟩ | ⟨g, cap, cur, hv, hb, _⟩
  · omega
  · simp only [Value.slice.injEq] at hv
    obtain ⟨rfl, rfl, rfl⟩ := hv
    refine ⟨g, rfl, hb, fun i u hi => ?_⟩
    have := World.ownsRow.cells h (g := g) rfl (j * k + i) u (flat_at E L j x hj i u hi)
    rw [add0] at this
    exact this
theorem run_ap (E : Elt et st k by_ enc) (ty : TypeId) (x : α) (g : Nat) (h : OwnG et k enc w B v L) (hc : BlkAt et g (enc x) w) (hn : L.length ≤ 900000) (hB : B ≤ w.heap.size) :
    ∃ v' w', (Builtin.append_ #[st, st] ty #[v, .slice (some ⟨g, 0, none⟩) 1 1]).run Try.prog w = .ok v' w' ∧ OwnG et k enc w' B v' (L ++ [x]) ∧ Below B w w' ∧ w.grownBy w' v.ownBlock ∧ ∀ b, v'.ownBlock = some b → v.ownBlock = some b ∨ w.heap.size ≤ b := by
  obtain ⟨i0, z, hi, hz0, hz1, hz2, hz3⟩ := E.inf
  have hnews : ∀ j u, (enc x)[j]? = some u → w.cell? ((⟨g, 0, none⟩ : Addr).add j) = some u := fun j u hj => by rw [add0]; exact hc.cell hj
  have hby : (L.length + 1) * by_ ≤ 140737488355328 := by
    have := Nat.mul_le_mul (show L.length + 1 ≤ 1000000 by omega) E.few
    omega
  obtain ⟨v', w', h1, h2, h3, _⟩ := run_append_own (P := Try.prog) (w := w) B st ty et i0 z k by_ E.und hi hz0 hz1 hz2 hz3 E.pos v L.length _ h ⟨g, 0, none⟩ 1 1 (enc x) (by rw [E.len]; omega) hnews (E.one x) (by unfold maxLen; omega) hby hB
  refine ⟨v', w', h1, ?_, (Below.refl B w).grown h3 hB (fun j hj => own_base h hj), h3, fun b hb => ?_⟩
  · show World.ownsRow _ _ _ _ _ _ _
    rw [List.length_append, List.flatMap_append, List.flatMap_singleton]; exact h2
  · exact app_fresh (w := w) B st ty et i0 z k by_ E.und hi hz0 hz1 hz2 hz3 E.pos v L.length _ h ⟨g, 0, none⟩ 1 1 (enc x) (by rw [E.len]; omega) hnews (E.one x) (by unfold maxLen; omega) hby h1 b hb
end
end Go.Proofs.Ytdjhgahdiggahaa
