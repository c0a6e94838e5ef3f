/- Places of numbers in order: the whole.
   Places of numbers in order: the closure, and the whole.
   Rows of ints in blocks of their own: made, sorted; the closure by which places are put in order.
   compare, and slices.SortFunc by it: a slice of prefixes in order.
   A slice of things of k cells each that is owned: read, append.
   append on bytes that the call owns, whatever the source: one law in three forms. -/
import Derived.Deep.AppendLies
import Derived.Laws.AppendOwnNone
import Derived.Laws.OwnMore
import Derived.Shelf.SlSortCmp.WholeK
import Derived.Shelf.Small.Bits
import Derived.Shelf.Lay
import Derived.Test.YtdjhgahdiggahaaZ01
import Derived.Test.YtdjhgahdiggahaaZ02
import Derived.Test.YtdjhgahdiggahaaZ04
import Derived.Test.YtdjhgahdiggahaaZ05

set_option linter.unusedSimpArgs false
set_option linter.unusedVariables false
namespace Go.Proofs.Ytdjhgahdiggahaa
open Go.RowKit

/-- The value owns these bytes. -/
def OwnB (w : World) (B : Nat) (v : Value) (l : List UInt8) : Prop := w.ownsRow B 5 1 v l.length (bv l)
theorem OwnB.bytes {w : World} {B : Nat} {v : Value} {l : List UInt8} (h : OwnB w B v l) : Bytes w v l := Bytes.of_own h
theorem OwnB.nil (w : World) (B : Nat) : OwnB w B (.slice none 0 0) [] := World.ownsRow_nil w _ _ _
theorem OwnB.form {w : World} {B : Nat} {v : Value} {l : List UInt8} (h : OwnB w B v l) : ∃ a c, v = .slice a l.length c := (OwnB.bytes h).form
theorem OwnB.alloc {w : World} {B : Nat} {v : Value} {l : List UInt8} (h : OwnB w B v l) (o : Obj) : OwnB (w.alloc o) B v l := World.ownsRow.alloc h o
theorem OwnB.drew {w : World} {B : Nat} {v : Value} {l : List UInt8} (h : OwnB w B v l) : OwnB w.drew B v l := h
theorem info8 : ∃ i0, Try.prog.info? 5 = some i0 ∧ i0.zero = some (.int .u8 0) ∧ i0.size = 1 ∧ i0.bytes = 1 := by
  have hi5 : (Try.prog.info? 5).map (fun i => (i.zero, i.size, i.bytes)) = some (some (.int .u8 0), 1, 1) := by kernel_rfl
  obtain ⟨i0, hi, hx⟩ := Option.map_eq_some_iff.1 hi5
  simp only [Prod.mk.injEq] at hx
  exact ⟨i0, hi, hx.1, hx.2.1, hx.2.2⟩
/-- Behind a call that left what was there: what is owned is still owned. -/
theorem OwnB.later {w w' : World} {B : Nat} {v : Value} {l : List UInt8} (h : OwnB w B v l) (hb : Below w.heap.size w w') : OwnB w' B v l := by
  obtain ⟨hl, h0 | ⟨g, cap, cur, rfl, hb1, hg, hn, hm, hc, ht⟩⟩ := h
  · exact ⟨hl, .inl h0⟩
  · refine ⟨hl, .inr ⟨g, cap, cur, rfl, hb1, ?_, hn, hm, hc, ht⟩⟩
    rw [hb.block g ?_]
    · exact hg
    · rcases Nat.lt_or_ge g w.heap.size with h1 | h1
      · exact h1
      · rw [Array.getElem?_eq_none h1] at hg; cases hg

theorem OwnB.weak {w : World} {B B' : Nat} {v : Value} {l : List UInt8} (h : OwnB w B' v l) (hB : B ≤ B') : OwnB w B v l := by
  obtain ⟨hl, h0 | ⟨g, cap, cur, rfl, hb1, hr⟩⟩ := h
  · exact ⟨hl, .inl h0⟩
  · exact ⟨hl, .inr ⟨g, cap, cur, rfl, Nat.le_trans hB hb1, hr⟩⟩

theorem own_block {w : World} {B : Nat} {e : TypeId} {size n g : Nat} {v : Value} {xs : List Value} (h : w.ownsRow B e size v n xs) (hg : v.ownBlock = some g) : ∃ cur, w.heap[g]? = some (.cells cur e (0, 0)) := by
  rcases h.2 with ⟨rfl, _⟩ | ⟨g', cap, cur, rfl, _, hgg, _⟩
  · simp [Value.ownBlock] at hg
  · simp [Value.ownBlock] at hg; subst hg; exact ⟨_, hgg⟩
theorem grownBy_setCell_at (W : World) (b j : Nat) (v : Value) : W.grownBy (W.setCell ⟨b, j, none⟩ v) (some b) :=
  ⟨rfl, rfl, rfl, by simp, fun k _ hk => Below.heap_setCell _ _ _ k (fun e => hk (by rw [e]))⟩

theorem own_apart {w : World} {B B' : Nat} {e e' : TypeId} {size size' n n' : Nat} {v v' : Value} {xs xs' : List Value} (h : w.ownsRow B e size v n xs) (h' : w.ownsRow B' e' size' v' n' xs') (he : e ≠ e') : v.ownBlock = none ∨ v.ownBlock ≠ v'.ownBlock := by
  cases hv : v.ownBlock with
  | none => exact .inl rfl
  | some g =>
    refine .inr fun e2 => ?_
    obtain ⟨c1, h1⟩ := own_block h hv
    obtain ⟨c2, h2⟩ := own_block h' e2.symm
    rw [h1] at h2
    simp at h2
    exact he h2.2
/-- A slice that was just spelled out is owned. -/
theorem own_spelled (w : World) (B : Nat) (t : TypeId) (xs : List Value) (hB : B ≤ w.heap.size) (hm : xs.length ≤ maxLen) : (w.alloc (.cells xs.toArray t)).ownsRow B t 1 (.slice (some ⟨w.heap.size, 0, none⟩) xs.length xs.length) xs.length xs :=
  ⟨by simp, .inr ⟨w.heap.size, xs.length, xs.toArray, rfl, hB, (by show (w.heap.push _)[w.heap.size]? = _; exact Array.getElem?_push_size), Nat.le_refl _, hm, by simp, by simp⟩⟩

theorem run_app (w : World) (B : Nat) (ty : TypeId) (v u : Value) (l0 l1 : List UInt8) (hown : OwnB w B v l0) (hu : Bytes w u l1) (hn : l0.length + l1.length ≤ 140737488355328) (hB : B ≤ w.heap.size) :
    ∃ v' w', (Builtin.append_ #[97, 97] ty #[v, u]).run Try.prog w = .ok v' w' ∧ OwnB w' B v' (l0 ++ l1) ∧ Below B w w' ∧ w.grownBy w' v.ownBlock := by
  obtain ⟨i0, hi, hz0, hz1, hz2⟩ := info8
  obtain ⟨a, c, rfl⟩ := hu.form
  cases a with
  | none =>
    obtain ⟨e1, rfl, rfl⟩ := hu.noaddr
    have := run_append_owned_none (P := Try.prog) (w := w) B 97 ty 5 i0 1 Try.underlying97 hi v l0.length _ hown
    refine ⟨v, w, this, by simpa using hown, Below.refl _ _, ⟨rfl, rfl, rfl, Nat.le_refl _, fun _ _ _ => rfl⟩⟩
  | some x =>
    obtain ⟨v', w', h1, h2, h3, _⟩ := run_append_own (P := Try.prog) (w := w) B 97 ty 5 i0 (.int .u8 0) 1 1 Try.underlying97 hi hz0 hz1 hz2 rfl (by decide) v l0.length (bv l0) hown x l1.length c (bv l1) (by simp [bv]) hu.news (bv_one l1) (by unfold maxLen; omega) (by omega) hB
    refine ⟨v', w', h1, ?_, (Below.refl B w).grown h3 hB (fun j hj => own_base hown hj), h3⟩
    show World.ownsRow _ _ _ _ _ _ _
    rw [List.length_append, bv_append]; exact h2

theorem wp_app {w : World} {o : Oper} {a : Act} {K : Act → World → Prop} {Q : Exit → Act → World → Prop} (s x : Operand)
    (ho : o.op = .call { callee := .builtin .append, args := #[s, x], argTypes := #[97, 97] }) (B : Nat) (v u : Value) (l0 l1 : List UInt8) (hs : a.eval s = v) (hx : a.eval x = u)
    (hown : OwnB w B v l0) (hu : Bytes w u l1) (hn : l0.length + l1.length ≤ 140737488355328) (hB : B ≤ w.heap.size)
    (h : ∀ v' w', OwnB w' B v' (l0 ++ l1) → Below B w w' → w.grownBy w' v.ownBlock → K (a.put o.dst v') w') : o.wp Try.prog a w K Q := by
  obtain ⟨v', w', hr, h2, h3, h4⟩ := run_app w B o.type v u l0 l1 hown hu hn hB
  unfold Oper.wp execOp
  simp only [ho, resolve, invoke, builtin, Sem.run_bind, Sem.run_pure, Result.andThen_ok, List.map_toArray, List.map_cons, List.map_nil, hs, hx, hr]
  exact h v' w' h2 h3 h4
theorem wpList_app {w : World} {ops : Array Oper} {rest : List Oper} {o : Oper} {a : Act} {Q : Exit → Act → World → Prop} (hgd : o.guard = none) (s x : Operand)
    (ho : o.op = .call { callee := .builtin .append, args := #[s, x], argTypes := #[97, 97] }) (B : Nat) (v u : Value) (l0 l1 : List UInt8) (hs : a.eval s = v) (hx : a.eval x = u)
    (hown : OwnB w B v l0) (hu : Bytes w u l1) (hn : l0.length + l1.length ≤ 140737488355328) (hB : B ≤ w.heap.size)
    (h : ∀ v' w', OwnB w' B v' (l0 ++ l1) → Below B w w' → w.grownBy w' v.ownBlock → wpList Try.prog ops Q rest (a.put o.dst v') w') : wpList Try.prog ops Q (o :: rest) a w :=
  wpList_plain hgd fun _ hK => wp_app s x ho B v u l0 l1 hs hx hown hu hn hB fun v' w' h2 h3 h4 => hK _ _ (h v' w' h2 h3 h4)
/-- At a step of a region that draws its order. -/
theorem step_app {w : World} {ops : Array Oper} {o : Oper} {a : Act} {K : Act → World → Prop} {Q : Exit → Act → World → Prop} {E : Prop} (hgd : o.guard = none) (s x : Operand)
    (ho : o.op = .call { callee := .builtin .append, args := #[s, x], argTypes := #[97, 97] }) (B : Nat) (v u : Value) (l0 l1 : List UInt8) (hs : a.eval s = v) (hx : a.eval x = u)
    (hown : OwnB w B v l0) (hu : Bytes w u l1) (hn : l0.length + l1.length ≤ 140737488355328) (hB : B ≤ w.heap.size)
    (h : ∀ v' w', OwnB w' B v' (l0 ++ l1) → Below B w w' → w.grownBy w' v.ownBlock → K (a.put o.dst v') w') :
    if Region.wanted o (yielded ops a.tmps) = true then Oper.wp Try.prog o a w K Q else E := by
  have hw : Region.wanted o (yielded ops a.tmps) = true := by simp [Region.wanted, hgd]
  rw [if_pos hw]
  exact wp_app s x ho B v u l0 l1 hs hx hown hu hn hB h
end Go.Proofs.Ytdjhgahdiggahaa

namespace Go.Proofs.Ytdjhgahdiggahaa
open Go.RowKit

structure Elt {α : Type} (et st : TypeId) (k by_ : Nat) (enc : α → List Value) : Prop where
  len : ∀ x, (enc x).length = k
  one : ∀ x, ∀ v ∈ enc x, v.oneCell' = true
  und : (Try.prog).underlying st = some (.slice et)
  inf : ∃ i0 z, (Try.prog).info? et = some i0 ∧ i0.zero = some z ∧ i0.size = k ∧ i0.bytes = by_ ∧ z.cells.size = k
  pos : 0 < k
  few : by_ ≤ 1000
theorem Elt.of {α : Type} {et st : TypeId} {k by_ : Nat} {enc : α → List Value} (z : Value) (h1 : ∀ x, (enc x).length = k) (h2 : ∀ x, ∀ v ∈ enc x, v.oneCell' = true) (h3 : (Try.prog).underlying st = some (.slice et))
    (h4 : ((Try.prog).info? et).map (fun i => (i.zero, i.size, i.bytes)) = some (some z, k, by_)) (h5 : z.cells.size = k) (h6 : 0 < k) (h7 : by_ ≤ 1000) : Elt et st k by_ enc := by
  obtain ⟨i0, hi, hx⟩ := Option.map_eq_some_iff.1 h4
  simp only [Prod.mk.injEq] at hx
  exact ⟨h1, h2, h3, ⟨i0, z, hi, hx.1, hx.2.1, hx.2.2, h5⟩, h6, h7⟩
def OwnG {α : Type} (et : TypeId) (k : Nat) (enc : α → List Value) (w : World) (B : Nat) (v : Value) (L : List α) : Prop := w.ownsRow B et k v L.length (L.flatMap enc)
section
variable {α : Type} {et st : TypeId} {k by_ : Nat} {enc : α → List Value} {w w' : World} {B : Nat} {v : Value} {L : List α}
theorem OwnG.nil (w : World) (B : Nat) : OwnG et k enc w B (.slice none 0 0) [] := World.ownsRow_nil w _ _ _
theorem OwnG.later (h : OwnG et k enc w B v L) (hb : Below w.heap.size w w') : OwnG et k enc w' B v L := ownsRow_later h hb
theorem OwnG.weak {B' : Nat} (h : OwnG et k enc w B' v L) (hB : B ≤ B') : OwnG et k enc w B v L := by
  obtain ⟨hl, h0 | ⟨g, cap, cur, rfl, hb1, hr⟩⟩ := h
  · exact ⟨hl, .inl h0⟩
  · exact ⟨hl, .inr ⟨g, cap, cur, rfl, Nat.le_trans hB hb1, hr⟩⟩
theorem OwnG.form (h : OwnG et k enc w B v L) : ∃ a c, v = .slice a L.length c := by
  rcases h.2 with ⟨rfl, h0⟩ | ⟨g, cap, cur, rfl, _⟩
  · exact ⟨none, 0, by rw [h0]⟩
  · exact ⟨_, cap, rfl⟩
theorem OwnG.cap {a : Option Addr} {n c : Nat} (h : OwnG et k enc w B (.slice a n c) L) : n = L.length ∧ n ≤ c := by
  rcases h.2 with ⟨e, h0⟩ | ⟨g, cap, cur, hv, _, _, h4, _⟩
  · simp only [Value.slice.injEq] at e
    obtain ⟨_, rfl, rfl⟩ := e
    exact ⟨h0.symm, Nat.le_refl _⟩
  · simp only [Value.slice.injEq] at hv
    obtain ⟨_, rfl, rfl⟩ := hv
    exact ⟨rfl, h4⟩
theorem flat_len (E : Elt et st k by_ enc) (L : List α) : (L.flatMap enc).length = L.length * k := by
  induction L with
  | nil => simp
  | cons x L ih => rw [List.flatMap_cons, List.length_append, ih, E.len, List.length_cons, Nat.add_mul]; omega
theorem flat_at (E : Elt et st k by_ enc) : ∀ (L : List α) (j : Nat) (x : α), L[j]? = some x → ∀ i u, (enc x)[i]? = some u → (L.flatMap enc)[j * k + i]? = some u
  | [], _, _, h => by simp at h
  | y :: L, 0, x, h => fun i u hi => by
    simp at h; subst h
    rw [List.flatMap_cons, Nat.zero_mul, Nat.zero_add, List.getElem?_append_left (List.getElem?_eq_some_iff.1 hi).1]; exact hi
  | y :: L, j + 1, x, h => fun i u hi => by
    have ih := flat_at E L j x (by simpa using h) i u hi
    have hl := E.len y
    rw [List.flatMap_cons, List.getElem?_append_right (by rw [hl, Nat.add_mul]; omega), hl]
    rw [show (j + 1) * k + i - k = j * k + i by rw [Nat.add_mul]; omega]; exact ih
theorem OwnG.at (E : Elt et st k by_ enc) {a : Option Addr} {n c : Nat} (h : OwnG et k enc w B (.slice a n c) L) {j : Nat} {x : α} (hj : L[j]? = some x) :
    ∃ g, a = some ⟨g, 0, none⟩ ∧ B ≤ g ∧ ∀ i u, (enc x)[i]? = some u → w.cell? ⟨g, j * k + i, none⟩ = some u := by
  have hl := (List.getElem?_eq_some_iff.1 hj).1
  rcases h.2 with ⟨_, h0⟩ | ⟨g, cap, cur, hv, hb, _⟩
  · omega
  · simp only [Value.slice.injEq] at hv
    obtain ⟨rfl, rfl, rfl⟩ := hv
    refine ⟨g, rfl, hb, fun i u hi => ?_⟩
    have := World.ownsRow.cells h (g := g) rfl (j * k + i) u (flat_at E L j x hj i u hi)
    rw [add0] at this
    exact this
theorem run_ap (E : Elt et st k by_ enc) (ty : TypeId) (x : α) (g : Nat) (h : OwnG et k enc w B v L) (hc : BlkAt et g (enc x) w) (hn : L.length ≤ 900000) (hB : B ≤ w.heap.size) :
    ∃ v' w', (Builtin.append_ #[st, st] ty #[v, .slice (some ⟨g, 0, none⟩) 1 1]).run Try.prog w = .ok v' w' ∧ OwnG et k enc w' B v' (L ++ [x]) ∧ Below B w w' ∧ w.grownBy w' v.ownBlock ∧ ∀ b, v'.ownBlock = some b → v.ownBlock = some b ∨ w.heap.size ≤ b := by
  obtain ⟨i0, z, hi, hz0, hz1, hz2, hz3⟩ := E.inf
  have hnews : ∀ j u, (enc x)[j]? = some u → w.cell? ((⟨g, 0, none⟩ : Addr).add j) = some u := fun j u hj => by rw [add0]; exact hc.cell hj
  have hby : (L.length + 1) * by_ ≤ 140737488355328 := by
    have := Nat.mul_le_mul (show L.length + 1 ≤ 1000000 by omega) E.few
    omega
  obtain ⟨v', w', h1, h2, h3, _⟩ := run_append_own (P := Try.prog) (w := w) B st ty et i0 z k by_ E.und hi hz0 hz1 hz2 hz3 E.pos v L.length _ h ⟨g, 0, none⟩ 1 1 (enc x) (by rw [E.len]; omega) hnews (E.one x) (by unfold maxLen; omega) hby hB
  refine ⟨v', w', h1, ?_, (Below.refl B w).grown h3 hB (fun j hj => own_base h hj), h3, fun b hb => ?_⟩
  · show World.ownsRow _ _ _ _ _ _ _
    rw [List.length_append, List.flatMap_append, List.flatMap_singleton]; exact h2
  · exact app_fresh (w := w) B st ty et i0 z k by_ E.und hi hz0 hz1 hz2 hz3 E.pos v L.length _ h ⟨g, 0, none⟩ 1 1 (enc x) (by rw [E.len]; omega) hnews (E.one x) (by unfold maxLen; omega) hby h1 b hb
end
end Go.Proofs.Ytdjhgahdiggahaa

namespace Go.Proofs.Ytdjhgahdiggahaa
open Go.RowKit Go.Sort
attribute [local go_sem ↓] Go.wp_at_zero Go.wp_at_succ
open Tp (Pf)

def fcell (p : Pf) : List Value := [.int .u32 p.1, .int .i64 p.2]
theorem eltP : Elt 40 22 2 16 fcell :=
  Elt.of (.agg #[.int .u32 0, .int .i64 0]) (fun _ => rfl) (fun p v hv => by simp [fcell] at hv; rcases hv with rfl | rfl <;> rfl) Try.underlying22 (by kernel_rfl) rfl (by decide) (by decide)
abbrev OwnF (w : World) (B : Nat) (v : Value) (L : List Pf) : Prop := OwnG 40 2 fcell w B v L

def cmpZ (a b : Int) : Int := if a < b then -1 else if b < a then 1 else 0
def orZ (c1 c2 : Int) : Int := if c1 = 0 then c2 else c1
theorem or_cmp (p q : Pf) : orZ (cmpZ p.1 q.1) (cmpZ p.2 q.2) = Wp.cmpI p.1 p.2 q.1 q.2 := by
  unfold orZ cmpZ Wp.cmpI
  by_cases h1 : p.1 < q.1
  · simp [h1]
  · by_cases h2 : q.1 < p.1
    · simp [h1, h2]
    · simp [h1, h2]
theorem isNaNA (a : Int) (w : World) : Calls Try.prog 134 #[.int .u32 a] w fun e w' => e = .returned (.bool false) ∧ w = w' := by
  go_enter Try.func134, Try.ntmps134
  go_wp2_with fail
  go_ret
  exact ⟨ret_b (by simp), rfl⟩
theorem isNaNI (a : Int) (w : World) : Calls Try.prog 124 #[.int .i64 a] w fun e w' => e = .returned (.bool false) ∧ w = w' := by
  go_enter Try.func124, Try.ntmps124
  go_wp2_with fail
  go_ret
  exact ⟨ret_b (by simp), rfl⟩
theorem cmpA (a b : Int) (w : World) : Calls Try.prog 120 #[.int .u32 a, .int .u32 b] w fun e w' => e = .returned (.int .i64 (cmpZ a b)) ∧ w = w' := by
  have H1 := Lib.hid (isNaNA a w)
  have H2 := Lib.hid (isNaNA b w)
  obtain ⟨z, hz⟩ : ∃ z, z = cmpZ a b := ⟨_, rfl⟩
  rw [← hz]
  rcases Int.lt_trichotomy a b with h | h | h
  · have k1 : decide (a < b) = true := by simp [h]
    have k2 : decide (b < a) = false := by simp; omega
    have HZ : Hid (z = -1) := by show _ = _; rw [hz]; simp [cmpZ, h]
    clear hz h
    go_enter Try.func120, Try.ntmps120
    go_wp2_with fail
    refine H1.out.mono ?_
    rintro e w1 ⟨rfl, rfl⟩
    go_wp2_with fail
    refine H2.out.mono ?_
    rintro e w1 ⟨rfl, rfl⟩
    go_wp2_with fail
    go_ret
    exact ⟨by rw [HZ.out]; rfl, rfl⟩
  · have k1 : decide (a < b) = false := by simp; omega
    have k2 : decide (b < a) = false := by simp; omega
    have HZ : Hid (z = 0) := by show _ = _; rw [hz]; simp [cmpZ, h]
    clear hz h
    go_enter Try.func120, Try.ntmps120
    go_wp2_with fail
    refine H1.out.mono ?_
    rintro e w1 ⟨rfl, rfl⟩
    go_wp2_with fail
    refine H2.out.mono ?_
    rintro e w1 ⟨rfl, rfl⟩
    go_wp2_with fail
    go_ret
    exact ⟨by rw [HZ.out]; rfl, rfl⟩
  · have k1 : decide (a < b) = false := by simp; omega
    have k2 : decide (b < a) = true := by simp [h]
    have HZ : Hid (z = 1) := by show _ = _; rw [hz]; unfold cmpZ; rw [if_neg (by omega), if_pos h]
    clear hz h
    go_enter Try.func120, Try.ntmps120
    go_wp2_with fail
    refine H1.out.mono ?_
    rintro e w1 ⟨rfl, rfl⟩
    go_wp2_with fail
    refine H2.out.mono ?_
    rintro e w1 ⟨rfl, rfl⟩
    go_wp2_with fail
    go_ret
    exact ⟨by rw [HZ.out]; rfl, rfl⟩
theorem cmpN (a b : Int) (w : World) : Calls Try.prog 107 #[.int .i64 a, .int .i64 b] w fun e w' => e = .returned (.int .i64 (cmpZ a b)) ∧ w = w' := by
  have H1 := Lib.hid (isNaNI a w)
  have H2 := Lib.hid (isNaNI b w)
  obtain ⟨z, hz⟩ : ∃ z, z = cmpZ a b := ⟨_, rfl⟩
  rw [← hz]
  rcases Int.lt_trichotomy a b with h | h | h
  · have k1 : decide (a < b) = true := by simp; omega
    have k2 : decide (b < a) = false := by simp; omega
    have HZ : Hid (z = -1) := by show _ = _; rw [hz]; unfold cmpZ; rw [if_pos h]
    clear hz h
    go_enter Try.func107, Try.ntmps107
    go_wp2_with fail
    refine H1.out.mono ?_
    rintro e w1 ⟨rfl, rfl⟩
    go_wp2_with fail
    refine H2.out.mono ?_
    rintro e w1 ⟨rfl, rfl⟩
    go_wp2_with fail
    go_ret
    exact ⟨by rw [HZ.out]; rfl, rfl⟩
  · have k1 : decide (a < b) = false := by simp; omega
    have k2 : decide (b < a) = false := by simp; omega
    have HZ : Hid (z = 0) := by show _ = _; rw [hz]; unfold cmpZ; rw [if_neg (by omega), if_neg (by omega)]
    clear hz h
    go_enter Try.func107, Try.ntmps107
    go_wp2_with fail
    refine H1.out.mono ?_
    rintro e w1 ⟨rfl, rfl⟩
    go_wp2_with fail
    refine H2.out.mono ?_
    rintro e w1 ⟨rfl, rfl⟩
    go_wp2_with fail
    go_ret
    exact ⟨by rw [HZ.out]; rfl, rfl⟩
  · have k1 : decide (a < b) = false := by simp; omega
    have k2 : decide (b < a) = true := by simp; omega
    have HZ : Hid (z = 1) := by show _ = _; rw [hz]; unfold cmpZ; rw [if_neg (by omega), if_pos h]
    clear hz h
    go_enter Try.func107, Try.ntmps107
    go_wp2_with fail
    refine H1.out.mono ?_
    rintro e w1 ⟨rfl, rfl⟩
    go_wp2_with fail
    refine H2.out.mono ?_
    rintro e w1 ⟨rfl, rfl⟩
    go_wp2_with fail
    go_ret
    exact ⟨by rw [HZ.out]; rfl, rfl⟩

set_option maxRecDepth 100000 in
theorem orV (c1 c2 : Int) {g : Nat} {w : World} (h : BlkAt 3 g [.int .i64 c1, .int .i64 c2] w) :
    Calls Try.prog 106 #[.slice (some ⟨g, 0, none⟩) 2 2] w fun e w' => e = .returned (.int .i64 (orZ c1 c2)) ∧ w = w' := by
  have d0 := h.cell (j := 0) rfl
  have d1 := h.cell (j := 1) rfl
  obtain ⟨z, hz⟩ : ∃ z, z = orZ c1 c2 := ⟨_, rfl⟩
  rw [← hz]
  have HZ := Lib.hid hz
  have HD : Hid (w.cell? ⟨g, 0, none⟩ = some (.int .i64 c1) ∧ w.cell? ⟨g, 1, none⟩ = some (.int .i64 c2)) := ⟨d0, d1⟩
  clear h hz d0 d1
  go_enter Try.func106, Try.ntmps106
  go_wp2_with fail
  go_loopw [8] (fun x wr => ∃ k : Nat, k ≤ 2 ∧ x = .int .i64 k ∧ Hid (w = wr ∧ (0 < k → c1 = 0) ∧ (1 < k → c2 = 0))) (fun x _ => 2 - (intOf x).toNat)
  case atStart => exact ⟨0, by omega, rfl, ⟨rfl, by omega, by omega⟩⟩
  case round =>
    obtain ⟨k, hk, rfl, HK⟩ := hrel
    obtain ⟨rfl, h1, h2⟩ := HK.out
    obtain ⟨d0, d1⟩ := HD.out
    have hk3 : k = 0 ∨ k = 1 ∨ k = 2 := by omega
    rcases hk3 with rfl | rfl | rfl
    · clear h1 h2
      by_cases hc : c1 = 0
      · have q : (c1 != 0) = false := by simp [hc]
        have HC := Lib.hid hc
        clear hc
        go_wp2_with fail
        go_roundw
        case rel => exact ⟨1, by omega, by go_num, ⟨trivial, fun _ => HC.out, by omega⟩⟩
        case measure => simp [intOf]
      · have q : (c1 != 0) = true := by simp [hc]
        have HC := Lib.hid hc
        clear hc
        go_wp2_with fail
        go_ret
        exact ⟨by rw [HZ.out]; unfold orZ; rw [if_neg HC.out]; rfl, rfl⟩
    · have HC := Lib.hid (h1 (by omega))
      clear h1 h2
      by_cases hc : c2 = 0
      · have q : (c2 != 0) = false := by simp [hc]
        have HC2 := Lib.hid hc
        clear hc
        go_wp2_with fail
        go_roundw
        case rel => exact ⟨2, by omega, by go_num, ⟨trivial, fun _ => HC.out, fun _ => HC2.out⟩⟩
        case measure => simp [intOf]
      · have q : (c2 != 0) = true := by simp [hc]
        clear hc
        go_wp2_with fail
        go_ret
        exact ⟨by rw [HZ.out]; unfold orZ; rw [if_pos HC.out]; rfl, rfl⟩
    · have HC := Lib.hid (And.intro (h1 (by omega)) (h2 (by omega)))
      clear h1 h2
      go_wp2_with fail
      go_ret
      exact ⟨by rw [HZ.out]; unfold orZ; rw [if_pos HC.out.1, HC.out.2]; rfl, rfl⟩
/-- Draws, and blocks behind. -/
def GR (A B : World) : Prop := ∃ n os, B = grow (A.drewN n) os
theorem GR.refl (A : World) : GR A A := ⟨0, #[], by rw [grow_empty]; rfl⟩
theorem grow_drew (A : World) (os : Array Obj) : (grow A os).drew = grow A.drew os := rfl
theorem GR.drew {A B : World} (h : GR A B) : GR A B.drew := by
  obtain ⟨n, os, rfl⟩ := h
  exact ⟨n + 1, os, rfl⟩
theorem GR.alloc {A B : World} (h : GR A B) (o : Obj) : GR A (B.alloc o) := by
  obtain ⟨n, os, rfl⟩ := h
  exact ⟨n, os ++ #[o], by rw [alloc_eq_grow, grow_grow]⟩
theorem GR.below {A B : World} (h : GR A B) : Below A.heap.size A B := by
  obtain ⟨n, os, rfl⟩ := h
  refine ⟨rfl, rfl, rfl, by simp [grow, World.drewN], fun b hb => ?_⟩
  show (A.heap ++ os)[b]? = _
  rw [Array.getElem?_append_left hb]
set_option maxRecDepth 100000 in
theorem compareL (p q : Pf) (W : World) : Calls Try.prog 102 #[pv p, pv q] W fun e w' => e = .returned (.int .i64 (Wp.cmpI p.1 p.2 q.1 q.2)) ∧ GR W w' := by
  have HR := Lib.hid (or_cmp p q)
  obtain ⟨z, hz⟩ : ∃ z, z = Wp.cmpI p.1 p.2 q.1 q.2 := ⟨_, rfl⟩
  rw [← hz] at HR ⊢
  clear hz
  obtain ⟨w1, hw1⟩ : ∃ w1, w1 = W.alloc (.cells #[.int .u32 p.1, .int .i64 p.2] 40) := ⟨_, rfl⟩
  obtain ⟨w2, hw2⟩ : ∃ w2, w2 = w1.alloc (.cells #[.int .u32 q.1, .int .i64 q.2] 40) := ⟨_, rfl⟩
  have hg : GR W w2 := by rw [hw2, hw1]; exact ((GR.refl W).alloc _).alloc _
  have hs : w1.heap.size = W.heap.size + 1 := by rw [hw1]; simp
  have hp : BlkAt 40 W.heap.size [.int .u32 p.1, .int .i64 p.2] w2 := by
    have h : BlkAt 40 W.heap.size [.int .u32 p.1, .int .i64 p.2] w1 := by rw [hw1]; exact BlkAt.new _ _
    rw [hw2]; exact h.later (ba1 _ _)
  have hq : BlkAt 40 (W.heap.size + 1) [.int .u32 q.1, .int .i64 q.2] w2 := by
    have h : BlkAt 40 w1.heap.size [.int .u32 q.1, .int .i64 q.2] w2 := by rw [hw2]; exact BlkAt.new _ _
    rw [hs] at h; exact h
  have HG := Lib.hid hg
  have HC : Hid (∀ B, GR w2 B → B.cell? ⟨W.heap.size, 0, none⟩ = some (.int .u32 p.1) ∧ B.cell? ⟨W.heap.size, 1, none⟩ = some (.int .i64 p.2) ∧ B.cell? ⟨W.heap.size + 1, 0, none⟩ = some (.int .u32 q.1) ∧ B.cell? ⟨W.heap.size + 1, 1, none⟩ = some (.int .i64 q.2)) := by
    have : ∀ B, GR w2 B → B.cell? ⟨W.heap.size, 0, none⟩ = some (.int .u32 p.1) ∧ B.cell? ⟨W.heap.size, 1, none⟩ = some (.int .i64 p.2) ∧ B.cell? ⟨W.heap.size + 1, 0, none⟩ = some (.int .u32 q.1) ∧ B.cell? ⟨W.heap.size + 1, 1, none⟩ = some (.int .i64 q.2) := fun B hB =>
      ⟨cell_later hB.below (hp.cell (j := 0) rfl), cell_later hB.below (hp.cell (j := 1) rfl), cell_later hB.below (hq.cell (j := 0) rfl), cell_later hB.below (hq.cell (j := 1) rfl)⟩
    exact this
  have H1 := Lib.hid (fun B => cmpA p.1 q.1 B)
  have H2 := Lib.hid (fun B => cmpN p.2 q.2 B)
  have HW1 := Lib.hid hw1
  have HW2 := Lib.hid hw2
  have HT : Hid (∀ A B, GR W A → GR A B → GR W B) := by
    have : ∀ A B, GR W A → GR A B → GR W B := by
      rintro A B ⟨n, os, rfl⟩ ⟨m, os', rfl⟩
      exact ⟨n + m, os ++ os', by
        show grow (grow ((W.drewN n).drewN m) os) os' = _
        rw [grow_grow]
        congr 1
        simp [World.drewN, Nat.add_assoc]⟩
    exact this
  obtain ⟨c1, hc1⟩ : ∃ c, c = cmpZ p.1 q.1 := ⟨_, rfl⟩
  obtain ⟨c2, hc2⟩ : ∃ c, c = cmpZ p.2 q.2 := ⟨_, rfl⟩
  rw [← hc1] at HR H1
  rw [← hc2] at HR H2
  clear hw1 hw2 hg hs hp hq hc1 hc2
  unfold pv
  go_enter Try.func102, Try.ntmps102
  go_wp2_with fail
  rw [← HW1.out, ← HW2.out]
  (refine wp_region_held_drew (S := (fun w' => GR w2 w')) (by kernel_rfl) ?_ (fun hHeld => ?_); (focus ((try dsimp only); (exact (GR.refl w2).drew))))
  (refine wpAnyH_take (i := 0) (v := ?_) rfl (by kernel_rfl) (by kernel_rfl) (by kernel_rfl) (fun _ _ _ h => h) (Or.inl ⟨by rfl, ?_⟩) hHeld ?_; rotate_left; (focus (intro w hSw; (try dsimp only at hSw); go_simp; try with_reducible rfl)); (try simp only [Act.put, List.setIfInBounds_toArray, List.set_cons_zero, List.set_cons_succ, List.getElem_toArray, List.getElem_cons_zero]))
  (refine wpAnyH_take (i := 1) (v := ?_) rfl (by kernel_rfl) (by kernel_rfl) (by kernel_rfl) (fun _ _ _ h => h) (Or.inl ⟨by rfl, ?_⟩) hHeld ?_; rotate_left; (focus (intro w hSw; (try dsimp only at hSw); go_simp; (have cc := (HC.out _ hSw).1; go_simp; try with_reducible rfl))); (try simp only [Act.put, List.setIfInBounds_toArray, List.set_cons_zero, List.set_cons_succ, List.getElem_toArray, List.getElem_cons_zero, List.getElem_cons_succ]))
  (refine wpAnyH_take (i := 2) (v := ?_) rfl (by kernel_rfl) (by kernel_rfl) (by kernel_rfl) (fun _ _ _ h => h) (Or.inl ⟨by rfl, ?_⟩) hHeld ?_; rotate_left; (focus (intro w hSw; (try dsimp only at hSw); go_simp; try with_reducible rfl)); (try simp only [Act.put, List.setIfInBounds_toArray, List.set_cons_zero, List.set_cons_succ, List.getElem_toArray, List.getElem_cons_zero, List.getElem_cons_succ]))
  (refine wpAnyH_take (i := 3) (v := ?_) rfl (by kernel_rfl) (by kernel_rfl) (by kernel_rfl) (fun _ _ _ h => h) (Or.inl ⟨by rfl, ?_⟩) hHeld ?_; rotate_left; (focus (intro w hSw; (try dsimp only at hSw); go_simp; (have cc := (HC.out _ hSw).2.2.1; go_simp; try with_reducible rfl))); (try simp only [Act.put, List.setIfInBounds_toArray, List.set_cons_zero, List.set_cons_succ, List.getElem_toArray, List.getElem_cons_zero, List.getElem_cons_succ]))
  (refine wpAnyH_take (i := 5) (v := ?_) rfl (by kernel_rfl) (by kernel_rfl) (by kernel_rfl) (fun _ _ _ h => h) (Or.inl ⟨by rfl, ?_⟩) hHeld ?_; rotate_left; (focus (intro w hSw; (try dsimp only at hSw); go_simp; try with_reducible rfl)); (try simp only [Act.put, List.setIfInBounds_toArray, List.set_cons_zero, List.set_cons_succ, List.getElem_toArray, List.getElem_cons_zero, List.getElem_cons_succ]))
  (refine wpAnyH_take (i := 6) (v := ?_) rfl (by kernel_rfl) (by kernel_rfl) (by kernel_rfl) (fun _ _ _ h => h) (Or.inl ⟨by rfl, ?_⟩) hHeld ?_; rotate_left; (focus (intro w hSw; (try dsimp only at hSw); go_simp; (have cc := (HC.out _ hSw).2.1; go_simp; try with_reducible rfl))); (try simp only [Act.put, List.setIfInBounds_toArray, List.set_cons_zero, List.set_cons_succ, List.getElem_toArray, List.getElem_cons_zero, List.getElem_cons_succ]))
  (refine wpAnyH_take (i := 7) (v := ?_) rfl (by kernel_rfl) (by kernel_rfl) (by kernel_rfl) (fun _ _ _ h => h) (Or.inl ⟨by rfl, ?_⟩) hHeld ?_; rotate_left; (focus (intro w hSw; (try dsimp only at hSw); go_simp; try with_reducible rfl)); (try simp only [Act.put, List.setIfInBounds_toArray, List.set_cons_zero, List.set_cons_succ, List.getElem_toArray, List.getElem_cons_zero, List.getElem_cons_succ]))
  (refine wpAnyH_take (i := 8) (v := ?_) rfl (by kernel_rfl) (by kernel_rfl) (by kernel_rfl) (fun _ _ _ h => h) (Or.inl ⟨by rfl, ?_⟩) hHeld ?_; rotate_left; (focus (intro w hSw; (try dsimp only at hSw); go_simp; (have cc := (HC.out _ hSw).2.2.2; go_simp; try with_reducible rfl))); (try simp only [Act.put, List.setIfInBounds_toArray, List.set_cons_zero, List.set_cons_succ, List.getElem_toArray, List.getElem_cons_zero, List.getElem_cons_succ]))
  (refine wpAnyH_ready (rs := [4]) (by kernel_rfl) (by simp) ?_; refine AllReadyH.cons rfl (fun K hK => ?_) AllReadyH.nil; go_simp; refine (H1.out _).mono ?_; rintro e y1 ⟨rfl, rfl⟩; refine hK.out _ _ ?_ (fun hHeldN => ?_); (focus ((try dsimp only); (exact hHeld))); clear hK K hHeld; have hHeld := hHeldN; clear hHeldN; (try simp only [Act.put, List.setIfInBounds_toArray, List.set_cons_zero, List.set_cons_succ, List.getElem_toArray, List.getElem_cons_zero, List.getElem_cons_succ]))
  (refine wpAnyH_ready (rs := [9]) (by kernel_rfl) (by simp) ?_; refine AllReadyH.cons rfl (fun K hK => ?_) AllReadyH.nil; go_simp; refine (H2.out _).mono ?_; rintro e y2 ⟨rfl, rfl⟩; refine hK.out _ _ ?_ (fun hHeldN => ?_); (focus ((try dsimp only); (exact hHeld))); clear hK K hHeld; have hHeld := hHeldN; clear hHeldN; (try simp only [Act.put, List.setIfInBounds_toArray, List.set_cons_zero, List.set_cons_succ, List.getElem_toArray, List.getElem_cons_zero, List.getElem_cons_succ]))
  (refine wpAnyH_ready (rs := [10]) (by kernel_rfl) (by simp) ?_; refine AllReadyH.cons rfl (fun K hK => ?_) AllReadyH.nil; go_simp; skip; refine hK.out _ _ ?_ (fun hHeldN => ?_); (focus ((try dsimp only); (exact hHeld.alloc _))); clear hK K hHeld; have hHeld := hHeldN; clear hHeldN; (try simp only [Act.put, List.setIfInBounds_toArray, List.set_cons_zero, List.set_cons_succ, List.getElem_toArray, List.getElem_cons_zero, List.getElem_cons_succ]))
  (refine wpAnyH_ready (rs := [11]) (by kernel_rfl) (by simp) ?_; refine AllReadyH.cons rfl (fun K hK => ?_) AllReadyH.nil; go_simp; refine (orV c1 c2 ((BlkAt.new w2 [.int .i64 c1, .int .i64 c2]).later (Below.refl _ _).drew)).mono ?_; rintro e y3 ⟨rfl, rfl⟩; refine hK.out _ _ ?_ (fun hHeldN => ?_); (focus ((try dsimp only); (exact hHeld))); clear hK K hHeld; have hHeld := hHeldN; clear hHeldN; (try simp only [Act.put, List.setIfInBounds_toArray, List.set_cons_zero, List.set_cons_succ, List.getElem_toArray, List.getElem_cons_zero, List.getElem_cons_succ]))
  (refine wpAnyH_take (i := 12) (v := ?_) rfl (by kernel_rfl) (by kernel_rfl) (by kernel_rfl) (fun _ _ _ h => h) (Or.inl ⟨by rfl, ?_⟩) hHeld ?_; rotate_left; (focus (intro w hSw; (try dsimp only at hSw); go_simp; try with_reducible rfl)); (try simp only [Act.put, List.setIfInBounds_toArray, List.set_cons_zero, List.set_cons_succ, List.getElem_toArray, List.getElem_cons_zero, List.getElem_cons_succ]))
  refine wpAnyH_done (by kernel_rfl) ?_ _
  have HE := Lib.hid (HT.out _ _ HG.out hHeld)
  clear hHeld
  go_wp2_with fail
  go_ret
  exact ⟨by rw [HR.out]; rfl, HE.out⟩
theorem flatK_list {L : List Pf} : (flatK fcell 2 L.toArray).toList = L.flatMap fcell := by
  apply List.ext_getElem
  · rw [flat_len eltP]; simp
  · intro t h1 h2
    have ht : t < L.length * 2 := by rw [flat_len eltP] at h2; exact h2
    have hj : t / 2 < L.length := by omega
    have hx : L[t / 2]? = some L[t / 2] := List.getElem?_eq_getElem hj
    have hd : (L.toArray)[t / 2]! = L[t / 2] := by simp [hj]
    have hi : ∃ u, (fcell L[t / 2])[t % 2]? = some u := ⟨_, List.getElem?_eq_getElem (by show t % 2 < 2; omega)⟩
    obtain ⟨u, hu⟩ := hi
    have hf := flat_at eltP L (t / 2) _ hx (t % 2) u hu
    rw [show t / 2 * 2 + t % 2 = t by omega] at hf
    have hg := get_flatK fcell 2 L.toArray t (by simpa using ht)
    rw [hd] at hg
    have e1 : (flatK fcell 2 L.toArray).toList[t] = (flatK fcell 2 L.toArray)[t]! := by
      rw [getElem!_pos _ t (by simpa using ht)]; simp
    have e2 : (fcell L[t / 2])[t % 2]! = u := by rw [List.getElem!_eq_getElem?_getD, hu]; rfl
    rw [e1, hg, e2]
    have := List.getElem?_eq_getElem h2
    rw [hf] at this
    exact Option.some.inj this
theorem put_own {w : World} {B g n cap m : Nat} {L M : List Pf} (h : OwnF w B (.slice (some ⟨g, 0, none⟩) n cap) L) (hM : M.length = L.length) (os : Array Obj) :
    OwnF (sortWorldK fcell 2 w g 0 m M.toArray os) B (.slice (some ⟨g, 0, none⟩) n cap) M ∧ Chg [g] w (sortWorldK fcell 2 w g 0 m M.toArray os) := by
  obtain ⟨hn, hc⟩ := h.cap
  rcases h.2 with ⟨e0, _⟩ | ⟨g', cap', cur, e0, hb, hg, h1, h2, h3, h4⟩
  · cases e0
  · simp only [Value.slice.injEq, Option.some.injEq, Addr.mk.injEq] at e0
    obtain ⟨⟨rfl, _⟩, rfl, rfl⟩ := e0
    have hlt : g < w.heap.size := (Array.getElem?_eq_some_iff.1 hg).1
    have hfs : (flatK fcell 2 M.toArray).size = M.length * 2 := by simp
    have hblk : (sortWorldK fcell 2 w g 0 m M.toArray os).heap[g]? = some (.cells (putCells id 0 (flatK fcell 2 M.toArray) cur) 40 (0, 0)) := by
      show ((w.heap.modify g _) ++ os)[g]? = _
      rw [Array.getElem?_append_left (by simpa using hlt), Array.getElem?_modify, if_pos rfl, hg]
      rfl
    have hps : (putCells id 0 (flatK fcell 2 M.toArray) cur).size = cur.size := by simp [putCells]
    refine ⟨⟨by rw [flat_len eltP], .inr ⟨g, cap, _, by rw [hM], hb, hblk, by omega, h2, by rw [hps]; exact h3, ?_⟩⟩, ⟨⟨rfl, rfl, rfl, ?_, fun b hb' => by omega⟩, fun b hb' hn' => ?_⟩⟩
    · rw [← flatK_list]
      apply List.ext_getElem?
      intro j
      rw [List.getElem?_take]
      by_cases hj : j < M.length * 2
      · have hjc : j < cur.size := by rw [h3]; have := Nat.mul_le_mul_right 2 h1; omega
        rw [if_pos hj, Array.getElem?_toList, Array.getElem?_toList]
        unfold putCells
        rw [Array.getElem?_mapIdx, Array.getElem?_eq_getElem hjc, Array.getElem?_eq_getElem (by omega)]
        simp only [Option.map_some]
        rw [if_pos (by omega)]
        simp [getElem!_pos, hj]
      · rw [if_neg hj, Array.getElem?_toList, Array.getElem?_eq_none (by omega)]
    · show w.heap.size ≤ ((w.heap.modify g _) ++ os).size
      simp
    · show ((w.heap.modify g _) ++ os)[b]? = _
      rw [Array.getElem?_append_left (by simpa using hb'), Array.getElem?_modify, if_neg (fun e => hn' (by simp [e]))]
end Go.Proofs.Ytdjhgahdiggahaa

namespace Go.Proofs.Ytdjhgahdiggahaa
open Go.RowKit Go.Sort Go.Shelf
attribute [local go_sem ↓] Go.wp_at_zero Go.wp_at_succ
open Sp

set_option maxRecDepth 100000 in
theorem iv_at2 {L : List Int} {j : Nat} {x : Int} (h : L[j]? = some x) : (iv L)[j]? = some (.int .i64 x) := by
  unfold iv
  rw [List.getElem?_map, h]
  rfl
set_option maxRecDepth 100000 in
theorem iv_set (L : List Int) (j : Nat) (x : Int) : (iv L).set j (.int .i64 x) = iv (L.set j x) := by
  unfold iv
  rw [List.map_set]
abbrev IB (g : Nat) (L : List Int) (w : World) : Prop := BlkAt 3 g (iv L) w
set_option maxRecDepth 100000 in
theorem IB.set {g : Nat} {L : List Int} {w : World} (h : IB g L w) (j : Nat) (x : Int) : IB g (L.set j x) (w.setCell ⟨g, j, none⟩ (.int .i64 x)) := by
  have := BlkAt.set h j (.int .i64 x)
  rw [iv_set] at this
  exact this
set_option maxRecDepth 100000 in
theorem made_iv (n : Nat) : (madeCells (Value.int IntKind.i64 0).cells (n * 1)).toList = iv (List.replicate n 0) := by
  rw [Nat.mul_one]; show (madeCells #[.int .i64 0] n).toList = _
  rw [toList_madeCells_one]; simp [iv]
set_option maxRecDepth 100000 in
theorem make_ints (n : Nat) (w : World) (hn : n ≤ 1000000) :
    ∃ w1, (Instr.makeSlice 62 (.int .i64 (n : Int)) (.int .i64 (n : Int))).run Try.prog w = .ok (.slice (some ⟨w.heap.size, 0, none⟩) n n) w1 ∧ IB w.heap.size (List.replicate n 0) w1 ∧ Below w.heap.size w w1 := by
  have h4 : ((Try.prog).info? 3).map (fun i => (i.zero, i.size, i.bytes)) = some (some (.int .i64 0), 1, 8) := by kernel_rfl
  obtain ⟨i0, hi, hx⟩ := Option.map_eq_some_iff.1 h4
  simp only [Prod.mk.injEq] at hx
  obtain ⟨hz0, hz1, hz2⟩ := hx
  obtain ⟨w1, hmk, hown0, hg0⟩ := run_make_full (P := Try.prog) (w := w) w.heap.size 62 3 i0 (.int .i64 0) 1 Try.underlying62 hi hz0 hz1 .i64 .i64 n (by rw [hz2]; omega) (by unfold maxLen; omega) (Nat.le_refl _)
  refine ⟨w1, hmk, ?_, (Below.refl _ _).grown hg0 (Nat.le_refl _) (by simp)⟩
  rw [made_iv] at hown0
  obtain ⟨h1, h0 | ⟨g, cap, cur, e, _, hb, h2, h3, h5, h6⟩⟩ := hown0
  · cases h0.1
  · simp only [Value.slice.injEq, Option.some.injEq, Addr.mk.injEq] at e
    obtain ⟨⟨rfl, _⟩, _, rfl⟩ := e
    rw [Nat.mul_one] at h5 h6
    rw [List.take_of_length_le (by rw [Array.length_toList, h5]; exact Nat.le_refl _)] at h6
    show w1.heap[w.heap.size]? = _
    rw [hb, ← h6, Array.toArray_toList]
def encFin {n : Nat} (i : Fin n) : Value := .int .i64 (i.val : Int)
set_option maxRecDepth 100000 in
theorem sort_ib {n : Nat} {g m : Nat} {L : List Int} {w : World} (h : IB g L w) (hL : L.length = n) [Inhabited (Fin n)] (M : Array (Fin n)) (hM : M.size = n) (os : Array Obj) :
    IB g (M.toList.map fun i => (i.val : Int)) (sortWorld encFin w g 0 m M os) ∧ Chg [g] w (sortWorld encFin w g 0 m M os) := by
  have hg : w.heap[g]? = some (.cells (iv L).toArray 3 (0, 0)) := h
  have hlt : g < w.heap.size := (Array.getElem?_eq_some_iff.1 hg).1
  have hblk : (sortWorld encFin w g 0 m M os).heap[g]? = some (.cells (putCells encFin 0 M (iv L).toArray) 3 (0, 0)) := by
    show ((w.heap.modify g _) ++ os)[g]? = _
    rw [Array.getElem?_append_left (by simpa using hlt), Array.getElem?_modify, if_pos rfl, hg]
    rfl
  refine ⟨?_, ⟨⟨rfl, rfl, rfl, ?_, fun b hb' => by omega⟩, fun b hb' hn' => ?_⟩⟩
  · show (sortWorld encFin w g 0 m M os).heap[g]? = _
    rw [hblk]
    congr 2
    apply Array.ext_getElem?
    intro j
    unfold putCells iv
    rw [Array.getElem?_mapIdx]
    by_cases hj : j < n
    · have e1 : L[j]? = some (L[j]'(by rw [hL]; exact hj)) := List.getElem?_eq_getElem _
      have e2 : M[j]? = some (M[j]'(by rw [hM]; exact hj)) := Array.getElem?_eq_getElem _
      have e3 : M[j]! = M[j]'(by rw [hM]; exact hj) := getElem!_pos _ j (by rw [hM]; exact hj)
      rw [List.getElem?_toArray, List.getElem?_toArray, List.getElem?_map, List.getElem?_map, List.getElem?_map, e1, Array.getElem?_toList (xs := M), e2]
      simp only [Option.map_some]
      rw [if_pos ⟨Nat.zero_le _, by rw [hM]; omega⟩, Nat.sub_zero, e3]
      rfl
    · rw [List.getElem?_toArray, List.getElem?_toArray, List.getElem?_eq_none (by simp; omega), List.getElem?_eq_none (by simp; omega)]
      rfl
  · show w.heap.size ≤ ((w.heap.modify g _) ++ os).size
    simp
  · show ((w.heap.modify g _) ++ os)[b]? = _
    rw [Array.getElem?_append_left (by simpa using hb'), Array.getElem?_modify, if_neg (fun e => hn' (by simp [e]))]
end Go.Proofs.Ytdjhgahdiggahaa

namespace Go.Proofs.Ytdjhgahdiggahaa
open Go.RowKit Go.Sort Go.Shelf
attribute [local go_sem ↓] Go.wp_at_zero Go.wp_at_succ
open Sp

def zil (rs : List Nat) : List Int := rs.map fun (n : Nat) => (n : Int)
set_option maxRecDepth 100000 in
theorem zil_len (rs : List Nat) : (zil rs).length = rs.length := by simp [zil]
set_option maxRecDepth 100000 in
theorem zil_at {rs : List Nat} {j : Nat} (h : j < rs.length) : (zil rs)[j]? = some ((rs.getD j 0 : Nat) : Int) := by
  unfold zil
  rw [List.getElem?_map, List.getElem?_eq_getElem h]
  simp [h]
def cfP (rs : List Nat) (x y : Nat) : Int := orZ (cmpZ ((rs.getD y 0 : Nat) : Int) ((rs.getD x 0 : Nat) : Int)) (cmpZ (x : Int) (y : Int))
set_option maxRecDepth 100000 in
theorem cfP_lt (rs : List Nat) (x y : Nat) : decide (cfP rs x y < 0) = Sp.lt rs x y := by
  unfold cfP orZ cmpZ
  rw [Bool.eq_iff_iff, decide_eq_true_eq, lt_iff]
  obtain ⟨a, ha⟩ : ∃ a, a = rs.getD x 0 := ⟨_, rfl⟩
  obtain ⟨b, hb⟩ : ∃ b, b = rs.getD y 0 := ⟨_, rfl⟩
  rw [← ha, ← hb]
  by_cases h1 : b < a
  · have h1' : (b : Int) < a := by omega
    simp [h1, h1']
  · have h1' : ¬ (b : Int) < a := by omega
    by_cases h2 : a < b
    · have h2' : (a : Int) < b := by omega
      simp [h1, h1', h2, h2']
      omega
    · have h3 : a = b := by omega
      subst h3
      by_cases h4 : x < y
      · have h4' : (x : Int) < y := by omega
        simp [h4, h4']
      · have h4' : ¬ (x : Int) < y := by omega
        by_cases h5 : y < x
        · have h5' : (y : Int) < x := by omega
          simp [h4, h4', h5, h5']
        · have : x = y := by omega
          subst this
          simp
set_option maxRecDepth 100000 in
theorem closL {pb g n : Nat} {rs : List Nat} {w : World} (hn : n = rs.length) (hl : n ≤ 1000) (hp : BlkAt 62 pb [.slice (some ⟨g, 0, none⟩) n n] w) (hg : IB g (zil rs) w) {x y : Nat} (hx : x < n) (hy : y < n) :
    Calls Try.prog 105 #[.int .i64 (x : Int), .int .i64 (y : Int), .pointer (some ⟨pb, 0, none⟩)] w fun e w' => e = .returned (.int .i64 (cfP rs x y)) ∧ GR w w' := by
  have HC : Hid (∀ B, GR w B → B.cell? ⟨pb, 0, none⟩ = some (.slice (some ⟨g, 0, none⟩) n n) ∧ B.cell? ⟨g, x, none⟩ = some (.int .i64 ((rs.getD x 0 : Nat) : Int)) ∧ B.cell? ⟨g, y, none⟩ = some (.int .i64 ((rs.getD y 0 : Nat) : Int))) := by
    have : ∀ B, GR w B → B.cell? ⟨pb, 0, none⟩ = some (.slice (some ⟨g, 0, none⟩) n n) ∧ B.cell? ⟨g, x, none⟩ = some (.int .i64 ((rs.getD x 0 : Nat) : Int)) ∧ B.cell? ⟨g, y, none⟩ = some (.int .i64 ((rs.getD y 0 : Nat) : Int)) := fun B hB =>
      ⟨cell_later hB.below (hp.cell (j := 0) rfl), cell_later hB.below (hg.cell (iv_at2 (zil_at (by omega)))), cell_later hB.below (hg.cell (iv_at2 (zil_at (by omega))))⟩
    exact this
  have hz : cfP rs x y = orZ (cmpZ ((rs.getD y 0 : Nat) : Int) ((rs.getD x 0 : Nat) : Int)) (cmpZ (x : Int) (y : Int)) := rfl
  obtain ⟨rx, hrx⟩ : ∃ r : Int, r = ((rs.getD x 0 : Nat) : Int) := ⟨_, rfl⟩
  obtain ⟨ry, hry⟩ : ∃ r : Int, r = ((rs.getD y 0 : Nat) : Int) := ⟨_, rfl⟩
  rw [← hrx, ← hry] at HC hz
  obtain ⟨c1, hc1⟩ : ∃ c, c = cmpZ ry rx := ⟨_, rfl⟩
  obtain ⟨c2, hc2⟩ : ∃ c, c = cmpZ (x : Int) (y : Int) := ⟨_, rfl⟩
  have H1 := Lib.hid (fun B => cmpN ry rx B)
  have H2 := Lib.hid (fun B => cmpN (x : Int) (y : Int) B)
  rw [← hc1] at H1 hz
  rw [← hc2] at H2 hz
  rw [hz]
  have g1 : (x : Int) < n := by omega
  have g2 : (y : Int) < n := by omega
  have g3 : (n : Int) ≤ 1000 := by omega
  clear hz hrx hry hc1 hc2 hp hg hn hl
  go_enter Try.func105, Try.ntmps105
  go_wp2_with fail
  (refine wp_region_held_drew (S := (fun w' => GR w w')) (by kernel_rfl) ?_ (fun hHeld => ?_); (focus ((try dsimp only); (exact (GR.refl w).drew))))
  (refine wpAnyH_take (i := 0) (v := ?_) rfl (by kernel_rfl) (by kernel_rfl) (by kernel_rfl) (fun _ _ _ h => h) (Or.inl ⟨by rfl, ?_⟩) hHeld ?_; rotate_left; (focus (intro w hSw; (try dsimp only at hSw); go_simp; (have cc := (HC.out _ hSw).1; go_simp; try with_reducible rfl))); (try simp only [Act.put, List.setIfInBounds_toArray, List.set_cons_zero, List.set_cons_succ, List.getElem_toArray, List.getElem_cons_zero]))
  (refine wpAnyH_take (i := 1) (v := ?_) rfl (by kernel_rfl) (by kernel_rfl) (by kernel_rfl) (fun _ _ _ h => h) (Or.inl ⟨by rfl, ?_⟩) hHeld ?_; rotate_left; (focus (intro w hSw; (try dsimp only at hSw); go_simp; try with_reducible rfl)); (try simp only [Act.put, List.setIfInBounds_toArray, List.set_cons_zero, List.set_cons_succ, List.getElem_toArray, List.getElem_cons_zero, List.getElem_cons_succ])); (refine wpAnyH_take (i := 2) (v := ?_) rfl (by kernel_rfl) (by kernel_rfl) (by kernel_rfl) (fun _ _ _ h => h) (Or.inl ⟨by rfl, ?_⟩) hHeld ?_; rotate_left; (focus (intro w hSw; (try dsimp only at hSw); go_simp; try with_reducible rfl)); (try simp only [Act.put, List.setIfInBounds_toArray, List.set_cons_zero, List.set_cons_succ, List.getElem_toArray, List.getElem_cons_zero, List.getElem_cons_succ]))
  (refine wpAnyH_take (i := 3) (v := ?_) rfl (by kernel_rfl) (by kernel_rfl) (by kernel_rfl) (fun _ _ _ h => h) (Or.inl ⟨by rfl, ?_⟩) hHeld ?_; rotate_left; (focus (intro w hSw; (try dsimp only at hSw); go_simp; (have cc := (HC.out _ hSw).2.2; go_simp; try with_reducible rfl))); (try simp only [Act.put, List.setIfInBounds_toArray, List.set_cons_zero, List.set_cons_succ, List.getElem_toArray, List.getElem_cons_zero, List.getElem_cons_succ]))
  (refine wpAnyH_take (i := 4) (v := ?_) rfl (by kernel_rfl) (by kernel_rfl) (by kernel_rfl) (fun _ _ _ h => h) (Or.inl ⟨by rfl, ?_⟩) hHeld ?_; rotate_left; (focus (intro w hSw; (try dsimp only at hSw); go_simp; (have cc := (HC.out _ hSw).1; go_simp; try with_reducible rfl))); (try simp only [Act.put, List.setIfInBounds_toArray, List.set_cons_zero, List.set_cons_succ, List.getElem_toArray, List.getElem_cons_zero, List.getElem_cons_succ]))
  (refine wpAnyH_take (i := 5) (v := ?_) rfl (by kernel_rfl) (by kernel_rfl) (by kernel_rfl) (fun _ _ _ h => h) (Or.inl ⟨by rfl, ?_⟩) hHeld ?_; rotate_left; (focus (intro w hSw; (try dsimp only at hSw); go_simp; try with_reducible rfl)); (try simp only [Act.put, List.setIfInBounds_toArray, List.set_cons_zero, List.set_cons_succ, List.getElem_toArray, List.getElem_cons_zero, List.getElem_cons_succ])); (refine wpAnyH_take (i := 6) (v := ?_) rfl (by kernel_rfl) (by kernel_rfl) (by kernel_rfl) (fun _ _ _ h => h) (Or.inl ⟨by rfl, ?_⟩) hHeld ?_; rotate_left; (focus (intro w hSw; (try dsimp only at hSw); go_simp; try with_reducible rfl)); (try simp only [Act.put, List.setIfInBounds_toArray, List.set_cons_zero, List.set_cons_succ, List.getElem_toArray, List.getElem_cons_zero, List.getElem_cons_succ]))
  (refine wpAnyH_take (i := 7) (v := ?_) rfl (by kernel_rfl) (by kernel_rfl) (by kernel_rfl) (fun _ _ _ h => h) (Or.inl ⟨by rfl, ?_⟩) hHeld ?_; rotate_left; (focus (intro w hSw; (try dsimp only at hSw); go_simp; (have cc := (HC.out _ hSw).2.1; go_simp; try with_reducible rfl))); (try simp only [Act.put, List.setIfInBounds_toArray, List.set_cons_zero, List.set_cons_succ, List.getElem_toArray, List.getElem_cons_zero, List.getElem_cons_succ]))
  (refine wpAnyH_take (i := 9) (v := ?_) rfl (by kernel_rfl) (by kernel_rfl) (by kernel_rfl) (fun _ _ _ h => h) (Or.inl ⟨by rfl, ?_⟩) hHeld ?_; rotate_left; (focus (intro w hSw; (try dsimp only at hSw); go_simp; try with_reducible rfl)); (try simp only [Act.put, List.setIfInBounds_toArray, List.set_cons_zero, List.set_cons_succ, List.getElem_toArray, List.getElem_cons_zero, List.getElem_cons_succ])); (refine wpAnyH_take (i := 10) (v := ?_) rfl (by kernel_rfl) (by kernel_rfl) (by kernel_rfl) (fun _ _ _ h => h) (Or.inl ⟨by rfl, ?_⟩) hHeld ?_; rotate_left; (focus (intro w hSw; (try dsimp only at hSw); go_simp; try with_reducible rfl)); (try simp only [Act.put, List.setIfInBounds_toArray, List.set_cons_zero, List.set_cons_succ, List.getElem_toArray, List.getElem_cons_zero, List.getElem_cons_succ]))
  (refine wpAnyH_ready (rs := [8]) (by kernel_rfl) (by simp) ?_; refine AllReadyH.cons rfl (fun K hK => ?_) AllReadyH.nil; go_simp; refine (H1.out _).mono ?_; rintro e y1 ⟨rfl, rfl⟩; refine hK.out _ _ ?_ (fun hHeldN => ?_); (focus ((try dsimp only); (exact hHeld))); clear hK K hHeld; have hHeld := hHeldN; clear hHeldN; (try simp only [Act.put, List.setIfInBounds_toArray, List.set_cons_zero, List.set_cons_succ, List.getElem_toArray, List.getElem_cons_zero, List.getElem_cons_succ]))
  (refine wpAnyH_ready (rs := [11]) (by kernel_rfl) (by simp) ?_; refine AllReadyH.cons rfl (fun K hK => ?_) AllReadyH.nil; go_simp; refine (H2.out _).mono ?_; rintro e y2 ⟨rfl, rfl⟩; refine hK.out _ _ ?_ (fun hHeldN => ?_); (focus ((try dsimp only); (exact hHeld))); clear hK K hHeld; have hHeld := hHeldN; clear hHeldN; (try simp only [Act.put, List.setIfInBounds_toArray, List.set_cons_zero, List.set_cons_succ, List.getElem_toArray, List.getElem_cons_zero, List.getElem_cons_succ]))
  (refine wpAnyH_ready (rs := [12]) (by kernel_rfl) (by simp) ?_; refine AllReadyH.cons rfl (fun K hK => ?_) AllReadyH.nil; go_simp; skip; refine hK.out _ _ ?_ (fun hHeldN => ?_); (focus ((try dsimp only); (exact hHeld.alloc _))); clear hK K hHeld; have hHeld := hHeldN; clear hHeldN; (try simp only [Act.put, List.setIfInBounds_toArray, List.set_cons_zero, List.set_cons_succ, List.getElem_toArray, List.getElem_cons_zero, List.getElem_cons_succ]))
  (refine wpAnyH_ready (rs := [13]) (by kernel_rfl) (by simp) ?_; refine AllReadyH.cons rfl (fun K hK => ?_) AllReadyH.nil; go_simp; refine (orV c1 c2 ((BlkAt.new w [.int .i64 c1, .int .i64 c2]).later (Below.refl _ _).drew)).mono ?_; rintro e y3 ⟨rfl, rfl⟩; refine hK.out _ _ ?_ (fun hHeldN => ?_); (focus ((try dsimp only); (exact hHeld))); clear hK K hHeld; have hHeld := hHeldN; clear hHeldN; (try simp only [Act.put, List.setIfInBounds_toArray, List.set_cons_zero, List.set_cons_succ, List.getElem_toArray, List.getElem_cons_zero, List.getElem_cons_succ]))
  (refine wpAnyH_take (i := 14) (v := ?_) rfl (by kernel_rfl) (by kernel_rfl) (by kernel_rfl) (fun _ _ _ h => h) (Or.inl ⟨by rfl, ?_⟩) hHeld ?_; rotate_left; (focus (intro w hSw; (try dsimp only at hSw); go_simp; try with_reducible rfl)); (try simp only [Act.put, List.setIfInBounds_toArray, List.set_cons_zero, List.set_cons_succ, List.getElem_toArray, List.getElem_cons_zero, List.getElem_cons_succ]))
  refine wpAnyH_done (by kernel_rfl) ?_ _
  have HE := Lib.hid hHeld
  clear hHeld
  go_wp2_with fail
  go_ret
  exact ⟨rfl, HE.out⟩
end Go.Proofs.Ytdjhgahdiggahaa

namespace Go.Proofs.Ytdjhgahdiggahaa
open Go.RowKit Go.Sort Go.Shelf
attribute [local go_sem ↓] Go.wp_at_zero Go.wp_at_succ
open Sp

set_option maxRecDepth 100000 in
theorem rg_succ {n i : Nat} (h : i < n) : (zil (List.range i ++ List.replicate (n - i) 0)).set i (i : Int) = zil (List.range (i + 1) ++ List.replicate (n - (i + 1)) 0) := by
  obtain ⟨m, hm⟩ : ∃ m, n - i = m + 1 := ⟨n - i - 1, by omega⟩
  have hm2 : n - (i + 1) = m := by omega
  rw [hm, hm2]
  unfold zil
  rw [List.map_append, List.set_append_right _ _ (by simp), List.map_append, List.range_succ, List.map_append, List.append_assoc]
  congr 1
  simp [List.replicate_succ]
set_option maxRecDepth 100000 in
theorem sort_le {pb g g2 n : Nat} {rs : List Nat} {w : World} (hn : n = rs.length) (h1 : 1 ≤ n) (hl : n ≤ 1000) (hp : BlkAt 62 pb [.slice (some ⟨g, 0, none⟩) n n] w) (hg : IB g (zil rs) w) (h2 : IB g2 (zil (List.range n)) w) (e1 : pb ≠ g2) (e2 : g ≠ g2) :
    Calls Try.prog 104 #[.slice (some ⟨g2, 0, none⟩) n n, .func (.func 105) #[] #[.pointer (some ⟨pb, 0, none⟩)]] w fun e w' => e = .returned (.tuple #[]) ∧ ∃ P : List Nat, P.Perm (List.range n) ∧ P.Pairwise (fun i j => Sp.lt rs i j = true) ∧ IB g2 (zil P) w' ∧ Chg [g2] w w' := by
  have hin : Inhabited (Fin n) := ⟨⟨0, h1⟩⟩
  obtain ⟨d, hd⟩ : ∃ d : Array (Fin n), d = (List.finRange n).toArray := ⟨_, rfl⟩
  have hsz : d.size = n := by rw [hd]; simp
  have hlz : (zil (List.range n)).length = n := by rw [zil_len]; simp
  have hlt : g2 < w.heap.size := BlkAt.lt h2
  have hH : Holds encFin w g2 0 d := by
    intro j hj
    have hjn : j < n := by rw [hsz] at hj; exact hj
    have hdj : d[j]! = ⟨j, hjn⟩ := by
      rw [getElem!_pos _ j hj]
      subst hd
      simp
    rw [Nat.zero_add, hdj]
    refine ⟨h2.cell (iv_at2 ?_), BlkAt.frozen h2 j⟩
    rw [zil_at (by simpa using hjn)]
    simp [hjn]
  have hlo : ∀ x y : Fin n, ltOf (fun x y : Fin n => cfP rs x.val y.val) x y = Sp.lt rs x.val y.val := fun x y => cfP_lt rs x.val y.val
  have hO : SWO (ltOf fun x y : Fin n => cfP rs x.val y.val) := by
    refine ⟨fun x => ?_, fun x y z a b => ?_, fun x y z a b => ?_⟩
    · rw [hlo]; exact Sp.lt_irrefl _ _
    · rw [hlo] at *; exact Sp.lt_trans a b
    · rw [hlo] at *
      rcases Sp.lt_tri rs x.val y.val with h | h | h
      · rw [h] at a; cases a
      · rw [h]; exact b
      · rcases Sp.lt_tri rs y.val z.val with h' | h' | h'
        · rw [h'] at b; cases b
        · rw [← h']; exact a
        · exact Sp.lt_asymm (Sp.lt_trans h' h)
  have hcon := Any.slices_SortFunc Try.sortI encFin (fun _ => rfl) (fun x y : Fin n => cfP rs x.val y.val) hO 105 #[.pointer (some ⟨pb, 0, none⟩)] g2 0 n d w
    (enters_of Try.func105 (by kernel_rfl) rfl) (fun m os dk hdk x y => by
      obtain ⟨_, hc⟩ := sort_ib (m := m) h2 hlz dk (hdk.trans hsz) os
      exact closL hn hl (hc.blk hp (by simp [e1])) (hc.blk hg (by simp [e2])) x.isLt y.isLt) hH hlt (by rw [hsz]; omega)
  rw [hsz] at hcon
  refine Calls.mono hcon ?_
  rintro e w' ⟨rfl, d', m, os, hp1, hp2, rfl⟩
  have hds : d'.size = n := by rw [hp1.1, hsz]
  obtain ⟨o1, o2⟩ := sort_ib (m := m) h2 hlz d' hds os
  refine ⟨rfl, d'.toList.map Fin.val, ?_, ?_, ?_, o2⟩
  · have h3 := hp1.2.2
    rw [Array.extract_eq_self_of_le (by omega), Array.extract_eq_self_of_le (by omega)] at h3
    have h4 := h3.map Fin.val
    refine h4.trans ?_
    rw [hd]
    exact List.Perm.of_eq (List.ext_getElem (by simp) (fun i h1 h2 => by simp))
  · rw [List.pairwise_map, List.pairwise_iff_getElem]
    intro i j hi hj hij
    rw [Array.length_toList] at hi hj
    have h3 := hp2 i j (Nat.zero_le _) hij (by rw [← hds]; exact hj)
    rw [hlo, getElem!_pos _ i hi, getElem!_pos _ j hj] at h3
    rw [Array.getElem_toList, Array.getElem_toList]
    rcases Sp.lt_tri rs d'[i].val d'[j].val with h | h | h
    · exact h
    · exfalso
      have hnd : d'.toList.Nodup := by
        have h3 := hp1.2.2
        rw [Array.extract_eq_self_of_le (by omega), Array.extract_eq_self_of_le (by omega)] at h3
        refine h3.nodup_iff.2 ?_
        rw [hd]
        exact List.nodup_finRange n
      have h4 : d'.toList[i]'(by rw [Array.length_toList]; exact hi) = d'.toList[j]'(by rw [Array.length_toList]; exact hj) := by
        rw [Array.getElem_toList, Array.getElem_toList]
        exact Fin.ext h
      have := (List.getElem_inj hnd).1 h4
      omega
    · rw [h] at h3; cases h3
  · have e : zil (d'.toList.map Fin.val) = d'.toList.map fun i => (i.val : Int) := by
      unfold zil
      rw [List.map_map]
      rfl
    rw [e]
    exact o1
set_option maxRecDepth 100000 in
theorem greatestL {g n : Nat} {rs : List Nat} {w : World} (hn : n = rs.length) (h1 : 1 ≤ n) (hl : n ≤ 1000) (hg : IB g (zil rs) w) :
    Calls Try.prog 74 #[.slice (some ⟨g, 0, none⟩) n n] w fun e w' => ∃ (g2 : Nat) (P : List Nat), e = .returned (.slice (some ⟨g2, 0, none⟩) n n) ∧ w.heap.size ≤ g2 ∧ P.Perm (List.range n) ∧ P.Pairwise (fun i j => Sp.lt rs i j = true) ∧ IB g2 (zil P) w' ∧ Below w.heap.size w w' := by
  have hgl : g < w.heap.size := BlkAt.lt hg
  obtain ⟨w1, hw1⟩ : ∃ w1, w1 = w.alloc (.cells #[.slice (some ⟨g, 0, none⟩) n n] 62) := ⟨_, rfl⟩
  have hb1 : Below w.heap.size w w1 := by rw [hw1]; exact ba1 _ _
  have hz1 : w1.heap.size = w.heap.size + 1 := by rw [hw1]; simp
  have hP1 : BlkAt 62 w.heap.size [.slice (some ⟨g, 0, none⟩) n n] w1 := by rw [hw1]; exact BlkAt.new w _
  obtain ⟨w2, hmk, hI2, hb2⟩ := make_ints n w1 (by omega)
  obtain ⟨g2, hg2⟩ : ∃ g2, g2 = w1.heap.size := ⟨_, rfl⟩
  rw [← hg2] at hI2 hmk
  have H0 : Hid (n = rs.length ∧ 1 ≤ n ∧ n ≤ 1000) := ⟨hn, h1, hl⟩
  have HG2 := Lib.hid (hg.later (hb1.trans (hb2.mono hb1.size)))
  have HP2 := Lib.hid (hP1.later hb2)
  have HB2 := Lib.hid (hb1.trans (hb2.mono hb1.size))
  have HI2 := Lib.hid hI2
  have HNE : Hid (w.heap.size ≠ g2 ∧ g ≠ g2 ∧ w.heap.size ≤ g2) := ⟨by omega, by omega, by omega⟩
  have HW1 := Lib.hid hw1
  have g0 : (n : Int) ≤ 1000 := by omega
  rw [hw1] at hmk
  clear hn h1 hl hg hgl hb1 hz1 hP1 hI2 hb2 hg2 hw1
  go_enter Try.func74, Try.ntmps74
  go_wp2_with fail
  clear hmk
  obtain ⟨pb, hpb⟩ : ∃ b, b = w.heap.size := ⟨_, rfl⟩
  rw [← hpb] at HP2 ⊢
  have HNE2 : Hid (pb ≠ g2 ∧ g ≠ g2 ∧ w.heap.size ≤ g2) := by
    have := HNE.out
    rw [hpb]
    exact this
  clear hpb HNE
  go_loopw [10] (fun x wr => ∃ i : Nat, i ≤ n ∧ x = .int .i64 i ∧ Hid (IB g2 (zil (List.range i ++ List.replicate (n - i) 0)) wr) ∧ Hid (Chg [g2] w2 wr)) (fun x _ => n - (intOf x).toNat)
  case atStart =>
    refine ⟨0, Nat.zero_le _, rfl, ?_, Chg.refl _ _⟩
    show IB g2 (zil ([] ++ List.replicate n 0)) w2
    have e : zil ([] ++ List.replicate n 0) = List.replicate n 0 := by simp [zil]
    rw [e]
    exact HI2.out
  case round =>
    obtain ⟨i, hi, rfl, HIR, HCR⟩ := hrel
    rcases Nat.lt_or_ge i n with hlt | hge
    · have g3 : (i : Int) < n := by omega
      have hx : ∃ v, wr.cell? ⟨g2, i, none⟩ = some (.int .i64 v) := by
        have h1 : (zil (List.range i ++ List.replicate (n - i) 0))[i]? = some 0 := by
          unfold zil
          rw [List.getElem?_map, List.getElem?_append_right (by simp), List.length_range, Nat.sub_self, List.getElem?_replicate, if_pos (by omega)]
          rfl
        exact ⟨_, HIR.out.cell (iv_at2 h1)⟩
      obtain ⟨v, c0⟩ := hx
      have hfz : ∀ j, wr.frozen? ⟨g2, j, none⟩ = false := fun j => BlkAt.frozen HIR.out j
      go_wp2_with fail
      go_roundw
      case rel =>
        refine ⟨i + 1, by omega, by go_num, ?_, ?_⟩
        · have h1 := IB.set HIR.out i (i : Int)
          rw [rg_succ hlt] at h1
          exact h1
        · exact HCR.out.set (by simp) _ _
      case measure => simp [intOf]; omega
    · obtain rfl : i = n := by omega
      have HIE : Hid (IB g2 (zil (List.range i)) wr) := by
        have := HIR.out
        rw [Nat.sub_self] at this
        have e : List.range i ++ List.replicate 0 0 = List.range i := by simp
        rw [e] at this
        exact this
      have HS := Lib.hid (sort_le H0.out.1 H0.out.2.1 H0.out.2.2 (HCR.out.blk HP2.out (by simp [HNE2.out.1])) (HCR.out.blk HG2.out (by simp [HNE2.out.2.1])) HIE.out HNE2.out.1 HNE2.out.2.1)
      go_wp2_with fail
      refine HS.out.mono ?_
      rintro e w5 ⟨rfl, P, hP1, hP2, hP3, hP4⟩
      have HPP : Hid (P.Perm (List.range i) ∧ P.Pairwise (fun i j => Sp.lt rs i j = true) ∧ IB g2 (zil P) w5) := ⟨hP1, hP2, hP3⟩
      have HBE : Hid (Below w.heap.size w w5) := by
        have := HB2.out.trans ((HCR.out.trans hP4).below HB2.out.size (fun b hb => by simp at hb; rw [hb]; exact HNE2.out.2.2))
        exact this
      clear hP1 hP2 hP3 hP4
      go_wp2_with fail
      go_ret
      exact ⟨g2, P, rfl, HNE2.out.2.2, HPP.out.1, HPP.out.2.1, HPP.out.2.2, HBE.out⟩
end Go.Proofs.Ytdjhgahdiggahaa
