/- The reference's Get; Insert, but where it lengthens: the walks.
   The reference's table: at, Get: the walks.
   A region that draws its order, and whose last operation waits for all others: the others' walk, then it.
   The walk of the reference's order of prefixes.
   The reference's entries, and its table, in memory; append of entries, cuts.
   trie's Get: the walk. -/
import Derived.Lib.SliceRun
import Derived.StillTail
import Derived.Test.YtbfkjdnopiadjaaZ02
import Derived.Test.YtbfkjdnopiadjaaZ03
import Derived.Test.YtbfkjdnopiadjaaZ04
import Derived.Test.YtbfkjdnopiadjaaZ08

set_option linter.unusedSimpArgs false
set_option linter.unusedVariables false
namespace Go.Proofs.Ytbfkjdnopiadjaa
open Go.RowKit Go.Shelf
attribute [local go_sem] Oper.semAt_some
attribute [local go_sem ↓ high] eqP neP
open Tp (Pf Ok mn bit com Tr En one Up)

theorem find_congr {α : Type} {p q : α → Bool} : ∀ {l : List α}, (∀ x ∈ l, p x = q x) → l.find? p = l.find? q
  | [], _ => rfl
  | x :: l, h => by
    rw [List.find?_cons, List.find?_cons, h x (List.mem_cons_self ..), find_congr (fun y hy => h y (List.mem_cons_of_mem _ hy))]
theorem look_has {L : List En} (ho : ∀ x ∈ L, Ok x.1) (p : Pf) : Tp.look (L.filter (Tp.hasE p.1)) p = Tp.look L p := by
  unfold Tp.look
  rw [List.find?_filter]
  congr 1
  refine find_congr fun x hx => ?_
  by_cases e : x.1 = p
  · have h : Tp.hasE p.1 x = true := by
      unfold Tp.hasE; rw [decide_eq_true_eq, e]; have := (ho x hx).fs; rw [e] at this; exact this
    simp [e, h]
  · simp [e]
theorem look_mem {L : List En} (hu : Up L) {x : En} (hx : x ∈ L) : Tp.look L x.1 = some x.2 := by
  induction L with
  | nil => cases hx
  | cons y L ih =>
    obtain ⟨h1, h2⟩ := Up.tail hu
    unfold Tp.look
    rcases List.mem_cons.1 hx with rfl | hx
    · rw [List.find?_cons_of_pos (by simp)]; rfl
    · rw [List.find?_cons_of_neg (by simpa using Tp.lt_ne (h2 x hx))]
      exact ih h1 hx
theorem look_none {L : List En} {p : Pf} (h : ∀ x ∈ L, x.1 ≠ p) : Tp.look L p = none := Tp.look_no h
/-- What Get answers. -/
def getA (o : Option Int) : Int × Bool := (o.getD 0, o.isSome)
/-- Where Get's results, and its prefix, lie. -/
structure G3 (b : Nat) (p : Pf) (v : Int) (o : Bool) (W : World) : Prop where
  c0 : BlkAt 37 b [.int .u32 p.1, .int .i64 p.2] W
  c1 : BlkAt 3 (b + 1) [.int .i64 v] W
  c2 : BlkAt 4 (b + 1 + 1) [.bool o] W
theorem G3.grown {b : Nat} {p : Pf} {v : Int} {o : Bool} {A B : World} (h : G3 b p v o A) {row : Option Nat} (hg : A.grownBy B row) (hr : ∀ r, row = some r → ∃ o : Obj, A.heap[r]? = some o ∧ o.isCells = false) : G3 b p v o B :=
  ⟨h.c0.of_grown hg hr, h.c1.of_grown hg hr, h.c2.of_grown hg hr⟩
theorem G3.later {b : Nat} {p : Pf} {v : Int} {o : Bool} {A B : World} (h : G3 b p v o A) (hb : Below A.heap.size A B) : G3 b p v o B := ⟨h.c0.later hb, h.c1.later hb, h.c2.later hb⟩
theorem G3.cells {b : Nat} {p : Pf} {v : Int} {o : Bool} {W : World} (h : G3 b p v o W) : W.cell? ⟨b, 0, none⟩ = some (.int .u32 p.1) ∧ W.cell? ⟨b, 1, none⟩ = some (.int .i64 p.2) ∧ W.cell? ⟨b + 1, 0, none⟩ = some (.int .i64 v) ∧ W.cell? ⟨b + 1 + 1, 0, none⟩ = some (.bool o) :=
  ⟨h.c0.cell (j := 0) rfl, h.c0.cell (j := 1) rfl, h.c1.cell (j := 0) rfl, h.c2.cell (j := 0) rfl⟩
theorem G3.put1 {b : Nat} {p : Pf} {v : Int} {o : Bool} {W : World} (h : G3 b p v o W) (y : Int) : G3 b p y o (W.setCell ⟨b + 1, 0, none⟩ (.int .i64 y)) :=
  ⟨h.c0.other (by omega) _ _, h.c1.set 0 (.int .i64 y), h.c2.other (by omega) _ _⟩
theorem G3.put2 {b : Nat} {p : Pf} {v : Int} {o : Bool} {W : World} (h : G3 b p v o W) (y : Bool) : G3 b p v y (W.setCell ⟨b + 1 + 1, 0, none⟩ (.bool y)) :=
  ⟨h.c0.other (by omega) _ _, h.c1.other (by omega) _ _, h.c2.set 0 (.bool y)⟩

set_option maxRecDepth 100000 in
set_option maxHeartbeats 4000000 in
theorem get_in (n : Nat) (hn3 : 3 ≤ n) {tv : Value} {T : Tr} {w : World} (h : Tops w tv T) {p : Pf} (hp : Ad p) :
    CallsIn Fence.wide n Try.prog 25 #[tv, .agg #[.int .u32 p.1, .int .i64 p.2]] w fun e w' =>
      e = .returned (.tuple #[.int .i64 (getA (Tp.look T.el p)).1, .bool (getA (Tp.look T.el p)).2]) ∧ Below w.heap.size w w' := by
  have h3 : 1 ≤ n := by omega
  have hlk := look_has h.inv.okE p
  have hup := h.inv.up
  obtain ⟨L, hL⟩ : ∃ L, L = T.el.filter (Tp.hasE p.1) := ⟨_, rfl⟩
  have HC := Lib.hid (fun (W : World) (hb : Below w.heap.size w W) => coversV (h.later hb) hp.a0 hp.a1)
  have HUp : Hid (Up L) := by
    have : Up L := by rw [hL]; exact hup.filter _
    exact this
  rw [← hL] at HC hlk
  rw [← hlk]
  clear h hL hp hlk hup
  refine callsIn_of_wp_marks Try.func25 rfl trivial ?_ rfl
  simp only [Try.ntmps25, List.size_toArray, List.length_cons, List.length_nil, Nat.reduceAdd, Nat.reduceSub, Array.replicate_succ, Array.replicate_zero, List.push_toArray, List.append_toArray, List.nil_append, List.cons_append]
  gi_wp2_with fail
  have hM : G3 w.heap.size p 0 false (((w.alloc (.cells #[.int .u32 p.1, .int .i64 p.2] 37)).alloc (.cells #[.int .i64 0] 3)).alloc (.cells #[.bool false] 4)) := by
    refine ⟨((BlkAt.new w [.int .u32 p.1, .int .i64 p.2]).later (ba1 _ _)).later (ba1 _ _), ?_, ?_⟩
    · have := (BlkAt.new (w.alloc (.cells #[.int .u32 p.1, .int .i64 p.2] 37)) (t := 3) [.int .i64 0]).later (ba1 _ (.cells #[.bool false] 4))
      rw [World.size_alloc] at this; exact this
    · have := BlkAt.new ((w.alloc (.cells #[.int .u32 p.1, .int .i64 p.2] 37)).alloc (.cells #[.int .i64 0] 3)) (t := 4) [.bool false]
      rw [World.size_alloc, World.size_alloc] at this; exact this
  have hB := below_of (below_of (ba1 w (.cells #[.int .u32 p.1, .int .i64 p.2] 37)) (ba1 _ (.cells #[.int .i64 0] 3))) (ba1 _ (.cells #[.bool false] 4))
  obtain ⟨W, hW⟩ : ∃ W, W = ((w.alloc (.cells #[.int .u32 p.1, .int .i64 p.2] 37)).alloc (.cells #[.int .i64 0] 3)).alloc (.cells #[.bool false] 4) := ⟨_, rfl⟩
  rw [← hW] at hM hB ⊢
  clear hW
  have HM := Lib.hid hM
  have HB := Lib.hid hB
  clear hM hB
  refine ⟨trivial, (callsIn_wide.2 (HC.out _ HB.out)).mono ?_⟩
  rintro e w1 ⟨Br, Bg, rfl, hS, _, _, hb1⟩
  have HM1 := Lib.hid (HM.out.later hb1)
  have HB1 := Lib.hid (below_of HB.out hb1)
  have HS := Lib.hid hS
  unfold seqF
  clear hb1 hS HM HB HC
  gi_wp2_with fail
  have hle1 := HB1.out.size
  refine wpIn_range_left (gf := 52) (lb := #[.pointer (some ⟨Br, 0, none⟩), .pointer (some ⟨Bg, 0, none⟩)]) rfl (enters_of Try.func52 (by kernel_rfl) rfl)
    (over_stops (n - 1) Br Bg L w1 HS.out) Keep.trans Keep.putObj (Below.refl _ _) (fun _ => rfl)
    (fun pre W => (∀ x ∈ pre, x.1.1 ≠ p) ∧ G3 w.heap.size p 0 false W ∧ Below w.heap.size w W) (fun c pre W => c = .ret ∧ ∃ x ∈ pre, x.1.1 = p ∧ G3 w.heap.size p x.1.2 true W ∧ Below w.heap.size w W)
    (fun s A B row hs hg hr => ⟨hs.1, hs.2.1.grown hg (fun r e => (hr r e).2), hs.2.2.grown hg hs.2.2.size (fun k e => by have := (hr k e).1; omega)⟩)
    (fun c s A B row hs hg hr => by
      obtain ⟨hc, x, hx, hp, hg3, hb⟩ := hs
      exact ⟨hc, x, hx, hp, hg3.grown hg (fun r e => (hr r e).2), hb.grown hg hb.size (fun k e => by have := (hr k e).1; omega)⟩) ⟨(fun x h => by cases h), HM1.out, HB1.out⟩
    (fun pre x a' W => ((∀ x ∈ pre, x.1.1 ≠ p) ∧ G3 w.heap.size p 0 false W ∧ Below w.heap.size w W) ∧ ∃ G, BlkAt 37 G [.int .u32 x.1.1.1, .int .i64 x.1.1.2] W ∧ a' = { tmps := #[tv, .agg #[.int .u32 p.1, .int .i64 p.2], undef, .pointer (some ⟨w.heap.size, 0, none⟩), .pointer (some ⟨w.heap.size + 1, 0, none⟩), .pointer (some ⟨w.heap.size + 1 + 1, 0, none⟩), .pointer (some ⟨G, 0, none⟩), .int .i64 x.1.2, undef, tv, .pointer (some ⟨w.heap.size, 0, none⟩), .int .u32 p.1, .func (.func 52) #[] #[.pointer (some ⟨Br, 0, none⟩), .pointer (some ⟨Bg, 0, none⟩)], .agg #[.int .u32 x.1.1.1, .int .i64 x.1.1.2], .int .i64 x.1.2, undef, undef, undef, undef, undef], defers := [] })
    (fun pre x a' s A B row hs hg hr => by
      obtain ⟨⟨h1, h2, h3⟩, G, hG, ha⟩ := hs
      exact ⟨⟨h1, h2.grown hg (fun r e => (hr r e).2), h3.grown hg h3.size (fun k e => by have := (hr k e).1; omega)⟩, G, hG.of_grown hg (fun r e => (hr r e).2), ha⟩) ?assign ?body ?done ?stop
  case assign =>
    rintro l pre x W2 K ⟨hne, hm, hb2⟩ hK
    have HMM := Lib.hid hm
    have HBB := Lib.hid hb2
    have HNe := Lib.hid hne
    have HK := Lib.hid hK
    obtain ⟨⟨⟨xa, xn⟩, xv⟩, hx⟩ := x
    clear hm hb2 hK hne
    simp only [encE] at HK ⊢
    gi_wp2_with fail
    refine HK.out _ _ ((KeepsOthers.alloc _ _).from _) (Keep.of_below (ba1 _ _)) ⟨⟨HNe.out, HMM.out.later (ba1 _ _), HBB.out.trans ((ba1 _ _).mono HBB.out.size)⟩, W2.heap.size, BlkAt.new W2 _, rfl⟩
  case body =>
    rintro l pre x a' W2 ⟨⟨hne, hm, hb2⟩, G, hG, rfl⟩ hlt
    obtain ⟨c0, c1, c2, c3⟩ := hm.cells
    have f2 := hm.c1.frozen 0
    have f3 := hm.c2.frozen 0
    obtain ⟨g0, g1⟩ := px_cells hG
    obtain ⟨⟨⟨xa, xn⟩, xv⟩, hx⟩ := x
    have HMM := Lib.hid hm
    have HBB := Lib.hid hb2
    have HNe := Lib.hid hne
    simp only at g0 g1 ⊢
    clear hm hb2 hne hG
    by_cases he : (xa, xn) = p
    · have k1 : sameP xa xn p.1 p.2 = true := sameP_yes (p := (xa, xn)) he
      have HE := Lib.hid he
      clear he
      gi_wp2_with fail
      refine ⟨((KeepsOthers.setCell _ _ _).trans (KeepsOthers.setCell _ _ _)).from _, rfl, ⟨((xa, xn), xv), hx⟩, List.mem_append_right _ (List.mem_singleton.2 rfl), HE.out, (HMM.out.put1 xv).put2 true, (HBB.out.setCell (by simp) _).setCell (by simp; omega) _⟩
    · have k1 : sameP xa xn p.1 p.2 = false := sameP_no (p := (xa, xn)) he
      have HE := Lib.hid he
      clear he
      gi_wp2_with fail
      refine ⟨KeepsFrom.refl _ _, Keep.refl _, ?_, HMM.out, HBB.out⟩
      intro y hy
      rcases List.mem_append.1 hy with hy | hy
      · exact HNe.out y hy
      · rw [List.mem_singleton.1 hy]; exact HE.out
  case done =>
    rintro D ys W2 hD hys ⟨hne, hm, hb2⟩ hK
    have hno : Tp.look L p = none := look_none (fun x hx => by
      rw [← hys] at hx
      obtain ⟨y, hy, rfl⟩ := List.mem_map.1 hx
      exact hne y hy)
    obtain ⟨c0, c1, c2, c3⟩ := hm.cells
    have f2 := hm.c1.frozen 0
    have f3 := hm.c2.frozen 0
    have HMM := Lib.hid hm
    have HBB := Lib.hid hb2
    have HK := Lib.hid hK
    have HNo := Lib.hid hno
    clear hm hb2 hK hno hys hne
    gi_wp2_with fail
    have hK' := ((KeepsOthers.setCell W2 ⟨w.heap.size + 1, 0, none⟩ (.int .i64 0)).trans (KeepsOthers.setCell _ ⟨w.heap.size + 1 + 1, 0, none⟩ (.bool false))).same D _ HK.out rfl
    have hg := grownBy_putObj' ((W2.setCell ⟨w.heap.size + 1, 0, none⟩ (.int .i64 0)).setCell ⟨w.heap.size + 1 + 1, 0, none⟩ (.bool false)) D (.deferred none)
    have hr : ∀ r, some D = some r → ∃ o : Obj, ((W2.setCell ⟨w.heap.size + 1, 0, none⟩ (.int .i64 0)).setCell ⟨w.heap.size + 1 + 1, 0, none⟩ (.bool false)).heap[r]? = some o ∧ o.isCells = false := fun r e => by cases e; exact ⟨_, hK', rfl⟩
    obtain ⟨x0, x1, x2, x3⟩ := (G3.grown ((HMM.out.put1 0).put2 false) hg hr).cells
    refine ⟨by simp, .inl ⟨_, _, rfl, run_takeDeferred hK', ?_⟩⟩
    have hb6 := (HBB.out.setCell (p := ⟨w.heap.size + 1, 0, none⟩) (by simp) (.int .i64 0)).setCell (p := ⟨w.heap.size + 1 + 1, 0, none⟩) (by simp; omega) (.bool false)
    refine ⟨.tuple #[.int .i64 (getA (Tp.look L p)).1, .bool (getA (Tp.look L p)).2], ?_, rfl, hb6.grown hg hb6.size (fun k e => by cases e; omega)⟩
    rw [HNo.out]
    simp [results, Try.f25, go_sem, x2, x3, getA]
  case stop =>
    rintro D c pre W2 hD hpre ⟨rfl, x, hx, hxp, hm, hb2⟩ hK
    have hyes : Tp.look L p = some x.1.2 := by rw [← hxp]; exact look_mem HUp.out (hpre.subset (List.mem_map.2 ⟨x, hx, rfl⟩))
    have HMM := Lib.hid hm
    have HBB := Lib.hid hb2
    have HK := Lib.hid hK
    have HYes := Lib.hid hyes
    clear hm hb2 hK hyes hx hxp
    gi_wp2_with fail
    have hK' := HK.out
    have hg := grownBy_putObj' (W2) D (.deferred none)
    have hr : ∀ r, some D = some r → ∃ o : Obj, (W2).heap[r]? = some o ∧ o.isCells = false := fun r e => by cases e; exact ⟨_, hK', rfl⟩
    obtain ⟨x0, x1, x2, x3⟩ := (G3.grown (HMM.out) hg hr).cells
    refine ⟨by simp, .inl ⟨_, _, rfl, run_takeDeferred hK', ?_⟩⟩
    have hb6 := HBB.out
    refine ⟨.tuple #[.int .i64 (getA (Tp.look L p)).1, .bool (getA (Tp.look L p)).2], ?_, rfl, hb6.grown hg hb6.size (fun k e => by cases e; omega)⟩
    rw [HYes.out]
    simp [results, Try.f25, go_sem, x2, x3, getA]
theorem getV {tv : Value} {T : Tr} {w : World} (h : Tops w tv T) {p : Pf} (hp : Ad p) :
    Calls Try.prog 25 #[tv, .agg #[.int .u32 p.1, .int .i64 p.2]] w fun e w' =>
      e = .returned (.tuple #[.int .i64 (getA (Tp.look T.el p)).1, .bool (getA (Tp.look T.el p)).2]) ∧ Below w.heap.size w w' := callsIn_wide.1 (get_in 3 (by omega) h hp)
theorem getT {t : Nat} {lim : Int} {T : Tr} {w : World} (h : TSt t lim T w) {p : Pf} (hp : Ad p) :
    Calls Try.prog 25 #[.pointer (some ⟨t, 0, none⟩), .agg #[.int .u32 p.1, .int .i64 p.2]] w fun e w' =>
      e = .returned (.tuple #[.int .i64 (getA (Tp.look T.el p)).1, .bool (getA (Tp.look T.el p)).2]) ∧ Below w.heap.size w w' := getV h.tops hp
end Go.Proofs.Ytbfkjdnopiadjaa

namespace Go.Proofs.Ytbfkjdnopiadjaa
open Go.RowKit
attribute [local go_sem ↓] Go.wp_at_zero Go.wp_at_succ
open Tp (Pf Ok En)

/-- The cells of entries. -/
def ec (L : List En) : List Value := L.flatMap fun x => [.int .u32 x.1.1, .int .i64 x.1.2, .int .i64 x.2]
theorem ec_length (L : List En) : (ec L).length = L.length * 3 := by
  induction L with
  | nil => rfl
  | cons c l ih => simp only [ec, List.flatMap_cons, List.length_append, List.length_cons, List.length_nil] at ih ⊢; omega
theorem ec_cons (x : En) (L : List En) : ec (x :: L) = .int .u32 x.1.1 :: .int .i64 x.1.2 :: .int .i64 x.2 :: ec L := rfl
theorem ec_append (l m : List En) : ec (l ++ m) = ec l ++ ec m := by simp [ec]
theorem ec_at : ∀ (L : List En) (j : Nat) (x : En), L[j]? = some x → (ec L)[j * 3]? = some (.int .u32 x.1.1) ∧ (ec L)[j * 3 + 1]? = some (.int .i64 x.1.2) ∧ (ec L)[j * 3 + 2]? = some (.int .i64 x.2)
  | [], _, _, h => by simp at h
  | y :: L, 0, x, h => by simp at h; subst h; exact ⟨rfl, rfl, rfl⟩
  | y :: L, j + 1, x, h => by
    have := ec_at L j x (by simpa using h)
    rw [show (j + 1) * 3 = j * 3 + 1 + 1 + 1 by omega]
    exact this
theorem ec_one (L : List En) : ∀ u ∈ ec L, u.oneCell' = true := by
  intro u hu
  simp only [ec, List.mem_flatMap] at hu
  obtain ⟨c, _, h⟩ := hu
  simp at h
  rcases h with rfl | rfl | rfl <;> rfl
theorem ec_drop (L : List En) (k : Nat) : (ec L).drop (k * 3) = ec (L.drop k) := by
  induction k generalizing L with
  | zero => simp
  | succ k ih =>
    cases L with
    | nil => simp [ec]
    | cons x L => rw [show (k + 1) * 3 = k * 3 + 1 + 1 + 1 by omega, ec_cons, List.drop_succ_cons, List.drop_succ_cons, List.drop_succ_cons, ih]; rfl
theorem ec_take (L : List En) (k : Nat) : (ec L).take (k * 3) = ec (L.take k) := by
  induction k generalizing L with
  | zero => simp [ec]
  | succ k ih =>
    cases L with
    | nil => simp [ec]
    | cons x L => rw [show (k + 1) * 3 = k * 3 + 1 + 1 + 1 by omega, ec_cons, List.take_succ_cons, List.take_succ_cons, List.take_succ_cons, ih]; rfl
theorem ec_set : ∀ (L : List En) (j : Nat) (p : Pf) (u v : Int), L[j]? = some (p, u) → (ec L).set (j * 3 + 2) (.int .i64 v) = ec (L.set j (p, v))
  | [], _, _, _, _, h => by simp at h
  | y :: L, 0, p, u, v, h => by simp at h; subst h; rfl
  | y :: L, j + 1, p, u, v, h => by
    have := ec_set L j p u v (by simpa using h)
    rw [show (j + 1) * 3 + 2 = j * 3 + 2 + 1 + 1 + 1 by omega, ec_cons]
    simp only [List.set_cons_succ]
    rw [this]; rfl
/-- A slice reads as these entries. -/
structure EnR (w : World) (v : Value) (L : List En) : Prop where
  form : ∃ a c, v = .slice a L.length c ∧ L.length ≤ c ∧ (a = none → L = [] ∧ c = 0) ∧ ∀ b, a = some b → ∃ g o, b = ⟨g, o, none⟩ ∧ g < w.heap.size ∧ ∀ j u, (ec L)[j]? = some u → w.cell? ⟨g, o + j, none⟩ = some u
theorem EnR.later {w w' : World} {v : Value} {L : List En} (h : EnR w v L) (hb : Below w.heap.size w w') : EnR w' v L := by
  obtain ⟨a, c, rfl, h1, h2, h3⟩ := h.form
  refine ⟨a, c, rfl, h1, h2, fun b hb' => ?_⟩
  obtain ⟨g, o, e, hg, hc⟩ := h3 b hb'
  exact ⟨g, o, e, Nat.lt_of_lt_of_le hg hb.size, fun j u hj => cell_later hb (hc j u hj)⟩
/-- The value owns these entries. -/
def OwnE (w : World) (B : Nat) (v : Value) (L : List En) : Prop := w.ownsRow B 75 3 v L.length (ec L)
theorem OwnE.nil (w : World) (B : Nat) : OwnE w B (.slice none 0 0) [] := World.ownsRow_nil w _ _ _
theorem OwnE.later {w w' : World} {B : Nat} {v : Value} {L : List En} (h : OwnE w B v L) (hb : Below w.heap.size w w') : OwnE w' B v L := by
  obtain ⟨hl, h0 | ⟨g, cap, cur, rfl, hb1, hg, hr⟩⟩ := h
  · exact ⟨hl, .inl h0⟩
  · exact ⟨hl, .inr ⟨g, cap, cur, rfl, hb1, (hb.block g (Array.getElem?_eq_some_iff.1 hg).1).trans hg, hr⟩⟩
theorem OwnE.down {w : World} {B B' : Nat} {v : Value} {L : List En} (h : OwnE w B v L) (hB : B' ≤ B) : OwnE w B' v L := by
  obtain ⟨hl, h0 | ⟨g, cap, cur, e, hb, h2⟩⟩ := h
  · exact ⟨hl, .inl h0⟩
  · exact ⟨hl, .inr ⟨g, cap, cur, e, Nat.le_trans hB hb, h2⟩⟩
theorem OwnE.reads {w : World} {B : Nat} {v : Value} {L : List En} (h : OwnE w B v L) : EnR w v L := by
  have hh := h
  obtain ⟨hl, ⟨rfl, h0⟩ | ⟨g, cap, cur, rfl, hb, hg, hn, hm, hc, ht⟩⟩ := h
  · have : L = [] := List.length_eq_zero_iff.1 h0
    subst this
    exact ⟨none, 0, rfl, Nat.le_refl _, fun _ => ⟨rfl, rfl⟩, fun b hb => by cases hb⟩
  · refine ⟨some ⟨g, 0, none⟩, cap, rfl, hn, (fun h => by cases h), fun b hb' => ?_⟩
    cases hb'
    refine ⟨g, 0, rfl, (Array.getElem?_eq_some_iff.1 hg).1, fun j u hj => ?_⟩
    rw [Nat.zero_add]
    have hj2 := (List.getElem?_eq_some_iff.1 hj).1
    rw [ec_length] at hj2
    exact (World.ownsRow.cellAt hh j hj2).trans hj
theorem OwnE.form {w : World} {B : Nat} {v : Value} {L : List En} (h : OwnE w B v L) : ∃ a c, v = .slice a L.length c := by
  obtain ⟨a, c, e, _⟩ := h.reads.form
  exact ⟨a, c, e⟩
theorem OwnE.block {w : World} {B : Nat} {v : Value} {L : List En} (h : OwnE w B v L) {g : Nat} (hg : v.ownBlock = some g) : ∃ cur, B ≤ g ∧ w.heap[g]? = some (.cells cur 75 (0, 0)) := by
  rcases h.2 with ⟨rfl, _⟩ | ⟨g', cap, cur, rfl, hb, hgg, _⟩
  · simp [Value.ownBlock] at hg
  · simp [Value.ownBlock] at hg; subst hg; exact ⟨_, hb, hgg⟩
/-- One of them. -/
theorem EnR.at {w : World} {a : Option Addr} {n c : Nat} {L : List En} (h : EnR w (.slice a n c) L) {j : Nat} {x : En} (hj : L[j]? = some x) :
    ∃ g o, a = some ⟨g, o, none⟩ ∧ g < w.heap.size ∧ w.cell? ⟨g, o + j * 3, none⟩ = some (.int .u32 x.1.1) ∧ w.cell? ⟨g, o + j * 3 + 1, none⟩ = some (.int .i64 x.1.2) ∧ w.cell? ⟨g, o + j * 3 + 2, none⟩ = some (.int .i64 x.2) := by
  obtain ⟨a', c', e, h1, h2, h3⟩ := h.form
  simp only [Value.slice.injEq] at e
  obtain ⟨rfl, rfl, rfl⟩ := e
  cases a with
  | none =>
    obtain ⟨rfl, _⟩ := h2 rfl
    simp at hj
  | some b =>
    obtain ⟨g, o, rfl, hg, hc⟩ := h3 b rfl
    obtain ⟨e0, e1, e2⟩ := ec_at L j x hj
    exact ⟨g, o, rfl, hg, hc _ _ e0, hc _ _ e1, hc _ _ e2⟩
theorem infoE : ∃ i0, Try.prog.info? 75 = some i0 ∧ i0.zero = some (.agg #[.int .u32 0, .int .i64 0, .int .i64 0]) ∧ i0.size = 3 ∧ i0.bytes = 24 := by
  have hi5 : (Try.prog.info? 75).map (fun i => (i.zero, i.size, i.bytes)) = some (some (.agg #[.int .u32 0, .int .i64 0, .int .i64 0]), 3, 24) := by kernel_rfl
  obtain ⟨i0, hi, hx⟩ := Option.map_eq_some_iff.1 hi5
  simp only [Prod.mk.injEq] at hx
  exact ⟨i0, hi, hx.1, hx.2.1, hx.2.2⟩
theorem entsU : Try.prog.underlying 28 = some (.slice (Try.prog.elem 28)) := by kernel_rfl
theorem sizeE (w : World) : (sizeOf (Try.prog.elem 28)).run Try.prog w = .ok 3 w := by kernel_rfl
theorem EnR.form' {w : World} {v : Value} {L : List En} (h : EnR w v L) : ∃ a c, v = .slice a L.length c := by
  obtain ⟨a, c, e, _⟩ := h.form
  exact ⟨a, c, e⟩
theorem run_appE (w : World) (B : Nat) (v u : Value) (L M : List En) (h : OwnE w B v L) (hu : EnR w u M) (hn : L.length + M.length ≤ 1000000) (hB : B ≤ w.heap.size) (ty : TypeId) :
    ∃ v' w', (Builtin.append_ #[28, 28] ty #[v, u]).run Try.prog w = .ok v' w' ∧ (OwnE w' B v' (L ++ M) ∧ Below B w w' ∧ w.grownBy w' v.ownBlock) := by
  obtain ⟨i0, hi, hz0, hz1, hz2⟩ := infoE
  obtain ⟨a, c, rfl, h1, h2, h3⟩ := hu.form
  cases a with
  | none =>
    obtain ⟨rfl, rfl⟩ := h2 rfl
    have := run_append_owned_none (P := Try.prog) (w := w) B 28 ty 75 i0 3 Try.underlying28 hi v L.length _ h
    exact ⟨v, w, this, by simpa using h, Below.refl _ _, ⟨rfl, rfl, rfl, Nat.le_refl _, fun _ _ _ => rfl⟩⟩
  | some x =>
    obtain ⟨g, o, rfl, hg, hc⟩ := h3 x rfl
    obtain ⟨v', w', q1, q2, q3, _⟩ := run_append_own (P := Try.prog) (w := w) B 28 ty 75 i0 _ 3 24 Try.underlying28 hi hz0 hz1 hz2 rfl (by decide) v L.length _ h ⟨g, o, none⟩ M.length c (ec M) (ec_length M)
      (fun j u hj => (by have := hc j u hj; unfold Addr.add; split <;> simp_all)) (ec_one M) (by unfold maxLen; omega) (by omega) hB
    refine ⟨v', w', q1, ?_, (Below.refl B w).grown q3 hB (fun j hj => (World.ownsRow.lt h j hj).1), q3⟩
    show World.ownsRow _ _ _ _ _ _ _
    rw [List.length_append, ec_append]; exact q2
/-- Cuts. -/
theorem cutE_l (a : Option Addr) (n c k : Nat) (h1 : k ≤ n) : ∃ u, (∀ w, (Instr.slice 28 (.slice a n c) (some (.int .i64 (k : Int))) none none).run Try.prog w = .ok u w) ∧ ∀ w L, EnR w (.slice a n c) L → EnR w u (L.drop k) := by
  refine ⟨Go.sliced a k n c 3, fun w => ?_, fun w L h => ?_⟩
  · rw [run_slice_l w _ _ _ _ entsU _ _ (by omega) (by omega), sizeE]
    rfl
  · obtain ⟨a', c', e, q1, q2, q3⟩ := h.form
    simp only [Value.slice.injEq] at e
    obtain ⟨rfl, rfl, rfl⟩ := e
    refine ⟨_, _, by unfold Go.sliced; rw [List.length_drop], by rw [List.length_drop]; omega, ?_, ?_⟩
    · intro hn
      cases a with
      | none => obtain ⟨rfl, rfl⟩ := q2 rfl; exact ⟨by simp, by simp⟩
      | some b => split at hn <;> cases hn
    · intro b hb
      cases a with
      | none => split at hb <;> cases hb
      | some b0 =>
        obtain ⟨g, o, rfl, hg, hc⟩ := q3 b0 rfl
        split at hb
        · rename_i e
          cases hb
          refine ⟨g, o, rfl, hg, fun j u hj => ?_⟩
          rw [List.drop_eq_nil_of_le (by omega)] at hj
          simp [ec] at hj
        · cases hb
          refine ⟨g, o + k * 3, by simp [Addr.add], hg, fun j u hj => ?_⟩
          rw [← ec_drop, List.getElem?_drop] at hj
          have := hc _ _ hj
          rw [← Nat.add_assoc] at this
          exact this
theorem cutE_h (a : Option Addr) (n c k : Nat) (h1 : k ≤ n) (h2 : n ≤ c) : ∃ u, (∀ w, (Instr.slice 28 (.slice a n c) none (some (.int .i64 (k : Int))) none).run Try.prog w = .ok u w) ∧ ∀ w L, EnR w (.slice a n c) L → EnR w u (L.take k) := by
  refine ⟨.slice a k c, fun w => ?_, fun w L h => ?_⟩
  · rw [run_slice_h w _ _ _ _ entsU _ _ (by omega) (by omega), sizeE]
    show Result.ok (Go.sliced _ _ _ _ 3) w = _
    unfold Go.sliced
    have : (a.map fun x => x.add (0 * 3)) = a := by cases a <;> simp [Addr.add]
    simp [this]
  · obtain ⟨a', c', e, q1, q2, q3⟩ := h.form
    simp only [Value.slice.injEq] at e
    obtain ⟨rfl, rfl, rfl⟩ := e
    have el : (L.take k).length = k := by rw [List.length_take]; omega
    refine ⟨_, _, by rw [el], by omega, ?_, ?_⟩
    · intro hn
      obtain ⟨rfl, rfl⟩ := q2 hn
      exact ⟨by simp, rfl⟩
    · intro b hb
      obtain ⟨g, o, rfl, hg, hc⟩ := q3 b hb
      refine ⟨g, o, rfl, hg, fun j u hj => hc j u ?_⟩
      rw [← ec_take] at hj
      rw [List.getElem?_take] at hj
      split at hj
      · exact hj
      · cases hj
/-- A list of one entry, just spelled out. -/
theorem EnR.one (w : World) (x : En) : EnR (w.alloc (.cells #[.int .u32 x.1.1, .int .i64 x.1.2, .int .i64 x.2] 75)) (.slice (some ⟨w.heap.size, 0, none⟩) 1 1) [x] := by
  have hb := BlkAt.new w (t := 75) [.int .u32 x.1.1, .int .i64 x.1.2, .int .i64 x.2]
  refine ⟨some ⟨w.heap.size, 0, none⟩, 1, rfl, Nat.le_refl _, (fun h => by cases h), fun b hb' => ?_⟩
  cases hb'
  refine ⟨_, 0, rfl, hb.lt, fun j u hj => ?_⟩
  rw [Nat.zero_add]
  exact hb.cell hj

/-- The table, in memory: its row as well. -/
structure RT (q : Nat) (v : Value) (lim : Int) (L : List En) (w : World) : Prop where
  blk : BlkAt 30 q [v, .int .i64 lim] w
  own : OwnE w 0 v L
theorem RT.lt {q : Nat} {v : Value} {lim : Int} {L : List En} {w : World} (h : RT q v lim L w) : q < w.heap.size := h.blk.lt
theorem RT.chg {q : Nat} {v : Value} {lim : Int} {L : List En} {w w' : World} (h : RT q v lim L w) {l : List Nat} (hm : Chg l w w') (h1 : q ∉ l) (h2 : ∀ g, v.ownBlock = some g → g ∉ l) : RT q v lim L w' :=
  ⟨hm.blk h.blk h1, hm.owns h.own h2⟩
theorem RT.later {q : Nat} {v : Value} {lim : Int} {L : List En} {w w' : World} (h : RT q v lim L w) (hb : Below w.heap.size w w') : RT q v lim L w' := h.chg (Chg.of_below [] hb) (by simp) (by simp)
theorem RT.row {q : Nat} {v : Value} {lim : Int} {L : List En} {w : World} (h : RT q v lim L w) : v.ownBlock ≠ some q := fun e => by
  obtain ⟨c, _, hc⟩ := h.own.block e
  have := hc.symm.trans (show w.heap[q]? = _ from h.blk)
  simp only [Option.some.injEq, Obj.cells.injEq] at this
  exact absurd this.2.1 (by decide)
theorem RT.cells {q : Nat} {v : Value} {lim : Int} {L : List En} {w : World} (h : RT q v lim L w) : w.cell? ⟨q, 0, none⟩ = some v ∧ w.cell? ⟨q, 1, none⟩ = some (.int .i64 lim) := ⟨h.blk.cell rfl, h.blk.cell rfl⟩
/-- The blocks of a table. -/
def rtB (q : Nat) (v : Value) : List Nat := q :: v.ownBlock.toList
/-- A value's row is new, or it is the same value. -/
def Fresh (w : World) (v v' : Value) : Prop := v' = v ∨ ∀ g, v'.ownBlock = some g → w.heap.size ≤ g
theorem RT.put {q : Nat} {v : Value} {lim : Int} {L : List En} {w : World} (h : RT q v lim L w) {j : Nat} {p : Pf} {u : Int} (hj : L[j]? = some (p, u)) (x : Int) :
    ∃ g c, v = .slice (some ⟨g, 0, none⟩) L.length c ∧ w.cell? ⟨g, j * 3 + 2, none⟩ = some (.int .i64 u) ∧ w.frozen? ⟨g, j * 3 + 2, none⟩ = false ∧ RT q v lim (L.set j (p, x)) (w.setCell ⟨g, j * 3 + 2, none⟩ (.int .i64 x)) ∧ Chg (rtB q v) w (w.setCell ⟨g, j * 3 + 2, none⟩ (.int .i64 x)) := by
  have ho := h.own
  obtain ⟨hl, ⟨rfl, h0⟩ | ⟨g, cap, cur, rfl, hb, hg, hn, hm, hc, ht⟩⟩ := h.own
  · rw [List.length_eq_zero_iff] at h0
    subst h0
    simp at hj
  · refine ⟨g, cap, rfl, ?_, ?_, ⟨h.blk.other (fun e => h.row (by rw [e]; rfl)) _ _, ?_⟩, (Chg.refl _ _).set (by simp [rtB, Value.ownBlock]) _ _⟩
    · obtain ⟨g', o, e, _, _, _, c2⟩ := ho.reads.at hj
      simp only [Option.some.injEq, Addr.mk.injEq] at e
      obtain ⟨rfl, rfl, _⟩ := e
      rw [Nat.zero_add] at c2
      exact c2
    · unfold World.frozen?; simp [hg]
    · have := (World.ownsRow.stored ho (j * 3 + 2) (.int .i64 x)).1
      rw [ec_set L j p u x hj] at this
      show World.ownsRow _ _ _ _ _ _ _
      rw [List.length_set]; exact this
theorem RT.new {q : Nat} {v v' : Value} {lim : Int} {L L' : List En} {w : World} (h : RT q v lim L w) {B : Nat} (h2 : OwnE w B v' L') (hB : q < B) : RT q v' lim L' (w.setCell ⟨q, 0, none⟩ v') ∧ Chg [q] w (w.setCell ⟨q, 0, none⟩ v') := by
  have hc : Chg [q] w (w.setCell ⟨q, 0, none⟩ v') := (Chg.refl _ _).set (by simp) _ _
  have ho : OwnE (w.setCell ⟨q, 0, none⟩ v') B v' L' := hc.owns h2 (fun g hg => ?_)
  · exact ⟨⟨h.blk.set 0 v', ho.down (Nat.zero_le _)⟩, hc⟩
  obtain ⟨_, hg2, _⟩ := h2.block hg
  simp; omega
theorem Fresh.own {w w' : World} {B : Nat} {v v' : Value} {L : List En} (h : OwnE w' B v' L) (hB : w.heap.size ≤ B) : Fresh w v v' := .inr fun g hg => by
  obtain ⟨_, hg2, _⟩ := h.block hg
  omega
/-- append, at a step of a region that draws its order. -/
theorem step_appT {w : World} {ops : Array Oper} {o : Oper} {a : Act} {K : Act → World → Prop} {Q : Exit → Act → World → Prop} {E : Prop} (hgd : o.guard = none) (s x : Operand) (t t' : TypeId)
    (ho : o.op = .call { callee := .builtin .append, args := #[s, x], argTypes := #[t, t'] }) (v u : Value) (R : Value → World → Prop) (hs : a.eval s = v) (hx : a.eval x = u)
    (hr : ∀ ty, ∃ v' w', (Builtin.append_ #[t, t'] ty #[v, u]).run Try.prog w = .ok v' w' ∧ R v' w') (h : ∀ v' w', R v' w' → K (a.put o.dst v') w') :
    if Region.wanted o (yielded ops a.tmps) = true then Oper.wp Try.prog o a w K Q else E := by
  have hw : Region.wanted o (yielded ops a.tmps) = true := by simp [Region.wanted, hgd]
  rw [if_pos hw]
  obtain ⟨v', w', hr, h2⟩ := hr o.type
  unfold Oper.wp execOp
  simp only [ho, resolve, invoke, builtin, Sem.run_bind, Sem.run_pure, Result.andThen_ok, List.map_toArray, List.map_cons, List.map_nil, hs, hx, hr]
  exact h v' w' h2
end Go.Proofs.Ytbfkjdnopiadjaa

namespace Go.Proofs.Ytbfkjdnopiadjaa
open Go.RowKit
attribute [local go_sem ↓] Go.wp_at_zero Go.wp_at_succ

set_option maxHeartbeats 400000 in
theorem cmpR_any (a n b m : Int) (w : World) :
    Calls Try.prog 30 #[.agg #[.int .u32 a, .int .i64 n], .agg #[.int .u32 b, .int .i64 m]] w fun e w' => e = .returned (.int .i64 (Wp.cmpI a n b m)) ∧ Below w.heap.size w w' := by
  go_enter Try.func30, Try.ntmps30
  go_wp2
  all_goals go_ret
  all_goals refine ⟨ret_i ?_, by go_grown⟩
  all_goals
    unfold Wp.cmpI
    (repeat' split) <;> first | rfl | omega

end Go.Proofs.Ytbfkjdnopiadjaa

namespace Go.Proofs.Ytbfkjdnopiadjaa
open Go.RowKit

/-- What is asked where all but the last operation have come up. -/
def lastQ (P : Program) (ops : Array Oper) (Q : Exit → Act → World → Prop) : Exit → Act → World → Prop
  | .normal, a, w => wpOp P ops Q (ops.size - 1) (Q .normal) a w
  | e, a, w => Q e a w
/-- Edges and guards go backwards. -/
def backB (md : Region.Mode) (ops : Array Oper) : Bool :=
  (List.range ops.size).all fun i => match ops[i]? with
    | none => true
    | some o => (o.after.all fun e => !Region.binds md e || decide (e.on < i)) && (match o.guard with | none => true | some g => decide (g.1 < i))
theorem back_spec {md : Region.Mode} {ops : Array Oper} (h : backB md ops = true) {i : Nat} {o : Oper} (ho : ops[i]? = some o) :
    (∀ e ∈ o.after, Region.binds md e = true → e.on < i) ∧ ∀ g, o.guard = some g → g.1 < i := by
  have h1 := List.all_eq_true.1 h i (List.mem_range.2 (Array.getElem?_eq_some_iff.1 ho).1)
  rw [ho] at h1
  simp only [Bool.and_eq_true] at h1
  refine ⟨fun e he hb => ?_, fun g hg => ?_⟩
  · have := Array.all_eq_true'.1 h1.1 e he
    rw [hb] at this
    simpa using this
  · have := h1.2
    rw [hg] at this
    simpa using this
theorem letsOut_last {P : Program} {ops : Array Oper} {Q : Exit → Act → World → Prop} : LetsOut (lastQ P ops Q) ↔ LetsOut Q := Iff.rfl
theorem upon_last {P : Program} {ops : Array Oper} {Q : Exit → Act → World → Prop} {o : Oper} {a : Act} {K : Act → World → Prop} : ∀ r : Result Next, o.upon P a K (lastQ P ops Q) r → o.upon P a K Q r
  | .ok (.value _) _, h => h
  | .ok .skip _, h => h
  | .ok (.defer _) _, h => h
  | .ok (.enter f args) w', h => Calls.mono (show Calls P f args w' _ from h) (fun e w'' hr => by
      cases e with
      | returned v => exact hr
      | panicked c => exact hr
      | outgrown => exact hr)
  | .ok (.row row args) w', h => h
  | .halt (.panic _) _, h => h
  | .ok (.round ..) _, h => h.elim
theorem wpOp_last {P : Program} {md : Region.Mode} {ops : Array Oper} {Q : Exit → Act → World → Prop} (hB : backB md ops = true) {i : Nat} (hi : i < ops.size - 1) {K : Act → World → Prop} {a : Act} {w : World}
    (h : wpOp P ops.pop (lastQ P ops Q) i K a w) : wpOp P ops Q i K a w := by
  have e : ops.pop[i]? = ops[i]? := by simp [Array.getElem?_pop, hi]
  unfold wpOp at h ⊢
  rw [e] at h
  cases ho : ops[i]? with
  | none => rw [ho] at h; exact h
  | some o =>
    rw [ho] at h
    simp only at h ⊢
    have hw : Region.wanted o (yielded ops.pop a.tmps) = Region.wanted o (yielded ops a.tmps) := by
      unfold Region.wanted
      cases hg : o.guard with
      | none => rfl
      | some g =>
        have hlt := (back_spec hB ho).2 g hg
        have e2 : ops.pop[g.1]? = ops[g.1]? := by simp [Array.getElem?_pop]; omega
        simp only [yielded, e2]
    rw [hw] at h
    by_cases hx : Region.wanted o (yielded ops a.tmps) = true
    · rw [if_pos hx] at h ⊢
      rcases h with h | h
      · exact .inl (upon_last _ h)
      · exact .inr h
    · rw [if_neg hx] at h ⊢
      exact h
/-- What has come up, of the others and of all. -/
structure Same (n : Nat) (l' l : Array Bool) : Prop where
  s' : l'.size = n
  s : l.size = n + 1
  eq : ∀ i d, i < n → l'.getD i d = l.getD i d
  no : l.getD n true = false
theorem Same.set {n : Nat} {l' l : Array Bool} (h : Same n l' l) {i : Nat} (hi : i < n) : Same n (l'.setIfInBounds i true) (l.setIfInBounds i true) :=
  ⟨by simp [h.s'], by simp [h.s], fun j d hj => by
    by_cases e : i = j
    · subst e
      have h1 : i < l'.size := by rw [h.s']; exact hi
      have h2 : i < l.size := by rw [h.s]; omega
      simp [h1, h2]
    · rw [getD_set_ne d e, getD_set_ne d e]; exact h.eq j d hj, by rw [getD_set_ne true (by omega)]; exact h.no⟩
theorem ready_same {md : Region.Mode} {ops : Array Oper} {n : Nat} (hn : ops.size = n + 1) (hB : backB md ops = true) {l' l : Array Bool} (h : Same n l' l) {i : Nat} (hi : i < n) : i ∈ Region.ready md ops.pop l' ↔ i ∈ Region.ready md ops l := by
  rw [mem_ready, mem_ready, h.eq i true hi, show ops.pop[i]? = ops[i]? by simp [Array.getElem?_pop]; omega]
  constructor
  · rintro ⟨h1, o, ho, h2⟩
    exact ⟨h1, o, ho, fun e he hb => by rw [← h.eq e.on false (by have := (back_spec hB ho).1 e he hb; omega)]; exact h2 e he hb⟩
  · rintro ⟨h1, o, ho, h2⟩
    exact ⟨h1, o, ho, fun e he hb => by rw [h.eq e.on false (by have := (back_spec hB ho).1 e he hb; omega)]; exact h2 e he hb⟩
/-- Where nothing may come up, all has. -/
theorem all_listed {md : Region.Mode} {ops : Array Oper} {n : Nat} (hn : ops.size = n + 1) (hB : backB md ops = true) {l : Array Bool} (hs : l.size = n + 1) (h : ∀ i, i < n → i ∉ Region.ready md ops l) : ∀ i, i < n → l.getD i true = true := by
  intro i
  induction i using Nat.strongRecOn with
  | _ i ih =>
    intro hi
    cases hl : l.getD i true with
    | true => rfl
    | false =>
      exfalso
      refine h i hi (mem_ready.2 ⟨hl, ops[i], Array.getElem?_eq_getElem (by omega), fun e he hb => ?_⟩)
      have hlt := (back_spec hB (Array.getElem?_eq_getElem (show i < ops.size by omega))).1 e he hb
      have := ih e.on hlt (by omega)
      simp [show e.on < l.size by omega] at this ⊢
      exact this
theorem wpAny_last {P : Program} {md : Region.Mode} {ops : Array Oper} {Q : Exit → Act → World → Prop} {n : Nat} (hn : ops.size = n + 1) (hB : backB md ops = true) (hs : Region.sinkB md ops n = true) (hc : Region.chainB md ops n = true) :
    ∀ (f : Nat) (l' l : Array Bool) (a : Act) (w : World), Same n l' l → HeadInv md ops n l → wpAny P md ops.pop (lastQ P ops Q) f l' a w → wpAny P md ops Q (f + 1) l a w := by
  have fin : ∀ (f : Nat) (l' l : Array Bool) (a : Act) (w : World), Same n l' l → Region.ready md ops.pop l' = [] → lastQ P ops Q .normal a w → wpAny P md ops Q (f + 1) l a w := by
    intro f l' l a w hS hr hq
    have hall := all_listed hn hB hS.s (fun i hi hm => by have := (ready_same hn hB hS hi).2 hm; rw [hr] at this; cases this)
    have hlt : ∀ i, i ∈ Region.ready md ops l → i = n := by
      intro i hi
      obtain ⟨h1, o, ho, _⟩ := mem_ready.1 hi
      have := (Array.getElem?_eq_some_iff.1 ho).1
      rcases Nat.lt_or_ge i n with h2 | h2
      · rw [hall i h2] at h1; cases h1
      · omega
    have hnr : n ∈ Region.ready md ops l := mem_ready.2 ⟨hS.no, ops[n], Array.getElem?_eq_getElem (by omega), fun e he hb => by
      have h1 := (back_spec hB (Array.getElem?_eq_getElem (show n < ops.size by omega))).1 e he hb
      have h2 := hall e.on h1
      have hs' := hS.s
      simp [show e.on < l.size by omega] at h2 ⊢
      exact h2⟩
    refine ⟨(fun h0 => by rw [h0] at hnr; cases hnr), fun i hi => ?_⟩
    obtain rfl := hlt i hi
    have hq' : wpOp P ops Q i (Q .normal) a w := by
      have : lastQ P ops Q .normal a w = wpOp P ops Q (ops.size - 1) (Q .normal) a w := rfl
      rw [this, hn] at hq
      exact hq
    refine wpOp_mono (fun a' w' h' => ?_) hq'
    have hno : Region.ready md ops (l.setIfInBounds i true) = [] := by
      refine List.eq_nil_iff_forall_not_mem.2 fun j hj => ?_
      obtain ⟨h1, o, ho, _⟩ := mem_ready.1 hj
      have hj2 := (Array.getElem?_eq_some_iff.1 ho).1
      have hls := hS.s
      by_cases e : i = j
      · subst e
        simp [show i < l.size by omega] at h1
      · rw [getD_set_ne true e, hall j (by omega)] at h1; cases h1
    cases f with
    | zero => exact ⟨hno, h'⟩
    | succ f => exact ⟨fun _ => h', fun j hj => by rw [hno] at hj; cases hj⟩
  intro f
  induction f with
  | zero => intro l' l a w hS _ h; exact fin 0 l' l a w hS h.1 h.2
  | succ f ih =>
    intro l' l a w hS hI h
    by_cases hr : Region.ready md ops.pop l' = []
    · exact fin (f + 1) l' l a w hS hr (h.1 hr)
    · obtain ⟨i0, hi0⟩ := List.exists_mem_of_ne_nil _ hr
      have hi0n : i0 < n := by
        obtain ⟨_, o, ho, _⟩ := mem_ready.1 hi0
        have := (Array.getElem?_eq_some_iff.1 ho).1
        simp at this; omega
      have hi0r := (ready_same hn hB hS hi0n).1 hi0
      refine ⟨(fun h0 => by rw [h0] at hi0r; cases hi0r), fun i hi => ?_⟩
      have hin : i < n := by
        rcases Nat.lt_or_ge i n with h2 | h2
        · exact h2
        · exact absurd hi (tail_waits hs hc (by omega) hI (n - i0) i0 rfl hi0n (mem_ready.1 hi0r).1 i h2)
      have h2 := h.2 i ((ready_same hn hB hS hin).2 hi)
      exact wpOp_last hB (by omega) (wpOp_mono (fun a' w' h' => ih _ _ a' w' (hS.set hin) (hI.set hi hin) h') h2)
/-- The region: the others under a promise, then the last one. -/
theorem wp_region_last {P : Program} {Q : Exit → Act → World → Prop} {S : World → Prop} {id : Nat} {ops ops' : Array Oper} {a : Act} {w : World} (he : ops.pop = ops') (hm : P.follows .mixedOrders = true)
    (hB : (backB .any ops && (Region.sinkB .any ops (ops.size - 1) && (Region.chainB .any ops (ops.size - 1) && decide (0 < ops.size)))) = true) (hS : S w.drew)
    (h : S w.drew → wpAnyH P .any ops' (lastQ P ops Q) S ops'.size (Array.replicate ops'.size false) a w.drew) : (Code.region id ops true).wp P Q a w := by
  simp only [Bool.and_eq_true, decide_eq_true_eq] at hB
  obtain ⟨b1, b2, b3, b4⟩ := hB
  obtain ⟨n, hn⟩ : ∃ n, ops.size = n + 1 := ⟨ops.size - 1, by omega⟩
  subst he
  have hn' : ops.size - 1 = n := by omega
  rw [hn'] at b2 b3
  have hw := wpAny_of_held _ _ _ _ (h hS)
  rw [show ops.pop.size = n by simp; omega] at hw
  refine wp_region_any hm ?_
  rw [hn]
  refine wpAny_last hn b1 b2 b3 n (Array.replicate n false) (Array.replicate (n + 1) false) a _ ⟨by simp, by simp, fun i d hi => ?_, by simp⟩ ⟨by simp [hn], fun j oj _ hl => ?_, fun t ht ht' => ?_⟩ hw
  · simp [hi, show i < n + 1 by omega]
  · rw [getD_replicate_false] at hl; cases hl
  · have : t = n := by omega
    subst this; simp
/-- The last operation itself. -/
theorem lastQ_at {P : Program} {ops : Array Oper} {Q : Exit → Act → World → Prop} {o : Oper} {a : Act} {w : World} (ho : ops[ops.size - 1]? = some o)
    (h : if Region.wanted o (yielded ops a.tmps) = true then Oper.wp P o a w (Q .normal) Q else Q .normal (a.put o.dst undef) w) : lastQ P ops Q .normal a w := by
  show wpOp P ops Q (ops.size - 1) (Q .normal) a w
  unfold wpOp
  rw [ho]
  simp only
  by_cases hx : Region.wanted o (yielded ops a.tmps) = true
  · rw [if_pos hx] at h ⊢; exact .inl h
  · rw [if_neg hx] at h ⊢; exact h
end Go.Proofs.Ytbfkjdnopiadjaa

namespace Go.Proofs.Ytbfkjdnopiadjaa
open Go.RowKit
attribute [local go_sem ↓] Go.wp_at_zero Go.wp_at_succ
attribute [local go_sem ↓ high] eqP neP
open Tp (Pf Ok En)

theorem pos_cmp {L : List En} {p : Pf} {i : Nat} {x : En} (hx : L[i]? = some x) (hi : i ≤ Tp.pos L p) : decide (Wp.cmpI x.1.1 x.1.2 p.1 p.2 < 0) = decide (i < Tp.pos L p) := by
  rw [decide_eq_decide, ← Tp.lt_iff]
  rcases Nat.lt_or_ge i (Tp.pos L p) with h | h
  · exact ⟨fun _ => h, fun _ => Tp.pos_lt L p i x h hx⟩
  · have : i = Tp.pos L p := by omega
    subst this
    exact ⟨fun h2 => absurd h2 (Tp.pos_stop L p x hx), fun h2 => absurd h2 (by omega)⟩

set_option maxHeartbeats 4000000 in
set_option maxRecDepth 100000 in
theorem atT {q : Nat} {v : Value} {lim : Int} {L : List En} {w : World} (h : RT q v lim L w) (hL : L.length ≤ 1000000) (p : Pf) :
    Calls Try.prog 50 #[.pointer (some ⟨q, 0, none⟩), .agg #[.int .u32 p.1, .int .i64 p.2]] w fun e w' => e = .returned (.tuple #[.int .i64 (Tp.pos L p : Nat), .bool (Tp.isAt L p)]) ∧ Below w.heap.size w w' := by
  obtain ⟨a, c, rfl⟩ := h.own.form
  have hle := Tp.pos_le L p
  have HT := Lib.hid h
  clear h
  go_enter Try.func50, Try.ntmps50
  have hbx := BlkAt.new w (t := 37) [.int .u32 p.1, .int .i64 p.2]
  have hB1 := ba1 w (.cells #[.int .u32 p.1, .int .i64 p.2] 37)
  go_wp2_with fail
  obtain ⟨W, hW⟩ : ∃ W, W = w.alloc (.cells #[.int .u32 p.1, .int .i64 p.2] 37) := ⟨_, rfl⟩
  have eW : w.alloc (.cells [Value.int .u32 p.1, .int .i64 p.2].toArray 37) = W := hW.symm
  rw [eW] at hbx
  rw [← hW] at hB1 ⊢
  clear hW eW
  have HB := Lib.hid hB1
  have HX := Lib.hid hbx
  have HTW := Lib.hid (HT.out.later hB1)
  clear hB1 hbx HT
  go_loopw [6] (fun x wr => ∃ i : Nat, i ≤ Tp.pos L p ∧ x = .int .i64 i ∧ Hid (Below W.heap.size W wr)) (fun x _ => Tp.pos L p - (intOf x).toNat)
  case atStart => exact ⟨0, Nat.zero_le _, rfl, Below.refl _ _⟩
  case round =>
    obtain ⟨i, hi, rfl, HBr⟩ := hrel
    have HTr := Lib.hid (HTW.out.later HBr.out)
    have HXr := Lib.hid (HX.out.later HBr.out)
    have HBw : Hid (Below w.heap.size w wr) := below_of HB.out HBr.out
    cases hx : L[i]? with
    | some x =>
      obtain ⟨g, o, rfl, hg, e0, e1, e2⟩ := HTr.out.own.reads.at hx
      obtain ⟨c0, c1⟩ := HTr.out.cells
      have b0 := HXr.out.cell (j := 0) rfl
      have b1 := HXr.out.cell (j := 1) rfl
      have k0 : (i : Int) < L.length := by have := (List.getElem?_eq_some_iff.1 hx).1; omega
      have HC := Lib.hid (pos_cmp hx hi)
      go_wp2_with fail
      (refine wp_region_held_drew (S := (fun w' => Below wr.heap.size wr w' ∧ w'.cell? ⟨q, 0, none⟩ = some (.slice (some ⟨g, o, none⟩) L.length c) ∧ w'.cell? ⟨g, o + i * 3, none⟩ = some (.int .u32 x.1.1) ∧ w'.cell? ⟨g, o + i * 3 + 1, none⟩ = some (.int .i64 x.1.2) ∧ w'.cell? ⟨w.heap.size, 0, none⟩ = some (.int .u32 p.1) ∧ w'.cell? ⟨w.heap.size, 1, none⟩ = some (.int .i64 p.2))) (by kernel_rfl) ?_ (fun hHeld => ?_); (focus ((try dsimp only); (exact ⟨(Below.refl _ _).drew, c0, e0, e1, b0, b1⟩))))
      (refine wpAnyH_take (i := 0) (v := ?_) rfl (by kernel_rfl) (by kernel_rfl) (by kernel_rfl) (fun _ _ _ h => h) (Or.inl ⟨by rfl, ?_⟩) hHeld ?_; rotate_left; (focus (intro w hSw; (try dsimp only at hSw); go_simp; try with_reducible rfl)); (try simp only [Act.put, List.setIfInBounds_toArray, List.set_cons_zero, List.set_cons_succ, List.getElem_toArray, List.getElem_cons_zero])); (refine wpAnyH_take (i := 1) (v := ?_) rfl (by kernel_rfl) (by kernel_rfl) (by kernel_rfl) (fun _ _ _ h => h) (Or.inl ⟨by rfl, ?_⟩) hHeld ?_; rotate_left; (focus (intro w hSw; (try dsimp only at hSw); go_simp; try with_reducible rfl)); (try simp only [Act.put, List.setIfInBounds_toArray, List.set_cons_zero, List.set_cons_succ, List.getElem_toArray, List.getElem_cons_zero, List.getElem_cons_succ])); (refine wpAnyH_take (i := 2) (v := ?_) rfl (by kernel_rfl) (by kernel_rfl) (by kernel_rfl) (fun _ _ _ h => h) (Or.inl ⟨by rfl, ?_⟩) hHeld ?_; rotate_left; (focus (intro w hSw; (try dsimp only at hSw); go_simp; try with_reducible rfl)); (try simp only [Act.put, List.setIfInBounds_toArray, List.set_cons_zero, List.set_cons_succ, List.getElem_toArray, List.getElem_cons_zero, List.getElem_cons_succ])); (refine wpAnyH_take (i := 3) (v := ?_) rfl (by kernel_rfl) (by kernel_rfl) (by kernel_rfl) (fun _ _ _ h => h) (Or.inl ⟨by rfl, ?_⟩) hHeld ?_; rotate_left; (focus (intro w hSw; (try dsimp only at hSw); go_simp; try with_reducible rfl)); (try simp only [Act.put, List.setIfInBounds_toArray, List.set_cons_zero, List.set_cons_succ, List.getElem_toArray, List.getElem_cons_zero, List.getElem_cons_succ]))
      (refine wpAnyH_take (i := 4) (v := ?_) rfl (by kernel_rfl) (by kernel_rfl) (by kernel_rfl) (fun _ _ _ h => h) (Or.inl ⟨by rfl, ?_⟩) hHeld ?_; rotate_left; (focus (intro w hSw; (try dsimp only at hSw); go_simp; (obtain ⟨s0, s1, s2, s3, s4, s5⟩ := hSw; go_simp; try with_reducible rfl))); (try simp only [Act.put, List.setIfInBounds_toArray, List.set_cons_zero, List.set_cons_succ, List.getElem_toArray, List.getElem_cons_zero, List.getElem_cons_succ]))
      (refine wpAnyH_take (i := 5) (v := ?_) rfl (by kernel_rfl) (by kernel_rfl) (by kernel_rfl) (fun _ _ _ h => h) (Or.inl ⟨by rfl, ?_⟩) hHeld ?_; rotate_left; (focus (intro w hSw; (try dsimp only at hSw); go_simp; try with_reducible rfl)); (try simp only [Act.put, List.setIfInBounds_toArray, List.set_cons_zero, List.set_cons_succ, List.getElem_toArray, List.getElem_cons_zero, List.getElem_cons_succ])); (refine wpAnyH_take (i := 6) (v := ?_) rfl (by kernel_rfl) (by kernel_rfl) (by kernel_rfl) (fun _ _ _ h => h) (Or.inl ⟨by rfl, ?_⟩) hHeld ?_; rotate_left; (focus (intro w hSw; (try dsimp only at hSw); go_simp; try with_reducible rfl)); (try simp only [Act.put, List.setIfInBounds_toArray, List.set_cons_zero, List.set_cons_succ, List.getElem_toArray, List.getElem_cons_zero, List.getElem_cons_succ])); (refine wpAnyH_take (i := 7) (v := ?_) rfl (by kernel_rfl) (by kernel_rfl) (by kernel_rfl) (fun _ _ _ h => h) (Or.inl ⟨by rfl, ?_⟩) hHeld ?_; rotate_left; (focus (intro w hSw; (try dsimp only at hSw); go_simp; try with_reducible rfl)); (try simp only [Act.put, List.setIfInBounds_toArray, List.set_cons_zero, List.set_cons_succ, List.getElem_toArray, List.getElem_cons_zero, List.getElem_cons_succ])); (refine wpAnyH_take (i := 8) (v := ?_) rfl (by kernel_rfl) (by kernel_rfl) (by kernel_rfl) (fun _ _ _ h => h) (Or.inl ⟨by rfl, ?_⟩) hHeld ?_; rotate_left; (focus (intro w hSw; (try dsimp only at hSw); go_simp; try with_reducible rfl)); (try simp only [Act.put, List.setIfInBounds_toArray, List.set_cons_zero, List.set_cons_succ, List.getElem_toArray, List.getElem_cons_zero, List.getElem_cons_succ])); (refine wpAnyH_take (i := 9) (v := ?_) rfl (by kernel_rfl) (by kernel_rfl) (by kernel_rfl) (fun _ _ _ h => h) (Or.inl ⟨by rfl, ?_⟩) hHeld ?_; rotate_left; (focus (intro w hSw; (try dsimp only at hSw); go_simp; try with_reducible rfl)); (try simp only [Act.put, List.setIfInBounds_toArray, List.set_cons_zero, List.set_cons_succ, List.getElem_toArray, List.getElem_cons_zero, List.getElem_cons_succ])); (refine wpAnyH_take (i := 10) (v := ?_) rfl (by kernel_rfl) (by kernel_rfl) (by kernel_rfl) (fun _ _ _ h => h) (Or.inl ⟨by rfl, ?_⟩) hHeld ?_; rotate_left; (focus (intro w hSw; (try dsimp only at hSw); go_simp; try with_reducible rfl)); (try simp only [Act.put, List.setIfInBounds_toArray, List.set_cons_zero, List.set_cons_succ, List.getElem_toArray, List.getElem_cons_zero, List.getElem_cons_succ]))
      (refine wpAnyH_take (i := 11) (v := ?_) rfl (by kernel_rfl) (by kernel_rfl) (by kernel_rfl) (fun _ _ _ h => h) (Or.inl ⟨by rfl, ?_⟩) hHeld ?_; rotate_left; (focus (intro w hSw; (try dsimp only at hSw); go_simp; (obtain ⟨s0, s1, s2, s3, s4, s5⟩ := hSw; go_simp; try with_reducible rfl))); (try simp only [Act.put, List.setIfInBounds_toArray, List.set_cons_zero, List.set_cons_succ, List.getElem_toArray, List.getElem_cons_zero, List.getElem_cons_succ]))
      (refine wpAnyH_take (i := 12) (v := ?_) rfl (by kernel_rfl) (by kernel_rfl) (by kernel_rfl) (fun _ _ _ h => h) (Or.inl ⟨by rfl, ?_⟩) hHeld ?_; rotate_left; (focus (intro w hSw; (try dsimp only at hSw); go_simp; try with_reducible rfl)); (try simp only [Act.put, List.setIfInBounds_toArray, List.set_cons_zero, List.set_cons_succ, List.getElem_toArray, List.getElem_cons_zero, List.getElem_cons_succ])); (refine wpAnyH_take (i := 13) (v := ?_) rfl (by kernel_rfl) (by kernel_rfl) (by kernel_rfl) (fun _ _ _ h => h) (Or.inl ⟨by rfl, ?_⟩) hHeld ?_; rotate_left; (focus (intro w hSw; (try dsimp only at hSw); go_simp; try with_reducible rfl)); (try simp only [Act.put, List.setIfInBounds_toArray, List.set_cons_zero, List.set_cons_succ, List.getElem_toArray, List.getElem_cons_zero, List.getElem_cons_succ])); (refine wpAnyH_take (i := 14) (v := ?_) rfl (by kernel_rfl) (by kernel_rfl) (by kernel_rfl) (fun _ _ _ h => h) (Or.inl ⟨by rfl, ?_⟩) hHeld ?_; rotate_left; (focus (intro w hSw; (try dsimp only at hSw); go_simp; try with_reducible rfl)); (try simp only [Act.put, List.setIfInBounds_toArray, List.set_cons_zero, List.set_cons_succ, List.getElem_toArray, List.getElem_cons_zero, List.getElem_cons_succ]))
      (refine wpAnyH_take (i := 15) (v := ?_) rfl (by kernel_rfl) (by kernel_rfl) (by kernel_rfl) (fun _ _ _ h => h) (Or.inl ⟨by rfl, ?_⟩) hHeld ?_; rotate_left; (focus (intro w hSw; (try dsimp only at hSw); go_simp; (obtain ⟨s0, s1, s2, s3, s4, s5⟩ := hSw; go_simp; try with_reducible rfl))); (try simp only [Act.put, List.setIfInBounds_toArray, List.set_cons_zero, List.set_cons_succ, List.getElem_toArray, List.getElem_cons_zero, List.getElem_cons_succ]))
      (refine wpAnyH_take (i := 16) (v := ?_) rfl (by kernel_rfl) (by kernel_rfl) (by kernel_rfl) (fun _ _ _ h => h) (Or.inl ⟨by rfl, ?_⟩) hHeld ?_; rotate_left; (focus (intro w hSw; (try dsimp only at hSw); go_simp; (obtain ⟨s0, s1, s2, s3, s4, s5⟩ := hSw; go_simp; try with_reducible rfl))); (try simp only [Act.put, List.setIfInBounds_toArray, List.set_cons_zero, List.set_cons_succ, List.getElem_toArray, List.getElem_cons_zero, List.getElem_cons_succ]))
      (refine wpAnyH_ready (rs := [17]) (by kernel_rfl) (by simp) ?_; refine AllReadyH.cons rfl (fun K hK => ?_) AllReadyH.nil; go_simp; (refine (cmpR_any _ _ _ _ _).mono ?_; rintro e w1 ⟨rfl, hb1⟩); refine hK.out _ _ ?_ (fun hHeldN => ?_); (focus ((try dsimp only); (exact ⟨below_of hHeld.1 hb1, cell_later hb1 hHeld.2.1, cell_later hb1 hHeld.2.2.1, cell_later hb1 hHeld.2.2.2.1, cell_later hb1 hHeld.2.2.2.2.1, cell_later hb1 hHeld.2.2.2.2.2⟩))); clear hK K hHeld; have hHeld := hHeldN; clear hHeldN; (try simp only [Act.put, List.setIfInBounds_toArray, List.set_cons_zero, List.set_cons_succ, List.getElem_toArray, List.getElem_cons_zero, List.getElem_cons_succ]))
      (refine wpAnyH_take (i := 18) (v := ?_) rfl (by kernel_rfl) (by kernel_rfl) (by kernel_rfl) (fun _ _ _ h => h) (Or.inl ⟨by rfl, ?_⟩) hHeld ?_; rotate_left; (focus (intro w hSw; (try dsimp only at hSw); go_simp; try with_reducible rfl)); (try simp only [Act.put, List.setIfInBounds_toArray, List.set_cons_zero, List.set_cons_succ, List.getElem_toArray, List.getElem_cons_zero, List.getElem_cons_succ])); (refine wpAnyH_take (i := 19) (v := ?_) rfl (by kernel_rfl) (by kernel_rfl) (by kernel_rfl) (fun _ _ _ h => h) (Or.inl ⟨by rfl, ?_⟩) hHeld ?_; rotate_left; (focus (intro w hSw; (try dsimp only at hSw); go_simp; try with_reducible rfl)); (try simp only [Act.put, List.setIfInBounds_toArray, List.set_cons_zero, List.set_cons_succ, List.getElem_toArray, List.getElem_cons_zero, List.getElem_cons_succ]))
      refine wpAnyH_done (by kernel_rfl) ?_ _
      rw [HC.out]
      obtain ⟨hbn, d0, d1, d2, d3, d4⟩ := hHeld
      rcases Nat.lt_or_ge i (Tp.pos L p) with hlt | hge
      · rw [decide_eq_true hlt]
        go_wp2_with fail
        go_roundw
        case rel => exact ⟨i + 1, by omega, by go_num, below_of HBr.out hbn⟩
        case measure => simp [intOf]; omega
      · rw [decide_eq_false (by omega)]
        have ei : i = Tp.pos L p := by omega
        have HA : Hid (sameP x.1.1 x.1.2 p.1 p.2 = Tp.isAt L p) := by
          show sameP x.1.1 x.1.2 p.1 p.2 = Tp.isAt L p
          unfold Tp.isAt
          rw [← ei, hx]
          rw [Bool.eq_iff_iff, sameP_iff, decide_eq_true_eq]
          obtain ⟨⟨xa, xn⟩, xv⟩ := x
          obtain ⟨pa, pn⟩ := p
          simp
        have HI := Lib.hid ei
        have HBn := Lib.hid (below_of HBw.out hbn)
        clear ei hge hbn hb1 c0 c1 e0 e1 e2 b0 b1
        go_wp2_with fail
        go_quiet (fail)
        go_wp2_with fail
        go_ret2
        rw [← HI.out, ← HA.out]
        exact ⟨rfl, below_drewN HBn.out _⟩
    | none =>
      have ei : i = L.length := by have := List.getElem?_eq_none_iff.1 hx; omega
      have ep : i = Tp.pos L p := by omega
      have HA : Hid (Tp.isAt L p = false) := by
        show Tp.isAt L p = false
        unfold Tp.isAt
        rw [← ep, hx]; simp
      have HI := Lib.hid ep
      obtain ⟨c0, c1⟩ := HTr.out.cells
      have k0 : decide (i < L.length) = false := by simp; omega
      clear ei ep
      go_wp2_with fail
      go_quiet (fail)
      go_wp2_with fail
      go_quiet (fail)
      go_wp2_with fail
      go_ret2
      rw [← HI.out, HA.out]
      exact ⟨rfl, below_drewN (below_drewN HBw.out _) _⟩
end Go.Proofs.Ytbfkjdnopiadjaa

namespace Go.Proofs.Ytbfkjdnopiadjaa
open Go.RowKit
attribute [local go_sem ↓] Go.wp_at_zero Go.wp_at_succ
attribute [local go_sem ↓ high] eqP neP
open Tp (Pf Ok En)

theorem isAt_at {L : List En} {p : Pf} (h : Tp.isAt L p = true) : ∃ u, L[Tp.pos L p]? = some (p, u) := by
  unfold Tp.isAt at h
  have := of_decide_eq_true h
  cases hx : L[Tp.pos L p]? with
  | none => rw [hx] at this; cases this
  | some x => rw [hx] at this; simp at this; exact ⟨x.2, by rw [← this]⟩
theorem get_is {L : List En} {p : Pf} (hu : Tp.Up L) {u : Int} (h : L[Tp.pos L p]? = some (p, u)) : Tp.look L p = some u := by
  rw [Tp.look_pos L p hu, if_pos (by unfold Tp.isAt; rw [h]; simp), h]; rfl
theorem get_no {L : List En} {p : Pf} (hu : Tp.Up L) (h : Tp.isAt L p = false) : Tp.look L p = none := by
  rw [Tp.look_pos L p hu, if_neg (by rw [h]; simp)]

set_option maxHeartbeats 4000000 in
set_option maxRecDepth 100000 in
theorem getR {q : Nat} {v : Value} {lim : Int} {L : List En} {w : World} (h : RT q v lim L w) (hL : L.length ≤ 1000000) (hu : Tp.Up L) (p : Pf) :
    Calls Try.prog 35 #[.pointer (some ⟨q, 0, none⟩), .agg #[.int .u32 p.1, .int .i64 p.2]] w fun e w' => e = .returned (.tuple #[.int .i64 (getA (Tp.look L p)).1, .bool (getA (Tp.look L p)).2]) ∧ Below w.heap.size w w' := by
  have HT := Lib.hid h
  go_enter Try.func35, Try.ntmps35
  have hbx := BlkAt.new w (t := 37) [.int .u32 p.1, .int .i64 p.2]
  have hB1 := ba1 w (.cells #[.int .u32 p.1, .int .i64 p.2] 37)
  have HA := Lib.hid (atT (h.later hB1) hL p)
  have HB := Lib.hid hB1
  have HX := Lib.hid hbx
  clear h hbx hB1
  rcases hi : Tp.isAt L p with _ | _
  · have HL := Lib.hid (get_no hu hi)
    rw [hi] at HA
    clear hi
    go_wp2_with fail
    refine HA.out.mono ?_
    rintro e w1 ⟨rfl, hb1⟩
    have HB1 := Lib.hid hb1
    clear hb1
    go_wp2_with fail
    go_ret2
    rw [HL.out]
    exact ⟨rfl, below_of HB.out HB1.out⟩
  · obtain ⟨u, hx⟩ := isAt_at hi
    have HL := Lib.hid (get_is hu hx)
    rw [hi] at HA
    clear hi
    go_wp2_with fail
    refine HA.out.mono ?_
    rintro e w1 ⟨rfl, hb1⟩
    have HB1 := Lib.hid (below_of HB.out hb1)
    have hT := HT.out.later HB1.out
    clear hb1
    obtain ⟨a, c, rfl⟩ := hT.own.form
    obtain ⟨g, o, rfl, hg, e0, e1, e2⟩ := hT.own.reads.at hx
    obtain ⟨c0, c1⟩ := hT.cells
    have k0 : ((Tp.pos L p : Nat) : Int) < L.length := by have := (List.getElem?_eq_some_iff.1 hx).1; omega
    clear hT hx
    go_wp2_with fail
    go_ret2
    rw [HL.out]
    exact ⟨rfl, HB1.out⟩
end Go.Proofs.Ytbfkjdnopiadjaa
