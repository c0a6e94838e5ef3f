/- The reference's Common: the walk.
   Maps whose keys are prefixes: what they hold as a list; store, look-up, delete, len.
   Both hold the same; the laws' num, ten, do: the walks. -/
import Derived.DeepKeys3
import Derived.MapKept
import Derived.Test.YtbfkjdnopiadjaaZ03
import Derived.Test.YtbfkjdnopiadjaaZ04
import Derived.Test.YtbfkjdnopiadjaaZ09
import Derived.Test.YtbfkjdnopiadjaaZ10
import Derived.Test.YtbfkjdnopiadjaaZ11

set_option linter.unusedSimpArgs false
set_option linter.unusedVariables false
namespace Go.Proofs.Ytbfkjdnopiadjaa
open Go.RowKit
attribute [local go_sem ↓] Go.wp_at_zero Go.wp_at_succ
attribute [local go_sem ↓ high] eqP neP
open Tp (Pf Ok En Tr)

theorem numT (x : Int) (w : World) : Calls Try.prog 20 #[.int .i64 x] w fun e w' => e = .returned (.int .i64 x) ∧ w = w' := by
  go_enter Try.func20, Try.ntmps20
  go_wp2_with fail
  go_ret
  exact ⟨rfl, rfl⟩
set_option maxHeartbeats 4000000 in
theorem tenT (b n : Int) (hb : b = 0 ∨ b = 1 ∨ b = 2) (w : World) : Calls Try.prog 28 #[.int .u32 b, .int .i64 n] w fun e w' => e = .returned (pv (167772160 + b * 65536, n)) ∧ Below w.heap.size w w' := by
  rcases hb with rfl | rfl | rfl
  all_goals
    go_enter Try.func28, Try.ntmps28
    go_wp2_with fail
    refine ⟨rfl, pv _, ?_, rfl, ba1 _ _⟩
    simp [results, Try.f28, go_sem, pv]

/-- The program's trie and the document's table hold the same. -/
structure Bth (t q : Nat) (v : Value) (lim : Int) (T : Tr) (w : World) : Prop where
  tr : TSt t (lm lim) T w
  rt : RT q v lim T.el w
theorem Bth.ne {t q : Nat} {v : Value} {lim : Int} {T : Tr} {w : World} (h : Bth t q v lim T w) : t ∉ rtB q v := by
  obtain ⟨u, hb, _⟩ := h.tr.blk
  intro hm
  simp only [rtB, List.mem_cons, Option.mem_toList] at hm
  rcases hm with rfl | hm
  · exact hb.no (t' := 30) (by decide) h.rt.blk
  · obtain ⟨c, _, hc⟩ := h.rt.own.block hm
    have := hc.symm.trans (show w.heap[t]? = _ from hb)
    simp only [Option.some.injEq, Obj.cells.injEq] at this
    exact absurd this.2.1 (by decide)
theorem RT.stay {q : Nat} {v : Value} {lim : Int} {L : List En} {w w' : World} (h : RT q v lim L w) (hc : Chg (rtB q v) w w') : Stay w w' := by
  refine Stay.of_chg hc fun b hb cs hn => ?_
  simp only [rtB, List.mem_cons, Option.mem_toList] at hb
  rcases hb with rfl | hb
  · exact h.blk.no (by decide) hn
  · obtain ⟨c, _, hc⟩ := h.own.block hb
    have := hc.symm.trans (show w.heap[b]? = _ from hn)
    simp only [Option.some.injEq, Obj.cells.injEq] at this
    exact absurd this.2.1 (by decide)
theorem Bth.later {t q : Nat} {v : Value} {lim : Int} {T : Tr} {w w' : World} (h : Bth t q v lim T w) (hb : Below w.heap.size w w') : Bth t q v lim T w' := ⟨h.tr.later hb, h.rt.later hb⟩
theorem mem_rtB {q : Nat} {v : Value} {g : Nat} : g ∈ rtB q v ↔ g = q ∨ v.ownBlock = some g := by
  simp [rtB]
/-- The trie turned, the table not yet. -/
theorem Bth.half {t q : Nat} {v : Value} {lim : Int} {T : Tr} {w w' : World} (h : Bth t q v lim T w) (hc : Chg [t] w w') : RT q v lim T.el w' :=
  h.rt.chg hc (fun e => h.ne (by rw [List.mem_singleton.1 e]; exact mem_rtB.2 (.inl rfl))) (fun g hg e => h.ne (by rw [List.mem_singleton.1 e] at hg; exact mem_rtB.2 (.inr hg)))
theorem TSt.over {t q : Nat} {v : Value} {lim lim' : Int} {T : Tr} {L : List En} {w w' : World} (h : TSt t lim T w) (hr : RT q v lim' L w) (hn : t ∉ rtB q v) (hc : Chg (rtB q v) w w') : TSt t lim T w' := h.chg hc hn (hr.stay hc)

/-- An act: what it leaves. -/
structure Ac where
  del : Bool
  p : Pf
  x : Int
def Ac.val (a : Ac) : Value := .agg #[.bool a.del, .int .u32 a.p.1, .int .i64 a.p.2, .int .i64 a.x]
theorem Fresh.mono {w w' : World} {v v' : Value} (h : Fresh w' v v') (hs : w.heap.size ≤ w'.heap.size) : Fresh w v v' := by
  rcases h with h | h
  · exact .inl h
  · exact .inr fun g hg => Nat.le_trans hs (h g hg)
def Ac.tr (a : Ac) (lim : Int) (T : Tr) : Tr := if a.del then delT a.p T else insT lim a.p a.x T
theorem insT_el {lim : Int} {p : Pf} (hp : Ad p) (x : Int) {T : Tr} (h : T.Inv) : (insT lim p x T).el = insL lim p x T.el := by
  unfold insT insL
  split
  · rename_i hc
    exact Tp.ins_el (hp.ok hc.1) x T h
  · rfl
theorem delT_el {p : Pf} (hp : Ad p) {T : Tr} (h : T.Inv) : (delT p T).el = delL p T.el := by
  unfold delT delL
  split
  · rename_i hc
    exact Tp.del_el (hp.ok hc) T h
  · rfl
theorem insC_lm (lim : Int) (p : Pf) (L : List En) : insC (lm lim) p L = insC lim p L := by
  unfold insC lm
  have e : ((L.length : Int) < max lim 0) = ((L.length : Int) < lim) := by rw [eq_iff_iff]; omega
  simp only [e]
theorem insT_lm (lim : Int) (p : Pf) (x : Int) (T : Tr) : insT (lm lim) p x T = insT lim p x T := by
  unfold insT lm
  have e : ((T.el.length : Int) < max lim 0) = ((T.el.length : Int) < lim) := by rw [eq_iff_iff]; omega
  simp only [e]
theorem insertL {t : Nat} {lim : Int} {T : Tr} {w : World} (h : TSt t (lm lim) T w) {p : Pf} (hp : Ad p) (v : Int) (hs : T.size ≤ 1000000) :
    Calls Try.prog 22 #[.pointer (some ⟨t, 0, none⟩), .agg #[.int .u32 p.1, .int .i64 p.2], .int .i64 v] w fun e w' => e = .returned (.int .i64 (insC lim p T.el)) ∧ TSt t (lm lim) (insT lim p v T) w' ∧ Chg [t] w w' := by
  have := insertT h hp v hs
  rw [insC_lm, insT_lm] at this
  exact this
/-- What an act leaves, in memory. -/
def DoA (t q : Nat) (v : Value) (lim : Int) (T : Tr) (a : Ac) (w : World) (e : Ending) (w' : World) : Prop :=
  e = .returned (.bool true) ∧ ∃ v', Bth t q v' lim (a.tr lim T) w' ∧ Chg (t :: rtB q v) w w' ∧ Fresh w v v'

set_option maxHeartbeats 4000000 in
set_option maxRecDepth 100000 in
theorem doT {t q : Nat} {v : Value} {lim : Int} {T : Tr} {w : World} (h : Bth t q v lim T w) (hs : T.size ≤ 1000000) (hL : T.el.length ≤ 100000) (a : Ac) (hp : Ad a.p) :
    Calls Try.prog 13 #[.pointer (some ⟨t, 0, none⟩), .pointer (some ⟨q, 0, none⟩), a.val] w (DoA t q v lim T a w) := by
  obtain ⟨d, p, x⟩ := a
  have hbx := BlkAt.new w (t := 39) [.bool d, .int .u32 p.1, .int .i64 p.2, .int .i64 x]
  have hB1 := ba1 w (.cells #[.bool d, .int .u32 p.1, .int .i64 p.2, .int .i64 x] 39)
  have HB := Lib.hid (h.later hB1)
  have hup := Lib.hid h.tr.inv.up
  have hinv := Lib.hid h.tr.inv
  have HP := Lib.hid hp
  have hlt := h.tr.lt
  have hlq := h.rt.lt
  have hrow : ∀ g, v.ownBlock = some g → g < w.heap.size := fun g hg => by
    obtain ⟨c, _, hc⟩ := h.rt.own.block hg
    exact (Array.getElem?_eq_some_iff.1 hc).1
  have HNot : Hid (w.heap.size ∉ t :: rtB q v) := by
    intro hm
    rcases List.mem_cons.1 hm with e | hm
    · omega
    · rcases mem_rtB.1 hm with e | e
      · omega
      · have := hrow _ e; omega
  unfold DoA Ac.val Ac.tr
  simp only at HP ⊢
  cases d with
  | true =>
    simp only [if_true]
    clear h hp hlt hlq hrow
    go_enter Try.func13, Try.ntmps13
    go_wp2_with fail
    obtain ⟨W, hW⟩ : ∃ W, W = w.alloc (.cells #[.bool true, .int .u32 p.1, .int .i64 p.2, .int .i64 x] 39) := ⟨_, rfl⟩
    have eW : w.alloc (.cells [.bool true, .int .u32 p.1, .int .i64 p.2, .int .i64 x].toArray 39) = W := hW.symm
    rw [eW] at hbx
    rw [← hW] at hB1 HB ⊢
    have HX := Lib.hid hbx
    have HB1 := Lib.hid hB1
    clear hW eW hbx hB1
    (refine wp_region_held_drew (S := (fun w' => Chg (t :: rtB q v) W w')) (by kernel_rfl) ?_ (fun hHeld => ?_); (focus ((try dsimp only); (exact (Chg.refl _ _).drew))))
    obtain ⟨W2, hW2⟩ : ∃ W2, W2 = World.drew W := ⟨_, rfl⟩
    have HB2 : Hid (Bth t q v lim T W2) := by rw [hW2]; exact HB.out.later (Below.refl _ _).drew
    rw [← hW2] at hHeld ⊢
    clear hW2
    (refine wpAnyH_take (i := 0) (v := ?_) rfl (by kernel_rfl) (by kernel_rfl) (by kernel_rfl) (fun _ _ _ h => h) (Or.inl ⟨by rfl, ?_⟩) hHeld ?_; rotate_left; (focus (intro w hSw; (try dsimp only at hSw); go_simp; try with_reducible rfl)); (try simp only [Act.put, List.setIfInBounds_toArray, List.set_cons_zero, List.set_cons_succ, List.getElem_toArray, List.getElem_cons_zero])); (refine wpAnyH_take (i := 1) (v := ?_) rfl (by kernel_rfl) (by kernel_rfl) (by kernel_rfl) (fun _ _ _ h => h) (Or.inl ⟨by rfl, ?_⟩) hHeld ?_; rotate_left; (focus (intro w hSw; (try dsimp only at hSw); go_simp; try with_reducible rfl)); (try simp only [Act.put, List.setIfInBounds_toArray, List.set_cons_zero, List.set_cons_succ, List.getElem_toArray, List.getElem_cons_zero, List.getElem_cons_succ]))
    (refine wpAnyH_take (i := 2) (v := ?_) rfl (by kernel_rfl) (by kernel_rfl) (by kernel_rfl) (fun _ _ _ h => h) (Or.inl ⟨by rfl, ?_⟩) hHeld ?_; rotate_left; (focus (intro w hSw; (try dsimp only at hSw); go_simp; ((have hb := hSw.blk HX.out HNot.out); (have x0 := hb.cell (j := 1) rfl); (have x1 := hb.cell (j := 2) rfl); go_simp; try with_reducible rfl))); (try simp only [Act.put, List.setIfInBounds_toArray, List.set_cons_zero, List.set_cons_succ, List.getElem_toArray, List.getElem_cons_zero, List.getElem_cons_succ]))
    (refine wpAnyH_take (i := 5) (v := ?_) rfl (by kernel_rfl) (by kernel_rfl) (by kernel_rfl) (fun _ _ _ h => h) (Or.inl ⟨by rfl, ?_⟩) hHeld ?_; rotate_left; (focus (intro w hSw; (try dsimp only at hSw); go_simp; try with_reducible rfl)); (try simp only [Act.put, List.setIfInBounds_toArray, List.set_cons_zero, List.set_cons_succ, List.getElem_toArray, List.getElem_cons_zero, List.getElem_cons_succ])); (refine wpAnyH_take (i := 6) (v := ?_) rfl (by kernel_rfl) (by kernel_rfl) (by kernel_rfl) (fun _ _ _ h => h) (Or.inl ⟨by rfl, ?_⟩) hHeld ?_; rotate_left; (focus (intro w hSw; (try dsimp only at hSw); go_simp; try with_reducible rfl)); (try simp only [Act.put, List.setIfInBounds_toArray, List.set_cons_zero, List.set_cons_succ, List.getElem_toArray, List.getElem_cons_zero, List.getElem_cons_succ]))
    (refine wpAnyH_take (i := 7) (v := ?_) rfl (by kernel_rfl) (by kernel_rfl) (by kernel_rfl) (fun _ _ _ h => h) (Or.inl ⟨by rfl, ?_⟩) hHeld ?_; rotate_left; (focus (intro w hSw; (try dsimp only at hSw); go_simp; ((have hb := hSw.blk HX.out HNot.out); (have x0 := hb.cell (j := 1) rfl); (have x1 := hb.cell (j := 2) rfl); go_simp; try with_reducible rfl))); (try simp only [Act.put, List.setIfInBounds_toArray, List.set_cons_zero, List.set_cons_succ, List.getElem_toArray, List.getElem_cons_zero, List.getElem_cons_succ]))
    (refine wpAnyH_ready (rs := [3]) (by kernel_rfl) (by simp) ?_; refine AllReadyH.cons rfl (fun K hK => ?_) AllReadyH.nil; go_simp; (refine (deleteT HB2.out.tr HP.out hs).mono ?_; rintro e w3 ⟨rfl, ht3, hc3⟩); refine hK.out _ _ ?_ (fun hHeldN => ?_); (focus ((try dsimp only); (exact hHeld.trans (hc3.mono (by simp))))); clear hK K hHeld; have hHeld := hHeldN; clear hHeldN; (try simp only [Act.put, List.setIfInBounds_toArray, List.set_cons_zero, List.set_cons_succ, List.getElem_toArray, List.getElem_cons_zero, List.getElem_cons_succ]))
    have HT3 := Lib.hid ht3
    have HS3 := Lib.hid (Nat.le_trans HB1.out.size hHeld.size)
    have HR3 := Lib.hid (HB2.out.half hc3)
    clear ht3 hc3
    (refine wpAnyH_ready (rs := [4]) (by kernel_rfl) (by simp) ?_; refine AllReadyH.cons rfl (fun K hK => ?_) AllReadyH.nil; go_simp; (refine (numT _ _).mono ?_; rintro e w4 ⟨rfl, rfl⟩); refine hK.out _ _ ?_ (fun hHeldN => ?_); (focus ((try dsimp only); (exact hHeld))); clear hK K hHeld; have hHeld := hHeldN; clear hHeldN; (try simp only [Act.put, List.setIfInBounds_toArray, List.set_cons_zero, List.set_cons_succ, List.getElem_toArray, List.getElem_cons_zero, List.getElem_cons_succ]))
    (refine wpAnyH_ready (rs := [8]) (by kernel_rfl) (by simp) ?_; refine AllReadyH.cons rfl (fun K hK => ?_) AllReadyH.nil; go_simp; (refine (deleteR HR3.out hL hup.out HP.out).mono ?_; rintro e w5 ⟨rfl, v5, hr5, hc5, hf5⟩); refine hK.out _ _ ?_ (fun hHeldN => ?_); (focus ((try dsimp only); (exact hHeld.trans (hc5.mono (fun b hb => List.mem_cons_of_mem _ hb))))); clear hK K hHeld; have hHeld := hHeldN; clear hHeldN; (try simp only [Act.put, List.setIfInBounds_toArray, List.set_cons_zero, List.set_cons_succ, List.getElem_toArray, List.getElem_cons_zero, List.getElem_cons_succ]))
    have HT5 := Lib.hid (HT3.out.over HR3.out HB2.out.ne hc5)
    have HR5 : Hid (RT q v5 lim (delT p T).el w5) := by rw [delT_el HP.out hinv.out]; exact hr5
    have HF5 := Lib.hid hf5
    clear hr5 hc5 hf5
    (refine wpAnyH_take (i := 9) (v := ?_) rfl (by kernel_rfl) (by kernel_rfl) (by kernel_rfl) (fun _ _ _ h => h) (Or.inl ⟨by rfl, ?_⟩) hHeld ?_; rotate_left; (focus (intro w hSw; (try dsimp only at hSw); go_simp; try with_reducible rfl)); (try simp only [Act.put, List.setIfInBounds_toArray, List.set_cons_zero, List.set_cons_succ, List.getElem_toArray, List.getElem_cons_zero, List.getElem_cons_succ])); (refine wpAnyH_take (i := 10) (v := ?_) rfl (by kernel_rfl) (by kernel_rfl) (by kernel_rfl) (fun _ _ _ h => h) (Or.inl ⟨by rfl, ?_⟩) hHeld ?_; rotate_left; (focus (intro w hSw; (try dsimp only at hSw); go_simp; try with_reducible rfl)); (try simp only [Act.put, List.setIfInBounds_toArray, List.set_cons_zero, List.set_cons_succ, List.getElem_toArray, List.getElem_cons_zero, List.getElem_cons_succ]))
    refine wpAnyH_done (by kernel_rfl) ?_ _
    have HH := Lib.hid hHeld
    clear hHeld
    go_wp2_with fail
    go_ret
    exact ⟨rfl, v5, ⟨HT5.out, HR5.out⟩, (Chg.of_below _ HB1.out).trans HH.out, HF5.out.mono HS3.out⟩
  | false =>
    simp only [Bool.false_eq_true, if_false]
    clear h hp hlt hlq hrow
    go_enter Try.func13, Try.ntmps13
    go_wp2_with fail
    obtain ⟨W, hW⟩ : ∃ W, W = w.alloc (.cells #[.bool false, .int .u32 p.1, .int .i64 p.2, .int .i64 x] 39) := ⟨_, rfl⟩
    have eW : w.alloc (.cells [.bool false, .int .u32 p.1, .int .i64 p.2, .int .i64 x].toArray 39) = W := hW.symm
    rw [eW] at hbx
    rw [← hW] at hB1 HB ⊢
    have HX := Lib.hid hbx
    have HB1 := Lib.hid hB1
    clear hW eW hbx hB1
    (refine wp_region_held_drew (S := (fun w' => Chg (t :: rtB q v) W w')) (by kernel_rfl) ?_ (fun hHeld => ?_); (focus ((try dsimp only); (exact (Chg.refl _ _).drew))))
    obtain ⟨W2, hW2⟩ : ∃ W2, W2 = World.drew W := ⟨_, rfl⟩
    have HB2 : Hid (Bth t q v lim T W2) := by rw [hW2]; exact HB.out.later (Below.refl _ _).drew
    rw [← hW2] at hHeld ⊢
    clear hW2
    (refine wpAnyH_take (i := 0) (v := ?_) rfl (by kernel_rfl) (by kernel_rfl) (by kernel_rfl) (fun _ _ _ h => h) (Or.inl ⟨by rfl, ?_⟩) hHeld ?_; rotate_left; (focus (intro w hSw; (try dsimp only at hSw); go_simp; try with_reducible rfl)); (try simp only [Act.put, List.setIfInBounds_toArray, List.set_cons_zero, List.set_cons_succ, List.getElem_toArray, List.getElem_cons_zero])); (refine wpAnyH_take (i := 1) (v := ?_) rfl (by kernel_rfl) (by kernel_rfl) (by kernel_rfl) (fun _ _ _ h => h) (Or.inl ⟨by rfl, ?_⟩) hHeld ?_; rotate_left; (focus (intro w hSw; (try dsimp only at hSw); go_simp; try with_reducible rfl)); (try simp only [Act.put, List.setIfInBounds_toArray, List.set_cons_zero, List.set_cons_succ, List.getElem_toArray, List.getElem_cons_zero, List.getElem_cons_succ]))
    (refine wpAnyH_take (i := 2) (v := ?_) rfl (by kernel_rfl) (by kernel_rfl) (by kernel_rfl) (fun _ _ _ h => h) (Or.inl ⟨by rfl, ?_⟩) hHeld ?_; rotate_left; (focus (intro w hSw; (try dsimp only at hSw); go_simp; ((have hb := hSw.blk HX.out HNot.out); (have x0 := hb.cell (j := 1) rfl); (have x1 := hb.cell (j := 2) rfl); go_simp; try with_reducible rfl))); (try simp only [Act.put, List.setIfInBounds_toArray, List.set_cons_zero, List.set_cons_succ, List.getElem_toArray, List.getElem_cons_zero, List.getElem_cons_succ]))
    (refine wpAnyH_take (i := 3) (v := ?_) rfl (by kernel_rfl) (by kernel_rfl) (by kernel_rfl) (fun _ _ _ h => h) (Or.inl ⟨by rfl, ?_⟩) hHeld ?_; rotate_left; (focus (intro w hSw; (try dsimp only at hSw); go_simp; try with_reducible rfl)); (try simp only [Act.put, List.setIfInBounds_toArray, List.set_cons_zero, List.set_cons_succ, List.getElem_toArray, List.getElem_cons_zero, List.getElem_cons_succ]))
    (refine wpAnyH_take (i := 4) (v := ?_) rfl (by kernel_rfl) (by kernel_rfl) (by kernel_rfl) (fun _ _ _ h => h) (Or.inl ⟨by rfl, ?_⟩) hHeld ?_; rotate_left; (focus (intro w hSw; (try dsimp only at hSw); go_simp; ((have hb := hSw.blk HX.out HNot.out); (have x0 := hb.cell (j := 3) rfl); go_simp; try with_reducible rfl))); (try simp only [Act.put, List.setIfInBounds_toArray, List.set_cons_zero, List.set_cons_succ, List.getElem_toArray, List.getElem_cons_zero, List.getElem_cons_succ]))
    (refine wpAnyH_take (i := 7) (v := ?_) rfl (by kernel_rfl) (by kernel_rfl) (by kernel_rfl) (fun _ _ _ h => h) (Or.inl ⟨by rfl, ?_⟩) hHeld ?_; rotate_left; (focus (intro w hSw; (try dsimp only at hSw); go_simp; try with_reducible rfl)); (try simp only [Act.put, List.setIfInBounds_toArray, List.set_cons_zero, List.set_cons_succ, List.getElem_toArray, List.getElem_cons_zero, List.getElem_cons_succ])); (refine wpAnyH_take (i := 8) (v := ?_) rfl (by kernel_rfl) (by kernel_rfl) (by kernel_rfl) (fun _ _ _ h => h) (Or.inl ⟨by rfl, ?_⟩) hHeld ?_; rotate_left; (focus (intro w hSw; (try dsimp only at hSw); go_simp; try with_reducible rfl)); (try simp only [Act.put, List.setIfInBounds_toArray, List.set_cons_zero, List.set_cons_succ, List.getElem_toArray, List.getElem_cons_zero, List.getElem_cons_succ]))
    (refine wpAnyH_take (i := 9) (v := ?_) rfl (by kernel_rfl) (by kernel_rfl) (by kernel_rfl) (fun _ _ _ h => h) (Or.inl ⟨by rfl, ?_⟩) hHeld ?_; rotate_left; (focus (intro w hSw; (try dsimp only at hSw); go_simp; ((have hb := hSw.blk HX.out HNot.out); (have x0 := hb.cell (j := 1) rfl); (have x1 := hb.cell (j := 2) rfl); go_simp; try with_reducible rfl))); (try simp only [Act.put, List.setIfInBounds_toArray, List.set_cons_zero, List.set_cons_succ, List.getElem_toArray, List.getElem_cons_zero, List.getElem_cons_succ]))
    (refine wpAnyH_take (i := 10) (v := ?_) rfl (by kernel_rfl) (by kernel_rfl) (by kernel_rfl) (fun _ _ _ h => h) (Or.inl ⟨by rfl, ?_⟩) hHeld ?_; rotate_left; (focus (intro w hSw; (try dsimp only at hSw); go_simp; try with_reducible rfl)); (try simp only [Act.put, List.setIfInBounds_toArray, List.set_cons_zero, List.set_cons_succ, List.getElem_toArray, List.getElem_cons_zero, List.getElem_cons_succ]))
    (refine wpAnyH_take (i := 11) (v := ?_) rfl (by kernel_rfl) (by kernel_rfl) (by kernel_rfl) (fun _ _ _ h => h) (Or.inl ⟨by rfl, ?_⟩) hHeld ?_; rotate_left; (focus (intro w hSw; (try dsimp only at hSw); go_simp; ((have hb := hSw.blk HX.out HNot.out); (have x0 := hb.cell (j := 3) rfl); go_simp; try with_reducible rfl))); (try simp only [Act.put, List.setIfInBounds_toArray, List.set_cons_zero, List.set_cons_succ, List.getElem_toArray, List.getElem_cons_zero, List.getElem_cons_succ]))
    (refine wpAnyH_ready (rs := [5]) (by kernel_rfl) (by simp) ?_; refine AllReadyH.cons rfl (fun K hK => ?_) AllReadyH.nil; go_simp; (refine (insertL HB2.out.tr HP.out x hs).mono ?_; rintro e w3 ⟨rfl, ht3, hc3⟩); refine hK.out _ _ ?_ (fun hHeldN => ?_); (focus ((try dsimp only); (exact hHeld.trans (hc3.mono (by simp))))); clear hK K hHeld; have hHeld := hHeldN; clear hHeldN; (try simp only [Act.put, List.setIfInBounds_toArray, List.set_cons_zero, List.set_cons_succ, List.getElem_toArray, List.getElem_cons_zero, List.getElem_cons_succ]))
    have HT3 := Lib.hid ht3
    have HS3 := Lib.hid (Nat.le_trans HB1.out.size hHeld.size)
    have HR3 := Lib.hid (HB2.out.half hc3)
    clear ht3 hc3
    (refine wpAnyH_ready (rs := [6]) (by kernel_rfl) (by simp) ?_; refine AllReadyH.cons rfl (fun K hK => ?_) AllReadyH.nil; go_simp; (refine (numT _ _).mono ?_; rintro e w4 ⟨rfl, rfl⟩); refine hK.out _ _ ?_ (fun hHeldN => ?_); (focus ((try dsimp only); (exact hHeld))); clear hK K hHeld; have hHeld := hHeldN; clear hHeldN; (try simp only [Act.put, List.setIfInBounds_toArray, List.set_cons_zero, List.set_cons_succ, List.getElem_toArray, List.getElem_cons_zero, List.getElem_cons_succ]))
    (refine wpAnyH_ready (rs := [12]) (by kernel_rfl) (by simp) ?_; refine AllReadyH.cons rfl (fun K hK => ?_) AllReadyH.nil; go_simp; (refine (insertR HR3.out hL HP.out x).mono ?_; rintro e w5 ⟨rfl, v5, hr5, hc5, hf5⟩); refine hK.out _ _ ?_ (fun hHeldN => ?_); (focus ((try dsimp only); (exact hHeld.trans (hc5.mono (fun b hb => List.mem_cons_of_mem _ hb))))); clear hK K hHeld; have hHeld := hHeldN; clear hHeldN; (try simp only [Act.put, List.setIfInBounds_toArray, List.set_cons_zero, List.set_cons_succ, List.getElem_toArray, List.getElem_cons_zero, List.getElem_cons_succ]))
    have HT5 := Lib.hid (HT3.out.over HR3.out HB2.out.ne hc5)
    have HR5 : Hid (RT q v5 lim (insT lim p x T).el w5) := by rw [insT_el HP.out x hinv.out]; exact hr5
    have HF5 := Lib.hid hf5
    clear hr5 hc5 hf5
    (refine wpAnyH_take (i := 13) (v := ?_) rfl (by kernel_rfl) (by kernel_rfl) (by kernel_rfl) (fun _ _ _ h => h) (Or.inl ⟨by rfl, ?_⟩) hHeld ?_; rotate_left; (focus (intro w hSw; (try dsimp only at hSw); go_simp; try with_reducible rfl)); (try simp only [Act.put, List.setIfInBounds_toArray, List.set_cons_zero, List.set_cons_succ, List.getElem_toArray, List.getElem_cons_zero, List.getElem_cons_succ])); (refine wpAnyH_take (i := 14) (v := ?_) rfl (by kernel_rfl) (by kernel_rfl) (by kernel_rfl) (fun _ _ _ h => h) (Or.inl ⟨by rfl, ?_⟩) hHeld ?_; rotate_left; (focus (intro w hSw; (try dsimp only at hSw); go_simp; try with_reducible rfl)); (try simp only [Act.put, List.setIfInBounds_toArray, List.set_cons_zero, List.set_cons_succ, List.getElem_toArray, List.getElem_cons_zero, List.getElem_cons_succ]))
    refine wpAnyH_done (by kernel_rfl) ?_ _
    have HH := Lib.hid hHeld
    clear hHeld
    go_wp2_with fail
    go_ret
    exact ⟨rfl, v5, ⟨HT5.out, HR5.out⟩, (Chg.of_below _ HB1.out).trans HH.out, HF5.out.mono HS3.out⟩
end Go.Proofs.Ytbfkjdnopiadjaa

namespace Go.Proofs.Ytbfkjdnopiadjaa
open Go.RowKit
attribute [local go_sem ↓] Go.wp_at_zero Go.wp_at_succ
open Tp (Pf Ok)

theorem prefLaw : WideMaps.KeyLaw Try.prog 37 := deep_law (m := 3) (by omega) (by kernel_rfl) (by kernel_rfl) (by kernel_rfl)
/-- A prefix as a key may be. -/
structure Ky (p : Pf) : Prop where
  a0 : 0 ≤ p.1
  a1 : p.1 < 4294967296
  n0 : -9223372036854775808 ≤ p.2
  n1 : p.2 ≤ 9223372036854775807
theorem key_pv {p : Pf} (h : Ky p) : ∃ l, keyOf Try.prog 37 (pv p) = some l := by
  obtain ⟨h0, h1, h2, h3⟩ := h
  have hf : (Try.prog.keyType 37 && (pv p).formed Try.prog 37) = true := by kernel_rfl
  have e0 : IntKind.u32.min = 0 := rfl
  have e1 : IntKind.u32.max = 4294967295 := rfl
  have e2 : IntKind.i64.min = -9223372036854775808 := rfl
  have e3 : IntKind.i64.max = 9223372036854775807 := rfl
  have w0 : (Lit.int .u32 p.1).wf = true := by
    show (decide (IntKind.u32.min ≤ p.1) && decide (p.1 ≤ IntKind.u32.max)) = true
    rw [e0, e1]; simp; omega
  have w1 : (Lit.int .i64 p.2).wf = true := by
    show (decide (IntKind.i64.min ≤ p.2) && decide (p.2 ≤ IntKind.i64.max)) = true
    rw [e2, e3]; simp; omega
  have k0 : ∀ d, Try.prog.keyLits (d + 1) 35 [.int .u32 p.1] = some [.int .u32 p.1] := by
    intro d
    unfold Program.keyLits
    rw [Try.underlying35]
    simp [w0]
  have k1 : ∀ d, Try.prog.keyLits (d + 1) 3 [.int .i64 p.2] = some [.int .i64 p.2] := by
    intro d
    unfold Program.keyLits
    rw [Try.underlying3]
    simp [w1]
  have c0 : Try.prog.cellsOf 37 = 2 := by kernel_rfl
  have c1 : Try.prog.cellsOf 35 = 1 := by kernel_rfl
  have c2 : Try.prog.cellsOf 3 = 1 := by kernel_rfl
  obtain ⟨m, hm⟩ : ∃ m, Try.prog.types.size = m + 1 := ⟨_, rfl⟩
  unfold keyOf
  rw [Try.underlying37]
  simp only [hf, if_true, hm]
  unfold Program.keyLits
  rw [Try.underlying37]
  simp [pv, Value.cells, c0, c1, c2, k0, k1]
theorem pv_inj {p q : Pf} (h : pv p = pv q) : p = q := by
  unfold pv at h
  simp at h
  exact Prod.ext h.1 h.2

/-- A map's block holds these, in some order of its own: that in which they came. -/
structure MAt (g : Nat) (S : List (Pf × Value)) (w : World) : Prop where
  ex : ∃ es clock, w.heap[g]? = some (.map es clock) ∧ es.toList.map (fun e => (e.key, e.val)) = S.map (fun x => (pv x.1, x.2))
  ok : ∀ x ∈ S, Ky x.1
  nd : (S.map Prod.fst).Nodup
theorem MAt.lt {g : Nat} {S : List (Pf × Value)} {w : World} (h : MAt g S w) : g < w.heap.size := by obtain ⟨es, c, hb, _⟩ := h.ex; exact (Array.getElem?_eq_some_iff.1 hb).1
theorem MAt.new (w : World) : MAt w.heap.size [] (w.alloc (.map #[] 0)) := ⟨⟨#[], 0, World.alloc_heap_new w _, rfl⟩, by simp, by simp⟩
theorem MAt.chg {g : Nat} {S : List (Pf × Value)} {w w' : World} (h : MAt g S w) {l : List Nat} (hm : Chg l w w') (hg : g ∉ l) : MAt g S w' := by
  obtain ⟨es, c, hb, e⟩ := h.ex
  exact ⟨⟨es, c, hm.heap hb hg, e⟩, h.ok, h.nd⟩
theorem MAt.later {g : Nat} {S : List (Pf × Value)} {w w' : World} (h : MAt g S w) (hb : Below w.heap.size w w') : MAt g S w' := h.chg (Chg.of_below [] hb) (by simp)
def lookM (S : List (Pf × Value)) (p : Pf) : Option Value := (S.find? fun x => decide (x.1 = p)).map Prod.snd
def putM (S : List (Pf × Value)) (p : Pf) (v : Value) : List (Pf × Value) := if p ∈ S.map Prod.fst then S.map (fun x => if x.1 = p then (p, v) else x) else S ++ [(p, v)]
def delM (S : List (Pf × Value)) (p : Pf) : List (Pf × Value) := S.filter fun x => decide (x.1 ≠ p)

theorem chg_map (w : World) (g : Nat) (o : Obj) : Chg [g] w { w with heap := w.heap.setIfInBounds g o } :=
  ⟨⟨rfl, rfl, rfl, by simp, fun b hb => by omega⟩, fun b _ hb => by
    have : g ≠ b := fun e => hb (by simp [e])
    show (w.heap.setIfInBounds g o)[b]? = _
    simp [this]⟩
theorem MAt.at {g : Nat} {S : List (Pf × Value)} {w : World} {es : Array MapEntry} (e : es.toList.map (fun e => (e.key, e.val)) = S.map (fun x => (pv x.1, x.2))) (k : Nat) : (es.toList[k]?).map (fun e => (e.key, e.val)) = (S[k]?).map (fun x => (pv x.1, x.2)) := by
  have := congrArg (fun l => l[k]?) e
  simpa only [List.getElem?_map] using this
/-- What a look at a key finds. -/
theorem MAt.find {g : Nat} {S : List (Pf × Value)} {w : World} (h : MAt g S w) {es : Array MapEntry} (e : es.toList.map (fun e => (e.key, e.val)) = S.map (fun x => (pv x.1, x.2))) {p : Pf} (hp : Ky p) (W : World) :
    ((Instr.findKey 37 (pv p) es.toList).run Try.prog W = .ok none W ∧ p ∉ S.map Prod.fst) ∨
    ∃ j v e0, (Instr.findKey 37 (pv p) es.toList).run Try.prog W = .ok (some (j, v)) W ∧ es.toList[j]? = some e0 ∧ e0.key = pv p ∧ e0.val = v ∧ S[j]? = some (p, v) := by
  obtain ⟨l, hl⟩ := key_pv hp
  have hall : ∀ x ∈ es.toList, ∃ l, keyOf Try.prog 37 x.key = some l := by
    intro x hx
    have : (x.key, x.val) ∈ S.map (fun x => (pv x.1, x.2)) := by rw [← e]; exact List.mem_map.2 ⟨x, hx, rfl⟩
    obtain ⟨y, hy, hxy⟩ := List.mem_map.1 this
    obtain ⟨l, hl⟩ := key_pv (h.ok y hy)
    exact ⟨l, by rw [← (Prod.mk.inj hxy).1]; exact hl⟩
  rcases prefLaw.find W hl es.toList hall with ⟨h1, h2⟩ | ⟨j, e0, h1, h2, h3⟩
  · refine .inl ⟨h1, fun hm => ?_⟩
    obtain ⟨x, hx, rfl⟩ := List.mem_map.1 hm
    have : (pv x.1, x.2) ∈ es.toList.map (fun e => (e.key, e.val)) := by rw [e]; exact List.mem_map.2 ⟨x, hx, rfl⟩
    obtain ⟨y, hy, hxy⟩ := List.mem_map.1 this
    exact h2 y hy (Prod.mk.inj hxy).1
  · refine .inr ⟨j, e0.val, e0, h1, h2, h3, rfl, ?_⟩
    have := MAt.at (g := g) (w := w) e j
    rw [h2] at this
    cases hs : S[j]? with
    | none => rw [hs] at this; cases this
    | some x =>
      rw [hs] at this
      simp only [Option.map_some, Option.some.injEq, Prod.mk.injEq] at this
      have e1 : x.1 = p := pv_inj (this.1.symm.trans h3)
      rw [← e1, this.2]
theorem nd_at {S : List (Pf × Value)} (h : (S.map Prod.fst).Nodup) {i j : Nat} {x y : Pf × Value} (hi : S[i]? = some x) (hj : S[j]? = some y) (e : x.1 = y.1) : i = j := by
  have a : (S.map Prod.fst)[i]? = some x.1 := by rw [List.getElem?_map, hi]; rfl
  have b : (S.map Prod.fst)[j]? = some x.1 := by rw [List.getElem?_map, hj, e]; rfl
  obtain ⟨hi', ha⟩ := List.getElem?_eq_some_iff.1 a
  obtain ⟨hj', hb⟩ := List.getElem?_eq_some_iff.1 b
  exact (List.getElem_inj h).1 (ha.trans hb.symm)
theorem lookM_at {S : List (Pf × Value)} (h : (S.map Prod.fst).Nodup) {j : Nat} {p : Pf} {v : Value} (hj : S[j]? = some (p, v)) : lookM S p = some v := by
  unfold lookM
  cases hf : S.find? (fun x => decide (x.1 = p)) with
  | none =>
    have := List.find?_eq_none.1 hf (p, v) (List.mem_of_getElem? hj)
    simp at this
  | some x =>
    have h1 := List.find?_some hf
    have h2 := List.mem_of_find?_eq_some hf
    obtain ⟨i, hi⟩ := List.getElem?_of_mem h2
    have e : x.1 = p := of_decide_eq_true h1
    have := nd_at h hi hj e
    subst this
    rw [hi] at hj
    simp at hj
    subst hj
    rfl
theorem lookM_no {S : List (Pf × Value)} {p : Pf} (h : p ∉ S.map Prod.fst) : lookM S p = none := by
  unfold lookM
  rw [List.find?_eq_none.2]
  · rfl
  · intro x hx
    simp
    rintro rfl
    exact h (List.mem_map.2 ⟨x, hx, rfl⟩)

theorem run_lookM {mt e : TypeId} (hm : Try.prog.underlying mt = some (.map 37 e)) {z : Value} (hz : ∀ w, (zeroValue e).run Try.prog w = .ok z w) {g : Nat} {S : List (Pf × Value)} {w : World} (h : MAt g S w) {p : Pf} (hp : Ky p) (c : Bool) :
    (Instr.lookup mt (.map (some g)) (pv p) c).run Try.prog w = .ok (if c then .tuple #[(lookM S p).getD z, .bool (lookM S p).isSome] else (lookM S p).getD z) w := by
  obtain ⟨es, clock, hb, e⟩ := h.ex
  obtain ⟨l, hl⟩ := key_pv hp
  have hc := prefLaw.check w es.isEmpty hl
  rcases h.find e hp w with ⟨h1, h2⟩ | ⟨j, v, e0, h1, h2, h3, h4, h5⟩
  · rw [lookM_no h2]
    simp [Instr.lookup, run_underlying hm, MapKept.run_getObj_map hb, hc, h1, hz w, Result.andThen]
  · rw [lookM_at h.nd h5]
    simp [Instr.lookup, run_underlying hm, MapKept.run_getObj_map hb, hc, h1, Result.andThen]

theorem run_updM {mt e : TypeId} (hm : Try.prog.underlying mt = some (.map 37 e)) {g : Nat} {S : List (Pf × Value)} {w : World} (h : MAt g S w) {p : Pf} (hp : Ky p) (v : Value) :
    ∃ w', (Instr.mapUpdate mt (.map (some g)) (pv p) v).run Try.prog w = .ok () w' ∧ MAt g (putM S p v) w' ∧ Chg [g] w w' := by
  obtain ⟨es, clock, hb, e⟩ := h.ex
  obtain ⟨l, hl⟩ := key_pv hp
  have hc := prefLaw.check w false hl
  rcases h.find e hp w with ⟨h1, h2⟩ | ⟨j, v0, e0, h1, h2, h3, h4, h5⟩
  · refine ⟨{ w with heap := w.heap.setIfInBounds g (.map (es.push { key := pv p, val := v, born := clock }) (clock + 1)) }, ?_, ⟨⟨_, _, (MapKept.heap_set hb).1, ?_⟩, ?_, ?_⟩, chg_map w g _⟩
    · simp [Instr.mapUpdate, run_underlying hm, MapKept.run_getObj_map hb, hc, h1, MapKept.run_setObj_map _ hb, Result.andThen]
    · unfold putM
      rw [if_neg h2, Array.toList_push, List.map_append, List.map_append, e]; rfl
    · unfold putM
      rw [if_neg h2]
      intro x hx
      rcases List.mem_append.1 hx with hx | hx
      · exact h.ok x hx
      · rw [List.mem_singleton.1 hx]; exact hp
    · unfold putM
      rw [if_neg h2, List.map_append, List.nodup_append]
      exact ⟨h.nd, by simp, fun a ha b hb' => by simp at hb'; subst hb'; exact fun e => h2 (e ▸ ha)⟩
  · have hmem : p ∈ S.map Prod.fst := List.mem_map.2 ⟨_, List.mem_of_getElem? h5, rfl⟩
    have hst := prefLaw.stays w hl
    have hes : es[j]? = some e0 := by simpa using h2
    refine ⟨{ w with heap := w.heap.setIfInBounds g (.map (es.modify j fun e => { e with key := pv p, val := v }) clock) }, ?_, ⟨⟨_, _, (MapKept.heap_set hb).1, ?_⟩, ?_, ?_⟩, chg_map w g _⟩
    · simp [Instr.mapUpdate, run_underlying hm, MapKept.run_getObj_map hb, hc, h1, hes, h3, hst, MapKept.run_setObj_map _ hb, Result.andThen]
    · unfold putM
      rw [if_pos hmem]
      apply List.ext_getElem?
      intro k
      have hk := MAt.at (g := g) (w := w) e k
      rw [List.getElem?_map, List.getElem?_map, List.getElem?_map, Array.toList_modify, List.getElem?_modify]
      cases hs : S[k]? with
      | none =>
        rw [hs] at hk
        cases he : es.toList[k]? with
        | none => rfl
        | some y => rw [he] at hk; cases hk
      | some x =>
        rw [hs] at hk
        cases he : es.toList[k]? with
        | none => rw [he] at hk; cases hk
        | some y =>
          rw [he] at hk
          simp only [Option.map_some, Option.some.injEq, Prod.mk.injEq] at hk
          by_cases hjk : j = k
          · subst hjk
            rw [hs] at h5
            simp only [Option.some.injEq] at h5
            subst h5
            simp
          · have hne : x.1 ≠ p := fun ex => hjk (nd_at h.nd h5 hs ex.symm)
            simp [hjk, hne, hk.1, hk.2]
    · unfold putM
      rw [if_pos hmem]
      intro x hx
      obtain ⟨y, hy, rfl⟩ := List.mem_map.1 hx
      split
      · exact hp
      · exact h.ok y hy
    · unfold putM
      rw [if_pos hmem, List.map_map]
      have : (Prod.fst ∘ fun x : Pf × Value => if x.1 = p then (p, v) else x) = Prod.fst := by
        funext x
        simp only [Function.comp]
        split
        · rename_i hx; exact hx.symm
        · rfl
      rw [this]; exact h.nd
theorem map_erase {α β : Type} (f : α → β) (l : List α) (i : Nat) : (l.map f).eraseIdx i = (l.eraseIdx i).map f := by
  simp [List.eraseIdx_eq_take_drop_succ, List.map_take, List.map_drop]
theorem run_delM {mt e : TypeId} (hm : Try.prog.underlying mt = some (.map 37 e)) {g : Nat} {S : List (Pf × Value)} {w : World} (h : MAt g S w) {p : Pf} (hp : Ky p) :
    ∃ w', (∀ ty, (Builtin.delete_ #[mt, 37] ty #[.map (some g), pv p]).run Try.prog w = .ok (.tuple #[]) w') ∧ MAt g (delM S p) w' ∧ Chg [g] w w' := by
  obtain ⟨es, clock, hb, e⟩ := h.ex
  obtain ⟨l, hl⟩ := key_pv hp
  have hc := prefLaw.check w es.isEmpty hl
  rcases h.find e hp w with ⟨h1, h2⟩ | ⟨j, v0, e0, h1, h2, h3, h4, h5⟩
  · have ed : delM S p = S := List.filter_eq_self.2 fun x hx => decide_eq_true fun ex => h2 (List.mem_map.2 ⟨x, hx, ex⟩)
    refine ⟨{ w with heap := w.heap.setIfInBounds g (.map es clock) }, fun ty => ?_, ⟨⟨_, _, (MapKept.heap_set hb).1, by rw [ed]; exact e⟩, by rw [ed]; exact h.ok, by rw [ed]; exact h.nd⟩, chg_map w g _⟩
    simp [Builtin.delete_, run_underlying hm, MapKept.run_getObj_map hb, hc, h1, MapKept.run_setObj_map _ hb, Result.andThen]
  · have ed : delM S p = S.eraseIdx j := by
      unfold delM
      have hlt := (List.getElem?_eq_some_iff.1 h5).1
      have ex := (List.getElem?_eq_some_iff.1 h5).2
      rw [List.eraseIdx_eq_take_drop_succ]
      have hsp : S = S.take j ++ (p, v0) :: S.drop (j + 1) := by
        rw [← ex, List.getElem_cons_drop, List.take_append_drop]
      conv => lhs; rw [hsp]
      rw [List.filter_append, List.filter_cons_of_neg (by simp)]
      congr 1
      · refine List.filter_eq_self.2 fun x hx => decide_eq_true fun ex => ?_
        obtain ⟨i, hi⟩ := List.getElem?_of_mem hx
        rw [List.getElem?_take] at hi
        split at hi
        · rename_i hij
          have := nd_at h.nd hi h5 ex
          omega
        · cases hi
      · refine List.filter_eq_self.2 fun x hx => decide_eq_true fun ex => ?_
        obtain ⟨i, hi⟩ := List.getElem?_of_mem hx
        rw [List.getElem?_drop] at hi
        have := nd_at h.nd hi h5 ex
        omega
    refine ⟨{ w with heap := w.heap.setIfInBounds g (.map (es.eraseIdxIfInBounds j) clock) }, fun ty => ?_, ⟨⟨_, _, (MapKept.heap_set hb).1, ?_⟩, ?_, ?_⟩, chg_map w g _⟩
    · simp [Builtin.delete_, run_underlying hm, MapKept.run_getObj_map hb, hc, h1, MapKept.run_setObj_map _ hb, Result.andThen]
    · rw [ed, Array.toList_eraseIdxIfInBounds, ← map_erase, e, map_erase]
    · rw [ed]; exact fun x hx => h.ok x (List.mem_of_mem_eraseIdx hx)
    · unfold delM; exact h.nd.sublist (List.filter_sublist.map _)
theorem run_lenM {mt e : TypeId} (hm : Try.prog.underlying mt = some (.map 37 e)) {g : Nat} {S : List (Pf × Value)} {w : World} (h : MAt g S w) (ty : TypeId) :
    (Builtin.len_ #[mt] ty #[.map (some g)]).run Try.prog w = .ok (.int .i64 (S.length : Nat)) w := by
  obtain ⟨es, clock, hb, e⟩ := h.ex
  have hl : es.size = S.length := by have := congrArg List.length e; simpa using this
  rw [← hl]
  simp [Builtin.len_, run_underlying hm, MapKept.run_getObj_map hb, goInt]
end Go.Proofs.Ytbfkjdnopiadjaa

namespace Go.Proofs.Ytbfkjdnopiadjaa
open Go.RowKit
attribute [local go_sem ↓] Go.wp_at_zero Go.wp_at_succ
attribute [local go_sem ↓ high] eqP neP
open Tp (Pf Ok En)

theorem in_p {p : Pf} (hp : Ok p) {k : Nat} (hk : k ≤ 32) : Wp.inB (Wp.fst p.1 k) k p.1 p.2 = decide ((k : Int) ≤ p.2) := by
  unfold Wp.inB
  rw [Tp.fst_may (by omega) (by omega), hp.may]
  simp
theorem in_q {p q : Pf} (hq : Ok q) {k : Nat} (hk : k ≤ 32) : Wp.inB (Wp.fst p.1 k) k q.1 q.2 = (decide ((k : Int) ≤ q.2) && decide (Wp.fst q.1 k = Wp.fst p.1 k)) := by
  unfold Wp.inB
  rw [Tp.fst_may (by omega) (by omega), hq.may]
  simp
theorem shr_iff {p q : Pf} {k : Nat} : Tp.shr p q k ↔ (decide ((k : Int) ≤ p.2) && (decide ((k : Int) ≤ q.2) && decide (Wp.fst q.1 k = Wp.fst p.1 k))) = true := by
  unfold Tp.shr
  simp only [Bool.and_eq_true, decide_eq_true_eq]
  exact ⟨fun ⟨a, b, c⟩ => ⟨a, b, c.symm⟩, fun ⟨a, b, c⟩ => ⟨a, b, c.symm⟩⟩

theorem fst_ge {a n : Int} (h : 0 ≤ a) : 0 ≤ Wp.fst a n := by unfold Wp.fst; exact Int.mul_nonneg (Int.ediv_nonneg h (Int.le_of_lt (Int.pow_pos (by decide)))) (Int.le_of_lt (Int.pow_pos (by decide)))
theorem comF_pos (p q : Pf) {k : Nat} (hk : 0 < k) : Tp.comF p q k = if Tp.shr p q k then (Wp.fst p.1 k, (k : Int)) else Tp.comF p q (k - 1) := by
  cases k with
  | zero => omega
  | succ k => rfl

set_option maxHeartbeats 4000000 in
set_option maxRecDepth 100000 in
theorem commonR {p q : Pf} (hp : Ok p) (hq : Ok q) (w : World) :
    Calls Try.prog 51 #[.agg #[.int .u32 p.1, .int .i64 p.2], .agg #[.int .u32 q.1, .int .i64 q.2]] w fun e w' => e = .returned (pv (Tp.com p q)) ∧ Below w.heap.size w w' := by
  have HP := Lib.hid hp
  have HQ := Lib.hid hq
  go_enter Try.func51, Try.ntmps51
  go_wp2_with fail
  have hX := BlkAt.new w (t := 37) [.int .u32 p.1, .int .i64 p.2]
  have hY := BlkAt.new (w.alloc (.cells #[.int .u32 p.1, .int .i64 p.2] 37)) (t := 37) [.int .u32 q.1, .int .i64 q.2]
  have hZ := BlkAt.new ((w.alloc (.cells #[.int .u32 p.1, .int .i64 p.2] 37)).alloc (.cells #[.int .u32 q.1, .int .i64 q.2] 37)) (t := 37) [.int .u32 0, .int .i64 0]
  rw [World.size_alloc] at hY
  rw [World.size_alloc, World.size_alloc] at hZ
  have hB := below_of (below_of (ba1 w (.cells #[.int .u32 p.1, .int .i64 p.2] 37)) (ba1 _ (.cells #[.int .u32 q.1, .int .i64 q.2] 37))) (ba1 _ (.cells #[.int .u32 0, .int .i64 0] 37))
  have hY2 := hY.later (ba1 _ (.cells #[.int .u32 0, .int .i64 0] 37))
  have hX2 := (hX.later (ba1 _ (.cells #[.int .u32 q.1, .int .i64 q.2] 37))).later (ba1 _ (.cells #[.int .u32 0, .int .i64 0] 37))
  clear hX hY
  obtain ⟨W, hW⟩ : ∃ W, W = ((w.alloc (.cells #[.int .u32 p.1, .int .i64 p.2] 37)).alloc (.cells #[.int .u32 q.1, .int .i64 q.2] 37)).alloc (.cells #[.int .u32 0, .int .i64 0] 37) := ⟨_, rfl⟩
  have HX : Hid (BlkAt 37 w.heap.size [.int .u32 p.1, .int .i64 p.2] W) := by rw [hW]; exact hX2
  have HY : Hid (BlkAt 37 (w.heap.size + 1) [.int .u32 q.1, .int .i64 q.2] W) := by rw [hW]; exact hY2
  have HZ : Hid (BlkAt 37 (w.heap.size + 1 + 1) [.int .u32 0, .int .i64 0] W) := by rw [hW]; exact hZ
  have HB : Hid (Below w.heap.size w W) := by rw [hW]; exact hB
  rw [← hW]
  clear hX2 hY2 hZ hB hW hp hq
  go_loopw [5] (fun x wr => ∃ k : Nat, k ≤ 32 ∧ x = .int .i64 k ∧ Hid (Below W.heap.size W wr) ∧ Hid (Tp.com p q = Tp.comF p q k)) (fun x _ => (intOf x).toNat)
  case atStart => exact ⟨32, Nat.le_refl _, rfl, Below.refl _ _, rfl⟩
  case round =>
    obtain ⟨k, hk, rfl, HBr, HC⟩ := hrel
    have HXr := Lib.hid (HX.out.later HBr.out)
    have HYr := Lib.hid (HY.out.later HBr.out)
    have HZr := Lib.hid (HZ.out.later HBr.out)
    have HBw := Lib.hid (below_of HB.out HBr.out)
    rcases Nat.eq_zero_or_pos k with h0 | h0
    · subst h0
      have z0 := HZr.out.cell (j := 0) rfl
      have z1 := HZr.out.cell (j := 1) rfl
      have zf0 := HZr.out.frozen 0
      have zf1 := HZr.out.frozen 1
      have hN := (HZr.out.set 0 (.int .u32 0)).set 1 (.int .i64 0)
      have HN := Lib.hid hN
      have HBn : Hid (Below w.heap.size w ((wr.setCell ⟨w.heap.size + 1 + 1, 0, none⟩ (.int .u32 0)).setCell ⟨w.heap.size + 1 + 1, 1, none⟩ (.int .i64 0))) := (HBw.out.setCell (by simp; omega) _).setCell (by simp; omega) _
      clear hN
      go_wp2_with fail
      have x0 := HN.out.cell (j := 0) rfl
      have x1 := HN.out.cell (j := 1) rfl
      refine ⟨rfl, pv (Tp.com p q), ?_, rfl, HBn.out⟩
      rw [HC.out]
      simp [results, Try.f51, go_sem, x0, x1, pv, Tp.comF]
    · have b0 := HXr.out.cell (j := 0) rfl
      have b1 := HXr.out.cell (j := 1) rfl
      have d0 := HYr.out.cell (j := 0) rfl
      have d1 := HYr.out.cell (j := 1) rfl
      have HF := Lib.hid (first_any p.1 (k : Int) wr HP.out.a0 HP.out.a1 (by omega) (by omega))
      have g0 : (0 : Int) < k := by omega
      have HI1 := Lib.hid (fun (V : World) => inR_any (Wp.fst p.1 k) k p.1 p.2 V (fst_ge HP.out.a0) (Int.lt_of_le_of_lt Wp.fst_le HP.out.a1) HP.out.a0 HP.out.a1)
      have HI2 := Lib.hid (fun (V : World) => inR_any (Wp.fst p.1 k) k q.1 q.2 V (fst_ge HP.out.a0) (Int.lt_of_le_of_lt Wp.fst_le HP.out.a1) HQ.out.a0 HQ.out.a1)
      rw [in_p HP.out hk] at HI1
      rw [in_q HQ.out hk] at HI2
      have HS := Lib.hid (@shr_iff p q k)
      have HC2 : Hid (Tp.com p q = if Tp.shr p q k then (Wp.fst p.1 k, (k : Int)) else Tp.comF p q (k - 1)) := by rw [← comF_pos p q h0]; exact HC.out
      obtain ⟨f, hf⟩ : ∃ f, f = Wp.fst p.1 k := ⟨_, rfl⟩
      rw [← hf] at HF HI1 HI2 HS HC2
      have hC := BlkAt.new wr (t := 37) [.int .u32 f, .int .i64 k]
      have hBc := ba1 wr (.cells #[.int .u32 f, .int .i64 k] 37)
      have HCc := Lib.hid hC
      have HBc := Lib.hid hBc
      have HX2 := Lib.hid (HXr.out.later hBc)
      have HY2 := Lib.hid (HYr.out.later hBc)
      have HBk := Lib.hid (below_of HBr.out hBc)
      clear hC hBc hf
      go_wp2_with fail
      refine HF.out.mono ?_
      rintro e w1 ⟨rfl, rfl⟩
      have x0 := HX2.out.cell (j := 0) rfl
      have x1 := HX2.out.cell (j := 1) rfl
      have y0 := HCc.out.cell (j := 0) rfl
      have y1 := HCc.out.cell (j := 1) rfl
      clear b0 b1 d0 d1 HF
      go_wp2_with fail
      obtain ⟨V, hV⟩ : ∃ V, V = wr.alloc (.cells #[.int .u32 f, .int .i64 k] 37) := ⟨_, rfl⟩
      have eV : wr.alloc (.cells [.int .u32 f, .int .i64 k].toArray 37) = V := hV.symm
      rw [eV] at HCc
      rw [← hV] at HBc HX2 HY2 HBk ⊢
      clear x0 x1 y0 y1 eV hV
      refine (HI1.out V).mono ?_
      rintro e w2 ⟨rfl, hb2⟩
      have HC3 := Lib.hid (HCc.out.later hb2)
      have HY3 := Lib.hid (HY2.out.later hb2)
      have HB3 := Lib.hid (below_of HBk.out hb2)
      have y0 := HC3.out.cell (j := 0) rfl
      have y1 := HC3.out.cell (j := 1) rfl
      have d0 := HY3.out.cell (j := 0) rfl
      have d1 := HY3.out.cell (j := 1) rfl
      clear hb2
      cases hd1 : decide ((k : Int) ≤ p.2) with
      | false =>
        rw [hd1] at HS
        have HN : Hid (Tp.com p q = Tp.comF p q (k - 1)) := by
          have := HC2.out
          rw [if_neg (fun h => by have := HS.out.1 h; simp at this)] at this
          exact this
        go_wp2_with fail
        go_roundw
        case rel => exact ⟨k - 1, by omega, by go_num, HB3, HN⟩
        case measure => simp [intOf]; omega
      | true =>
        rw [hd1] at HS
        go_wp2_with fail
        refine (HI2.out w2).mono ?_
        rintro e w3 ⟨rfl, hb3⟩
        have HC4 := Lib.hid (HC3.out.later hb3)
        have HB4 := Lib.hid (below_of HB3.out hb3)
        have e0 := HC4.out.cell (j := 0) rfl
        have e1 := HC4.out.cell (j := 1) rfl
        clear hb3 y0 y1 d0 d1
        cases hd2 : (decide ((k : Int) ≤ q.2) && decide (Wp.fst q.1 k = f)) with
        | false =>
          rw [hd2] at HS
          have HN : Hid (Tp.com p q = Tp.comF p q (k - 1)) := by
            have := HC2.out
            rw [if_neg (fun h => by have := HS.out.1 h; simp at this)] at this
            exact this
          go_wp2_with fail
          go_roundw
          case rel => exact ⟨k - 1, by omega, by go_num, HB4, HN⟩
          case measure => simp [intOf]; omega
        | true =>
          rw [hd2] at HS
          have HN : Hid (Tp.com p q = (f, (k : Int))) := by
            have := HC2.out
            rw [if_pos (HS.out.2 rfl)] at this
            exact this
          have HZ4 := Lib.hid (HZ.out.later HB4.out)
          have HBw4 := Lib.hid (below_of HB.out HB4.out)
          have z0 := HZ4.out.cell (j := 0) rfl
          have z1 := HZ4.out.cell (j := 1) rfl
          have zf0 := HZ4.out.frozen 0
          have zf1 := HZ4.out.frozen 1
          have hN := (HZ4.out.set 0 (.int .u32 f)).set 1 (.int .i64 k)
          have HNw := Lib.hid hN
          have HBn : Hid (Below w.heap.size w ((w3.setCell ⟨w.heap.size + 1 + 1, 0, none⟩ (.int .u32 f)).setCell ⟨w.heap.size + 1 + 1, 1, none⟩ (.int .i64 k))) := (HBw4.out.setCell (by simp; omega) _).setCell (by simp; omega) _
          clear hN
          go_wp2_with fail
          have x0 := HNw.out.cell (j := 0) rfl
          have x1 := HNw.out.cell (j := 1) rfl
          refine ⟨rfl, pv (Tp.com p q), ?_, rfl, HBn.out⟩
          rw [HN.out]
          simp [results, Try.f51, go_sem, x0, x1, pv]
end Go.Proofs.Ytbfkjdnopiadjaa
