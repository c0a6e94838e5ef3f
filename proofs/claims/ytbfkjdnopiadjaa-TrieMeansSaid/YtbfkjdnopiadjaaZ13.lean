/- Slices of acts, prefixes, addresses, opened.
   Maps whose keys are prefixes: what they hold as a list; store, look-up, delete, len.
   Both hold the same; the laws' num, ten, do: the walks. -/
import Derived.DeepKeys3
import Derived.MapKept
import Derived.Deep.Slices
import Derived.Lib.SmallJoins
import Derived.Test.YtbfkjdnopiadjaaZ01
import Derived.Test.YtbfkjdnopiadjaaZ04
import Derived.Test.YtbfkjdnopiadjaaZ05
import Derived.Test.YtbfkjdnopiadjaaZ11
import Derived.Test.YtbfkjdnopiadjaaZ12

set_option linter.unusedSimpArgs false
set_option linter.unusedVariables false
namespace Go.Proofs.Ytbfkjdnopiadjaa
open Go.RowKit
attribute [local go_sem ↓] Go.wp_at_zero Go.wp_at_succ
attribute [local go_sem ↓ high] eqP neP
open Tp (Pf Ok En Tr)

theorem numT (x : Int) (w : World) : Calls Try.prog 20 #[.int .i64 x] w fun e w' => e = .returned (.int .i64 x) ∧ w = w' := by
  go_enter Try.func20, Try.ntmps20
  go_wp2_with fail
  go_ret
  exact ⟨rfl, rfl⟩
set_option maxHeartbeats 4000000 in
theorem tenT (b n : Int) (hb : b = 0 ∨ b = 1 ∨ b = 2) (w : World) : Calls Try.prog 28 #[.int .u32 b, .int .i64 n] w fun e w' => e = .returned (pv (167772160 + b * 65536, n)) ∧ Below w.heap.size w w' := by
  rcases hb with rfl | rfl | rfl
  all_goals
    go_enter Try.func28, Try.ntmps28
    go_wp2_with fail
    refine ⟨rfl, pv _, ?_, rfl, ba1 _ _⟩
    simp [results, Try.f28, go_sem, pv]

/-- The program's trie and the document's table hold the same. -/
structure Bth (t q : Nat) (v : Value) (lim : Int) (T : Tr) (w : World) : Prop where
  tr : TSt t lim T w
  rt : RT q v lim T.el w
theorem Bth.ne {t q : Nat} {v : Value} {lim : Int} {T : Tr} {w : World} (h : Bth t q v lim T w) : t ∉ rtB q v := by
  obtain ⟨u, hb, _⟩ := h.tr.blk
  intro hm
  simp only [rtB, List.mem_cons, Option.mem_toList] at hm
  rcases hm with rfl | hm
  · exact hb.no (t' := 30) (by decide) h.rt.blk
  · obtain ⟨c, _, hc⟩ := h.rt.own.block hm
    have := hc.symm.trans (show w.heap[t]? = _ from hb)
    simp only [Option.some.injEq, Obj.cells.injEq] at this
    exact absurd this.2.1 (by decide)
theorem RT.stay {q : Nat} {v : Value} {lim : Int} {L : List En} {w w' : World} (h : RT q v lim L w) (hc : Chg (rtB q v) w w') : Stay w w' := by
  refine Stay.of_chg hc fun b hb cs hn => ?_
  simp only [rtB, List.mem_cons, Option.mem_toList] at hb
  rcases hb with rfl | hb
  · exact h.blk.no (by decide) hn
  · obtain ⟨c, _, hc⟩ := h.own.block hb
    have := hc.symm.trans (show w.heap[b]? = _ from hn)
    simp only [Option.some.injEq, Obj.cells.injEq] at this
    exact absurd this.2.1 (by decide)
theorem Bth.later {t q : Nat} {v : Value} {lim : Int} {T : Tr} {w w' : World} (h : Bth t q v lim T w) (hb : Below w.heap.size w w') : Bth t q v lim T w' := ⟨h.tr.later hb, h.rt.later hb⟩
theorem mem_rtB {q : Nat} {v : Value} {g : Nat} : g ∈ rtB q v ↔ g = q ∨ v.ownBlock = some g := by
  simp [rtB]
/-- The trie turned, the table not yet. -/
theorem Bth.half {t q : Nat} {v : Value} {lim : Int} {T : Tr} {w w' : World} (h : Bth t q v lim T w) (hc : Chg [t] w w') : RT q v lim T.el w' :=
  h.rt.chg hc (fun e => h.ne (by rw [List.mem_singleton.1 e]; exact mem_rtB.2 (.inl rfl))) (fun g hg e => h.ne (by rw [List.mem_singleton.1 e] at hg; exact mem_rtB.2 (.inr hg)))
theorem TSt.over {t q : Nat} {v : Value} {lim lim' : Int} {T : Tr} {L : List En} {w w' : World} (h : TSt t lim T w) (hr : RT q v lim' L w) (hn : t ∉ rtB q v) (hc : Chg (rtB q v) w w') : TSt t lim T w' := h.chg hc hn (hr.stay hc)

/-- An act: what it leaves. -/
structure Ac where
  del : Bool
  p : Pf
  x : Int
def Ac.val (a : Ac) : Value := .agg #[.bool a.del, .int .u32 a.p.1, .int .i64 a.p.2, .int .i64 a.x]
theorem Fresh.mono {w w' : World} {v v' : Value} (h : Fresh w' v v') (hs : w.heap.size ≤ w'.heap.size) : Fresh w v v' := by
  rcases h with h | h
  · exact .inl h
  · exact .inr fun g hg => Nat.le_trans hs (h g hg)
def Ac.tr (a : Ac) (lim : Int) (T : Tr) : Tr := if a.del then delT a.p T else insT lim a.p a.x T
theorem insT_el {lim : Int} {p : Pf} (hp : Ad p) (x : Int) {T : Tr} (h : T.Inv) : (insT lim p x T).el = insL lim p x T.el := by
  unfold insT insL
  split
  · rename_i hc
    exact Tp.ins_el (hp.ok hc.1) x T h
  · rfl
theorem delT_el {p : Pf} (hp : Ad p) {T : Tr} (h : T.Inv) : (delT p T).el = delL p T.el := by
  unfold delT delL
  split
  · rename_i hc
    exact Tp.del_el (hp.ok hc) T h
  · rfl
/-- What an act leaves, in memory. -/
def DoA (t q : Nat) (v : Value) (lim : Int) (T : Tr) (a : Ac) (w : World) (e : Ending) (w' : World) : Prop :=
  e = .returned (.bool true) ∧ ∃ v', Bth t q v' lim (a.tr lim T) w' ∧ Chg (t :: rtB q v) w w' ∧ Fresh w v v'

set_option maxHeartbeats 4000000 in
set_option maxRecDepth 100000 in
theorem doT {t q : Nat} {v : Value} {lim : Int} {T : Tr} {w : World} (h : Bth t q v lim T w) (hs : T.size ≤ 1000000) (hL : T.el.length ≤ 100000) (a : Ac) (hp : Ad a.p) :
    Calls Try.prog 13 #[.pointer (some ⟨t, 0, none⟩), .pointer (some ⟨q, 0, none⟩), a.val] w (DoA t q v lim T a w) := by
  obtain ⟨d, p, x⟩ := a
  have hbx := BlkAt.new w (t := 39) [.bool d, .int .u32 p.1, .int .i64 p.2, .int .i64 x]
  have hB1 := ba1 w (.cells #[.bool d, .int .u32 p.1, .int .i64 p.2, .int .i64 x] 39)
  have HB := Lib.hid (h.later hB1)
  have hup := Lib.hid h.tr.inv.up
  have hinv := Lib.hid h.tr.inv
  have HP := Lib.hid hp
  have hlt := h.tr.lt
  have hlq := h.rt.lt
  have hrow : ∀ g, v.ownBlock = some g → g < w.heap.size := fun g hg => by
    obtain ⟨c, _, hc⟩ := h.rt.own.block hg
    exact (Array.getElem?_eq_some_iff.1 hc).1
  have HNot : Hid (w.heap.size ∉ t :: rtB q v) := by
    intro hm
    rcases List.mem_cons.1 hm with e | hm
    · omega
    · rcases mem_rtB.1 hm with e | e
      · omega
      · have := hrow _ e; omega
  unfold DoA Ac.val Ac.tr
  simp only at HP ⊢
  cases d with
  | true =>
    simp only [if_true]
    clear h hp hlt hlq hrow
    go_enter Try.func13, Try.ntmps13
    go_wp2_with fail
    obtain ⟨W, hW⟩ : ∃ W, W = w.alloc (.cells #[.bool true, .int .u32 p.1, .int .i64 p.2, .int .i64 x] 39) := ⟨_, rfl⟩
    have eW : w.alloc (.cells [.bool true, .int .u32 p.1, .int .i64 p.2, .int .i64 x].toArray 39) = W := hW.symm
    rw [eW] at hbx
    rw [← hW] at hB1 HB ⊢
    have HX := Lib.hid hbx
    have HB1 := Lib.hid hB1
    clear hW eW hbx hB1
    (refine wp_region_held_drew (S := (fun w' => Chg (t :: rtB q v) W w')) (by kernel_rfl) ?_ (fun hHeld => ?_); (focus ((try dsimp only); (exact (Chg.refl _ _).drew))))
    obtain ⟨W2, hW2⟩ : ∃ W2, W2 = World.drew W := ⟨_, rfl⟩
    have HB2 : Hid (Bth t q v lim T W2) := by rw [hW2]; exact HB.out.later (Below.refl _ _).drew
    rw [← hW2] at hHeld ⊢
    clear hW2
    (refine wpAnyH_take (i := 0) (v := ?_) rfl (by kernel_rfl) (by kernel_rfl) (by kernel_rfl) (fun _ _ _ h => h) (Or.inl ⟨by rfl, ?_⟩) hHeld ?_; rotate_left; (focus (intro w hSw; (try dsimp only at hSw); go_simp; try with_reducible rfl)); (try simp only [Act.put, List.setIfInBounds_toArray, List.set_cons_zero, List.set_cons_succ, List.getElem_toArray, List.getElem_cons_zero])); (refine wpAnyH_take (i := 1) (v := ?_) rfl (by kernel_rfl) (by kernel_rfl) (by kernel_rfl) (fun _ _ _ h => h) (Or.inl ⟨by rfl, ?_⟩) hHeld ?_; rotate_left; (focus (intro w hSw; (try dsimp only at hSw); go_simp; try with_reducible rfl)); (try simp only [Act.put, List.setIfInBounds_toArray, List.set_cons_zero, List.set_cons_succ, List.getElem_toArray, List.getElem_cons_zero, List.getElem_cons_succ]))
    (refine wpAnyH_take (i := 2) (v := ?_) rfl (by kernel_rfl) (by kernel_rfl) (by kernel_rfl) (fun _ _ _ h => h) (Or.inl ⟨by rfl, ?_⟩) hHeld ?_; rotate_left; (focus (intro w hSw; (try dsimp only at hSw); go_simp; ((have hb := hSw.blk HX.out HNot.out); (have x0 := hb.cell (j := 1) rfl); (have x1 := hb.cell (j := 2) rfl); go_simp; try with_reducible rfl))); (try simp only [Act.put, List.setIfInBounds_toArray, List.set_cons_zero, List.set_cons_succ, List.getElem_toArray, List.getElem_cons_zero, List.getElem_cons_succ]))
    (refine wpAnyH_take (i := 5) (v := ?_) rfl (by kernel_rfl) (by kernel_rfl) (by kernel_rfl) (fun _ _ _ h => h) (Or.inl ⟨by rfl, ?_⟩) hHeld ?_; rotate_left; (focus (intro w hSw; (try dsimp only at hSw); go_simp; try with_reducible rfl)); (try simp only [Act.put, List.setIfInBounds_toArray, List.set_cons_zero, List.set_cons_succ, List.getElem_toArray, List.getElem_cons_zero, List.getElem_cons_succ])); (refine wpAnyH_take (i := 6) (v := ?_) rfl (by kernel_rfl) (by kernel_rfl) (by kernel_rfl) (fun _ _ _ h => h) (Or.inl ⟨by rfl, ?_⟩) hHeld ?_; rotate_left; (focus (intro w hSw; (try dsimp only at hSw); go_simp; try with_reducible rfl)); (try simp only [Act.put, List.setIfInBounds_toArray, List.set_cons_zero, List.set_cons_succ, List.getElem_toArray, List.getElem_cons_zero, List.getElem_cons_succ]))
    (refine wpAnyH_take (i := 7) (v := ?_) rfl (by kernel_rfl) (by kernel_rfl) (by kernel_rfl) (fun _ _ _ h => h) (Or.inl ⟨by rfl, ?_⟩) hHeld ?_; rotate_left; (focus (intro w hSw; (try dsimp only at hSw); go_simp; ((have hb := hSw.blk HX.out HNot.out); (have x0 := hb.cell (j := 1) rfl); (have x1 := hb.cell (j := 2) rfl); go_simp; try with_reducible rfl))); (try simp only [Act.put, List.setIfInBounds_toArray, List.set_cons_zero, List.set_cons_succ, List.getElem_toArray, List.getElem_cons_zero, List.getElem_cons_succ]))
    (refine wpAnyH_ready (rs := [3]) (by kernel_rfl) (by simp) ?_; refine AllReadyH.cons rfl (fun K hK => ?_) AllReadyH.nil; go_simp; (refine (deleteT HB2.out.tr HP.out hs).mono ?_; rintro e w3 ⟨rfl, ht3, hc3⟩); refine hK.out _ _ ?_ (fun hHeldN => ?_); (focus ((try dsimp only); (exact hHeld.trans (hc3.mono (by simp))))); clear hK K hHeld; have hHeld := hHeldN; clear hHeldN; (try simp only [Act.put, List.setIfInBounds_toArray, List.set_cons_zero, List.set_cons_succ, List.getElem_toArray, List.getElem_cons_zero, List.getElem_cons_succ]))
    have HT3 := Lib.hid ht3
    have HS3 := Lib.hid (Nat.le_trans HB1.out.size hHeld.size)
    have HR3 := Lib.hid (HB2.out.half hc3)
    clear ht3 hc3
    (refine wpAnyH_ready (rs := [4]) (by kernel_rfl) (by simp) ?_; refine AllReadyH.cons rfl (fun K hK => ?_) AllReadyH.nil; go_simp; (refine (numT _ _).mono ?_; rintro e w4 ⟨rfl, rfl⟩); refine hK.out _ _ ?_ (fun hHeldN => ?_); (focus ((try dsimp only); (exact hHeld))); clear hK K hHeld; have hHeld := hHeldN; clear hHeldN; (try simp only [Act.put, List.setIfInBounds_toArray, List.set_cons_zero, List.set_cons_succ, List.getElem_toArray, List.getElem_cons_zero, List.getElem_cons_succ]))
    (refine wpAnyH_ready (rs := [8]) (by kernel_rfl) (by simp) ?_; refine AllReadyH.cons rfl (fun K hK => ?_) AllReadyH.nil; go_simp; (refine (deleteR HR3.out hL hup.out HP.out).mono ?_; rintro e w5 ⟨rfl, v5, hr5, hc5, hf5⟩); refine hK.out _ _ ?_ (fun hHeldN => ?_); (focus ((try dsimp only); (exact hHeld.trans (hc5.mono (fun b hb => List.mem_cons_of_mem _ hb))))); clear hK K hHeld; have hHeld := hHeldN; clear hHeldN; (try simp only [Act.put, List.setIfInBounds_toArray, List.set_cons_zero, List.set_cons_succ, List.getElem_toArray, List.getElem_cons_zero, List.getElem_cons_succ]))
    have HT5 := Lib.hid (HT3.out.over HR3.out HB2.out.ne hc5)
    have HR5 : Hid (RT q v5 lim (delT p T).el w5) := by rw [delT_el HP.out hinv.out]; exact hr5
    have HF5 := Lib.hid hf5
    clear hr5 hc5 hf5
    (refine wpAnyH_take (i := 9) (v := ?_) rfl (by kernel_rfl) (by kernel_rfl) (by kernel_rfl) (fun _ _ _ h => h) (Or.inl ⟨by rfl, ?_⟩) hHeld ?_; rotate_left; (focus (intro w hSw; (try dsimp only at hSw); go_simp; try with_reducible rfl)); (try simp only [Act.put, List.setIfInBounds_toArray, List.set_cons_zero, List.set_cons_succ, List.getElem_toArray, List.getElem_cons_zero, List.getElem_cons_succ])); (refine wpAnyH_take (i := 10) (v := ?_) rfl (by kernel_rfl) (by kernel_rfl) (by kernel_rfl) (fun _ _ _ h => h) (Or.inl ⟨by rfl, ?_⟩) hHeld ?_; rotate_left; (focus (intro w hSw; (try dsimp only at hSw); go_simp; try with_reducible rfl)); (try simp only [Act.put, List.setIfInBounds_toArray, List.set_cons_zero, List.set_cons_succ, List.getElem_toArray, List.getElem_cons_zero, List.getElem_cons_succ]))
    refine wpAnyH_done (by kernel_rfl) ?_ _
    have HH := Lib.hid hHeld
    clear hHeld
    go_wp2_with fail
    go_ret
    exact ⟨rfl, v5, ⟨HT5.out, HR5.out⟩, (Chg.of_below _ HB1.out).trans HH.out, HF5.out.mono HS3.out⟩
  | false =>
    simp only [Bool.false_eq_true, if_false]
    clear h hp hlt hlq hrow
    go_enter Try.func13, Try.ntmps13
    go_wp2_with fail
    obtain ⟨W, hW⟩ : ∃ W, W = w.alloc (.cells #[.bool false, .int .u32 p.1, .int .i64 p.2, .int .i64 x] 39) := ⟨_, rfl⟩
    have eW : w.alloc (.cells [.bool false, .int .u32 p.1, .int .i64 p.2, .int .i64 x].toArray 39) = W := hW.symm
    rw [eW] at hbx
    rw [← hW] at hB1 HB ⊢
    have HX := Lib.hid hbx
    have HB1 := Lib.hid hB1
    clear hW eW hbx hB1
    (refine wp_region_held_drew (S := (fun w' => Chg (t :: rtB q v) W w')) (by kernel_rfl) ?_ (fun hHeld => ?_); (focus ((try dsimp only); (exact (Chg.refl _ _).drew))))
    obtain ⟨W2, hW2⟩ : ∃ W2, W2 = World.drew W := ⟨_, rfl⟩
    have HB2 : Hid (Bth t q v lim T W2) := by rw [hW2]; exact HB.out.later (Below.refl _ _).drew
    rw [← hW2] at hHeld ⊢
    clear hW2
    (refine wpAnyH_take (i := 0) (v := ?_) rfl (by kernel_rfl) (by kernel_rfl) (by kernel_rfl) (fun _ _ _ h => h) (Or.inl ⟨by rfl, ?_⟩) hHeld ?_; rotate_left; (focus (intro w hSw; (try dsimp only at hSw); go_simp; try with_reducible rfl)); (try simp only [Act.put, List.setIfInBounds_toArray, List.set_cons_zero, List.set_cons_succ, List.getElem_toArray, List.getElem_cons_zero])); (refine wpAnyH_take (i := 1) (v := ?_) rfl (by kernel_rfl) (by kernel_rfl) (by kernel_rfl) (fun _ _ _ h => h) (Or.inl ⟨by rfl, ?_⟩) hHeld ?_; rotate_left; (focus (intro w hSw; (try dsimp only at hSw); go_simp; try with_reducible rfl)); (try simp only [Act.put, List.setIfInBounds_toArray, List.set_cons_zero, List.set_cons_succ, List.getElem_toArray, List.getElem_cons_zero, List.getElem_cons_succ]))
    (refine wpAnyH_take (i := 2) (v := ?_) rfl (by kernel_rfl) (by kernel_rfl) (by kernel_rfl) (fun _ _ _ h => h) (Or.inl ⟨by rfl, ?_⟩) hHeld ?_; rotate_left; (focus (intro w hSw; (try dsimp only at hSw); go_simp; ((have hb := hSw.blk HX.out HNot.out); (have x0 := hb.cell (j := 1) rfl); (have x1 := hb.cell (j := 2) rfl); go_simp; try with_reducible rfl))); (try simp only [Act.put, List.setIfInBounds_toArray, List.set_cons_zero, List.set_cons_succ, List.getElem_toArray, List.getElem_cons_zero, List.getElem_cons_succ]))
    (refine wpAnyH_take (i := 3) (v := ?_) rfl (by kernel_rfl) (by kernel_rfl) (by kernel_rfl) (fun _ _ _ h => h) (Or.inl ⟨by rfl, ?_⟩) hHeld ?_; rotate_left; (focus (intro w hSw; (try dsimp only at hSw); go_simp; try with_reducible rfl)); (try simp only [Act.put, List.setIfInBounds_toArray, List.set_cons_zero, List.set_cons_succ, List.getElem_toArray, List.getElem_cons_zero, List.getElem_cons_succ]))
    (refine wpAnyH_take (i := 4) (v := ?_) rfl (by kernel_rfl) (by kernel_rfl) (by kernel_rfl) (fun _ _ _ h => h) (Or.inl ⟨by rfl, ?_⟩) hHeld ?_; rotate_left; (focus (intro w hSw; (try dsimp only at hSw); go_simp; ((have hb := hSw.blk HX.out HNot.out); (have x0 := hb.cell (j := 3) rfl); go_simp; try with_reducible rfl))); (try simp only [Act.put, List.setIfInBounds_toArray, List.set_cons_zero, List.set_cons_succ, List.getElem_toArray, List.getElem_cons_zero, List.getElem_cons_succ]))
    (refine wpAnyH_take (i := 7) (v := ?_) rfl (by kernel_rfl) (by kernel_rfl) (by kernel_rfl) (fun _ _ _ h => h) (Or.inl ⟨by rfl, ?_⟩) hHeld ?_; rotate_left; (focus (intro w hSw; (try dsimp only at hSw); go_simp; try with_reducible rfl)); (try simp only [Act.put, List.setIfInBounds_toArray, List.set_cons_zero, List.set_cons_succ, List.getElem_toArray, List.getElem_cons_zero, List.getElem_cons_succ])); (refine wpAnyH_take (i := 8) (v := ?_) rfl (by kernel_rfl) (by kernel_rfl) (by kernel_rfl) (fun _ _ _ h => h) (Or.inl ⟨by rfl, ?_⟩) hHeld ?_; rotate_left; (focus (intro w hSw; (try dsimp only at hSw); go_simp; try with_reducible rfl)); (try simp only [Act.put, List.setIfInBounds_toArray, List.set_cons_zero, List.set_cons_succ, List.getElem_toArray, List.getElem_cons_zero, List.getElem_cons_succ]))
    (refine wpAnyH_take (i := 9) (v := ?_) rfl (by kernel_rfl) (by kernel_rfl) (by kernel_rfl) (fun _ _ _ h => h) (Or.inl ⟨by rfl, ?_⟩) hHeld ?_; rotate_left; (focus (intro w hSw; (try dsimp only at hSw); go_simp; ((have hb := hSw.blk HX.out HNot.out); (have x0 := hb.cell (j := 1) rfl); (have x1 := hb.cell (j := 2) rfl); go_simp; try with_reducible rfl))); (try simp only [Act.put, List.setIfInBounds_toArray, List.set_cons_zero, List.set_cons_succ, List.getElem_toArray, List.getElem_cons_zero, List.getElem_cons_succ]))
    (refine wpAnyH_take (i := 10) (v := ?_) rfl (by kernel_rfl) (by kernel_rfl) (by kernel_rfl) (fun _ _ _ h => h) (Or.inl ⟨by rfl, ?_⟩) hHeld ?_; rotate_left; (focus (intro w hSw; (try dsimp only at hSw); go_simp; try with_reducible rfl)); (try simp only [Act.put, List.setIfInBounds_toArray, List.set_cons_zero, List.set_cons_succ, List.getElem_toArray, List.getElem_cons_zero, List.getElem_cons_succ]))
    (refine wpAnyH_take (i := 11) (v := ?_) rfl (by kernel_rfl) (by kernel_rfl) (by kernel_rfl) (fun _ _ _ h => h) (Or.inl ⟨by rfl, ?_⟩) hHeld ?_; rotate_left; (focus (intro w hSw; (try dsimp only at hSw); go_simp; ((have hb := hSw.blk HX.out HNot.out); (have x0 := hb.cell (j := 3) rfl); go_simp; try with_reducible rfl))); (try simp only [Act.put, List.setIfInBounds_toArray, List.set_cons_zero, List.set_cons_succ, List.getElem_toArray, List.getElem_cons_zero, List.getElem_cons_succ]))
    (refine wpAnyH_ready (rs := [5]) (by kernel_rfl) (by simp) ?_; refine AllReadyH.cons rfl (fun K hK => ?_) AllReadyH.nil; go_simp; (refine (insertT HB2.out.tr HP.out x hs).mono ?_; rintro e w3 ⟨rfl, ht3, hc3⟩); refine hK.out _ _ ?_ (fun hHeldN => ?_); (focus ((try dsimp only); (exact hHeld.trans (hc3.mono (by simp))))); clear hK K hHeld; have hHeld := hHeldN; clear hHeldN; (try simp only [Act.put, List.setIfInBounds_toArray, List.set_cons_zero, List.set_cons_succ, List.getElem_toArray, List.getElem_cons_zero, List.getElem_cons_succ]))
    have HT3 := Lib.hid ht3
    have HS3 := Lib.hid (Nat.le_trans HB1.out.size hHeld.size)
    have HR3 := Lib.hid (HB2.out.half hc3)
    clear ht3 hc3
    (refine wpAnyH_ready (rs := [6]) (by kernel_rfl) (by simp) ?_; refine AllReadyH.cons rfl (fun K hK => ?_) AllReadyH.nil; go_simp; (refine (numT _ _).mono ?_; rintro e w4 ⟨rfl, rfl⟩); refine hK.out _ _ ?_ (fun hHeldN => ?_); (focus ((try dsimp only); (exact hHeld))); clear hK K hHeld; have hHeld := hHeldN; clear hHeldN; (try simp only [Act.put, List.setIfInBounds_toArray, List.set_cons_zero, List.set_cons_succ, List.getElem_toArray, List.getElem_cons_zero, List.getElem_cons_succ]))
    (refine wpAnyH_ready (rs := [12]) (by kernel_rfl) (by simp) ?_; refine AllReadyH.cons rfl (fun K hK => ?_) AllReadyH.nil; go_simp; (refine (insertR HR3.out hL HP.out x).mono ?_; rintro e w5 ⟨rfl, v5, hr5, hc5, hf5⟩); refine hK.out _ _ ?_ (fun hHeldN => ?_); (focus ((try dsimp only); (exact hHeld.trans (hc5.mono (fun b hb => List.mem_cons_of_mem _ hb))))); clear hK K hHeld; have hHeld := hHeldN; clear hHeldN; (try simp only [Act.put, List.setIfInBounds_toArray, List.set_cons_zero, List.set_cons_succ, List.getElem_toArray, List.getElem_cons_zero, List.getElem_cons_succ]))
    have HT5 := Lib.hid (HT3.out.over HR3.out HB2.out.ne hc5)
    have HR5 : Hid (RT q v5 lim (insT lim p x T).el w5) := by rw [insT_el HP.out x hinv.out]; exact hr5
    have HF5 := Lib.hid hf5
    clear hr5 hc5 hf5
    (refine wpAnyH_take (i := 13) (v := ?_) rfl (by kernel_rfl) (by kernel_rfl) (by kernel_rfl) (fun _ _ _ h => h) (Or.inl ⟨by rfl, ?_⟩) hHeld ?_; rotate_left; (focus (intro w hSw; (try dsimp only at hSw); go_simp; try with_reducible rfl)); (try simp only [Act.put, List.setIfInBounds_toArray, List.set_cons_zero, List.set_cons_succ, List.getElem_toArray, List.getElem_cons_zero, List.getElem_cons_succ])); (refine wpAnyH_take (i := 14) (v := ?_) rfl (by kernel_rfl) (by kernel_rfl) (by kernel_rfl) (fun _ _ _ h => h) (Or.inl ⟨by rfl, ?_⟩) hHeld ?_; rotate_left; (focus (intro w hSw; (try dsimp only at hSw); go_simp; try with_reducible rfl)); (try simp only [Act.put, List.setIfInBounds_toArray, List.set_cons_zero, List.set_cons_succ, List.getElem_toArray, List.getElem_cons_zero, List.getElem_cons_succ]))
    refine wpAnyH_done (by kernel_rfl) ?_ _
    have HH := Lib.hid hHeld
    clear hHeld
    go_wp2_with fail
    go_ret
    exact ⟨rfl, v5, ⟨HT5.out, HR5.out⟩, (Chg.of_below _ HB1.out).trans HH.out, HF5.out.mono HS3.out⟩
end Go.Proofs.Ytbfkjdnopiadjaa

namespace Go.Proofs.Ytbfkjdnopiadjaa
open Go.RowKit
attribute [local go_sem ↓] Go.wp_at_zero Go.wp_at_succ
open Tp (Pf Ok)

theorem prefLaw : WideMaps.KeyLaw Try.prog 37 := deep_law (m := 3) (by omega) (by kernel_rfl) (by kernel_rfl) (by kernel_rfl)
/-- A prefix as a key may be. -/
structure Ky (p : Pf) : Prop where
  a0 : 0 ≤ p.1
  a1 : p.1 < 4294967296
  n0 : -9223372036854775808 ≤ p.2
  n1 : p.2 ≤ 9223372036854775807
theorem key_pv {p : Pf} (h : Ky p) : ∃ l, keyOf Try.prog 37 (pv p) = some l := by
  obtain ⟨h0, h1, h2, h3⟩ := h
  have hf : (Try.prog.keyType 37 && (pv p).formed Try.prog 37) = true := by kernel_rfl
  have e0 : IntKind.u32.min = 0 := rfl
  have e1 : IntKind.u32.max = 4294967295 := rfl
  have e2 : IntKind.i64.min = -9223372036854775808 := rfl
  have e3 : IntKind.i64.max = 9223372036854775807 := rfl
  have w0 : (Lit.int .u32 p.1).wf = true := by
    show (decide (IntKind.u32.min ≤ p.1) && decide (p.1 ≤ IntKind.u32.max)) = true
    rw [e0, e1]; simp; omega
  have w1 : (Lit.int .i64 p.2).wf = true := by
    show (decide (IntKind.i64.min ≤ p.2) && decide (p.2 ≤ IntKind.i64.max)) = true
    rw [e2, e3]; simp; omega
  have k0 : ∀ d, Try.prog.keyLits (d + 1) 35 [.int .u32 p.1] = some [.int .u32 p.1] := by
    intro d
    unfold Program.keyLits
    rw [Try.underlying35]
    simp [w0]
  have k1 : ∀ d, Try.prog.keyLits (d + 1) 3 [.int .i64 p.2] = some [.int .i64 p.2] := by
    intro d
    unfold Program.keyLits
    rw [Try.underlying3]
    simp [w1]
  have c0 : Try.prog.cellsOf 37 = 2 := by kernel_rfl
  have c1 : Try.prog.cellsOf 35 = 1 := by kernel_rfl
  have c2 : Try.prog.cellsOf 3 = 1 := by kernel_rfl
  obtain ⟨m, hm⟩ : ∃ m, Try.prog.types.size = m + 1 := ⟨_, rfl⟩
  unfold keyOf
  rw [Try.underlying37]
  simp only [hf, if_true, hm]
  unfold Program.keyLits
  rw [Try.underlying37]
  simp [pv, Value.cells, c0, c1, c2, k0, k1]
theorem pv_inj {p q : Pf} (h : pv p = pv q) : p = q := by
  unfold pv at h
  simp at h
  exact Prod.ext h.1 h.2

/-- A map's block holds these, in some order of its own: that in which they came. -/
structure MAt (g : Nat) (S : List (Pf × Value)) (w : World) : Prop where
  ex : ∃ es clock, w.heap[g]? = some (.map es clock) ∧ es.toList.map (fun e => (e.key, e.val)) = S.map (fun x => (pv x.1, x.2))
  ok : ∀ x ∈ S, Ky x.1
  nd : (S.map Prod.fst).Nodup
theorem MAt.lt {g : Nat} {S : List (Pf × Value)} {w : World} (h : MAt g S w) : g < w.heap.size := by obtain ⟨es, c, hb, _⟩ := h.ex; exact (Array.getElem?_eq_some_iff.1 hb).1
theorem MAt.new (w : World) : MAt w.heap.size [] (w.alloc (.map #[] 0)) := ⟨⟨#[], 0, World.alloc_heap_new w _, rfl⟩, by simp, by simp⟩
theorem MAt.chg {g : Nat} {S : List (Pf × Value)} {w w' : World} (h : MAt g S w) {l : List Nat} (hm : Chg l w w') (hg : g ∉ l) : MAt g S w' := by
  obtain ⟨es, c, hb, e⟩ := h.ex
  exact ⟨⟨es, c, hm.heap hb hg, e⟩, h.ok, h.nd⟩
theorem MAt.later {g : Nat} {S : List (Pf × Value)} {w w' : World} (h : MAt g S w) (hb : Below w.heap.size w w') : MAt g S w' := h.chg (Chg.of_below [] hb) (by simp)
def lookM (S : List (Pf × Value)) (p : Pf) : Option Value := (S.find? fun x => decide (x.1 = p)).map Prod.snd
def putM (S : List (Pf × Value)) (p : Pf) (v : Value) : List (Pf × Value) := if p ∈ S.map Prod.fst then S.map (fun x => if x.1 = p then (p, v) else x) else S ++ [(p, v)]
def delM (S : List (Pf × Value)) (p : Pf) : List (Pf × Value) := S.filter fun x => decide (x.1 ≠ p)

theorem chg_map (w : World) (g : Nat) (o : Obj) : Chg [g] w { w with heap := w.heap.setIfInBounds g o } :=
  ⟨⟨rfl, rfl, rfl, by simp, fun b hb => by omega⟩, fun b _ hb => by
    have : g ≠ b := fun e => hb (by simp [e])
    show (w.heap.setIfInBounds g o)[b]? = _
    simp [this]⟩
theorem MAt.at {g : Nat} {S : List (Pf × Value)} {w : World} {es : Array MapEntry} (e : es.toList.map (fun e => (e.key, e.val)) = S.map (fun x => (pv x.1, x.2))) (k : Nat) : (es.toList[k]?).map (fun e => (e.key, e.val)) = (S[k]?).map (fun x => (pv x.1, x.2)) := by
  have := congrArg (fun l => l[k]?) e
  simpa only [List.getElem?_map] using this
/-- What a look at a key finds. -/
theorem MAt.find {g : Nat} {S : List (Pf × Value)} {w : World} (h : MAt g S w) {es : Array MapEntry} (e : es.toList.map (fun e => (e.key, e.val)) = S.map (fun x => (pv x.1, x.2))) {p : Pf} (hp : Ky p) (W : World) :
    ((Instr.findKey 37 (pv p) es.toList).run Try.prog W = .ok none W ∧ p ∉ S.map Prod.fst) ∨
    ∃ j v e0, (Instr.findKey 37 (pv p) es.toList).run Try.prog W = .ok (some (j, v)) W ∧ es.toList[j]? = some e0 ∧ e0.key = pv p ∧ e0.val = v ∧ S[j]? = some (p, v) := by
  obtain ⟨l, hl⟩ := key_pv hp
  have hall : ∀ x ∈ es.toList, ∃ l, keyOf Try.prog 37 x.key = some l := by
    intro x hx
    have : (x.key, x.val) ∈ S.map (fun x => (pv x.1, x.2)) := by rw [← e]; exact List.mem_map.2 ⟨x, hx, rfl⟩
    obtain ⟨y, hy, hxy⟩ := List.mem_map.1 this
    obtain ⟨l, hl⟩ := key_pv (h.ok y hy)
    exact ⟨l, by rw [← (Prod.mk.inj hxy).1]; exact hl⟩
  rcases prefLaw.find W hl es.toList hall with ⟨h1, h2⟩ | ⟨j, e0, h1, h2, h3⟩
  · refine .inl ⟨h1, fun hm => ?_⟩
    obtain ⟨x, hx, rfl⟩ := List.mem_map.1 hm
    have : (pv x.1, x.2) ∈ es.toList.map (fun e => (e.key, e.val)) := by rw [e]; exact List.mem_map.2 ⟨x, hx, rfl⟩
    obtain ⟨y, hy, hxy⟩ := List.mem_map.1 this
    exact h2 y hy (Prod.mk.inj hxy).1
  · refine .inr ⟨j, e0.val, e0, h1, h2, h3, rfl, ?_⟩
    have := MAt.at (g := g) (w := w) e j
    rw [h2] at this
    cases hs : S[j]? with
    | none => rw [hs] at this; cases this
    | some x =>
      rw [hs] at this
      simp only [Option.map_some, Option.some.injEq, Prod.mk.injEq] at this
      have e1 : x.1 = p := pv_inj (this.1.symm.trans h3)
      rw [← e1, this.2]
theorem nd_at {S : List (Pf × Value)} (h : (S.map Prod.fst).Nodup) {i j : Nat} {x y : Pf × Value} (hi : S[i]? = some x) (hj : S[j]? = some y) (e : x.1 = y.1) : i = j := by
  have a : (S.map Prod.fst)[i]? = some x.1 := by rw [List.getElem?_map, hi]; rfl
  have b : (S.map Prod.fst)[j]? = some x.1 := by rw [List.getElem?_map, hj, e]; rfl
  obtain ⟨hi', ha⟩ := List.getElem?_eq_some_iff.1 a
  obtain ⟨hj', hb⟩ := List.getElem?_eq_some_iff.1 b
  exact (List.getElem_inj h).1 (ha.trans hb.symm)
theorem lookM_at {S : List (Pf × Value)} (h : (S.map Prod.fst).Nodup) {j : Nat} {p : Pf} {v : Value} (hj : S[j]? = some (p, v)) : lookM S p = some v := by
  unfold lookM
  cases hf : S.find? (fun x => decide (x.1 = p)) with
  | none =>
    have := List.find?_eq_none.1 hf (p, v) (List.mem_of_getElem? hj)
    simp at this
  | some x =>
    have h1 := List.find?_some hf
    have h2 := List.mem_of_find?_eq_some hf
    obtain ⟨i, hi⟩ := List.getElem?_of_mem h2
    have e : x.1 = p := of_decide_eq_true h1
    have := nd_at h hi hj e
    subst this
    rw [hi] at hj
    simp at hj
    subst hj
    rfl
theorem lookM_no {S : List (Pf × Value)} {p : Pf} (h : p ∉ S.map Prod.fst) : lookM S p = none := by
  unfold lookM
  rw [List.find?_eq_none.2]
  · rfl
  · intro x hx
    simp
    rintro rfl
    exact h (List.mem_map.2 ⟨x, hx, rfl⟩)

theorem run_lookM {mt e : TypeId} (hm : Try.prog.underlying mt = some (.map 37 e)) {z : Value} (hz : ∀ w, (zeroValue e).run Try.prog w = .ok z w) {g : Nat} {S : List (Pf × Value)} {w : World} (h : MAt g S w) {p : Pf} (hp : Ky p) (c : Bool) :
    (Instr.lookup mt (.map (some g)) (pv p) c).run Try.prog w = .ok (if c then .tuple #[(lookM S p).getD z, .bool (lookM S p).isSome] else (lookM S p).getD z) w := by
  obtain ⟨es, clock, hb, e⟩ := h.ex
  obtain ⟨l, hl⟩ := key_pv hp
  have hc := prefLaw.check w es.isEmpty hl
  rcases h.find e hp w with ⟨h1, h2⟩ | ⟨j, v, e0, h1, h2, h3, h4, h5⟩
  · rw [lookM_no h2]
    simp [Instr.lookup, run_underlying hm, MapKept.run_getObj_map hb, hc, h1, hz w, Result.andThen]
  · rw [lookM_at h.nd h5]
    simp [Instr.lookup, run_underlying hm, MapKept.run_getObj_map hb, hc, h1, Result.andThen]

theorem run_updM {mt e : TypeId} (hm : Try.prog.underlying mt = some (.map 37 e)) {g : Nat} {S : List (Pf × Value)} {w : World} (h : MAt g S w) {p : Pf} (hp : Ky p) (v : Value) :
    ∃ w', (Instr.mapUpdate mt (.map (some g)) (pv p) v).run Try.prog w = .ok () w' ∧ MAt g (putM S p v) w' ∧ Chg [g] w w' := by
  obtain ⟨es, clock, hb, e⟩ := h.ex
  obtain ⟨l, hl⟩ := key_pv hp
  have hc := prefLaw.check w false hl
  rcases h.find e hp w with ⟨h1, h2⟩ | ⟨j, v0, e0, h1, h2, h3, h4, h5⟩
  · refine ⟨{ w with heap := w.heap.setIfInBounds g (.map (es.push { key := pv p, val := v, born := clock }) (clock + 1)) }, ?_, ⟨⟨_, _, (MapKept.heap_set hb).1, ?_⟩, ?_, ?_⟩, chg_map w g _⟩
    · simp [Instr.mapUpdate, run_underlying hm, MapKept.run_getObj_map hb, hc, h1, MapKept.run_setObj_map _ hb, Result.andThen]
    · unfold putM
      rw [if_neg h2, Array.toList_push, List.map_append, List.map_append, e]; rfl
    · unfold putM
      rw [if_neg h2]
      intro x hx
      rcases List.mem_append.1 hx with hx | hx
      · exact h.ok x hx
      · rw [List.mem_singleton.1 hx]; exact hp
    · unfold putM
      rw [if_neg h2, List.map_append, List.nodup_append]
      exact ⟨h.nd, by simp, fun a ha b hb' => by simp at hb'; subst hb'; exact fun e => h2 (e ▸ ha)⟩
  · have hmem : p ∈ S.map Prod.fst := List.mem_map.2 ⟨_, List.mem_of_getElem? h5, rfl⟩
    have hst := prefLaw.stays w hl
    have hes : es[j]? = some e0 := by simpa using h2
    refine ⟨{ w with heap := w.heap.setIfInBounds g (.map (es.modify j fun e => { e with key := pv p, val := v }) clock) }, ?_, ⟨⟨_, _, (MapKept.heap_set hb).1, ?_⟩, ?_, ?_⟩, chg_map w g _⟩
    · simp [Instr.mapUpdate, run_underlying hm, MapKept.run_getObj_map hb, hc, h1, hes, h3, hst, MapKept.run_setObj_map _ hb, Result.andThen]
    · unfold putM
      rw [if_pos hmem]
      apply List.ext_getElem?
      intro k
      have hk := MAt.at (g := g) (w := w) e k
      rw [List.getElem?_map, List.getElem?_map, List.getElem?_map, Array.toList_modify, List.getElem?_modify]
      cases hs : S[k]? with
      | none =>
        rw [hs] at hk
        cases he : es.toList[k]? with
        | none => rfl
        | some y => rw [he] at hk; cases hk
      | some x =>
        rw [hs] at hk
        cases he : es.toList[k]? with
        | none => rw [he] at hk; cases hk
        | some y =>
          rw [he] at hk
          simp only [Option.map_some, Option.some.injEq, Prod.mk.injEq] at hk
          by_cases hjk : j = k
          · subst hjk
            rw [hs] at h5
            simp only [Option.some.injEq] at h5
            subst h5
            simp
          · have hne : x.1 ≠ p := fun ex => hjk (nd_at h.nd h5 hs ex.symm)
            simp [hjk, hne, hk.1, hk.2]
    · unfold putM
      rw [if_pos hmem]
      intro x hx
      obtain ⟨y, hy, rfl⟩ := List.mem_map.1 hx
      split
      · exact hp
      · exact h.ok y hy
    · unfold putM
      rw [if_pos hmem, List.map_map]
      have : (Prod.fst ∘ fun x : Pf × Value => if x.1 = p then (p, v) else x) = Prod.fst := by
        funext x
        simp only [Function.comp]
        split
        · rename_i hx; exact hx.symm
        · rfl
      rw [this]; exact h.nd
theorem map_erase {α β : Type} (f : α → β) (l : List α) (i : Nat) : (l.map f).eraseIdx i = (l.eraseIdx i).map f := by
  simp [List.eraseIdx_eq_take_drop_succ, List.map_take, List.map_drop]
theorem run_delM {mt e : TypeId} (hm : Try.prog.underlying mt = some (.map 37 e)) {g : Nat} {S : List (Pf × Value)} {w : World} (h : MAt g S w) {p : Pf} (hp : Ky p) :
    ∃ w', (∀ ty, (Builtin.delete_ #[mt, 37] ty #[.map (some g), pv p]).run Try.prog w = .ok (.tuple #[]) w') ∧ MAt g (delM S p) w' ∧ Chg [g] w w' := by
  obtain ⟨es, clock, hb, e⟩ := h.ex
  obtain ⟨l, hl⟩ := key_pv hp
  have hc := prefLaw.check w es.isEmpty hl
  rcases h.find e hp w with ⟨h1, h2⟩ | ⟨j, v0, e0, h1, h2, h3, h4, h5⟩
  · have ed : delM S p = S := List.filter_eq_self.2 fun x hx => decide_eq_true fun ex => h2 (List.mem_map.2 ⟨x, hx, ex⟩)
    refine ⟨{ w with heap := w.heap.setIfInBounds g (.map es clock) }, fun ty => ?_, ⟨⟨_, _, (MapKept.heap_set hb).1, by rw [ed]; exact e⟩, by rw [ed]; exact h.ok, by rw [ed]; exact h.nd⟩, chg_map w g _⟩
    simp [Builtin.delete_, run_underlying hm, MapKept.run_getObj_map hb, hc, h1, MapKept.run_setObj_map _ hb, Result.andThen]
  · have ed : delM S p = S.eraseIdx j := by
      unfold delM
      have hlt := (List.getElem?_eq_some_iff.1 h5).1
      have ex := (List.getElem?_eq_some_iff.1 h5).2
      rw [List.eraseIdx_eq_take_drop_succ]
      have hsp : S = S.take j ++ (p, v0) :: S.drop (j + 1) := by
        rw [← ex, List.getElem_cons_drop, List.take_append_drop]
      conv => lhs; rw [hsp]
      rw [List.filter_append, List.filter_cons_of_neg (by simp)]
      congr 1
      · refine List.filter_eq_self.2 fun x hx => decide_eq_true fun ex => ?_
        obtain ⟨i, hi⟩ := List.getElem?_of_mem hx
        rw [List.getElem?_take] at hi
        split at hi
        · rename_i hij
          have := nd_at h.nd hi h5 ex
          omega
        · cases hi
      · refine List.filter_eq_self.2 fun x hx => decide_eq_true fun ex => ?_
        obtain ⟨i, hi⟩ := List.getElem?_of_mem hx
        rw [List.getElem?_drop] at hi
        have := nd_at h.nd hi h5 ex
        omega
    refine ⟨{ w with heap := w.heap.setIfInBounds g (.map (es.eraseIdxIfInBounds j) clock) }, fun ty => ?_, ⟨⟨_, _, (MapKept.heap_set hb).1, ?_⟩, ?_, ?_⟩, chg_map w g _⟩
    · simp [Builtin.delete_, run_underlying hm, MapKept.run_getObj_map hb, hc, h1, MapKept.run_setObj_map _ hb, Result.andThen]
    · rw [ed, Array.toList_eraseIdxIfInBounds, ← map_erase, e, map_erase]
    · rw [ed]; exact fun x hx => h.ok x (List.mem_of_mem_eraseIdx hx)
    · unfold delM; exact h.nd.sublist (List.filter_sublist.map _)
theorem run_lenM {mt e : TypeId} (hm : Try.prog.underlying mt = some (.map 37 e)) {g : Nat} {S : List (Pf × Value)} {w : World} (h : MAt g S w) (ty : TypeId) :
    (Builtin.len_ #[mt] ty #[.map (some g)]).run Try.prog w = .ok (.int .i64 (S.length : Nat)) w := by
  obtain ⟨es, clock, hb, e⟩ := h.ex
  have hl : es.size = S.length := by have := congrArg List.length e; simpa using this
  rw [← hl]
  simp [Builtin.len_, run_underlying hm, MapKept.run_getObj_map hb, goInt]
end Go.Proofs.Ytbfkjdnopiadjaa

namespace Go.Proofs.Ytbfkjdnopiadjaa
open Go.ChangeShapes Go.WideShapes Go.ChangeAt Go.RowKit Go.Joins Go.Deep
open Tp (Pf)

/-- The value reads as these, each of k cells. -/
def Rds {α : Type} (k : Nat) (f : α → List Value) (w : World) (v : Value) (L : List α) : Prop :=
  (L = [] ∧ ∃ a c, v = .slice a 0 c ∧ (a = none → c = 0)) ∨
  ∃ b o c, v = .slice (some ⟨b, o, none⟩) L.length c ∧ b < w.heap.size ∧ L.length ≤ c ∧ ∀ j x, L[j]? = some x → ∀ i u, (f x)[i]? = some u → w.cell? ⟨b, o + j * k + i, none⟩ = some u
section
variable {α : Type} {k : Nat} {f : α → List Value}
theorem Rds.later {w w' : World} {v : Value} {L : List α} (h : Rds k f w v L) (hb : Below w.heap.size w w') : Rds k f w' v L := by
  rcases h with h | ⟨b, o, c, h1, h2, hp, h3⟩
  · exact .inl h
  · exact .inr ⟨b, o, c, h1, Nat.lt_of_lt_of_le h2 hb.size, hp, fun j x hx i u hu => cell_later hb (h3 j x hx i u hu)⟩
theorem Rds.form {w : World} {v : Value} {L : List α} (h : Rds k f w v L) : ∃ a c, v = .slice a L.length c := by
  rcases h with ⟨rfl, a, c, rfl, _⟩ | ⟨b, o, c, rfl, _, _⟩
  · exact ⟨a, c, rfl⟩
  · exact ⟨_, c, rfl⟩
theorem Rds.at {w : World} {a : Option Addr} {n c : Nat} {L : List α} (h : Rds k f w (.slice a n c) L) {i : Nat} {x : α} (hx : L[i]? = some x) :
    ∃ b o, a = some ⟨b, o, none⟩ ∧ b < w.heap.size ∧ ∀ j u, (f x)[j]? = some u → w.cell? ⟨b, o + i * k + j, none⟩ = some u := by
  rcases h with ⟨rfl, _⟩ | ⟨b, o, c', h1, h2, _, h3⟩
  · simp at hx
  · simp only [Value.slice.injEq] at h1
    exact ⟨b, o, h1.1, h2, fun j u hu => h3 i x hx j u hu⟩
theorem open_rds [Inhabited α] {H : Type} {enc : TypeId × Value → H} {W : World} {base : Nat} {v : Value} {d : DataW H} {p : List MemPlace} {t : TypeId} (hu : Try.prog.underlying t = some (.slice (Try.prog.elem t))) (hC : Try.prog.cellsOf (Try.prog.elem t) = k) (hk : 0 < k) (Pr : α → Prop)
    (one : ∀ {n : Nat} {cs : List Value} {y : DataW H × List MemPlace}, DataW.trod enc Try.prog W 0 (fun _ => true) true n (Try.prog.elem t) cs = some y → cs.length = k → ∃ x : α, cs = f x ∧ Pr x)
    (hv : Value.okWide Try.prog W .any base t v) (h : DataW.Trod enc Try.prog W 0 (fun _ => true) true t v d p) :
    ∃ L : List α, Rds k f W v L ∧ L.length ≤ 9223372036854775807 ∧ ∀ x ∈ L, Pr x := by
  obtain ⟨a, len, cap, rfl⟩ := okWide_slice hu hv
  obtain ⟨fuel, hf⟩ := h
  rcases open_slice hu hf with ⟨hcs, _⟩ | ⟨x, l, c, m, n, D, Pl, hcs, _, hl, hm, hmm, _, hx⟩
  · simp [Value.cells] at hcs
    obtain ⟨rfl, rfl, rfl⟩ := hcs
    exact ⟨[], .inl ⟨rfl, _, _, rfl, fun _ => rfl⟩, by simp, by simp⟩
  · simp [Value.cells] at hcs
    obtain ⟨rfl, rfl, rfl⟩ := hcs
    unfold maxLen at hm
    have hm2 : m = cap := by simpa using hmm
    subst hm2
    rw [hC] at hx
    have each : ∀ i, i < m → ∃ u : α, ((f u).length = k ∧ ∀ j z, (f u)[j]? = some z → W.cell? ((x.add (i * k)).add j) = some z) ∧ Pr u := by
      intro i hi
      obtain ⟨cs', h1, h2⟩ := hx i hi
      obtain ⟨_, hlen, hcell⟩ := World.cells?_some h1
      obtain ⟨u, rfl, hu⟩ := one h2 hlen
      refine ⟨u, ⟨hlen, fun j z hz => ?_⟩, hu⟩
      have hj := (List.getElem?_eq_some_iff.1 hz).1
      exact (hcell j (by omega)).trans hz
    obtain ⟨F, hF⟩ := choose_lt each
    have hlen : ((List.range len).map F).length = len := by simp
    refine ⟨(List.range len).map F, ?_, by rw [hlen]; omega, ?_⟩
    · rcases Nat.eq_zero_or_pos len with hp | hp
      · subst hp
        exact .inl ⟨by simp, _, _, rfl, fun h => by cases h⟩
      · obtain ⟨⟨hl0, hc⟩, _⟩ := hF 0 (by omega)
        have hc0 := hc 0 _ (List.getElem?_eq_getElem (by omega))
        rw [Nat.zero_mul] at hc0
        have hsp := spot_none (a := x) (by simpa [Addr.add] using hc0)
        obtain ⟨b, o, sp⟩ := x
        simp only at hsp
        subst hsp
        refine .inr ⟨b, o, m, by rw [hlen], ?_, by rw [hlen]; exact hl, ?_⟩
        · have := World.block_lt_of_cell? _ _ hc0
          simpa [Addr.add] using this
        · intro j u hju i z hz
          simp only [List.getElem?_map, Option.map_eq_some_iff] at hju
          obtain ⟨r, hr1, rfl⟩ := hju
          have hj : j < len := by
            have := (List.getElem?_eq_some_iff.1 hr1).1
            simpa using this
          have hr : r = j := by
            rw [List.getElem?_range hj] at hr1
            exact (Option.some.inj hr1).symm
          subst hr
          have := (hF r (by omega)).1.2 i z hz
          have ad : ∀ b o k, (⟨b, o, none⟩ : Addr).add k = ⟨b, o + k, none⟩ := fun b o k => by cases k <;> simp [Addr.add]
          rw [ad, ad] at this
          exact this
    · intro u hu
      obtain ⟨r, hr, rfl⟩ := List.mem_map.1 hu
      have := List.mem_range.1 hr
      exact (hF r (by omega)).2
end
instance : Inhabited Ac := ⟨⟨false, (0, 0), 0⟩⟩
def pc (p : Pf) : List Value := [.int .u32 p.1, .int .i64 p.2]
def Ac.cs (a : Ac) : List Value := [.bool a.del, .int .u32 a.p.1, .int .i64 a.p.2, .int .i64 a.x]
def ic (n : Int) : List Value := [.int .i64 n]
def uc (n : Int) : List Value := [.int .u32 n]
structure Ac.Ok (a : Ac) : Prop where
  p : Ky a.p
  x0 : -9223372036854775808 ≤ a.x
  x1 : a.x ≤ 9223372036854775807
theorem Ky.ad {p : Pf} (h : Ky p) : Ad p := ⟨h.a0, h.a1⟩
section
variable {H : Type} {enc : TypeId × Value → H} {W : World} {base : Nat} {sp : Nat → Bool} {held : Bool}
theorem pfx_cells {n : Nat} {cs : List Value} {y : DataW H × List MemPlace} (h : DataW.trod enc Try.prog W base sp held n 37 cs = some y) (hl : cs.length = 2) :
    ∃ p : Pf, cs = pc p ∧ Ky p := by
  have k1 : Try.prog.cellsOf 3 = 1 := by kernel_rfl
  have k1' : Try.prog.cellsOf 35 = 1 := by kernel_rfl
  match cs, hl with
  | [c0, c1], _ =>
    obtain ⟨zs, m, _, hz, _, hzl, hgz⟩ := DataW.trod_struct Try.underlying37 h
    match zs, hzl with
    | [z0, z1], _ =>
      have g0 : DataW.trod enc Try.prog W base sp held m 35 [c0] = some z0 := by simpa [k1'] using hgz 0 _ rfl
      have g1 : DataW.trod enc Try.prog W base sp held m 3 [c1] = some z1 := by simpa [k1] using hgz 1 _ rfl
      obtain ⟨a0, e0, _, w0⟩ := DataW.trod_int Try.underlying35 g0
      obtain ⟨a1, e1, _, w1⟩ := DataW.trod_int Try.underlying3 g1
      simp only [List.cons.injEq, and_true] at e0 e1
      subst e0 e1
      have b0 := bounds_u32 w0
      have b1 := bounds_i64 w1
      exact ⟨(a0, a1), rfl, ⟨b0.1, by simp only; omega, b1.1, b1.2⟩⟩
theorem act_cells {n : Nat} {cs : List Value} {y : DataW H × List MemPlace} (h : DataW.trod enc Try.prog W base sp held n 39 cs = some y) (hl : cs.length = 4) :
    ∃ a : Ac, cs = a.cs ∧ a.Ok := by
  have k0 : Try.prog.cellsOf 4 = 1 := by kernel_rfl
  have k1 : Try.prog.cellsOf 3 = 1 := by kernel_rfl
  have k2 : Try.prog.cellsOf 37 = 2 := by kernel_rfl
  match cs, hl with
  | [c0, c1, c2, c3], _ =>
    obtain ⟨zs, m, _, hz, _, hzl, hgz⟩ := DataW.trod_struct Try.underlying39 h
    match zs, hzl with
    | [z0, z1, z2], _ =>
      have g0 : DataW.trod enc Try.prog W base sp held m 4 [c0] = some z0 := by simpa [k0] using hgz 0 _ rfl
      have g1 : DataW.trod enc Try.prog W base sp held m 37 [c1, c2] = some z1 := by simpa [k2] using hgz 1 _ rfl
      have g2 : DataW.trod enc Try.prog W base sp held m 3 [c3] = some z2 := by simpa [k1] using hgz 2 _ rfl
      obtain ⟨b, e0, _⟩ := DataW.trod_bool Try.underlying4 g0
      obtain ⟨q, e1, hq⟩ := pfx_cells g1 rfl
      obtain ⟨a2, e2, _, w2⟩ := DataW.trod_int Try.underlying3 g2
      simp only [pc, List.cons.injEq, and_true] at e0 e1 e2
      obtain ⟨e1, e1'⟩ := e1
      subst e0 e1 e1' e2
      have b2 := bounds_i64 w2
      exact ⟨⟨b, q, a2⟩, rfl, ⟨hq, b2.1, b2.2⟩⟩
theorem num_cells {n : Nat} {cs : List Value} {y : DataW H × List MemPlace} (h : DataW.trod enc Try.prog W base sp held n 3 cs = some y) (hl : cs.length = 1) :
    ∃ a : Int, cs = ic a ∧ -9223372036854775808 ≤ a ∧ a ≤ 9223372036854775807 := by
  obtain ⟨a0, e0, _, w0⟩ := DataW.trod_int Try.underlying3 h
  have b0 := bounds_i64 w0
  exact ⟨a0, e0, b0.1, b0.2⟩
theorem addr_cells {n : Nat} {cs : List Value} {y : DataW H × List MemPlace} (h : DataW.trod enc Try.prog W base sp held n 35 cs = some y) (hl : cs.length = 1) :
    ∃ a : Int, cs = uc a ∧ 0 ≤ a ∧ a < 4294967296 := by
  obtain ⟨a0, e0, _, w0⟩ := DataW.trod_int Try.underlying35 h
  have b0 := bounds_u32 w0
  exact ⟨a0, e0, b0.1, by omega⟩
end
section
variable {H : Type} {enc : TypeId × Value → H} {W : World} {base : Nat} {v : Value} {d : DataW H} {p : List MemPlace}
set_option maxRecDepth 100000 in
theorem open_acts9 (hv : Value.okWide Try.prog W .any base 22 v) (h : DataW.Trod enc Try.prog W 0 (fun _ => true) true 22 v d p) :
    ∃ L : List Ac, Rds 4 Ac.cs W v L ∧ L.length ≤ 9223372036854775807 ∧ ∀ x ∈ L, x.Ok :=
  open_rds Try.underlying22 (by kernel_rfl) (by decide) Ac.Ok (fun h hl => act_cells h hl) hv h
set_option maxRecDepth 100000 in
theorem open_pfs (hv : Value.okWide Try.prog W .any base 69 v) (h : DataW.Trod enc Try.prog W 0 (fun _ => true) true 69 v d p) :
    ∃ L : List Pf, Rds 2 pc W v L ∧ L.length ≤ 9223372036854775807 ∧ ∀ x ∈ L, Ky x :=
  open_rds Try.underlying69 (by kernel_rfl) (by decide) Ky (fun h hl => pfx_cells h hl) hv h
set_option maxRecDepth 100000 in
theorem open_addrs (hv : Value.okWide Try.prog W .any base 23 v) (h : DataW.Trod enc Try.prog W 0 (fun _ => true) true 23 v d p) :
    ∃ L : List Int, Rds 1 uc W v L ∧ L.length ≤ 9223372036854775807 ∧ ∀ x ∈ L, 0 ≤ x ∧ x < 4294967296 :=
  open_rds Try.underlying23 (by kernel_rfl) (by decide) (fun x => 0 ≤ x ∧ x < 4294967296) (fun h hl => addr_cells h hl) hv h
set_option maxRecDepth 100000 in
theorem open_nums (hv : Value.okWide Try.prog W .any base 70 v) (h : DataW.Trod enc Try.prog W 0 (fun _ => true) true 70 v d p) :
    ∃ L : List Int, Rds 1 ic W v L ∧ L.length ≤ 9223372036854775807 ∧ ∀ x ∈ L, -9223372036854775808 ≤ x ∧ x ≤ 9223372036854775807 :=
  open_rds Try.underlying70 (by kernel_rfl) (by decide) (fun x => -9223372036854775808 ≤ x ∧ x ≤ 9223372036854775807) (fun h hl => num_cells h hl) hv h
end
end Go.Proofs.Ytbfkjdnopiadjaa
