/- A trie that is not there: what its functions answer; the laws' nothing.
   Both hold the same; the laws' num, ten, do: the walks. -/
import Derived.Test.YtbfkjdnopiadjaaZ10
import Derived.Test.YtbfkjdnopiadjaaZ11

set_option linter.unusedSimpArgs false
set_option linter.unusedVariables false
namespace Go.Proofs.Ytbfkjdnopiadjaa
open Go.RowKit
attribute [local go_sem ↓] Go.wp_at_zero Go.wp_at_succ
attribute [local go_sem ↓ high] eqP neP
open Tp (Pf Ok En Tr)

theorem numT (x : Int) (w : World) : Calls Try.prog 20 #[.int .i64 x] w fun e w' => e = .returned (.int .i64 x) ∧ w = w' := by
  go_enter Try.func20, Try.ntmps20
  go_wp2_with fail
  go_ret
  exact ⟨rfl, rfl⟩
set_option maxHeartbeats 4000000 in
theorem tenT (b n : Int) (hb : b = 0 ∨ b = 1 ∨ b = 2) (w : World) : Calls Try.prog 28 #[.int .u32 b, .int .i64 n] w fun e w' => e = .returned (pv (167772160 + b * 65536, n)) ∧ Below w.heap.size w w' := by
  rcases hb with rfl | rfl | rfl
  all_goals
    go_enter Try.func28, Try.ntmps28
    go_wp2_with fail
    refine ⟨rfl, pv _, ?_, rfl, ba1 _ _⟩
    simp [results, Try.f28, go_sem, pv]

/-- The program's trie and the document's table hold the same. -/
structure Bth (t q : Nat) (v : Value) (lim : Int) (T : Tr) (w : World) : Prop where
  tr : TSt t lim T w
  rt : RT q v lim T.el w
theorem Bth.ne {t q : Nat} {v : Value} {lim : Int} {T : Tr} {w : World} (h : Bth t q v lim T w) : t ∉ rtB q v := by
  obtain ⟨u, hb, _⟩ := h.tr.blk
  intro hm
  simp only [rtB, List.mem_cons, Option.mem_toList] at hm
  rcases hm with rfl | hm
  · exact hb.no (t' := 30) (by decide) h.rt.blk
  · obtain ⟨c, _, hc⟩ := h.rt.own.block hm
    have := hc.symm.trans (show w.heap[t]? = _ from hb)
    simp only [Option.some.injEq, Obj.cells.injEq] at this
    exact absurd this.2.1 (by decide)
theorem RT.stay {q : Nat} {v : Value} {lim : Int} {L : List En} {w w' : World} (h : RT q v lim L w) (hc : Chg (rtB q v) w w') : Stay w w' := by
  refine Stay.of_chg hc fun b hb cs hn => ?_
  simp only [rtB, List.mem_cons, Option.mem_toList] at hb
  rcases hb with rfl | hb
  · exact h.blk.no (by decide) hn
  · obtain ⟨c, _, hc⟩ := h.own.block hb
    have := hc.symm.trans (show w.heap[b]? = _ from hn)
    simp only [Option.some.injEq, Obj.cells.injEq] at this
    exact absurd this.2.1 (by decide)
theorem Bth.later {t q : Nat} {v : Value} {lim : Int} {T : Tr} {w w' : World} (h : Bth t q v lim T w) (hb : Below w.heap.size w w') : Bth t q v lim T w' := ⟨h.tr.later hb, h.rt.later hb⟩
theorem mem_rtB {q : Nat} {v : Value} {g : Nat} : g ∈ rtB q v ↔ g = q ∨ v.ownBlock = some g := by
  simp [rtB]
/-- The trie turned, the table not yet. -/
theorem Bth.half {t q : Nat} {v : Value} {lim : Int} {T : Tr} {w w' : World} (h : Bth t q v lim T w) (hc : Chg [t] w w') : RT q v lim T.el w' :=
  h.rt.chg hc (fun e => h.ne (by rw [List.mem_singleton.1 e]; exact mem_rtB.2 (.inl rfl))) (fun g hg e => h.ne (by rw [List.mem_singleton.1 e] at hg; exact mem_rtB.2 (.inr hg)))
theorem TSt.over {t q : Nat} {v : Value} {lim lim' : Int} {T : Tr} {L : List En} {w w' : World} (h : TSt t lim T w) (hr : RT q v lim' L w) (hn : t ∉ rtB q v) (hc : Chg (rtB q v) w w') : TSt t lim T w' := h.chg hc hn (hr.stay hc)

/-- An act: what it leaves. -/
structure Ac where
  del : Bool
  p : Pf
  x : Int
def Ac.val (a : Ac) : Value := .agg #[.bool a.del, .int .u32 a.p.1, .int .i64 a.p.2, .int .i64 a.x]
theorem Fresh.mono {w w' : World} {v v' : Value} (h : Fresh w' v v') (hs : w.heap.size ≤ w'.heap.size) : Fresh w v v' := by
  rcases h with h | h
  · exact .inl h
  · exact .inr fun g hg => Nat.le_trans hs (h g hg)
def Ac.tr (a : Ac) (lim : Int) (T : Tr) : Tr := if a.del then delT a.p T else insT lim a.p a.x T
theorem insT_el {lim : Int} {p : Pf} (hp : Ad p) (x : Int) {T : Tr} (h : T.Inv) : (insT lim p x T).el = insL lim p x T.el := by
  unfold insT insL
  split
  · rename_i hc
    exact Tp.ins_el (hp.ok hc.1) x T h
  · rfl
theorem delT_el {p : Pf} (hp : Ad p) {T : Tr} (h : T.Inv) : (delT p T).el = delL p T.el := by
  unfold delT delL
  split
  · rename_i hc
    exact Tp.del_el (hp.ok hc) T h
  · rfl
/-- What an act leaves, in memory. -/
def DoA (t q : Nat) (v : Value) (lim : Int) (T : Tr) (a : Ac) (w : World) (e : Ending) (w' : World) : Prop :=
  e = .returned (.bool true) ∧ ∃ v', Bth t q v' lim (a.tr lim T) w' ∧ Chg (t :: rtB q v) w w' ∧ Fresh w v v'

set_option maxHeartbeats 4000000 in
set_option maxRecDepth 100000 in
theorem doT {t q : Nat} {v : Value} {lim : Int} {T : Tr} {w : World} (h : Bth t q v lim T w) (hs : T.size ≤ 1000000) (hL : T.el.length ≤ 100000) (a : Ac) (hp : Ad a.p) :
    Calls Try.prog 13 #[.pointer (some ⟨t, 0, none⟩), .pointer (some ⟨q, 0, none⟩), a.val] w (DoA t q v lim T a w) := by
  obtain ⟨d, p, x⟩ := a
  have hbx := BlkAt.new w (t := 39) [.bool d, .int .u32 p.1, .int .i64 p.2, .int .i64 x]
  have hB1 := ba1 w (.cells #[.bool d, .int .u32 p.1, .int .i64 p.2, .int .i64 x] 39)
  have HB := Lib.hid (h.later hB1)
  have hup := Lib.hid h.tr.inv.up
  have hinv := Lib.hid h.tr.inv
  have HP := Lib.hid hp
  have hlt := h.tr.lt
  have hlq := h.rt.lt
  have hrow : ∀ g, v.ownBlock = some g → g < w.heap.size := fun g hg => by
    obtain ⟨c, _, hc⟩ := h.rt.own.block hg
    exact (Array.getElem?_eq_some_iff.1 hc).1
  have HNot : Hid (w.heap.size ∉ t :: rtB q v) := by
    intro hm
    rcases List.mem_cons.1 hm with e | hm
    · omega
    · rcases mem_rtB.1 hm with e | e
      · omega
      · have := hrow _ e; omega
  unfold DoA Ac.val Ac.tr
  simp only at HP ⊢
  cases d with
  | true =>
    simp only [if_true]
    clear h hp hlt hlq hrow
    go_enter Try.func13, Try.ntmps13
    go_wp2_with fail
    obtain ⟨W, hW⟩ : ∃ W, W = w.alloc (.cells #[.bool true, .int .u32 p.1, .int .i64 p.2, .int .i64 x] 39) := ⟨_, rfl⟩
    have eW : w.alloc (.cells [.bool true, .int .u32 p.1, .int .i64 p.2, .int .i64 x].toArray 39) = W := hW.symm
    rw [eW] at hbx
    rw [← hW] at hB1 HB ⊢
    have HX := Lib.hid hbx
    have HB1 := Lib.hid hB1
    clear hW eW hbx hB1
    (refine wp_region_held_drew (S := (fun w' => Chg (t :: rtB q v) W w')) (by kernel_rfl) ?_ (fun hHeld => ?_); (focus ((try dsimp only); (exact (Chg.refl _ _).drew))))
    obtain ⟨W2, hW2⟩ : ∃ W2, W2 = World.drew W := ⟨_, rfl⟩
    have HB2 : Hid (Bth t q v lim T W2) := by rw [hW2]; exact HB.out.later (Below.refl _ _).drew
    rw [← hW2] at hHeld ⊢
    clear hW2
    (refine wpAnyH_take (i := 0) (v := ?_) rfl (by kernel_rfl) (by kernel_rfl) (by kernel_rfl) (fun _ _ _ h => h) (Or.inl ⟨by rfl, ?_⟩) hHeld ?_; rotate_left; (focus (intro w hSw; (try dsimp only at hSw); go_simp; try with_reducible rfl)); (try simp only [Act.put, List.setIfInBounds_toArray, List.set_cons_zero, List.set_cons_succ, List.getElem_toArray, List.getElem_cons_zero])); (refine wpAnyH_take (i := 1) (v := ?_) rfl (by kernel_rfl) (by kernel_rfl) (by kernel_rfl) (fun _ _ _ h => h) (Or.inl ⟨by rfl, ?_⟩) hHeld ?_; rotate_left; (focus (intro w hSw; (try dsimp only at hSw); go_simp; try with_reducible rfl)); (try simp only [Act.put, List.setIfInBounds_toArray, List.set_cons_zero, List.set_cons_succ, List.getElem_toArray, List.getElem_cons_zero, List.getElem_cons_succ]))
    (refine wpAnyH_take (i := 2) (v := ?_) rfl (by kernel_rfl) (by kernel_rfl) (by kernel_rfl) (fun _ _ _ h => h) (Or.inl ⟨by rfl, ?_⟩) hHeld ?_; rotate_left; (focus (intro w hSw; (try dsimp only at hSw); go_simp; ((have hb := hSw.blk HX.out HNot.out); (have x0 := hb.cell (j := 1) rfl); (have x1 := hb.cell (j := 2) rfl); go_simp; try with_reducible rfl))); (try simp only [Act.put, List.setIfInBounds_toArray, List.set_cons_zero, List.set_cons_succ, List.getElem_toArray, List.getElem_cons_zero, List.getElem_cons_succ]))
    (refine wpAnyH_take (i := 5) (v := ?_) rfl (by kernel_rfl) (by kernel_rfl) (by kernel_rfl) (fun _ _ _ h => h) (Or.inl ⟨by rfl, ?_⟩) hHeld ?_; rotate_left; (focus (intro w hSw; (try dsimp only at hSw); go_simp; try with_reducible rfl)); (try simp only [Act.put, List.setIfInBounds_toArray, List.set_cons_zero, List.set_cons_succ, List.getElem_toArray, List.getElem_cons_zero, List.getElem_cons_succ])); (refine wpAnyH_take (i := 6) (v := ?_) rfl (by kernel_rfl) (by kernel_rfl) (by kernel_rfl) (fun _ _ _ h => h) (Or.inl ⟨by rfl, ?_⟩) hHeld ?_; rotate_left; (focus (intro w hSw; (try dsimp only at hSw); go_simp; try with_reducible rfl)); (try simp only [Act.put, List.setIfInBounds_toArray, List.set_cons_zero, List.set_cons_succ, List.getElem_toArray, List.getElem_cons_zero, List.getElem_cons_succ]))
    (refine wpAnyH_take (i := 7) (v := ?_) rfl (by kernel_rfl) (by kernel_rfl) (by kernel_rfl) (fun _ _ _ h => h) (Or.inl ⟨by rfl, ?_⟩) hHeld ?_; rotate_left; (focus (intro w hSw; (try dsimp only at hSw); go_simp; ((have hb := hSw.blk HX.out HNot.out); (have x0 := hb.cell (j := 1) rfl); (have x1 := hb.cell (j := 2) rfl); go_simp; try with_reducible rfl))); (try simp only [Act.put, List.setIfInBounds_toArray, List.set_cons_zero, List.set_cons_succ, List.getElem_toArray, List.getElem_cons_zero, List.getElem_cons_succ]))
    (refine wpAnyH_ready (rs := [3]) (by kernel_rfl) (by simp) ?_; refine AllReadyH.cons rfl (fun K hK => ?_) AllReadyH.nil; go_simp; (refine (deleteT HB2.out.tr HP.out hs).mono ?_; rintro e w3 ⟨rfl, ht3, hc3⟩); refine hK.out _ _ ?_ (fun hHeldN => ?_); (focus ((try dsimp only); (exact hHeld.trans (hc3.mono (by simp))))); clear hK K hHeld; have hHeld := hHeldN; clear hHeldN; (try simp only [Act.put, List.setIfInBounds_toArray, List.set_cons_zero, List.set_cons_succ, List.getElem_toArray, List.getElem_cons_zero, List.getElem_cons_succ]))
    have HT3 := Lib.hid ht3
    have HS3 := Lib.hid (Nat.le_trans HB1.out.size hHeld.size)
    have HR3 := Lib.hid (HB2.out.half hc3)
    clear ht3 hc3
    (refine wpAnyH_ready (rs := [4]) (by kernel_rfl) (by simp) ?_; refine AllReadyH.cons rfl (fun K hK => ?_) AllReadyH.nil; go_simp; (refine (numT _ _).mono ?_; rintro e w4 ⟨rfl, rfl⟩); refine hK.out _ _ ?_ (fun hHeldN => ?_); (focus ((try dsimp only); (exact hHeld))); clear hK K hHeld; have hHeld := hHeldN; clear hHeldN; (try simp only [Act.put, List.setIfInBounds_toArray, List.set_cons_zero, List.set_cons_succ, List.getElem_toArray, List.getElem_cons_zero, List.getElem_cons_succ]))
    (refine wpAnyH_ready (rs := [8]) (by kernel_rfl) (by simp) ?_; refine AllReadyH.cons rfl (fun K hK => ?_) AllReadyH.nil; go_simp; (refine (deleteR HR3.out hL hup.out HP.out).mono ?_; rintro e w5 ⟨rfl, v5, hr5, hc5, hf5⟩); refine hK.out _ _ ?_ (fun hHeldN => ?_); (focus ((try dsimp only); (exact hHeld.trans (hc5.mono (fun b hb => List.mem_cons_of_mem _ hb))))); clear hK K hHeld; have hHeld := hHeldN; clear hHeldN; (try simp only [Act.put, List.setIfInBounds_toArray, List.set_cons_zero, List.set_cons_succ, List.getElem_toArray, List.getElem_cons_zero, List.getElem_cons_succ]))
    have HT5 := Lib.hid (HT3.out.over HR3.out HB2.out.ne hc5)
    have HR5 : Hid (RT q v5 lim (delT p T).el w5) := by rw [delT_el HP.out hinv.out]; exact hr5
    have HF5 := Lib.hid hf5
    clear hr5 hc5 hf5
    (refine wpAnyH_take (i := 9) (v := ?_) rfl (by kernel_rfl) (by kernel_rfl) (by kernel_rfl) (fun _ _ _ h => h) (Or.inl ⟨by rfl, ?_⟩) hHeld ?_; rotate_left; (focus (intro w hSw; (try dsimp only at hSw); go_simp; try with_reducible rfl)); (try simp only [Act.put, List.setIfInBounds_toArray, List.set_cons_zero, List.set_cons_succ, List.getElem_toArray, List.getElem_cons_zero, List.getElem_cons_succ])); (refine wpAnyH_take (i := 10) (v := ?_) rfl (by kernel_rfl) (by kernel_rfl) (by kernel_rfl) (fun _ _ _ h => h) (Or.inl ⟨by rfl, ?_⟩) hHeld ?_; rotate_left; (focus (intro w hSw; (try dsimp only at hSw); go_simp; try with_reducible rfl)); (try simp only [Act.put, List.setIfInBounds_toArray, List.set_cons_zero, List.set_cons_succ, List.getElem_toArray, List.getElem_cons_zero, List.getElem_cons_succ]))
    refine wpAnyH_done (by kernel_rfl) ?_ _
    have HH := Lib.hid hHeld
    clear hHeld
    go_wp2_with fail
    go_ret
    exact ⟨rfl, v5, ⟨HT5.out, HR5.out⟩, (Chg.of_below _ HB1.out).trans HH.out, HF5.out.mono HS3.out⟩
  | false =>
    simp only [Bool.false_eq_true, if_false]
    clear h hp hlt hlq hrow
    go_enter Try.func13, Try.ntmps13
    go_wp2_with fail
    obtain ⟨W, hW⟩ : ∃ W, W = w.alloc (.cells #[.bool false, .int .u32 p.1, .int .i64 p.2, .int .i64 x] 39) := ⟨_, rfl⟩
    have eW : w.alloc (.cells [.bool false, .int .u32 p.1, .int .i64 p.2, .int .i64 x].toArray 39) = W := hW.symm
    rw [eW] at hbx
    rw [← hW] at hB1 HB ⊢
    have HX := Lib.hid hbx
    have HB1 := Lib.hid hB1
    clear hW eW hbx hB1
    (refine wp_region_held_drew (S := (fun w' => Chg (t :: rtB q v) W w')) (by kernel_rfl) ?_ (fun hHeld => ?_); (focus ((try dsimp only); (exact (Chg.refl _ _).drew))))
    obtain ⟨W2, hW2⟩ : ∃ W2, W2 = World.drew W := ⟨_, rfl⟩
    have HB2 : Hid (Bth t q v lim T W2) := by rw [hW2]; exact HB.out.later (Below.refl _ _).drew
    rw [← hW2] at hHeld ⊢
    clear hW2
    (refine wpAnyH_take (i := 0) (v := ?_) rfl (by kernel_rfl) (by kernel_rfl) (by kernel_rfl) (fun _ _ _ h => h) (Or.inl ⟨by rfl, ?_⟩) hHeld ?_; rotate_left; (focus (intro w hSw; (try dsimp only at hSw); go_simp; try with_reducible rfl)); (try simp only [Act.put, List.setIfInBounds_toArray, List.set_cons_zero, List.set_cons_succ, List.getElem_toArray, List.getElem_cons_zero])); (refine wpAnyH_take (i := 1) (v := ?_) rfl (by kernel_rfl) (by kernel_rfl) (by kernel_rfl) (fun _ _ _ h => h) (Or.inl ⟨by rfl, ?_⟩) hHeld ?_; rotate_left; (focus (intro w hSw; (try dsimp only at hSw); go_simp; try with_reducible rfl)); (try simp only [Act.put, List.setIfInBounds_toArray, List.set_cons_zero, List.set_cons_succ, List.getElem_toArray, List.getElem_cons_zero, List.getElem_cons_succ]))
    (refine wpAnyH_take (i := 2) (v := ?_) rfl (by kernel_rfl) (by kernel_rfl) (by kernel_rfl) (fun _ _ _ h => h) (Or.inl ⟨by rfl, ?_⟩) hHeld ?_; rotate_left; (focus (intro w hSw; (try dsimp only at hSw); go_simp; ((have hb := hSw.blk HX.out HNot.out); (have x0 := hb.cell (j := 1) rfl); (have x1 := hb.cell (j := 2) rfl); go_simp; try with_reducible rfl))); (try simp only [Act.put, List.setIfInBounds_toArray, List.set_cons_zero, List.set_cons_succ, List.getElem_toArray, List.getElem_cons_zero, List.getElem_cons_succ]))
    (refine wpAnyH_take (i := 3) (v := ?_) rfl (by kernel_rfl) (by kernel_rfl) (by kernel_rfl) (fun _ _ _ h => h) (Or.inl ⟨by rfl, ?_⟩) hHeld ?_; rotate_left; (focus (intro w hSw; (try dsimp only at hSw); go_simp; try with_reducible rfl)); (try simp only [Act.put, List.setIfInBounds_toArray, List.set_cons_zero, List.set_cons_succ, List.getElem_toArray, List.getElem_cons_zero, List.getElem_cons_succ]))
    (refine wpAnyH_take (i := 4) (v := ?_) rfl (by kernel_rfl) (by kernel_rfl) (by kernel_rfl) (fun _ _ _ h => h) (Or.inl ⟨by rfl, ?_⟩) hHeld ?_; rotate_left; (focus (intro w hSw; (try dsimp only at hSw); go_simp; ((have hb := hSw.blk HX.out HNot.out); (have x0 := hb.cell (j := 3) rfl); go_simp; try with_reducible rfl))); (try simp only [Act.put, List.setIfInBounds_toArray, List.set_cons_zero, List.set_cons_succ, List.getElem_toArray, List.getElem_cons_zero, List.getElem_cons_succ]))
    (refine wpAnyH_take (i := 7) (v := ?_) rfl (by kernel_rfl) (by kernel_rfl) (by kernel_rfl) (fun _ _ _ h => h) (Or.inl ⟨by rfl, ?_⟩) hHeld ?_; rotate_left; (focus (intro w hSw; (try dsimp only at hSw); go_simp; try with_reducible rfl)); (try simp only [Act.put, List.setIfInBounds_toArray, List.set_cons_zero, List.set_cons_succ, List.getElem_toArray, List.getElem_cons_zero, List.getElem_cons_succ])); (refine wpAnyH_take (i := 8) (v := ?_) rfl (by kernel_rfl) (by kernel_rfl) (by kernel_rfl) (fun _ _ _ h => h) (Or.inl ⟨by rfl, ?_⟩) hHeld ?_; rotate_left; (focus (intro w hSw; (try dsimp only at hSw); go_simp; try with_reducible rfl)); (try simp only [Act.put, List.setIfInBounds_toArray, List.set_cons_zero, List.set_cons_succ, List.getElem_toArray, List.getElem_cons_zero, List.getElem_cons_succ]))
    (refine wpAnyH_take (i := 9) (v := ?_) rfl (by kernel_rfl) (by kernel_rfl) (by kernel_rfl) (fun _ _ _ h => h) (Or.inl ⟨by rfl, ?_⟩) hHeld ?_; rotate_left; (focus (intro w hSw; (try dsimp only at hSw); go_simp; ((have hb := hSw.blk HX.out HNot.out); (have x0 := hb.cell (j := 1) rfl); (have x1 := hb.cell (j := 2) rfl); go_simp; try with_reducible rfl))); (try simp only [Act.put, List.setIfInBounds_toArray, List.set_cons_zero, List.set_cons_succ, List.getElem_toArray, List.getElem_cons_zero, List.getElem_cons_succ]))
    (refine wpAnyH_take (i := 10) (v := ?_) rfl (by kernel_rfl) (by kernel_rfl) (by kernel_rfl) (fun _ _ _ h => h) (Or.inl ⟨by rfl, ?_⟩) hHeld ?_; rotate_left; (focus (intro w hSw; (try dsimp only at hSw); go_simp; try with_reducible rfl)); (try simp only [Act.put, List.setIfInBounds_toArray, List.set_cons_zero, List.set_cons_succ, List.getElem_toArray, List.getElem_cons_zero, List.getElem_cons_succ]))
    (refine wpAnyH_take (i := 11) (v := ?_) rfl (by kernel_rfl) (by kernel_rfl) (by kernel_rfl) (fun _ _ _ h => h) (Or.inl ⟨by rfl, ?_⟩) hHeld ?_; rotate_left; (focus (intro w hSw; (try dsimp only at hSw); go_simp; ((have hb := hSw.blk HX.out HNot.out); (have x0 := hb.cell (j := 3) rfl); go_simp; try with_reducible rfl))); (try simp only [Act.put, List.setIfInBounds_toArray, List.set_cons_zero, List.set_cons_succ, List.getElem_toArray, List.getElem_cons_zero, List.getElem_cons_succ]))
    (refine wpAnyH_ready (rs := [5]) (by kernel_rfl) (by simp) ?_; refine AllReadyH.cons rfl (fun K hK => ?_) AllReadyH.nil; go_simp; (refine (insertT HB2.out.tr HP.out x hs).mono ?_; rintro e w3 ⟨rfl, ht3, hc3⟩); refine hK.out _ _ ?_ (fun hHeldN => ?_); (focus ((try dsimp only); (exact hHeld.trans (hc3.mono (by simp))))); clear hK K hHeld; have hHeld := hHeldN; clear hHeldN; (try simp only [Act.put, List.setIfInBounds_toArray, List.set_cons_zero, List.set_cons_succ, List.getElem_toArray, List.getElem_cons_zero, List.getElem_cons_succ]))
    have HT3 := Lib.hid ht3
    have HS3 := Lib.hid (Nat.le_trans HB1.out.size hHeld.size)
    have HR3 := Lib.hid (HB2.out.half hc3)
    clear ht3 hc3
    (refine wpAnyH_ready (rs := [6]) (by kernel_rfl) (by simp) ?_; refine AllReadyH.cons rfl (fun K hK => ?_) AllReadyH.nil; go_simp; (refine (numT _ _).mono ?_; rintro e w4 ⟨rfl, rfl⟩); refine hK.out _ _ ?_ (fun hHeldN => ?_); (focus ((try dsimp only); (exact hHeld))); clear hK K hHeld; have hHeld := hHeldN; clear hHeldN; (try simp only [Act.put, List.setIfInBounds_toArray, List.set_cons_zero, List.set_cons_succ, List.getElem_toArray, List.getElem_cons_zero, List.getElem_cons_succ]))
    (refine wpAnyH_ready (rs := [12]) (by kernel_rfl) (by simp) ?_; refine AllReadyH.cons rfl (fun K hK => ?_) AllReadyH.nil; go_simp; (refine (insertR HR3.out hL HP.out x).mono ?_; rintro e w5 ⟨rfl, v5, hr5, hc5, hf5⟩); refine hK.out _ _ ?_ (fun hHeldN => ?_); (focus ((try dsimp only); (exact hHeld.trans (hc5.mono (fun b hb => List.mem_cons_of_mem _ hb))))); clear hK K hHeld; have hHeld := hHeldN; clear hHeldN; (try simp only [Act.put, List.setIfInBounds_toArray, List.set_cons_zero, List.set_cons_succ, List.getElem_toArray, List.getElem_cons_zero, List.getElem_cons_succ]))
    have HT5 := Lib.hid (HT3.out.over HR3.out HB2.out.ne hc5)
    have HR5 : Hid (RT q v5 lim (insT lim p x T).el w5) := by rw [insT_el HP.out x hinv.out]; exact hr5
    have HF5 := Lib.hid hf5
    clear hr5 hc5 hf5
    (refine wpAnyH_take (i := 13) (v := ?_) rfl (by kernel_rfl) (by kernel_rfl) (by kernel_rfl) (fun _ _ _ h => h) (Or.inl ⟨by rfl, ?_⟩) hHeld ?_; rotate_left; (focus (intro w hSw; (try dsimp only at hSw); go_simp; try with_reducible rfl)); (try simp only [Act.put, List.setIfInBounds_toArray, List.set_cons_zero, List.set_cons_succ, List.getElem_toArray, List.getElem_cons_zero, List.getElem_cons_succ])); (refine wpAnyH_take (i := 14) (v := ?_) rfl (by kernel_rfl) (by kernel_rfl) (by kernel_rfl) (fun _ _ _ h => h) (Or.inl ⟨by rfl, ?_⟩) hHeld ?_; rotate_left; (focus (intro w hSw; (try dsimp only at hSw); go_simp; try with_reducible rfl)); (try simp only [Act.put, List.setIfInBounds_toArray, List.set_cons_zero, List.set_cons_succ, List.getElem_toArray, List.getElem_cons_zero, List.getElem_cons_succ]))
    refine wpAnyH_done (by kernel_rfl) ?_ _
    have HH := Lib.hid hHeld
    clear hHeld
    go_wp2_with fail
    go_ret
    exact ⟨rfl, v5, ⟨HT5.out, HR5.out⟩, (Chg.of_below _ HB1.out).trans HH.out, HF5.out.mono HS3.out⟩
end Go.Proofs.Ytbfkjdnopiadjaa

namespace Go.Proofs.Ytbfkjdnopiadjaa
open Go.RowKit
attribute [local go_sem ↓] Go.wp_at_zero Go.wp_at_succ
attribute [local go_sem ↓ high] eqP neP
open Tp (Pf Ok En Tr)

theorem noneN {tv : Value} {w : World} (h : NonV w tv) : Calls Try.prog 32 #[tv] w fun e w' => e = .returned (.bool true) ∧ w = w' := by
  rcases h with rfl | ⟨z, rfl, hz⟩
  · go_enter Try.func32, Try.ntmps32
    go_wp2_with fail
    go_ret
    exact ⟨rfl, rfl⟩
  · have c3 := hz.cell (j := 3) rfl
    clear hz
    go_enter Try.func32, Try.ntmps32
    go_wp2_with fail
    go_ret
    exact ⟨rfl, rfl⟩
theorem readyN {tv : Value} {w : World} (h : NonV w tv) (a n : Int) : Calls Try.prog 42 #[tv, .agg #[.int .u32 a, .int .i64 n]] w fun e w' => e = .returned (.int .i64 1) ∧ Below w.heap.size w w' := by
  have HN := Lib.hid (noneN (h.later (ba1 w (.cells #[.int .u32 a, .int .i64 n] 37))))
  clear h
  go_enter Try.func42, Try.ntmps42
  go_wp2_with fail
  refine HN.out.mono ?_
  rintro e w1 ⟨rfl, rfl⟩
  go_wp2_with fail
  go_ret
  exact ⟨rfl, ba1 _ _⟩
theorem insertN {tv : Value} {w : World} (h : NonV w tv) (a n x : Int) : Calls Try.prog 22 #[tv, .agg #[.int .u32 a, .int .i64 n], .int .i64 x] w fun e w' => e = .returned (.int .i64 1) ∧ Below w.heap.size w w' := by
  have hB := ba1 w (.cells #[.int .u32 a, .int .i64 n] 37)
  have HN := Lib.hid (readyN (h.later hB) a n)
  have HB := Lib.hid hB
  clear h hB
  go_enter Try.func22, Try.ntmps22
  go_wp2_with fail
  refine HN.out.mono ?_
  rintro e w1 ⟨rfl, hb⟩
  have HB2 := Lib.hid (below_of HB.out hb)
  clear hb
  go_wp2_with fail
  go_ret
  exact ⟨rfl, HB2.out⟩
theorem deleteN {tv : Value} {w : World} (h : NonV w tv) (a n : Int) : Calls Try.prog 21 #[tv, .agg #[.int .u32 a, .int .i64 n]] w fun e w' => e = .returned (.int .i64 1) ∧ Below w.heap.size w w' := by
  have hB := ba1 w (.cells #[.int .u32 a, .int .i64 n] 37)
  have HN := Lib.hid (readyN (h.later hB) a n)
  have HB := Lib.hid hB
  clear h hB
  go_enter Try.func21, Try.ntmps21
  go_wp2_with fail
  refine HN.out.mono ?_
  rintro e w1 ⟨rfl, hb⟩
  have HB2 := Lib.hid (below_of HB.out hb)
  clear hb
  go_wp2_with fail
  go_ret
  exact ⟨rfl, HB2.out⟩
theorem lenN {tv : Value} {w : World} (h : NonV w tv) : Calls Try.prog 26 #[tv] w fun e w' => e = .returned (.int .i64 0) ∧ w = w' := by
  rcases h with rfl | ⟨z, rfl, hz⟩
  · go_enter Try.func26, Try.ntmps26
    go_wp2_with fail
    go_ret
    exact ⟨rfl, rfl⟩
  · have c2 := hz.cell (j := 2) rfl
    clear hz
    go_enter Try.func26, Try.ntmps26
    go_wp2_with fail
    go_ret
    exact ⟨rfl, rfl⟩
theorem copyN {tv : Value} {w : World} (h : NonV w tv) : Calls Try.prog 11 #[tv] w fun e w' => e = .returned (.pointer none) ∧ w = w' := by
  have HN := Lib.hid (noneN h)
  clear h
  go_enter Try.func11, Try.ntmps11
  go_wp2_with fail
  refine HN.out.mono ?_
  rintro e w1 ⟨rfl, rfl⟩
  go_wp2_with fail
  go_ret
  exact ⟨rfl, rfl⟩
theorem nodesN {tv : Value} {w : World} (h : NonV w tv) : Calls Try.prog 27 #[tv] w fun e w' => e = .returned (.int .i64 0) ∧ Below w.heap.size w w' := by
  have HT := Lib.hid (topV (.inr ⟨h, rfl⟩ : Tops w tv .nil))
  clear h
  go_enter Try.func27, Try.ntmps27
  go_wp2_with fail
  refine HT.out.mono ?_
  rintro e w1 ⟨v, rfl, hv, rfl⟩
  have HS := Lib.hid (sizeT .nil v w hv (by decide))
  clear hv
  go_wp2_with fail
  refine HS.out.mono ?_
  rintro e w1 ⟨rfl, m, rfl⟩
  go_wp2_with fail
  go_ret
  exact ⟨rfl, below_dr0 _ _ _⟩
theorem NonV.tops {w : World} {tv : Value} (h : NonV w tv) : Tops w tv .nil := .inr ⟨h, rfl⟩
theorem enr_nil (w : World) : EnR w (.slice none 0 0) [] := (OwnE.nil w 0).reads
theorem nl0 (a : Int) : lastE ((Tr.nil).el.filter (Tp.hasE a)) = (((0, 0), 0), false) := rfl
theorem nl1 (p : Pf) : getA (Tp.look (Tr.nil).el p) = (0, false) := rfl

set_option maxHeartbeats 4000000 in
set_option maxRecDepth 100000 in
theorem nothingT {tv : Value} {w : World} (h : NonV w tv) : Calls Try.prog 29 #[tv] w fun e w' => e = .returned (.bool true) ∧ Below w.heap.size w w' := by
  have HN := Lib.hid h
  have htv : ∃ ad, tv = .pointer ad := by rcases h with rfl | ⟨z, rfl, _⟩ <;> exact ⟨_, rfl⟩
  obtain ⟨ad, rfl⟩ := htv
  have B0 := Lib.hid (Below.refl w.heap.size w)
  clear h
  go_enter Try.func29, Try.ntmps29
  go_wp2_with fail
  refine (tenT 0 8 (.inl rfl) _).mono ?_
  rintro e w1 ⟨rfl, b1⟩
  have B1 := Lib.hid (below_of B0.out b1)
  clear b1
  have C := Lib.hid (getV (HN.out.later B1.out).tops (p := (167772160, 8)) ⟨by decide, by decide⟩)
  rw [nl1] at C
  go_wp2_with fail
  refine C.out.mono ?_
  rintro e w2 ⟨rfl, b2⟩
  have B2 := Lib.hid (below_of B1.out b2)
  clear b2 C
  have C := Lib.hid (matchV (HN.out.later B2.out).tops (a := 0) (by decide) (by decide))
  rw [nl0] at C
  simp only [pv] at C
  go_wp2_with fail
  refine C.out.mono ?_
  rintro e w3 ⟨rfl, b3⟩
  have B3 := Lib.hid (below_of B2.out b3)
  have b4 := ba1 w3 (.cells #[.int .u32 0, .int .i64 0] 37)
  obtain ⟨w4, hw4⟩ : ∃ W, W = w3.alloc (.cells #[.int .u32 0, .int .i64 0] 37) := ⟨_, rfl⟩
  rw [← hw4] at b4
  have B4 := Lib.hid (below_of B3.out b4)
  clear b3 b4 C
  go_wp2_with fail
  rw [← hw4]
  clear hw4
  refine (tenT 1 8 (.inr (.inl rfl)) _).mono ?_
  rintro e w5 ⟨rfl, b5⟩
  have B5 := Lib.hid (below_of B4.out b5)
  clear b5
  go_wp2_with fail
  refine (insertN (HN.out.later B5.out) _ _ _).mono ?_
  rintro e w6 ⟨rfl, b6⟩
  have B6 := Lib.hid (below_of B5.out b6)
  clear b6
  go_wp2_with fail
  refine (numT _ _).mono ?_
  rintro e w7 ⟨rfl, rfl⟩
  go_wp2_with fail
  refine (tenT 1 8 (.inr (.inl rfl)) _).mono ?_
  rintro e w7 ⟨rfl, b7⟩
  have B7 := Lib.hid (below_of B6.out b7)
  clear b7
  go_wp2_with fail
  refine (deleteN (HN.out.later B7.out) _ _).mono ?_
  rintro e w8 ⟨rfl, b8⟩
  have B8 := Lib.hid (below_of B7.out b8)
  clear b8
  go_wp2_with fail
  refine (numT _ _).mono ?_
  rintro e w9 ⟨rfl, rfl⟩
  go_wp2_with fail
  refine (allV (HN.out.later B8.out).tops).mono ?_
  rintro e w9 ⟨Br, Bg, rfl, hs, _, _, b9⟩
  have B9 := Lib.hid (below_of B8.out b9)
  have C := Lib.hid (onceT (L := []) hs (enr_nil _) (by decide) 0)
  clear b9 hs
  unfold seqF at C ⊢
  go_wp2_with fail
  refine C.out.mono ?_
  rintro e w10 ⟨rfl, b10⟩
  have B10 := Lib.hid (below_of B9.out b10)
  clear b10 C
  go_wp2_with fail
  refine (coversV (HN.out.later B10.out).tops (a := 0) (by decide) (by decide)).mono ?_
  rintro e w11 ⟨Br2, Bg2, rfl, hs, _, _, b11⟩
  have B11 := Lib.hid (below_of B10.out b11)
  have C := Lib.hid (onceT (L := []) hs (enr_nil _) (by decide) 0)
  clear b11 hs
  unfold seqF at C ⊢
  go_wp2_with fail
  refine C.out.mono ?_
  rintro e w12 ⟨rfl, b12⟩
  have B12 := Lib.hid (below_of B11.out b12)
  clear b12 C
  go_wp2_with fail
  refine (lenN (HN.out.later B12.out)).mono ?_
  rintro e w13 ⟨rfl, rfl⟩
  go_wp2_with fail
  refine (nodesN (HN.out.later B12.out)).mono ?_
  rintro e w13 ⟨rfl, b13⟩
  have B13 := Lib.hid (below_of B12.out b13)
  clear b13
  go_wp2_with fail
  refine (copyN (HN.out.later B13.out)).mono ?_
  rintro e w14 ⟨rfl, rfl⟩
  go_wp2_with fail
  go_ret
  exact ⟨rfl, B13.out⟩
end Go.Proofs.Ytbfkjdnopiadjaa
