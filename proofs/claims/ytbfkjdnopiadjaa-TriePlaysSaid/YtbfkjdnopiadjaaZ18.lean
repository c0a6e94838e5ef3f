/- TriePlays: for every input the law's call returns true, and each argument reads behind it as before.
   TriePlays: two pairs that go on apart; the walk. -/
import Derived.Test.YtbfkjdnopiadjaaZ14
import Derived.Test.YtbfkjdnopiadjaaZ15
import Derived.Test.YtbfkjdnopiadjaaZ17

set_option linter.unusedSimpArgs false
set_option linter.unusedVariables false
namespace Go.Proofs.Ytbfkjdnopiadjaa
open Go.RowKit
attribute [local go_sem ↓] Go.wp_at_zero Go.wp_at_succ
open Tp (Pf Ok En Tr)

theorem tr_len {lim : Int} {c : Ac} (hp : Ad c.p) {T : Tr} (hT : T.Inv) {n : Nat} (hn : T.el.length ≤ n) : (c.tr lim T).el.length ≤ n + 1 := by
  unfold Ac.tr
  split
  · rw [delT_el hp hT]
    unfold delL
    split
    · rw [Tp.delE_len hT.up]; split <;> omega
    · omega
  · rw [insT_el hp _ hT]
    unfold insL
    split
    · rw [Tp.insE_len]; split <;> omega
    · omega
theorem Bth.over {t q c q2 : Nat} {v v2 : Value} {lim : Int} {T T2 : Tr} {w w' : World} (k : Bth c q2 v2 lim T2 w) (h : Bth t q v lim T w) (n1 : c ≠ t) (n2 : q2 ≠ q) (n3 : Apart v v2) (hc : Chg (t :: rtB q v) w w') : Bth c q2 v2 lim T2 w' := by
  have hst : Stay w w' := Stay.of_chg hc fun b hb cs hn => by
    rcases List.mem_cons.1 hb with rfl | hb
    · obtain ⟨u, hu, _⟩ := h.tr.blk
      exact hu.no (by decide) hn
    · rcases mem_rtB.1 hb with rfl | hb
      · exact h.rt.blk.no (by decide) hn
      · obtain ⟨x, _, hx⟩ := h.rt.own.block hb
        have := hx.symm.trans (show w.heap[b]? = _ from hn)
        simp only [Option.some.injEq, Obj.cells.injEq] at this
        exact absurd this.2.1 (by decide)
  have e1 : c ∉ t :: rtB q v := by
    obtain ⟨u, hu, _⟩ := k.tr.blk
    intro hm
    rcases List.mem_cons.1 hm with rfl | hm
    · exact n1 rfl
    · rcases mem_rtB.1 hm with rfl | hm
      · exact hu.no (t' := 30) (by decide) h.rt.blk
      · obtain ⟨x, _, hx⟩ := h.rt.own.block hm
        have := hx.symm.trans (show w.heap[c]? = _ from hu)
        simp only [Option.some.injEq, Obj.cells.injEq] at this
        exact absurd this.2.1 (by decide)
  have e2 : q2 ∉ t :: rtB q v := by
    intro hm
    rcases List.mem_cons.1 hm with rfl | hm
    · obtain ⟨u, hu, _⟩ := h.tr.blk
      exact hu.no (t' := 30) (by decide) k.rt.blk
    · rcases mem_rtB.1 hm with rfl | hm
      · exact n2 rfl
      · obtain ⟨x, _, hx⟩ := h.rt.own.block hm
        have := hx.symm.trans (show w.heap[q2]? = _ from k.rt.blk)
        simp only [Option.some.injEq, Obj.cells.injEq] at this
        exact absurd this.2.1 (by decide)
  refine ⟨k.tr.chg hc e1 hst, k.rt.chg hc e2 fun g hg hm => ?_⟩
  obtain ⟨x, _, hx⟩ := k.rt.own.block hg
  rcases List.mem_cons.1 hm with rfl | hm
  · obtain ⟨u, hu, _⟩ := h.tr.blk
    have := hx.symm.trans (show w.heap[g]? = _ from hu)
    simp only [Option.some.injEq, Obj.cells.injEq] at this
    exact absurd this.2.1 (by decide)
  · rcases mem_rtB.1 hm with rfl | hm
    · have := hx.symm.trans (show w.heap[g]? = _ from h.rt.blk)
      simp only [Option.some.injEq, Obj.cells.injEq] at this
      exact absurd this.2.1 (by decide)
    · exact n3 g hm hg
/-- Two pairs, apart. -/
structure Two (B t q : Nat) (v : Value) (T : Tr) (c q2 : Nat) (v2 : Value) (T2 : Tr) (lim : Int) (w : World) : Prop where
  a : Bth t q v lim T w
  b : Bth c q2 v2 lim T2 w
  n1 : c ≠ t
  n2 : q2 ≠ q
  n3 : Apart v v2
  m1 : B ≤ t
  m2 : B ≤ q
  m3 : RowFrom B v
  m4 : B ≤ c
  m5 : B ≤ q2
  m6 : RowFrom B v2
section
variable {B t q c q2 : Nat} {v v' v2 : Value} {T T' T2 : Tr} {lim : Int} {w w' : World}
theorem Two.later (h : Two B t q v T c q2 v2 T2 lim w) (hb : Below w.heap.size w w') : Two B t q v T c q2 v2 T2 lim w' := ⟨h.a.later hb, h.b.later hb, h.n1, h.n2, h.n3, h.m1, h.m2, h.m3, h.m4, h.m5, h.m6⟩
theorem Two.swap (h : Two B t q v T c q2 v2 T2 lim w) : Two B c q2 v2 T2 t q v T lim w := ⟨h.b, h.a, h.n1.symm, h.n2.symm, fun g h1 h2 => h.n3 g h2 h1, h.m4, h.m5, h.m6, h.m1, h.m2, h.m3⟩
theorem Two.act (h : Two B t q v T c q2 v2 T2 lim w) (hB : B ≤ w.heap.size) (k : Bth t q v' lim T' w') (hc : Chg (t :: rtB q v) w w') (hf : Fresh w v v') : Two B t q v' T' c q2 v2 T2 lim w' :=
  ⟨k, h.b.over h.a h.n1 h.n2 h.n3 hc, h.n1, h.n2, h.n3.fresh hf h.b.rt.own, h.m1, h.m2, h.m3.fresh hf hB, h.m4, h.m5, h.m6⟩
theorem Two.below (h : Two B t q v T c q2 v2 T2 lim w) (hB : B ≤ w.heap.size) (hc : Chg (t :: rtB q v) w w') : Below B w w' := Bth.below hc hB h.m1 h.m2 h.m3
theorem Two.copy {w1 w2 : World} (h : Bth t q v lim T w) (m1 : B ≤ t) (m2 : B ≤ q) (m3 : RowFrom B v) (hB : B ≤ w.heap.size) (b1 : Below w.heap.size w w1) (hc0 : w.heap.size ≤ c) (hc : TSt c (lm lim) T w1) (b2 : Below w1.heap.size w1 w2)
    (hq0 : w1.heap.size ≤ q2) (hq : RT q2 v2 lim T.el w2) (hr : ∀ g, v2.ownBlock = some g → w1.heap.size ≤ g) : Two B t q v T c q2 v2 T lim w2 := by
  have h1 := h.tr.lt
  have h2 := h.rt.lt
  have h3 := b1.size
  refine ⟨(h.later b1).later b2, ⟨hc.later b2, hq⟩, by omega, by omega, fun g hg e => ?_, m1, m2, m3, by omega, by omega, fun g hg => by have := hr g hg; omega⟩
  obtain ⟨_, _, h4⟩ := h.rt.own.block hg
  have h5 := (Array.getElem?_eq_some_iff.1 h4).1
  have h6 := hr g e
  omega
end

set_option maxHeartbeats 16000000 in
set_option maxRecDepth 100000 in
theorem triePlays_walk (n : Int) (u1 : Value) (l : List Ac) (u2 : Value) (r : List Int) (m : Int) (w : World) (hn0 : -9223372036854775808 ≤ n) (hn1 : n ≤ 9223372036854775807) (hl : Rds 4 Ac.cs w u1 l) (hln : l.length ≤ 9223372036854775807) (hky : ∀ x ∈ l, x.Ok) (hr : Rds 1 uc w u2 r) (hrn : r.length ≤ 9223372036854775807) (hrk : ∀ x ∈ r, 0 ≤ x ∧ x < 4294967296) :
    Calls Try.prog 3 #[.int .i64 n, u1, u2, .int .i64 m] w fun e w' => e = .returned (.bool true) ∧ Below w.heap.size w w' := by
  obtain ⟨la, lc, rfl⟩ := hl.form
  obtain ⟨ra, rc, rfl⟩ := hr.form
  have HL := Lib.hid hl
  have HR := Lib.hid hr
  have HK := Lib.hid hky
  have HQ := Lib.hid hrk
  clear hl hr hky hrk
  by_cases hgo : l.length ≤ 100 ∧ r.length ≤ 100
  · obtain ⟨hl100, hr100⟩ := hgo
    have k1 : ¬ (100 : Int) < l.length := by omega
    have k2 : ¬ (100 : Int) < r.length := by omega
    have HN := Lib.hid (newT n w hn1)
    go_enter Try.func3, Try.ntmps3
    go_wp2_with fail
    refine HN.out.mono ?_
    rintro e w1 ⟨rfl, h1, b1⟩
    have hq := BlkAt.new w1 (t := 30) [.slice none 0 0, .int .i64 n]
    have b2 := ba1 w1 (.cells #[.slice none 0 0, .int .i64 n] 30)
    have hB := bth_new (TSt.later h1 b2) hq
    have HQ1 : Hid (w.heap.size ≤ w1.heap.size) := b1.size
    have HBW := Lib.hid (below_of b1 b2)
    have HB0 := Lib.hid hB
    obtain ⟨q, hqq⟩ : ∃ q, q = w1.heap.size := ⟨_, rfl⟩
    rw [← hqq] at HB0 HQ1
    clear h1 b1 HN k1 k2 hq b2 hB
    go_wp2_with fail
    rw [← hqq]
    obtain ⟨w2, hw2⟩ : ∃ w2, w2 = w1.alloc (.cells #[.slice none 0 0, .int .i64 n] 30) := ⟨_, rfl⟩
    have eW : w1.alloc (.cells [.slice none 0 0, .int .i64 n].toArray 30) = w2 := hw2.symm
    rw [eW] at HB0
    rw [← hw2] at HBW ⊢
    clear hqq hw2 eW
    obtain ⟨t, ht⟩ : ∃ t, t = w.heap.size := ⟨_, rfl⟩
    have HT0 : Hid (w.heap.size ≤ t) := Nat.le_of_eq ht.symm
    rw [← ht] at HB0 ⊢
    clear ht
    refine (copyT HB0.out.tr).mono ?_
    rintro e w3 ⟨c, rfl, hc0, hc, b3⟩
    have HR3 := Lib.hid (HB0.out.rt.later b3)
    go_wp2_with fail
    refine (copyR HR3.out (by decide)).mono ?_
    rintro e w4 ⟨q2, v2, rfl, hq0, hq, hv, b4⟩
    have HTw := Lib.hid (Two.copy (B := w.heap.size) HB0.out HT0.out HQ1.out (fun g hg => by cases hg) HBW.out.size b3 hc0 hc b4 hq0 hq hv)
    have HBW4 := Lib.hid (below_of (below_of HBW.out b3) b4)
    clear hc0 hc b3 hq0 hq hv b4 HR3 HB0 HBW HT0 HQ1
    go_wp2_with fail
    go_loopw [11, 12, 13] (fun y z x wr => ∃ (i : Nat) (v : Value) (T : Tr) (c q2 : Nat) (v2 : Value) (T2 : Tr), i ≤ l.length ∧ y = .pointer (some ⟨c, 0, none⟩) ∧ z = .pointer (some ⟨q2, 0, none⟩) ∧ x = .int .i64 i ∧ Hid (Two w.heap.size t q v T c q2 v2 T2 n wr) ∧ Hid (T.el.length ≤ i) ∧ Hid (T2.el.length ≤ i) ∧ Hid (Below w.heap.size w wr)) (fun _ _ x _ => l.length - (intOf x).toNat)
    case atStart => exact ⟨0, _, _, c, q2, _, _, Nat.zero_le _, rfl, rfl, rfl, HTw, Nat.le_refl _, Nat.le_refl _, HBW4⟩
    case round =>
      clear HTw HBW4
      obtain ⟨i, v, T, d, q3, v3, T2, hi, rfl, rfl, rfl, HTw, HLa, HLb, HBr⟩ := hrel
      cases hx : l[i]? with
      | some x =>
        obtain ⟨g, o, rfl, hgl, hc⟩ := HL.out.at hx
        have k0 : (i : Int) < l.length := by have := (List.getElem?_eq_some_iff.1 hx).1; omega
        have HCk : Hid (∀ (W : World), Below w.heap.size w W → W.cell? ⟨g, o + i * 4, none⟩ = some (.bool x.del) ∧ W.cell? ⟨g, o + i * 4 + 1, none⟩ = some (.int .u32 x.p.1) ∧ W.cell? ⟨g, o + i * 4 + 2, none⟩ = some (.int .i64 x.p.2) ∧ W.cell? ⟨g, o + i * 4 + 3, none⟩ = some (.int .i64 x.x)) :=
          fun W hb => ⟨cell_later hb (hc 0 _ rfl), cell_later hb (hc 1 _ rfl), cell_later hb (hc 2 _ rfl), cell_later hb (hc 3 _ rfl)⟩
        have hky := (HK.out x (List.mem_of_getElem? hx)).p
        have HKy := Lib.hid hky
        have HD := Lib.hid (fun (W : World) (hb : Below wr.heap.size wr W) => doT (HTw.out.a.later hb) (by have h1 := HTw.out.a.tr.inv.few.1; have h2 := HLa.out; omega) (by have h2 := HLa.out; omega) x hky.ad)
        have HLn := Lib.hid (tr_len (lim := n) (c := x) hky.ad HTw.out.a.tr.inv HLa.out)
        clear hc hx hky hgl
        obtain ⟨del, ⟨pa, pn⟩, cx⟩ := x
        simp only [Ac.val] at HKy HCk HD
        go_wp2_with fail
        (refine wp_region_held_drew (S := (fun w' => Below w.heap.size w w')) (by kernel_rfl) ?_ (fun hHeld => ?_); (focus ((try dsimp only); (exact HBr.out.drew))))
        have HD2 := Lib.hid (HD.out _ (Below.refl _ _).drew)
        have HTd := Lib.hid (HTw.out.later (Below.refl _ _).drew)
        have HHe := Lib.hid hHeld
        (refine wpAnyH_take (i := 0) (v := ?_) rfl (by kernel_rfl) (by kernel_rfl) (by kernel_rfl) (fun _ _ _ h => h) (Or.inl ⟨by rfl, ?_⟩) hHeld ?_; rotate_left; (focus (intro w hSw; (try dsimp only at hSw); go_simp; try with_reducible rfl)); (try simp only [Act.put, List.setIfInBounds_toArray, List.set_cons_zero, List.set_cons_succ, List.getElem_toArray, List.getElem_cons_zero])); (refine wpAnyH_take (i := 1) (v := ?_) rfl (by kernel_rfl) (by kernel_rfl) (by kernel_rfl) (fun _ _ _ h => h) (Or.inl ⟨by rfl, ?_⟩) hHeld ?_; rotate_left; (focus (intro w hSw; (try dsimp only at hSw); go_simp; try with_reducible rfl)); (try simp only [Act.put, List.setIfInBounds_toArray, List.set_cons_zero, List.set_cons_succ, List.getElem_toArray, List.getElem_cons_zero, List.getElem_cons_succ])); (refine wpAnyH_take (i := 2) (v := ?_) rfl (by kernel_rfl) (by kernel_rfl) (by kernel_rfl) (fun _ _ _ h => h) (Or.inl ⟨by rfl, ?_⟩) hHeld ?_; rotate_left; (focus (intro w hSw; (try dsimp only at hSw); go_simp; try with_reducible rfl)); (try simp only [Act.put, List.setIfInBounds_toArray, List.set_cons_zero, List.set_cons_succ, List.getElem_toArray, List.getElem_cons_zero, List.getElem_cons_succ])); (refine wpAnyH_take (i := 3) (v := ?_) rfl (by kernel_rfl) (by kernel_rfl) (by kernel_rfl) (fun _ _ _ h => h) (Or.inl ⟨by rfl, ?_⟩) hHeld ?_; rotate_left; (focus (intro w hSw; (try dsimp only at hSw); go_simp; try with_reducible rfl)); (try simp only [Act.put, List.setIfInBounds_toArray, List.set_cons_zero, List.set_cons_succ, List.getElem_toArray, List.getElem_cons_zero, List.getElem_cons_succ])); (refine wpAnyH_take (i := 4) (v := ?_) rfl (by kernel_rfl) (by kernel_rfl) (by kernel_rfl) (fun _ _ _ h => h) (Or.inl ⟨by rfl, ?_⟩) hHeld ?_; rotate_left; (focus (intro w hSw; (try dsimp only at hSw); go_simp; try with_reducible rfl)); (try simp only [Act.put, List.setIfInBounds_toArray, List.set_cons_zero, List.set_cons_succ, List.getElem_toArray, List.getElem_cons_zero, List.getElem_cons_succ]))
        (refine wpAnyH_take (i := 5) (v := ?_) rfl (by kernel_rfl) (by kernel_rfl) (by kernel_rfl) (fun _ _ _ h => h) (Or.inl ⟨by rfl, ?_⟩) hHeld ?_; rotate_left; (focus (intro w hSw; (try dsimp only at hSw); go_simp; ((obtain ⟨ha, hb, hc, hd⟩ := HCk.out _ hSw); go_simp; try with_reducible rfl))); (try simp only [Act.put, List.setIfInBounds_toArray, List.set_cons_zero, List.set_cons_succ, List.getElem_toArray, List.getElem_cons_zero, List.getElem_cons_succ]))
        (refine wpAnyH_ready (rs := [6]) (by kernel_rfl) (by simp) ?_; refine AllReadyH.cons rfl (fun K hK => ?_) AllReadyH.nil; go_simp; (refine HD2.out.mono ?_; rintro e w5 ⟨rfl, v5, hB5, hC5, hF5⟩); refine hK.out _ _ ?_ (fun hHeldN => ?_); (focus ((try dsimp only); (exact hHeld.trans (HTd.out.below HHe.out.size hC5)))); clear hK K hHeld; have hHeld := hHeldN; clear hHeldN; (try simp only [Act.put, List.setIfInBounds_toArray, List.set_cons_zero, List.set_cons_succ, List.getElem_toArray, List.getElem_cons_zero, List.getElem_cons_succ]))
        have HT5 := Lib.hid (HTd.out.act HHe.out.size hB5 hC5 hF5)
        clear hB5 hC5 hF5 HD HD2 HTd HHe
        have HK5 := Lib.hid (looksT HT5.out.a (by have h2 := HLn.out; omega) HKy.out.ad HKy.out.a0 HKy.out.a1 m)
        simp only at HK5
        (refine wpAnyH_take (i := 7) (v := ?_) rfl (by kernel_rfl) (by kernel_rfl) (by kernel_rfl) (fun _ _ _ h => h) (Or.inl ⟨by rfl, ?_⟩) hHeld ?_; rotate_left; (focus (intro w hSw; (try dsimp only at hSw); go_simp; try with_reducible rfl)); (try simp only [Act.put, List.setIfInBounds_toArray, List.set_cons_zero, List.set_cons_succ, List.getElem_toArray, List.getElem_cons_zero, List.getElem_cons_succ])); (refine wpAnyH_take (i := 8) (v := ?_) rfl (by kernel_rfl) (by kernel_rfl) (by kernel_rfl) (fun _ _ _ h => h) (Or.inl ⟨by rfl, ?_⟩) hHeld ?_; rotate_left; (focus (intro w hSw; (try dsimp only at hSw); go_simp; try with_reducible rfl)); (try simp only [Act.put, List.setIfInBounds_toArray, List.set_cons_zero, List.set_cons_succ, List.getElem_toArray, List.getElem_cons_zero, List.getElem_cons_succ])); (refine wpAnyH_take (i := 9) (v := ?_) rfl (by kernel_rfl) (by kernel_rfl) (by kernel_rfl) (fun _ _ _ h => h) (Or.inl ⟨by rfl, ?_⟩) hHeld ?_; rotate_left; (focus (intro w hSw; (try dsimp only at hSw); go_simp; try with_reducible rfl)); (try simp only [Act.put, List.setIfInBounds_toArray, List.set_cons_zero, List.set_cons_succ, List.getElem_toArray, List.getElem_cons_zero, List.getElem_cons_succ])); (refine wpAnyH_take (i := 10) (v := ?_) rfl (by kernel_rfl) (by kernel_rfl) (by kernel_rfl) (fun _ _ _ h => h) (Or.inl ⟨by rfl, ?_⟩) hHeld ?_; rotate_left; (focus (intro w hSw; (try dsimp only at hSw); go_simp; try with_reducible rfl)); (try simp only [Act.put, List.setIfInBounds_toArray, List.set_cons_zero, List.set_cons_succ, List.getElem_toArray, List.getElem_cons_zero, List.getElem_cons_succ])); (refine wpAnyH_take (i := 11) (v := ?_) rfl (by kernel_rfl) (by kernel_rfl) (by kernel_rfl) (fun _ _ _ h => h) (Or.inl ⟨by rfl, ?_⟩) hHeld ?_; rotate_left; (focus (intro w hSw; (try dsimp only at hSw); go_simp; try with_reducible rfl)); (try simp only [Act.put, List.setIfInBounds_toArray, List.set_cons_zero, List.set_cons_succ, List.getElem_toArray, List.getElem_cons_zero, List.getElem_cons_succ])); (refine wpAnyH_take (i := 12) (v := ?_) rfl (by kernel_rfl) (by kernel_rfl) (by kernel_rfl) (fun _ _ _ h => h) (Or.inl ⟨by rfl, ?_⟩) hHeld ?_; rotate_left; (focus (intro w hSw; (try dsimp only at hSw); go_simp; try with_reducible rfl)); (try simp only [Act.put, List.setIfInBounds_toArray, List.set_cons_zero, List.set_cons_succ, List.getElem_toArray, List.getElem_cons_zero, List.getElem_cons_succ])); (refine wpAnyH_take (i := 13) (v := ?_) rfl (by kernel_rfl) (by kernel_rfl) (by kernel_rfl) (fun _ _ _ h => h) (Or.inl ⟨by rfl, ?_⟩) hHeld ?_; rotate_left; (focus (intro w hSw; (try dsimp only at hSw); go_simp; try with_reducible rfl)); (try simp only [Act.put, List.setIfInBounds_toArray, List.set_cons_zero, List.set_cons_succ, List.getElem_toArray, List.getElem_cons_zero, List.getElem_cons_succ])); (refine wpAnyH_take (i := 14) (v := ?_) rfl (by kernel_rfl) (by kernel_rfl) (by kernel_rfl) (fun _ _ _ h => h) (Or.inl ⟨by rfl, ?_⟩) hHeld ?_; rotate_left; (focus (intro w hSw; (try dsimp only at hSw); go_simp; try with_reducible rfl)); (try simp only [Act.put, List.setIfInBounds_toArray, List.set_cons_zero, List.set_cons_succ, List.getElem_toArray, List.getElem_cons_zero, List.getElem_cons_succ]))
        (refine wpAnyH_take (i := 15) (v := ?_) rfl (by kernel_rfl) (by kernel_rfl) (by kernel_rfl) (fun _ _ _ h => h) (Or.inl ⟨by rfl, ?_⟩) hHeld ?_; rotate_left; (focus (intro w hSw; (try dsimp only at hSw); go_simp; ((obtain ⟨ha, hb, hc, hd⟩ := HCk.out _ hSw); go_simp; try with_reducible rfl))); (try simp only [Act.put, List.setIfInBounds_toArray, List.set_cons_zero, List.set_cons_succ, List.getElem_toArray, List.getElem_cons_zero, List.getElem_cons_succ]))
        (refine wpAnyH_take (i := 16) (v := ?_) rfl (by kernel_rfl) (by kernel_rfl) (by kernel_rfl) (fun _ _ _ h => h) (Or.inl ⟨by rfl, ?_⟩) hHeld ?_; rotate_left; (focus (intro w hSw; (try dsimp only at hSw); go_simp; try with_reducible rfl)); (try simp only [Act.put, List.setIfInBounds_toArray, List.set_cons_zero, List.set_cons_succ, List.getElem_toArray, List.getElem_cons_zero, List.getElem_cons_succ])); (refine wpAnyH_take (i := 17) (v := ?_) rfl (by kernel_rfl) (by kernel_rfl) (by kernel_rfl) (fun _ _ _ h => h) (Or.inl ⟨by rfl, ?_⟩) hHeld ?_; rotate_left; (focus (intro w hSw; (try dsimp only at hSw); go_simp; try with_reducible rfl)); (try simp only [Act.put, List.setIfInBounds_toArray, List.set_cons_zero, List.set_cons_succ, List.getElem_toArray, List.getElem_cons_zero, List.getElem_cons_succ])); (refine wpAnyH_take (i := 18) (v := ?_) rfl (by kernel_rfl) (by kernel_rfl) (by kernel_rfl) (fun _ _ _ h => h) (Or.inl ⟨by rfl, ?_⟩) hHeld ?_; rotate_left; (focus (intro w hSw; (try dsimp only at hSw); go_simp; try with_reducible rfl)); (try simp only [Act.put, List.setIfInBounds_toArray, List.set_cons_zero, List.set_cons_succ, List.getElem_toArray, List.getElem_cons_zero, List.getElem_cons_succ])); (refine wpAnyH_take (i := 19) (v := ?_) rfl (by kernel_rfl) (by kernel_rfl) (by kernel_rfl) (fun _ _ _ h => h) (Or.inl ⟨by rfl, ?_⟩) hHeld ?_; rotate_left; (focus (intro w hSw; (try dsimp only at hSw); go_simp; try with_reducible rfl)); (try simp only [Act.put, List.setIfInBounds_toArray, List.set_cons_zero, List.set_cons_succ, List.getElem_toArray, List.getElem_cons_zero, List.getElem_cons_succ])); (refine wpAnyH_take (i := 20) (v := ?_) rfl (by kernel_rfl) (by kernel_rfl) (by kernel_rfl) (fun _ _ _ h => h) (Or.inl ⟨by rfl, ?_⟩) hHeld ?_; rotate_left; (focus (intro w hSw; (try dsimp only at hSw); go_simp; try with_reducible rfl)); (try simp only [Act.put, List.setIfInBounds_toArray, List.set_cons_zero, List.set_cons_succ, List.getElem_toArray, List.getElem_cons_zero, List.getElem_cons_succ]))
        (refine wpAnyH_take (i := 21) (v := ?_) rfl (by kernel_rfl) (by kernel_rfl) (by kernel_rfl) (fun _ _ _ h => h) (Or.inl ⟨by rfl, ?_⟩) hHeld ?_; rotate_left; (focus (intro w hSw; (try dsimp only at hSw); go_simp; ((obtain ⟨ha, hb, hc, hd⟩ := HCk.out _ hSw); go_simp; try with_reducible rfl))); (try simp only [Act.put, List.setIfInBounds_toArray, List.set_cons_zero, List.set_cons_succ, List.getElem_toArray, List.getElem_cons_zero, List.getElem_cons_succ]))
        (refine wpAnyH_take (i := 22) (v := ?_) rfl (by kernel_rfl) (by kernel_rfl) (by kernel_rfl) (fun _ _ _ h => h) (Or.inl ⟨by rfl, ?_⟩) hHeld ?_; rotate_left; (focus (intro w hSw; (try dsimp only at hSw); go_simp; try with_reducible rfl)); (try simp only [Act.put, List.setIfInBounds_toArray, List.set_cons_zero, List.set_cons_succ, List.getElem_toArray, List.getElem_cons_zero, List.getElem_cons_succ]))
        (refine wpAnyH_ready (rs := [23]) (by kernel_rfl) (by simp) ?_; refine AllReadyH.cons rfl (fun K hK => ?_) AllReadyH.nil; go_simp; (refine HK5.out.mono ?_; rintro e w6 ⟨rfl, b6⟩); refine hK.out _ _ ?_ (fun hHeldN => ?_); (focus ((try dsimp only); (exact below_of hHeld b6))); clear hK K hHeld; have hHeld := hHeldN; clear hHeldN; (try simp only [Act.put, List.setIfInBounds_toArray, List.set_cons_zero, List.set_cons_succ, List.getElem_toArray, List.getElem_cons_zero, List.getElem_cons_succ]))
        (refine wpAnyH_take (i := 24) (v := ?_) rfl (by kernel_rfl) (by kernel_rfl) (by kernel_rfl) (fun _ _ _ h => h) (Or.inl ⟨by rfl, ?_⟩) hHeld ?_; rotate_left; (focus (intro w hSw; (try dsimp only at hSw); go_simp; try with_reducible rfl)); (try simp only [Act.put, List.setIfInBounds_toArray, List.set_cons_zero, List.set_cons_succ, List.getElem_toArray, List.getElem_cons_zero, List.getElem_cons_succ])); (refine wpAnyH_take (i := 25) (v := ?_) rfl (by kernel_rfl) (by kernel_rfl) (by kernel_rfl) (fun _ _ _ h => h) (Or.inl ⟨by rfl, ?_⟩) hHeld ?_; rotate_left; (focus (intro w hSw; (try dsimp only at hSw); go_simp; try with_reducible rfl)); (try simp only [Act.put, List.setIfInBounds_toArray, List.set_cons_zero, List.set_cons_succ, List.getElem_toArray, List.getElem_cons_zero, List.getElem_cons_succ]))
        refine wpAnyH_done (by kernel_rfl) ?_ _
        have HT6 := Lib.hid (HT5.out.later b6)
        have HB6 := Lib.hid hHeld
        clear hHeld b6 HK5 HT5
        go_wp2_with fail
        · have HR6 := Lib.hid (copyT HT6.out.a.tr)
          refine HR6.out.mono ?_
          rintro e w7 ⟨d2, rfl, hc0, hc, b3⟩
          have HR3 := Lib.hid (HT6.out.a.rt.later b3)
          clear HR6
          go_wp2_with fail
          refine (copyR HR3.out (by have h2 := HLn.out; omega)).mono ?_
          rintro e w8 ⟨q4, v4, rfl, hq0, hq, hv, b4⟩
          have HTw8 := Lib.hid (Two.copy (B := w.heap.size) HT6.out.a HT6.out.m1 HT6.out.m2 HT6.out.m3 HB6.out.size b3 hc0 hc b4 hq0 hq hv)
          have HB8 := Lib.hid (below_of (below_of HB6.out b3) b4)
          clear hc0 hc b3 hq0 hq hv b4 HR3
          go_wp2_with fail
          go_roundw
          case rel => exact ⟨i + 1, _, _, d2, q4, _, _, by omega, rfl, rfl, by go_num, HTw8, HLn, HLn, HB8⟩
          case measure => simp [intOf]; omega
        · go_roundw
          case rel => exact ⟨i + 1, _, _, d, q3, _, _, by omega, rfl, rfl, by go_num, HT6, HLn, Nat.le_succ_of_le HLb.out, HB6⟩
          case measure => simp [intOf]; omega
      | none =>
        have e : i = l.length := by have := List.getElem?_eq_none_iff.1 hx; omega
        subst e
        clear hx
        have HL1 : Hid (T.el.length ≤ 100) := Nat.le_trans HLa.out hl100
        have HL2 : Hid (T2.el.length ≤ 100) := Nat.le_trans HLb.out hl100
        go_wp2_with fail
        go_loopw [14] (fun x w5 => ∃ (i : Nat), i ≤ r.length ∧ x = .int .i64 i ∧ Hid (Below wr.heap.size wr w5)) (fun x _ => r.length - (intOf x).toNat)
        case atStart => exact ⟨0, Nat.zero_le _, rfl, Below.refl _ _⟩
        case round =>
          obtain ⟨i, hi, rfl, HBs⟩ := hrel
          have HBw := Lib.hid (below_of HBr.out HBs.out)
          have HTs := Lib.hid (HTw.out.later HBs.out)
          cases hx : r[i]? with
          | some x =>
            obtain ⟨g, o, rfl, hgl, hc⟩ := HR.out.at hx
            have k0 : (i : Int) < r.length := by have := (List.getElem?_eq_some_iff.1 hx).1; omega
            have HCk : Hid (∀ (W : World), Below w.heap.size w W → W.cell? ⟨g, o + i, none⟩ = some (.int .u32 x)) :=
              fun W hb => cell_later hb (by have h2 := hc 0 _ rfl; rw [Nat.add_zero, Nat.mul_one] at h2; exact h2)
            have hxa := HQ.out x (List.mem_of_getElem? hx)
            have c0 := HCk.out _ HBw.out
            have HK5 := Lib.hid (looksT HTs.out.a (by have h2 := HL1.out; omega) (p := (0, 0)) ⟨by decide, by decide⟩ hxa.1 hxa.2 m)
            have HK6 := Lib.hid (fun (V : World) (hb : Below wr.heap.size wr V) => looksT (HTs.out.b.later hb) (by have h2 := HL2.out; omega) (p := (0, 0)) ⟨by decide, by decide⟩ hxa.1 hxa.2 0)
            clear hc hx hxa hgl
            go_wp2_with fail
            refine HK5.out.mono ?_
            rintro e w5 ⟨rfl, b5⟩
            have HB5 := Lib.hid (below_of HBs.out b5)
            have HBw5 := Lib.hid (below_of HBw.out b5)
            have HK6' := Lib.hid (HK6.out _ b5)
            have c1 := HCk.out _ HBw5.out
            clear b5 HK5 HK6 c0
            go_wp2_with fail
            refine HK6'.out.mono ?_
            rintro e w6 ⟨rfl, b6⟩
            have HB6 := Lib.hid (below_of HB5.out b6)
            clear b6 HK6' c1
            go_wp2_with fail
            go_roundw
            case rel => exact ⟨i + 1, by omega, by go_num, HB6⟩
            case measure => simp [intOf]; omega
          | none =>
            have e : i = r.length := by have := List.getElem?_eq_none_iff.1 hx; omega
            subst e
            clear hx
            have HLL : Hid (T2.el.length ≤ 100 + 0) := HL2
            go_wp2_with fail
            go_loopw [15] (fun x w5 => ∃ (i : Nat) (v3 : Value) (T2 : Tr), i ≤ l.length ∧ x = .int .i64 i ∧ Hid (Two w.heap.size t q v T d q3 v3 T2 n w5) ∧ Hid (T2.el.length ≤ 100 + i) ∧ Hid (Below w.heap.size w w5)) (fun x _ => l.length - (intOf x).toNat)
            case atStart => exact ⟨0, _, _, Nat.zero_le _, rfl, HTs, HLL, HBw⟩
            case round =>
              clear HTs HBw HLL HBs HTw HBr HLb HL2
              obtain ⟨i, v3, T2, hi, rfl, HTw, HLb, HBr⟩ := hrel
              cases hx : l[i]? with
              | some x =>
                obtain ⟨g, o, rfl, hgl, hc⟩ := HL.out.at hx
                have k0 : (i : Int) < l.length := by have := (List.getElem?_eq_some_iff.1 hx).1; omega
                have HCk : Hid (∀ (W : World), Below w.heap.size w W → W.cell? ⟨g, o + i * 4, none⟩ = some (.bool x.del) ∧ W.cell? ⟨g, o + i * 4 + 1, none⟩ = some (.int .u32 x.p.1) ∧ W.cell? ⟨g, o + i * 4 + 2, none⟩ = some (.int .i64 x.p.2) ∧ W.cell? ⟨g, o + i * 4 + 3, none⟩ = some (.int .i64 x.x)) :=
                  fun W hb => ⟨cell_later hb (hc 0 _ rfl), cell_later hb (hc 1 _ rfl), cell_later hb (hc 2 _ rfl), cell_later hb (hc 3 _ rfl)⟩
                have hky := (HK.out x (List.mem_of_getElem? hx)).p
                have HKy := Lib.hid hky
                have HD := Lib.hid (fun (W : World) (hb : Below wr.heap.size wr W) => doT (HTw.out.b.later hb) (by have h1 := HTw.out.b.tr.inv.few.1; have h2 := HLb.out; omega) (by have h2 := HLb.out; omega) x hky.ad)
                have HLn := Lib.hid (tr_len (lim := n) (c := x) hky.ad HTw.out.b.tr.inv HLb.out)
                clear hc hx hky hgl
                obtain ⟨del, ⟨pa, pn⟩, cx⟩ := x
                simp only [Ac.val] at HKy HCk HD
                go_wp2_with fail
                (refine wp_region_held_drew (S := (fun w' => Below w.heap.size w w')) (by kernel_rfl) ?_ (fun hHeld => ?_); (focus ((try dsimp only); (exact HBr.out.drew))))
                have HD2 := Lib.hid (HD.out _ (Below.refl _ _).drew)
                have HTd := Lib.hid (HTw.out.later (Below.refl _ _).drew).swap
                have HHe := Lib.hid hHeld
                (refine wpAnyH_take (i := 0) (v := ?_) rfl (by kernel_rfl) (by kernel_rfl) (by kernel_rfl) (fun _ _ _ h => h) (Or.inl ⟨by rfl, ?_⟩) hHeld ?_; rotate_left; (focus (intro w hSw; (try dsimp only at hSw); go_simp; try with_reducible rfl)); (try simp only [Act.put, List.setIfInBounds_toArray, List.set_cons_zero, List.set_cons_succ, List.getElem_toArray, List.getElem_cons_zero])); (refine wpAnyH_take (i := 1) (v := ?_) rfl (by kernel_rfl) (by kernel_rfl) (by kernel_rfl) (fun _ _ _ h => h) (Or.inl ⟨by rfl, ?_⟩) hHeld ?_; rotate_left; (focus (intro w hSw; (try dsimp only at hSw); go_simp; try with_reducible rfl)); (try simp only [Act.put, List.setIfInBounds_toArray, List.set_cons_zero, List.set_cons_succ, List.getElem_toArray, List.getElem_cons_zero, List.getElem_cons_succ])); (refine wpAnyH_take (i := 2) (v := ?_) rfl (by kernel_rfl) (by kernel_rfl) (by kernel_rfl) (fun _ _ _ h => h) (Or.inl ⟨by rfl, ?_⟩) hHeld ?_; rotate_left; (focus (intro w hSw; (try dsimp only at hSw); go_simp; try with_reducible rfl)); (try simp only [Act.put, List.setIfInBounds_toArray, List.set_cons_zero, List.set_cons_succ, List.getElem_toArray, List.getElem_cons_zero, List.getElem_cons_succ])); (refine wpAnyH_take (i := 3) (v := ?_) rfl (by kernel_rfl) (by kernel_rfl) (by kernel_rfl) (fun _ _ _ h => h) (Or.inl ⟨by rfl, ?_⟩) hHeld ?_; rotate_left; (focus (intro w hSw; (try dsimp only at hSw); go_simp; try with_reducible rfl)); (try simp only [Act.put, List.setIfInBounds_toArray, List.set_cons_zero, List.set_cons_succ, List.getElem_toArray, List.getElem_cons_zero, List.getElem_cons_succ])); (refine wpAnyH_take (i := 4) (v := ?_) rfl (by kernel_rfl) (by kernel_rfl) (by kernel_rfl) (fun _ _ _ h => h) (Or.inl ⟨by rfl, ?_⟩) hHeld ?_; rotate_left; (focus (intro w hSw; (try dsimp only at hSw); go_simp; try with_reducible rfl)); (try simp only [Act.put, List.setIfInBounds_toArray, List.set_cons_zero, List.set_cons_succ, List.getElem_toArray, List.getElem_cons_zero, List.getElem_cons_succ]))
                (refine wpAnyH_take (i := 5) (v := ?_) rfl (by kernel_rfl) (by kernel_rfl) (by kernel_rfl) (fun _ _ _ h => h) (Or.inl ⟨by rfl, ?_⟩) hHeld ?_; rotate_left; (focus (intro w hSw; (try dsimp only at hSw); go_simp; ((obtain ⟨ha, hb, hc, hd⟩ := HCk.out _ hSw); go_simp; try with_reducible rfl))); (try simp only [Act.put, List.setIfInBounds_toArray, List.set_cons_zero, List.set_cons_succ, List.getElem_toArray, List.getElem_cons_zero, List.getElem_cons_succ]))
                (refine wpAnyH_ready (rs := [6]) (by kernel_rfl) (by simp) ?_; refine AllReadyH.cons rfl (fun K hK => ?_) AllReadyH.nil; go_simp; (refine HD2.out.mono ?_; rintro e w5 ⟨rfl, v5, hB5, hC5, hF5⟩); refine hK.out _ _ ?_ (fun hHeldN => ?_); (focus ((try dsimp only); (exact hHeld.trans (HTd.out.below HHe.out.size hC5)))); clear hK K hHeld; have hHeld := hHeldN; clear hHeldN; (try simp only [Act.put, List.setIfInBounds_toArray, List.set_cons_zero, List.set_cons_succ, List.getElem_toArray, List.getElem_cons_zero, List.getElem_cons_succ]))
                have HT5 := Lib.hid (HTd.out.act HHe.out.size hB5 hC5 hF5).swap
                clear hB5 hC5 hF5 HD HD2 HTd HHe
                have HK5 := Lib.hid (looksT HT5.out.b (by have h2 := HLn.out; omega) HKy.out.ad HKy.out.a0 HKy.out.a1 0)
                have HK6 := Lib.hid (fun (V : World) (hb : Below w5.heap.size w5 V) => looksT (HT5.out.a.later hb) (by have h2 := HL1.out; omega) HKy.out.ad HKy.out.a0 HKy.out.a1 0)
                simp only at HK5 HK6
                (refine wpAnyH_take (i := 7) (v := ?_) rfl (by kernel_rfl) (by kernel_rfl) (by kernel_rfl) (fun _ _ _ h => h) (Or.inl ⟨by rfl, ?_⟩) hHeld ?_; rotate_left; (focus (intro w hSw; (try dsimp only at hSw); go_simp; try with_reducible rfl)); (try simp only [Act.put, List.setIfInBounds_toArray, List.set_cons_zero, List.set_cons_succ, List.getElem_toArray, List.getElem_cons_zero, List.getElem_cons_succ])); (refine wpAnyH_take (i := 8) (v := ?_) rfl (by kernel_rfl) (by kernel_rfl) (by kernel_rfl) (fun _ _ _ h => h) (Or.inl ⟨by rfl, ?_⟩) hHeld ?_; rotate_left; (focus (intro w hSw; (try dsimp only at hSw); go_simp; try with_reducible rfl)); (try simp only [Act.put, List.setIfInBounds_toArray, List.set_cons_zero, List.set_cons_succ, List.getElem_toArray, List.getElem_cons_zero, List.getElem_cons_succ])); (refine wpAnyH_take (i := 9) (v := ?_) rfl (by kernel_rfl) (by kernel_rfl) (by kernel_rfl) (fun _ _ _ h => h) (Or.inl ⟨by rfl, ?_⟩) hHeld ?_; rotate_left; (focus (intro w hSw; (try dsimp only at hSw); go_simp; try with_reducible rfl)); (try simp only [Act.put, List.setIfInBounds_toArray, List.set_cons_zero, List.set_cons_succ, List.getElem_toArray, List.getElem_cons_zero, List.getElem_cons_succ])); (refine wpAnyH_take (i := 10) (v := ?_) rfl (by kernel_rfl) (by kernel_rfl) (by kernel_rfl) (fun _ _ _ h => h) (Or.inl ⟨by rfl, ?_⟩) hHeld ?_; rotate_left; (focus (intro w hSw; (try dsimp only at hSw); go_simp; try with_reducible rfl)); (try simp only [Act.put, List.setIfInBounds_toArray, List.set_cons_zero, List.set_cons_succ, List.getElem_toArray, List.getElem_cons_zero, List.getElem_cons_succ])); (refine wpAnyH_take (i := 11) (v := ?_) rfl (by kernel_rfl) (by kernel_rfl) (by kernel_rfl) (fun _ _ _ h => h) (Or.inl ⟨by rfl, ?_⟩) hHeld ?_; rotate_left; (focus (intro w hSw; (try dsimp only at hSw); go_simp; try with_reducible rfl)); (try simp only [Act.put, List.setIfInBounds_toArray, List.set_cons_zero, List.set_cons_succ, List.getElem_toArray, List.getElem_cons_zero, List.getElem_cons_succ])); (refine wpAnyH_take (i := 12) (v := ?_) rfl (by kernel_rfl) (by kernel_rfl) (by kernel_rfl) (fun _ _ _ h => h) (Or.inl ⟨by rfl, ?_⟩) hHeld ?_; rotate_left; (focus (intro w hSw; (try dsimp only at hSw); go_simp; try with_reducible rfl)); (try simp only [Act.put, List.setIfInBounds_toArray, List.set_cons_zero, List.set_cons_succ, List.getElem_toArray, List.getElem_cons_zero, List.getElem_cons_succ])); (refine wpAnyH_take (i := 13) (v := ?_) rfl (by kernel_rfl) (by kernel_rfl) (by kernel_rfl) (fun _ _ _ h => h) (Or.inl ⟨by rfl, ?_⟩) hHeld ?_; rotate_left; (focus (intro w hSw; (try dsimp only at hSw); go_simp; try with_reducible rfl)); (try simp only [Act.put, List.setIfInBounds_toArray, List.set_cons_zero, List.set_cons_succ, List.getElem_toArray, List.getElem_cons_zero, List.getElem_cons_succ])); (refine wpAnyH_take (i := 14) (v := ?_) rfl (by kernel_rfl) (by kernel_rfl) (by kernel_rfl) (fun _ _ _ h => h) (Or.inl ⟨by rfl, ?_⟩) hHeld ?_; rotate_left; (focus (intro w hSw; (try dsimp only at hSw); go_simp; try with_reducible rfl)); (try simp only [Act.put, List.setIfInBounds_toArray, List.set_cons_zero, List.set_cons_succ, List.getElem_toArray, List.getElem_cons_zero, List.getElem_cons_succ]))
                (refine wpAnyH_take (i := 15) (v := ?_) rfl (by kernel_rfl) (by kernel_rfl) (by kernel_rfl) (fun _ _ _ h => h) (Or.inl ⟨by rfl, ?_⟩) hHeld ?_; rotate_left; (focus (intro w hSw; (try dsimp only at hSw); go_simp; ((obtain ⟨ha, hb, hc, hd⟩ := HCk.out _ hSw); go_simp; try with_reducible rfl))); (try simp only [Act.put, List.setIfInBounds_toArray, List.set_cons_zero, List.set_cons_succ, List.getElem_toArray, List.getElem_cons_zero, List.getElem_cons_succ]))
                (refine wpAnyH_take (i := 16) (v := ?_) rfl (by kernel_rfl) (by kernel_rfl) (by kernel_rfl) (fun _ _ _ h => h) (Or.inl ⟨by rfl, ?_⟩) hHeld ?_; rotate_left; (focus (intro w hSw; (try dsimp only at hSw); go_simp; try with_reducible rfl)); (try simp only [Act.put, List.setIfInBounds_toArray, List.set_cons_zero, List.set_cons_succ, List.getElem_toArray, List.getElem_cons_zero, List.getElem_cons_succ])); (refine wpAnyH_take (i := 17) (v := ?_) rfl (by kernel_rfl) (by kernel_rfl) (by kernel_rfl) (fun _ _ _ h => h) (Or.inl ⟨by rfl, ?_⟩) hHeld ?_; rotate_left; (focus (intro w hSw; (try dsimp only at hSw); go_simp; try with_reducible rfl)); (try simp only [Act.put, List.setIfInBounds_toArray, List.set_cons_zero, List.set_cons_succ, List.getElem_toArray, List.getElem_cons_zero, List.getElem_cons_succ])); (refine wpAnyH_take (i := 18) (v := ?_) rfl (by kernel_rfl) (by kernel_rfl) (by kernel_rfl) (fun _ _ _ h => h) (Or.inl ⟨by rfl, ?_⟩) hHeld ?_; rotate_left; (focus (intro w hSw; (try dsimp only at hSw); go_simp; try with_reducible rfl)); (try simp only [Act.put, List.setIfInBounds_toArray, List.set_cons_zero, List.set_cons_succ, List.getElem_toArray, List.getElem_cons_zero, List.getElem_cons_succ])); (refine wpAnyH_take (i := 19) (v := ?_) rfl (by kernel_rfl) (by kernel_rfl) (by kernel_rfl) (fun _ _ _ h => h) (Or.inl ⟨by rfl, ?_⟩) hHeld ?_; rotate_left; (focus (intro w hSw; (try dsimp only at hSw); go_simp; try with_reducible rfl)); (try simp only [Act.put, List.setIfInBounds_toArray, List.set_cons_zero, List.set_cons_succ, List.getElem_toArray, List.getElem_cons_zero, List.getElem_cons_succ])); (refine wpAnyH_take (i := 20) (v := ?_) rfl (by kernel_rfl) (by kernel_rfl) (by kernel_rfl) (fun _ _ _ h => h) (Or.inl ⟨by rfl, ?_⟩) hHeld ?_; rotate_left; (focus (intro w hSw; (try dsimp only at hSw); go_simp; try with_reducible rfl)); (try simp only [Act.put, List.setIfInBounds_toArray, List.set_cons_zero, List.set_cons_succ, List.getElem_toArray, List.getElem_cons_zero, List.getElem_cons_succ]))
                (refine wpAnyH_take (i := 21) (v := ?_) rfl (by kernel_rfl) (by kernel_rfl) (by kernel_rfl) (fun _ _ _ h => h) (Or.inl ⟨by rfl, ?_⟩) hHeld ?_; rotate_left; (focus (intro w hSw; (try dsimp only at hSw); go_simp; ((obtain ⟨ha, hb, hc, hd⟩ := HCk.out _ hSw); go_simp; try with_reducible rfl))); (try simp only [Act.put, List.setIfInBounds_toArray, List.set_cons_zero, List.set_cons_succ, List.getElem_toArray, List.getElem_cons_zero, List.getElem_cons_succ]))
                (refine wpAnyH_ready (rs := [22]) (by kernel_rfl) (by simp) ?_; refine AllReadyH.cons rfl (fun K hK => ?_) AllReadyH.nil; go_simp; (refine HK5.out.mono ?_; rintro e w6 ⟨rfl, b6⟩); refine hK.out _ _ ?_ (fun hHeldN => ?_); (focus ((try dsimp only); (exact below_of hHeld b6))); clear hK K hHeld; have hHeld := hHeldN; clear hHeldN; (try simp only [Act.put, List.setIfInBounds_toArray, List.set_cons_zero, List.set_cons_succ, List.getElem_toArray, List.getElem_cons_zero, List.getElem_cons_succ]))
                have HK7 := Lib.hid (HK6.out _ b6)
                (refine wpAnyH_take (i := 23) (v := ?_) rfl (by kernel_rfl) (by kernel_rfl) (by kernel_rfl) (fun _ _ _ h => h) (Or.inl ⟨by rfl, ?_⟩) hHeld ?_; rotate_left; (focus (intro w hSw; (try dsimp only at hSw); go_simp; try with_reducible rfl)); (try simp only [Act.put, List.setIfInBounds_toArray, List.set_cons_zero, List.set_cons_succ, List.getElem_toArray, List.getElem_cons_zero, List.getElem_cons_succ])); (refine wpAnyH_take (i := 24) (v := ?_) rfl (by kernel_rfl) (by kernel_rfl) (by kernel_rfl) (fun _ _ _ h => h) (Or.inl ⟨by rfl, ?_⟩) hHeld ?_; rotate_left; (focus (intro w hSw; (try dsimp only at hSw); go_simp; try with_reducible rfl)); (try simp only [Act.put, List.setIfInBounds_toArray, List.set_cons_zero, List.set_cons_succ, List.getElem_toArray, List.getElem_cons_zero, List.getElem_cons_succ])); (refine wpAnyH_take (i := 25) (v := ?_) rfl (by kernel_rfl) (by kernel_rfl) (by kernel_rfl) (fun _ _ _ h => h) (Or.inl ⟨by rfl, ?_⟩) hHeld ?_; rotate_left; (focus (intro w hSw; (try dsimp only at hSw); go_simp; try with_reducible rfl)); (try simp only [Act.put, List.setIfInBounds_toArray, List.set_cons_zero, List.set_cons_succ, List.getElem_toArray, List.getElem_cons_zero, List.getElem_cons_succ])); (refine wpAnyH_take (i := 26) (v := ?_) rfl (by kernel_rfl) (by kernel_rfl) (by kernel_rfl) (fun _ _ _ h => h) (Or.inl ⟨by rfl, ?_⟩) hHeld ?_; rotate_left; (focus (intro w hSw; (try dsimp only at hSw); go_simp; try with_reducible rfl)); (try simp only [Act.put, List.setIfInBounds_toArray, List.set_cons_zero, List.set_cons_succ, List.getElem_toArray, List.getElem_cons_zero, List.getElem_cons_succ])); (refine wpAnyH_take (i := 27) (v := ?_) rfl (by kernel_rfl) (by kernel_rfl) (by kernel_rfl) (fun _ _ _ h => h) (Or.inl ⟨by rfl, ?_⟩) hHeld ?_; rotate_left; (focus (intro w hSw; (try dsimp only at hSw); go_simp; try with_reducible rfl)); (try simp only [Act.put, List.setIfInBounds_toArray, List.set_cons_zero, List.set_cons_succ, List.getElem_toArray, List.getElem_cons_zero, List.getElem_cons_succ])); (refine wpAnyH_take (i := 28) (v := ?_) rfl (by kernel_rfl) (by kernel_rfl) (by kernel_rfl) (fun _ _ _ h => h) (Or.inl ⟨by rfl, ?_⟩) hHeld ?_; rotate_left; (focus (intro w hSw; (try dsimp only at hSw); go_simp; try with_reducible rfl)); (try simp only [Act.put, List.setIfInBounds_toArray, List.set_cons_zero, List.set_cons_succ, List.getElem_toArray, List.getElem_cons_zero, List.getElem_cons_succ])); (refine wpAnyH_take (i := 29) (v := ?_) rfl (by kernel_rfl) (by kernel_rfl) (by kernel_rfl) (fun _ _ _ h => h) (Or.inl ⟨by rfl, ?_⟩) hHeld ?_; rotate_left; (focus (intro w hSw; (try dsimp only at hSw); go_simp; try with_reducible rfl)); (try simp only [Act.put, List.setIfInBounds_toArray, List.set_cons_zero, List.set_cons_succ, List.getElem_toArray, List.getElem_cons_zero, List.getElem_cons_succ])); (refine wpAnyH_take (i := 30) (v := ?_) rfl (by kernel_rfl) (by kernel_rfl) (by kernel_rfl) (fun _ _ _ h => h) (Or.inl ⟨by rfl, ?_⟩) hHeld ?_; rotate_left; (focus (intro w hSw; (try dsimp only at hSw); go_simp; try with_reducible rfl)); (try simp only [Act.put, List.setIfInBounds_toArray, List.set_cons_zero, List.set_cons_succ, List.getElem_toArray, List.getElem_cons_zero, List.getElem_cons_succ])); (refine wpAnyH_take (i := 31) (v := ?_) rfl (by kernel_rfl) (by kernel_rfl) (by kernel_rfl) (fun _ _ _ h => h) (Or.inl ⟨by rfl, ?_⟩) hHeld ?_; rotate_left; (focus (intro w hSw; (try dsimp only at hSw); go_simp; try with_reducible rfl)); (try simp only [Act.put, List.setIfInBounds_toArray, List.set_cons_zero, List.set_cons_succ, List.getElem_toArray, List.getElem_cons_zero, List.getElem_cons_succ]))
                (refine wpAnyH_take (i := 32) (v := ?_) rfl (by kernel_rfl) (by kernel_rfl) (by kernel_rfl) (fun _ _ _ h => h) (Or.inl ⟨by rfl, ?_⟩) hHeld ?_; rotate_left; (focus (intro w hSw; (try dsimp only at hSw); go_simp; ((obtain ⟨ha, hb, hc, hd⟩ := HCk.out _ hSw); go_simp; try with_reducible rfl))); (try simp only [Act.put, List.setIfInBounds_toArray, List.set_cons_zero, List.set_cons_succ, List.getElem_toArray, List.getElem_cons_zero, List.getElem_cons_succ]))
                (refine wpAnyH_take (i := 33) (v := ?_) rfl (by kernel_rfl) (by kernel_rfl) (by kernel_rfl) (fun _ _ _ h => h) (Or.inl ⟨by rfl, ?_⟩) hHeld ?_; rotate_left; (focus (intro w hSw; (try dsimp only at hSw); go_simp; try with_reducible rfl)); (try simp only [Act.put, List.setIfInBounds_toArray, List.set_cons_zero, List.set_cons_succ, List.getElem_toArray, List.getElem_cons_zero, List.getElem_cons_succ])); (refine wpAnyH_take (i := 34) (v := ?_) rfl (by kernel_rfl) (by kernel_rfl) (by kernel_rfl) (fun _ _ _ h => h) (Or.inl ⟨by rfl, ?_⟩) hHeld ?_; rotate_left; (focus (intro w hSw; (try dsimp only at hSw); go_simp; try with_reducible rfl)); (try simp only [Act.put, List.setIfInBounds_toArray, List.set_cons_zero, List.set_cons_succ, List.getElem_toArray, List.getElem_cons_zero, List.getElem_cons_succ])); (refine wpAnyH_take (i := 35) (v := ?_) rfl (by kernel_rfl) (by kernel_rfl) (by kernel_rfl) (fun _ _ _ h => h) (Or.inl ⟨by rfl, ?_⟩) hHeld ?_; rotate_left; (focus (intro w hSw; (try dsimp only at hSw); go_simp; try with_reducible rfl)); (try simp only [Act.put, List.setIfInBounds_toArray, List.set_cons_zero, List.set_cons_succ, List.getElem_toArray, List.getElem_cons_zero, List.getElem_cons_succ])); (refine wpAnyH_take (i := 36) (v := ?_) rfl (by kernel_rfl) (by kernel_rfl) (by kernel_rfl) (fun _ _ _ h => h) (Or.inl ⟨by rfl, ?_⟩) hHeld ?_; rotate_left; (focus (intro w hSw; (try dsimp only at hSw); go_simp; try with_reducible rfl)); (try simp only [Act.put, List.setIfInBounds_toArray, List.set_cons_zero, List.set_cons_succ, List.getElem_toArray, List.getElem_cons_zero, List.getElem_cons_succ])); (refine wpAnyH_take (i := 37) (v := ?_) rfl (by kernel_rfl) (by kernel_rfl) (by kernel_rfl) (fun _ _ _ h => h) (Or.inl ⟨by rfl, ?_⟩) hHeld ?_; rotate_left; (focus (intro w hSw; (try dsimp only at hSw); go_simp; try with_reducible rfl)); (try simp only [Act.put, List.setIfInBounds_toArray, List.set_cons_zero, List.set_cons_succ, List.getElem_toArray, List.getElem_cons_zero, List.getElem_cons_succ]))
                (refine wpAnyH_take (i := 38) (v := ?_) rfl (by kernel_rfl) (by kernel_rfl) (by kernel_rfl) (fun _ _ _ h => h) (Or.inl ⟨by rfl, ?_⟩) hHeld ?_; rotate_left; (focus (intro w hSw; (try dsimp only at hSw); go_simp; ((obtain ⟨ha, hb, hc, hd⟩ := HCk.out _ hSw); go_simp; try with_reducible rfl))); (try simp only [Act.put, List.setIfInBounds_toArray, List.set_cons_zero, List.set_cons_succ, List.getElem_toArray, List.getElem_cons_zero, List.getElem_cons_succ]))
                (refine wpAnyH_ready (rs := [39]) (by kernel_rfl) (by simp) ?_; refine AllReadyH.cons rfl (fun K hK => ?_) AllReadyH.nil; go_simp; (refine HK7.out.mono ?_; rintro e w7 ⟨rfl, b7⟩); refine hK.out _ _ ?_ (fun hHeldN => ?_); (focus ((try dsimp only); (exact below_of hHeld b7))); clear hK K hHeld; have hHeld := hHeldN; clear hHeldN; (try simp only [Act.put, List.setIfInBounds_toArray, List.set_cons_zero, List.set_cons_succ, List.getElem_toArray, List.getElem_cons_zero, List.getElem_cons_succ]))
                (refine wpAnyH_take (i := 40) (v := ?_) rfl (by kernel_rfl) (by kernel_rfl) (by kernel_rfl) (fun _ _ _ h => h) (Or.inl ⟨by rfl, ?_⟩) hHeld ?_; rotate_left; (focus (intro w hSw; (try dsimp only at hSw); go_simp; try with_reducible rfl)); (try simp only [Act.put, List.setIfInBounds_toArray, List.set_cons_zero, List.set_cons_succ, List.getElem_toArray, List.getElem_cons_zero, List.getElem_cons_succ])); (refine wpAnyH_take (i := 41) (v := ?_) rfl (by kernel_rfl) (by kernel_rfl) (by kernel_rfl) (fun _ _ _ h => h) (Or.inl ⟨by rfl, ?_⟩) hHeld ?_; rotate_left; (focus (intro w hSw; (try dsimp only at hSw); go_simp; try with_reducible rfl)); (try simp only [Act.put, List.setIfInBounds_toArray, List.set_cons_zero, List.set_cons_succ, List.getElem_toArray, List.getElem_cons_zero, List.getElem_cons_succ]))
                refine wpAnyH_done (by kernel_rfl) ?_ _
                have HT7 := Lib.hid ((HT5.out.later b6).later b7)
                have HB7 := Lib.hid hHeld
                clear hHeld b6 b7 HK5 HK6 HK7 HT5
                go_wp2_with fail
                go_roundw
                case rel => exact ⟨i + 1, _, _, by omega, by go_num, HT7, HLn, HB7⟩
                case measure => simp [intOf]; omega
              | none =>
                have e : i = l.length := by have := List.getElem?_eq_none_iff.1 hx; omega
                subst e
                clear hx
                go_wp2_with fail
                refine (knownT _).mono ?_
                rintro e w8 ⟨rfl, b8⟩
                have HB8 := Lib.hid (below_of HBr.out b8)
                clear b8
                go_wp2_with fail
                go_ret
                exact ⟨rfl, HB8.out⟩
  · by_cases hl100 : l.length ≤ 100
    · have k1 : ¬ (100 : Int) < l.length := by omega
      have k2 : (100 : Int) < r.length := by omega
      clear hgo
      go_enter Try.func3, Try.ntmps3
      go_wp2_with fail
      refine (knownT _).mono ?_
      rintro e w1 ⟨rfl, b1⟩
      have B1 := Lib.hid b1
      clear b1
      go_wp2_with fail
      go_ret
      exact ⟨rfl, B1.out⟩
    · have k1 : (100 : Int) < l.length := by omega
      clear hgo
      go_enter Try.func3, Try.ntmps3
      go_wp2_with fail
      refine (knownT _).mono ?_
      rintro e w1 ⟨rfl, b1⟩
      have B1 := Lib.hid b1
      clear b1
      go_wp2_with fail
      go_ret
      exact ⟨rfl, B1.out⟩
end Go.Proofs.Ytbfkjdnopiadjaa

namespace Go.Proofs.Ytbfkjdnopiadjaa.triePlays
open Go.ChangeShapes Go.WideShapes Go.ChangeAt Go.RowKit

set_option maxRecDepth 100000 in
theorem lifted (os : Os) (started : os.Started) (H : Type) (enc : TypeId × Value → H) :
    ReturnsInHanded {} Try.checked os 3 .any (Rows.triePlaysSpec.pre6 enc Try.prog Try.f3 Rows.triePlaysRow.domain false) (Rows.triePlaysSpec.post enc Try.prog Try.f3 false true false false) := by
  refine returnsInHanded_of_change (C := Try.checked) own started (by kernel_rfl) Try.func3
    (ChangeSpec.witness6 (enc := enc) (C := Try.checked) false ⟨#[], #[.int .i64 0, .slice none 0 0, .slice none 0 0, .int .i64 0], []⟩ 8 (by kernel_rfl) (by kernel_rfl) (by kernel_rfl) (by kernel_rfl)) ?_
  intro W base args ds gs before hval0 hW hcnd _
  have hval : ∀ (j : Nat) t v, Try.f3.params[j]? = some t → args[j]? = some v → Value.okWide Try.prog W .any base t v := hval0
  have hW' := hW
  obtain ⟨p, q, hA0, hV, rfl, hfz, hnd⟩ := hW
  have hA : DataW.TrodAll enc Try.prog W 0 (fun _ => true) true Try.f3.params.toList args.toList ds p := hA0
  rw [Try.params3] at hA hval
  obtain ⟨v0, vs0, d0, ds0, p0, q0, hargs, rfl, rfl, h0, r0⟩ := trodAll_cons hA
  obtain ⟨v1, vs1, d1, ds1, p1, q1, rfl, rfl, rfl, h1, r1⟩ := trodAll_cons r0
  obtain ⟨v2, vs2, d2, ds2, p2, q2, rfl, rfl, rfl, h2, r2⟩ := trodAll_cons r1
  obtain ⟨v3, vs3, d3, ds3, p3, q3, rfl, rfl, rfl, h3, r3⟩ := trodAll_cons r2
  obtain ⟨rfl, rfl, rfl⟩ := trodAll_nil r3
  obtain rfl : args = #[v0, v1, v2, v3] := by cases args; simp_all
  obtain ⟨rfl, rfl⟩ := trodVars_none hV
  have k0 := h0
  have lt0 : ∀ x ∈ p0, x.block < W.heap.size := by obtain ⟨m, hm⟩ := k0; exact DataW.trod_lt m _ _ _ hm
  have k1 := h1
  have lt1 : ∀ x ∈ p1, x.block < W.heap.size := by obtain ⟨m, hm⟩ := k1; exact DataW.trod_lt m _ _ _ hm
  have k2 := h2
  have lt2 : ∀ x ∈ p2, x.block < W.heap.size := by obtain ⟨m, hm⟩ := k2; exact DataW.trod_lt m _ _ _ hm
  have k3 := h3
  have lt3 : ∀ x ∈ p3, x.block < W.heap.size := by obtain ⟨m, hm⟩ := k3; exact DataW.trod_lt m _ _ _ hm
  obtain ⟨a0, rfl, _, _, wa0⟩ := open_int Try.underlying3 (hval 0 3 v0 rfl rfl) h0
  obtain ⟨l1, hb1, hl1, hs1⟩ := open_acts9 (hval 1 22 v1 rfl rfl) h1
  obtain ⟨l2, hb2, hl2, hs2⟩ := open_addrs (hval 2 23 v2 rfl rfl) h2
  obtain ⟨a3, rfl, _, _, wa3⟩ := open_int Try.underlying3 (hval 3 3 v3 rfl rfl) h3
  refine (triePlays_walk a0 v1 l1 v2 l2 a3 W (bounds_i64 wa0).1 (bounds_i64 wa0).2 hb1 hl1 hs1 hb2 hl2 hs2).mono fun e W' ⟨he, bel⟩ => ?_
  subst he
  exact ⟨_, rfl, _, _, _, [], _, [], hW', trodAll_mk1 (shut_bool Try.underlying4 _), (trodAll_cons_mk (Below.trod laidOut (by kernel_rfl) (of_decide_eq_true (by kernel_rfl)) k0 bel lt0) (trodAll_cons_mk (Below.trod laidOut (by kernel_rfl) (of_decide_eq_true (by kernel_rfl)) k1 bel lt1) (trodAll_cons_mk (Below.trod laidOut (by kernel_rfl) (of_decide_eq_true (by kernel_rfl)) k2 bel lt2) (trodAll_cons_mk (Below.trod laidOut (by kernel_rfl) (of_decide_eq_true (by kernel_rfl)) k3 bel lt3) trodAll_mk0)))), rfl, bel.frame _, fun h => by cases h⟩

/-- The statement. -/
theorem said : Rows.TriePlaysSaid :=
  OpenClaim.holds_of_wide 3 Try.f3 rfl rfl rfl rfl rfl rfl rfl ⟨rfl, rfl, rfl, rfl, rfl⟩ rfl rfl rfl rfl rfl (by kernel_rfl) Try.func3 (by kernel_rfl)
    (of_decide_eq_true (by kernel_rfl)) (by unfold Func.isWrapper; first | (rw [if_pos (by decide +kernel)]; kernel_rfl) | (rw [if_neg (by decide +kernel)]; exact ⟨rfl, rfl⟩))
    (fun os started H enc _ => lifted os started H enc)
#print axioms said
end Go.Proofs.Ytbfkjdnopiadjaa.triePlays
