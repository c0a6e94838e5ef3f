/- TrieOrder: the walk (in a round: onlyN). -/
import Derived.Test.YtbfkjdnopiadjaaZ07
import Derived.Test.YtbfkjdnopiadjaaZ09
import Derived.Test.YtbfkjdnopiadjaaZ10
import Derived.Test.YtbfkjdnopiadjaaZ14
import Derived.Test.YtbfkjdnopiadjaaZ15

set_option linter.unusedSimpArgs false
set_option linter.unusedVariables false
namespace Go.Proofs.Ytbfkjdnopiadjaa
open Go.RowKit Go.Shelf
attribute [local go_sem ↓] Go.wp_at_zero Go.wp_at_succ
attribute [local go_sem] Oper.semAt_some
open Tp (Pf Ok En Tr)

theorem ko_below {W W' : World} (hb : Below W.heap.size W W') : KeepsOthers W W' := ⟨hb.size, fun k o h _ => (hb.block k (Array.getElem?_eq_some_iff.1 h).1).trans h⟩
/-- Which come last, and how many have an address. -/
def lstQ (q0 : Pf) (pre : List En) : Pf := (pre.getLast?.map Prod.fst).getD q0
theorem lstQ_snoc (q0 : Pf) (pre : List En) (x : En) : lstQ q0 (pre ++ [x]) = x.1 := by unfold lstQ; rw [List.getLast?_append]; rfl
def cnt (a : Int) (pre : List En) : Nat := (pre.filter (Tp.hasE a)).length
theorem cnt_snoc (a : Int) (pre : List En) (x : En) : cnt a (pre ++ [x]) = if Tp.hasE a x = true then cnt a pre + 1 else cnt a pre := by
  unfold cnt
  rw [List.filter_append, List.length_append, List.filter_cons]
  split <;> simp
theorem cnt_le (a : Int) (pre : List En) : cnt a pre ≤ pre.length := List.length_filter_le _ _
theorem lstQ_mem (q0 : Pf) {pre : List En} (h : pre ≠ []) : ∃ y ∈ pre, lstQ q0 pre = y.1 := by
  refine ⟨pre.getLast h, List.getLast_mem h, ?_⟩
  unfold lstQ
  rw [List.getLast?_eq_some_getLast h]; rfl
theorem prefix_rel {R : En → En → Prop} {L pre : List En} {x : En} (h : L.Pairwise R) (hp : pre ++ [x] <+: L) {y : En} (hy : y ∈ pre) : R y x := by
  have := h.sublist hp.sublist
  rw [List.pairwise_append] at this
  exact this.2.2 y hy x (List.mem_singleton.2 rfl)
/-- Where TrieOrder's counts, and the last prefix, lie. -/
structure O9 (b : Nat) (h n : Int) (q : Pf) (W : World) : Prop where
  c0 : BlkAt 3 b [.int .i64 h] W
  c1 : BlkAt 3 (b + 1) [.int .i64 n] W
  c2 : BlkAt 37 (b + 1 + 1) [.int .u32 q.1, .int .i64 q.2] W
section
variable {b : Nat} {h n : Int} {q : Pf} {W : World}
theorem O9.grown {A B : World} (hs : O9 b h n q A) {row : Option Nat} (hg : A.grownBy B row) (hr : ∀ r, row = some r → ∃ o : Obj, A.heap[r]? = some o ∧ o.isCells = false) : O9 b h n q B :=
  ⟨hs.c0.of_grown hg hr, hs.c1.of_grown hg hr, hs.c2.of_grown hg hr⟩
theorem O9.later {A B : World} (hs : O9 b h n q A) (hb : Below A.heap.size A B) : O9 b h n q B := ⟨hs.c0.later hb, hs.c1.later hb, hs.c2.later hb⟩
theorem O9.cells (hs : O9 b h n q W) : W.cell? ⟨b, 0, none⟩ = some (.int .i64 h) ∧ W.cell? ⟨b + 1, 0, none⟩ = some (.int .i64 n) ∧ W.cell? ⟨b + 1 + 1, 0, none⟩ = some (.int .u32 q.1) ∧ W.cell? ⟨b + 1 + 1, 1, none⟩ = some (.int .i64 q.2) :=
  ⟨hs.c0.cell (j := 0) rfl, hs.c1.cell (j := 0) rfl, hs.c2.cell (j := 0) rfl, hs.c2.cell (j := 1) rfl⟩
theorem O9.putH (hs : O9 b h n q W) (k : Int) : O9 b k n q (W.setCell ⟨b, 0, none⟩ (.int .i64 k)) := ⟨hs.c0.set 0 (.int .i64 k), hs.c1.other (by omega) _ _, hs.c2.other (by omega) _ _⟩
theorem O9.putN (hs : O9 b h n q W) (k : Int) : O9 b h k q (W.setCell ⟨b + 1, 0, none⟩ (.int .i64 k)) := ⟨hs.c0.other (by omega) _ _, hs.c1.set 0 (.int .i64 k), hs.c2.other (by omega) _ _⟩
theorem O9.putQ (hs : O9 b h n q W) (p : Pf) : O9 b h n p ((W.setCell ⟨b + 1 + 1, 0, none⟩ (.int .u32 p.1)).setCell ⟨b + 1 + 1, 1, none⟩ (.int .i64 p.2)) :=
  ⟨(hs.c0.other (by omega) _ _).other (by omega) _ _, (hs.c1.other (by omega) _ _).other (by omega) _ _, (hs.c2.set 0 (.int .u32 p.1)).set 1 (.int .i64 p.2)⟩
end
theorem o9_new (w : World) : O9 w.heap.size 0 0 (0, 0) (((w.alloc (.cells #[.int .i64 0] 3)).alloc (.cells #[.int .i64 0] 3)).alloc (.cells #[.int .u32 0, .int .i64 0] 37)) := by
  have q0 := BlkAt.new w (t := 3) [.int .i64 0]
  have q1 := BlkAt.new (w.alloc (.cells #[.int .i64 0] 3)) (t := 3) [.int .i64 0]
  have q2 := BlkAt.new ((w.alloc (.cells #[.int .i64 0] 3)).alloc (.cells #[.int .i64 0] 3)) (t := 37) [.int .u32 0, .int .i64 0]
  rw [World.size_alloc] at q1
  rw [World.size_alloc, World.size_alloc] at q2
  exact ⟨(q0.later (ba1 _ _)).later (ba1 _ _), q1.later (ba1 _ _), q2⟩

set_option maxHeartbeats 8000000 in
set_option maxRecDepth 100000 in
theorem trieOrder_walk (u0 : Value) (l : List Ac) (a : Int) (w : World) (hl : Rds 4 Ac.cs w u0 l) (hln : l.length ≤ 9223372036854775807) (hky : ∀ x ∈ l, x.Ok) (ha0 : 0 ≤ a) (ha1 : a < 4294967296) :
    Calls Try.prog 7 #[u0, .int .u32 a] w fun e w' => e = .returned (.bool true) ∧ Below w.heap.size w w' := by
  obtain ⟨la, lc, rfl⟩ := hl.form
  have HL := Lib.hid hl
  have HK := Lib.hid hky
  clear hl hky
  by_cases hgo : l.length ≤ 100
  · have k1 : ¬ (100 : Int) < l.length := by omega
    refine callsIn_wide.1 (callsIn_of_wp_marks (n := 3) Try.func7 rfl trivial (wpIn_wide.2 ?_) rfl)
    simp only [Try.ntmps7, List.size_toArray, List.length_cons, List.length_nil, Nat.reduceAdd, Nat.reduceSub, Array.replicate_succ, Array.replicate_zero, List.push_toArray, List.append_toArray, List.nil_append, List.cons_append]
    go_wp2_with fail
    have hX := (BlkAt.new w (t := 35) [.int .u32 a]).later (ba1 _ (.cells #[.bool false] 4))
    have hY := BlkAt.new (w.alloc (.cells #[.int .u32 a] 35)) (t := 4) [.bool false]
    rw [World.size_alloc] at hY
    have hB := below_of (ba1 w (.cells #[.int .u32 a] 35)) (ba1 _ (.cells #[.bool false] 4))
    obtain ⟨W, hW⟩ : ∃ W, W = (w.alloc (.cells #[.int .u32 a] 35)).alloc (.cells #[.bool false] 4) := ⟨_, rfl⟩
    rw [← hW] at hB ⊢
    have HX : Hid (BlkAt 35 w.heap.size [.int .u32 a] W) := by rw [hW]; exact hX
    have HY : Hid (BlkAt 4 (w.heap.size + 1) [.bool false] W) := by rw [hW]; exact hY
    have HB := Lib.hid hB
    clear hX hY hB hW k1
    have HN := Lib.hid (newT 60 W (by decide))
    refine HN.out.mono ?_
    rintro e w1 ⟨rfl, h1, b1⟩
    obtain ⟨t, ht⟩ : ∃ t, t = W.heap.size := ⟨_, rfl⟩
    rw [← ht] at h1 ⊢
    have H1 : Hid (TSt t 60 .nil w1) := h1
    have B1 := Lib.hid b1
    have HTs : Hid (W.heap.size ≤ t) := Nat.le_of_eq ht.symm
    clear h1 b1 HN ht
    go_wp2_with fail
    go_loopw [6] (fun x wr => ∃ (i : Nat) (T : Tr), i ≤ l.length ∧ x = .int .i64 i ∧ Hid (TSt t 60 T wr) ∧ Hid (Below W.heap.size W wr)) (fun x _ => l.length - (intOf x).toNat)
    case atStart => exact ⟨0, .nil, Nat.zero_le _, rfl, H1, B1⟩
    case round =>
      obtain ⟨i, T, hi, rfl, HT, HBr⟩ := hrel
      cases hx : l[i]? with
      | some c =>
        obtain ⟨g, o, rfl, hgl, hc⟩ := HL.out.at hx
        have HBwr := Lib.hid (below_of HB.out HBr.out)
        have HNg : Hid (g ∉ [t]) := by
          have h1 := HTs.out
          have h2 := HB.out.size
          show g ∉ [t]
          simp; omega
        have k0 : (i : Int) < l.length := by have := (List.getElem?_eq_some_iff.1 hx).1; omega
        have c0 := cell_later HBwr.out (hc 0 _ rfl)
        have c1 := cell_later HBwr.out (hc 1 _ rfl)
        have c2 := cell_later HBwr.out (hc 2 _ rfl)
        have c3 := cell_later HBwr.out (hc 3 _ rfl)
        have hm := List.mem_of_getElem? hx
        have hp := (HK.out c hm).p.ad
        have HC := Lib.hid (deleteT HT.out hp (by have := size_le HT.out.inv (HT.out.few (n := 60) rfl); omega))
        have HC2 := Lib.hid (insertT (HT.out.later (Below.refl _ _).drew) hp c.x (by have := size_le HT.out.inv (HT.out.few (n := 60) rfl); omega))
        clear hc hx hm hp hgl
        rw [Nat.add_zero] at c0
        obtain ⟨del, ⟨pa, pn⟩, cx⟩ := c
        simp only at c0 c1 c2 c3 HC HC2
        cases del with
        | true =>
          go_wp2_with fail
          refine HC.out.mono ?_
          rintro e w2 ⟨rfl, h2, cc⟩
          have H2 := Lib.hid h2
          have B2 := Lib.hid (HBr.out.trans (cc.below HBr.out.size (by simpa using HTs.out)))
          clear h2 cc c0 c1 c2 c3 HC HC2
          go_wp2_with fail
          go_roundw
          case rel => exact ⟨i + 1, _, by omega, by go_num, H2, B2⟩
          case measure => simp [intOf]; omega
        | false =>
          go_wp2_with fail
          refine (wpIn_wide (n := 3)).1 (Code.wpIn_mono onlyN_le (wpIn_wide.2 ?_))
          (refine wp_region_held_drew (S := (fun w' => Chg [t] wr w')) (by kernel_rfl) ?_ (fun hHeld => ?_); (focus ((try dsimp only); (exact (Chg.refl _ _).drew))))
          (refine wpAnyH_take (i := 0) (v := ?_) rfl (by kernel_rfl) (by kernel_rfl) (by kernel_rfl) (fun _ _ _ h => False.elim h) (Or.inl ⟨by rfl, ?_⟩) hHeld ?_; rotate_left; (focus (intro w hSw; (try dsimp only at hSw); go_simp; try with_reducible rfl)); (try simp only [Act.put, List.setIfInBounds_toArray, List.set_cons_zero, List.set_cons_succ, List.getElem_toArray, List.getElem_cons_zero])); (refine wpAnyH_take (i := 1) (v := ?_) rfl (by kernel_rfl) (by kernel_rfl) (by kernel_rfl) (fun _ _ _ h => False.elim h) (Or.inl ⟨by rfl, ?_⟩) hHeld ?_; rotate_left; (focus (intro w hSw; (try dsimp only at hSw); go_simp; try with_reducible rfl)); (try simp only [Act.put, List.setIfInBounds_toArray, List.set_cons_zero, List.set_cons_succ, List.getElem_toArray, List.getElem_cons_zero, List.getElem_cons_succ])); (refine wpAnyH_take (i := 2) (v := ?_) rfl (by kernel_rfl) (by kernel_rfl) (by kernel_rfl) (fun _ _ _ h => False.elim h) (Or.inl ⟨by rfl, ?_⟩) hHeld ?_; rotate_left; (focus (intro w hSw; (try dsimp only at hSw); go_simp; try with_reducible rfl)); (try simp only [Act.put, List.setIfInBounds_toArray, List.set_cons_zero, List.set_cons_succ, List.getElem_toArray, List.getElem_cons_zero, List.getElem_cons_succ])); (refine wpAnyH_take (i := 3) (v := ?_) rfl (by kernel_rfl) (by kernel_rfl) (by kernel_rfl) (fun _ _ _ h => False.elim h) (Or.inl ⟨by rfl, ?_⟩) hHeld ?_; rotate_left; (focus (intro w hSw; (try dsimp only at hSw); go_simp; try with_reducible rfl)); (try simp only [Act.put, List.setIfInBounds_toArray, List.set_cons_zero, List.set_cons_succ, List.getElem_toArray, List.getElem_cons_zero, List.getElem_cons_succ])); (refine wpAnyH_take (i := 4) (v := ?_) rfl (by kernel_rfl) (by kernel_rfl) (by kernel_rfl) (fun _ _ _ h => False.elim h) (Or.inl ⟨by rfl, ?_⟩) hHeld ?_; rotate_left; (focus (intro w hSw; (try dsimp only at hSw); go_simp; try with_reducible rfl)); (try simp only [Act.put, List.setIfInBounds_toArray, List.set_cons_zero, List.set_cons_succ, List.getElem_toArray, List.getElem_cons_zero, List.getElem_cons_succ]))
          (refine wpAnyH_take (i := 5) (v := ?_) rfl (by kernel_rfl) (by kernel_rfl) (by kernel_rfl) (fun _ _ _ h => False.elim h) (Or.inl ⟨by rfl, ?_⟩) hHeld ?_; rotate_left; (focus (intro w hSw; (try dsimp only at hSw); go_simp; ((have hcc := hSw.cell c1 HNg.out); (have hcd := hSw.cell c2 HNg.out); go_simp; try with_reducible rfl))); (try simp only [Act.put, List.setIfInBounds_toArray, List.set_cons_zero, List.set_cons_succ, List.getElem_toArray, List.getElem_cons_zero, List.getElem_cons_succ]))
          (refine wpAnyH_take (i := 6) (v := ?_) rfl (by kernel_rfl) (by kernel_rfl) (by kernel_rfl) (fun _ _ _ h => False.elim h) (Or.inl ⟨by rfl, ?_⟩) hHeld ?_; rotate_left; (focus (intro w hSw; (try dsimp only at hSw); go_simp; try with_reducible rfl)); (try simp only [Act.put, List.setIfInBounds_toArray, List.set_cons_zero, List.set_cons_succ, List.getElem_toArray, List.getElem_cons_zero, List.getElem_cons_succ])); (refine wpAnyH_take (i := 7) (v := ?_) rfl (by kernel_rfl) (by kernel_rfl) (by kernel_rfl) (fun _ _ _ h => False.elim h) (Or.inl ⟨by rfl, ?_⟩) hHeld ?_; rotate_left; (focus (intro w hSw; (try dsimp only at hSw); go_simp; try with_reducible rfl)); (try simp only [Act.put, List.setIfInBounds_toArray, List.set_cons_zero, List.set_cons_succ, List.getElem_toArray, List.getElem_cons_zero, List.getElem_cons_succ])); (refine wpAnyH_take (i := 8) (v := ?_) rfl (by kernel_rfl) (by kernel_rfl) (by kernel_rfl) (fun _ _ _ h => False.elim h) (Or.inl ⟨by rfl, ?_⟩) hHeld ?_; rotate_left; (focus (intro w hSw; (try dsimp only at hSw); go_simp; try with_reducible rfl)); (try simp only [Act.put, List.setIfInBounds_toArray, List.set_cons_zero, List.set_cons_succ, List.getElem_toArray, List.getElem_cons_zero, List.getElem_cons_succ])); (refine wpAnyH_take (i := 9) (v := ?_) rfl (by kernel_rfl) (by kernel_rfl) (by kernel_rfl) (fun _ _ _ h => False.elim h) (Or.inl ⟨by rfl, ?_⟩) hHeld ?_; rotate_left; (focus (intro w hSw; (try dsimp only at hSw); go_simp; try with_reducible rfl)); (try simp only [Act.put, List.setIfInBounds_toArray, List.set_cons_zero, List.set_cons_succ, List.getElem_toArray, List.getElem_cons_zero, List.getElem_cons_succ]))
          (refine wpAnyH_take (i := 10) (v := ?_) rfl (by kernel_rfl) (by kernel_rfl) (by kernel_rfl) (fun _ _ _ h => False.elim h) (Or.inl ⟨by rfl, ?_⟩) hHeld ?_; rotate_left; (focus (intro w hSw; (try dsimp only at hSw); go_simp; ((have hcc := hSw.cell c3 HNg.out); go_simp; try with_reducible rfl))); (try simp only [Act.put, List.setIfInBounds_toArray, List.set_cons_zero, List.set_cons_succ, List.getElem_toArray, List.getElem_cons_zero, List.getElem_cons_succ]))
          (refine wpAnyH_ready (rs := [11]) (by kernel_rfl) (by simp) ?_; refine AllReadyH.cons rfl (fun K hK => ?_) AllReadyH.nil; go_simp; (refine HC2.out.mono ?_; rintro e w2 ⟨rfl, h2, cc⟩); refine hK.out _ _ ?_ (fun hHeldN => ?_); (focus ((try dsimp only); (exact hHeld.trans cc))); clear hK K hHeld; have hHeld := hHeldN; clear hHeldN; (try simp only [Act.put, List.setIfInBounds_toArray, List.set_cons_zero, List.set_cons_succ, List.getElem_toArray, List.getElem_cons_zero, List.getElem_cons_succ]))
          refine wpAnyH_done (by kernel_rfl) ?_ _
          simp only [onlyN]
          have H2 := Lib.hid h2
          have B2 := Lib.hid (HBr.out.trans (hHeld.below HBr.out.size (by simpa using HTs.out)))
          clear h2 cc c0 c1 c2 c3 HC HC2 hHeld
          go_wp2_with fail
          go_roundw
          case rel => exact ⟨i + 1, _, by omega, by go_num, H2, B2⟩
          case measure => simp [intOf]; omega
      | none =>
        have e : i = l.length := by have := List.getElem?_eq_none_iff.1 hx; omega
        subst e
        clear hx
        go_wp2_with fail
        refine (wpIn_wide (n := 3)).1 (Code.wpIn_mono onlyN_le (wpIn_wide.2 ?_))
        have HXr := Lib.hid (HX.out.later HBr.out)
        have HA := Lib.hid (fun (V : World) (hb : Below wr.heap.size wr V) => allT (HT.out.later hb))
        have HCv := Lib.hid (fun (V : World) (hb : Below wr.heap.size wr V) => coversT (HT.out.later hb) ha0 ha1)
        (refine wp_region_held_drew (S := (fun w' => Below wr.heap.size wr w')) (by kernel_rfl) ?_ (fun hHeld => ?_); (focus ((try dsimp only); (exact (Below.refl _ _).drew))))
        (refine wpAnyH_take (i := 0) (v := ?_) rfl (by kernel_rfl) (by kernel_rfl) (by kernel_rfl) (fun _ _ _ h => False.elim h) (Or.inl ⟨by rfl, ?_⟩) hHeld ?_; rotate_left; (focus (intro w hSw; (try dsimp only at hSw); go_simp; try with_reducible rfl)); (try simp only [Act.put, List.setIfInBounds_toArray, List.set_cons_zero, List.set_cons_succ, List.getElem_toArray, List.getElem_cons_zero])); (refine wpAnyH_take (i := 2) (v := ?_) rfl (by kernel_rfl) (by kernel_rfl) (by kernel_rfl) (fun _ _ _ h => False.elim h) (Or.inl ⟨by rfl, ?_⟩) hHeld ?_; rotate_left; (focus (intro w hSw; (try dsimp only at hSw); go_simp; try with_reducible rfl)); (try simp only [Act.put, List.setIfInBounds_toArray, List.set_cons_zero, List.set_cons_succ, List.getElem_toArray, List.getElem_cons_zero, List.getElem_cons_succ]))
        (refine wpAnyH_take (i := 3) (v := ?_) rfl (by kernel_rfl) (by kernel_rfl) (by kernel_rfl) (fun _ _ _ h => False.elim h) (Or.inl ⟨by rfl, ?_⟩) hHeld ?_; rotate_left; (focus (intro w hSw; (try dsimp only at hSw); go_simp; ((have hcc := (HXr.out.later hSw).cell (j := 0) rfl); go_simp; try with_reducible rfl))); (try simp only [Act.put, List.setIfInBounds_toArray, List.set_cons_zero, List.set_cons_succ, List.getElem_toArray, List.getElem_cons_zero, List.getElem_cons_succ]))
        (refine wpAnyH_ready (rs := [1]) (by kernel_rfl) (by simp) ?_; refine AllReadyH.cons rfl (fun K hK => ?_) AllReadyH.nil; go_simp; (refine (HA.out _ hHeld).mono ?_; rintro e w2 ⟨Br, Bg, rfl, hs1, _, _, b2⟩; unfold seqF); refine hK.out _ _ ?_ (fun hHeldN => ?_); (focus ((try dsimp only); (exact below_of hHeld b2))); clear hK K hHeld; have hHeld := hHeldN; clear hHeldN; (try simp only [Act.put, List.setIfInBounds_toArray, List.set_cons_zero, List.set_cons_succ, List.getElem_toArray, List.getElem_cons_zero, List.getElem_cons_succ]))
        have HS1 := Lib.hid hs1
        clear hs1 b2
        (refine wpAnyH_ready (rs := [4]) (by kernel_rfl) (by simp) ?_; refine AllReadyH.cons rfl (fun K hK => ?_) AllReadyH.nil; go_simp; (refine (HCv.out _ hHeld).mono ?_; rintro e w3 ⟨Br2, Bg2, rfl, hs2, _, _, b3⟩; unfold seqF); refine hK.out _ _ ?_ (fun hHeldN => ?_); (focus ((try dsimp only); (exact below_of hHeld b3))); clear hK K hHeld; have hHeld := hHeldN; clear hHeldN; (try simp only [Act.put, List.setIfInBounds_toArray, List.set_cons_zero, List.set_cons_succ, List.getElem_toArray, List.getElem_cons_zero, List.getElem_cons_succ]))
        have HS2 := Lib.hid hs2
        have HS3 := Lib.hid (HS1.out.later b3)
        clear hs2 b3
        (refine wpAnyH_take (i := 5) (v := ?_) rfl (by kernel_rfl) (by kernel_rfl) (by kernel_rfl) (fun _ _ _ h => False.elim h) (Or.inl ⟨by rfl, ?_⟩) hHeld ?_; rotate_left; (focus (intro w hSw; (try dsimp only at hSw); go_simp; try with_reducible rfl)); (try simp only [Act.put, List.setIfInBounds_toArray, List.set_cons_zero, List.set_cons_succ, List.getElem_toArray, List.getElem_cons_zero, List.getElem_cons_succ])); (refine wpAnyH_take (i := 6) (v := ?_) rfl (by kernel_rfl) (by kernel_rfl) (by kernel_rfl) (fun _ _ _ h => False.elim h) (Or.inl ⟨by rfl, ?_⟩) hHeld ?_; rotate_left; (focus (intro w hSw; (try dsimp only at hSw); go_simp; try with_reducible rfl)); (try simp only [Act.put, List.setIfInBounds_toArray, List.set_cons_zero, List.set_cons_succ, List.getElem_toArray, List.getElem_cons_zero, List.getElem_cons_succ]))
        refine wpAnyH_done (by kernel_rfl) ?_ _
        simp only [onlyN]
        have B3 := Lib.hid (below_of HBr.out hHeld)
        have HT3 := Lib.hid (HT.out.later hHeld)
        have HX3 := Lib.hid (HXr.out.later hHeld)
        clear hHeld
        have hne1 := fn_eq Try.prog _ Try.underlying43 (.func 52) #[] #[.pointer (some ⟨Br, 0, none⟩), .pointer (some ⟨Bg, 0, none⟩)]
        have hne2 := fn_eq Try.prog _ Try.underlying43 (.func 52) #[] #[.pointer (some ⟨Br2, 0, none⟩), .pointer (some ⟨Bg2, 0, none⟩)]
        go_wp2_with fail
        have hO := o9_new w3
        have hB4 := below_of (below_of (ba1 w3 (.cells #[.int .i64 0] 3)) (ba1 _ (.cells #[.int .i64 0] 3))) (ba1 _ (.cells #[.int .u32 0, .int .i64 0] 37))
        obtain ⟨w4, hw4⟩ : ∃ w4, w4 = ((w3.alloc (.cells #[.int .i64 0] 3)).alloc (.cells #[.int .i64 0] 3)).alloc (.cells #[.int .u32 0, .int .i64 0] 37) := ⟨_, rfl⟩
        rw [← hw4] at hO hB4 ⊢
        have hs4 : w4.heap.size = w3.heap.size + 3 := by rw [hw4]; simp
        have HS4 := Lib.hid hs4
        have HO4 := Lib.hid hO
        have HB4 := Lib.hid hB4
        have HE4 := Lib.hid (HS3.out.later hB4)
        have HUp := Lib.hid HT3.out.inv.up
        have HOk := Lib.hid HT3.out.inv.okE
        have HFew : Hid (T.el.length ≤ 60) := HT3.out.few (n := 60) rfl
        clear hw4 hO hB4 hne1 hne2 hs4
        refine (wpIn_wide (n := 3)).1 (wpIn_range_left (n := 3) (gf := 52) (lb := #[.pointer (some ⟨Br, 0, none⟩), .pointer (some ⟨Bg, 0, none⟩)]) rfl (enters_of Try.func52 (by kernel_rfl) rfl)
          (over_stops (3 - 1) Br Bg T.el w4 HE4.out) Keep.trans Keep.putObj (Below.refl _ _) (fun _ => rfl)
          (fun pre W => O9 w3.heap.size (cnt a (pre.map Subtype.val)) (pre.length : Nat) (lstQ (0, 0) (pre.map Subtype.val)) W ∧ Below w3.heap.size w3 W) (fun c pre W => c = .ret ∧ ¬ (pre.map Subtype.val <+: T.el))
          (fun s A B row hs hg hr => ⟨hs.1.grown hg (fun r e => (hr r e).2), hs.2.grown hg hs.2.size (fun k e => by have := (hr k e).1; have := HS4.out; omega)⟩)
          (fun c s A B row hs hg hr => hs) ⟨HO4.out, HB4.out⟩
          (fun pre x a' W => (O9 w3.heap.size (cnt a (pre.map Subtype.val)) (pre.length : Nat) (lstQ (0, 0) (pre.map Subtype.val)) W ∧ Below w3.heap.size w3 W) ∧ ∃ G, w4.heap.size ≤ G ∧ BlkAt 37 G [.int .u32 x.1.1.1, .int .i64 x.1.1.2] W ∧ a' = { tmps := #[.slice la l.length lc, .int .u32 a, undef, .pointer (some ⟨w.heap.size, 0, none⟩), .pointer (some ⟨w.heap.size + 1, 0, none⟩), .pointer (some ⟨t, 0, none⟩), .int .i64 (l.length : Nat), .func (.func 52) #[] #[.pointer (some ⟨Br, 0, none⟩), .pointer (some ⟨Bg, 0, none⟩)], .func (.func 52) #[] #[.pointer (some ⟨Br2, 0, none⟩), .pointer (some ⟨Bg2, 0, none⟩)], .pointer (some ⟨w3.heap.size, 0, none⟩), .pointer (some ⟨w3.heap.size + 1, 0, none⟩), .pointer (some ⟨w3.heap.size + 1 + 1, 0, none⟩), .pointer (some ⟨G, 0, none⟩), undef, undef, .slice la l.length lc, .int .i64 (l.length : Nat), .bool false, undef, .pointer (some ⟨t, 0, none⟩), .pointer (some ⟨t, 0, none⟩), .bool false, .int .i64 (l.length : Nat), .slice la l.length lc, .int .i64 (l.length : Nat), .bool false, u26, u27, u28, u29, u30, u31, u32, u33, u34, u35, u36, u37, u38, u39, u40, u41, u42, u43, u44, u45, u46, u47, u48, u49, u50, u51, .pointer (some ⟨t, 0, none⟩), .func (.func 52) #[] #[.pointer (some ⟨Br, 0, none⟩), .pointer (some ⟨Bg, 0, none⟩)], .pointer (some ⟨t, 0, none⟩), .int .u32 a, .func (.func 52) #[] #[.pointer (some ⟨Br2, 0, none⟩), .pointer (some ⟨Bg2, 0, none⟩)], .func (.func 52) #[] #[.pointer (some ⟨Br, 0, none⟩), .pointer (some ⟨Bg, 0, none⟩)], .bool false, .bool false, .func (.func 52) #[] #[.pointer (some ⟨Br2, 0, none⟩), .pointer (some ⟨Bg2, 0, none⟩)], .bool false, .bool false, .agg #[.int .u32 0, .int .i64 0], .func (.func 52) #[] #[.pointer (some ⟨Br, 0, none⟩), .pointer (some ⟨Bg, 0, none⟩)], .agg #[.int .u32 x.1.1.1, .int .i64 x.1.1.2], .int .i64 x.1.2, undef, undef, undef, undef, undef, undef, undef, undef, undef, undef, undef, undef, undef, undef, undef, undef, undef, undef, undef, undef, undef, undef, undef, undef, undef, undef, undef, undef, undef, undef, undef, undef, undef, undef, undef, undef, undef, undef, undef, undef, undef, undef, undef, undef, undef, undef, undef, undef, undef, undef, undef, undef, undef, undef, undef], defers := [] })
          (fun pre x a' s A B row hs hg hr => by
            obtain ⟨⟨h1, h2⟩, G, hG0, hG, ha⟩ := hs
            exact ⟨⟨h1.grown hg (fun r e => (hr r e).2), h2.grown hg h2.size (fun k e => by have := (hr k e).1; have := HS4.out; omega)⟩, G, hG0, hG.of_grown hg (fun r e => (hr r e).2), ha⟩) ?assign ?body ?done ?stop)
        case assign =>
          rintro lp pre x W2 K ⟨hm, hb2⟩ hK
          have HMM := Lib.hid hm
          have HBB := Lib.hid hb2
          have HK2 := Lib.hid hK
          obtain ⟨⟨⟨xa, xn⟩, xv⟩, hx⟩ := x
          clear hm hb2 hK
          simp only [encE] at HK2 ⊢
          gi_wp2_with fail
          refine HK2.out _ _ ((KeepsOthers.alloc _ _).from _) (Keep.of_below (ba1 _ _)) ⟨⟨HMM.out.later (ba1 _ _), HBB.out.trans ((ba1 _ _).mono HBB.out.size)⟩, W2.heap.size, ?_, BlkAt.new W2 _, rfl⟩
          have h1 := HMM.out.c2.lt
          have h2 := HS4.out
          omega
        case body =>
          rintro lp pre x a' W2 ⟨⟨hm, hb2⟩, G, hG0, hG, rfl⟩ hlt
          obtain ⟨⟨⟨xa, xn⟩, xv⟩, hx⟩ := x
          have hxo := HOk.out _ hx
          obtain ⟨d0, d1, d2, d3⟩ := hm.cells
          obtain ⟨g0, g1⟩ := px_cells hG
          have z0 := (HX3.out.later hb2).cell (j := 0) rfl
          have HMM := Lib.hid hm
          have HBB := Lib.hid hb2
          have HG : Hid (BlkAt 37 G [.int .u32 xa, .int .i64 xn] W2) := hG
          have HG0 := Lib.hid hG0
          have HLt : Hid (pre.length ≤ 60) := by have := HFew.out; have : pre.length ≤ 60 := by omega
                                                 exact this
          have HH := Lib.hid (fun (V : World) => hasR_any xa xn a V hxo.a0 hxo.a1 ha0 ha1)
          rw [has_ok (x := ((xa, xn), xv)) hxo a] at HH
          have HCk := Lib.hid (cnt_snoc a (pre.map Subtype.val) ((xa, xn), xv))
          have HCl : Hid (cnt a (pre.map Subtype.val) ≤ 60) := by
            have h1 := cnt_le a (pre.map Subtype.val)
            rw [List.length_map] at h1
            have h2 := HLt.out
            have : cnt a (pre.map Subtype.val) ≤ 60 := by omega
            exact this
          have HLq := Lib.hid (lstQ_snoc (0, 0) (pre.map Subtype.val) ((xa, xn), xv))
          obtain ⟨qa, qn, hq⟩ : ∃ qa qn, lstQ (0, 0) (pre.map Subtype.val) = (qa, qn) := ⟨_, _, rfl⟩
          obtain ⟨h, hh⟩ : ∃ h, h = cnt a (pre.map Subtype.val) := ⟨_, rfl⟩
          rw [hq] at d2 d3 HMM
          rw [← hh] at d0 HMM HCk HCl
          simp only at g0 g1 d0 d1 d2 d3 HH ⊢
          have HQ := Lib.hid hq
          have k60 : (pre.length : Int) ≤ 60 := by have := HLt.out; omega
          have h60 : (h : Int) ≤ 60 := by have := HCl.out; omega
          clear hm hb2 hG hxo hh hq hG0
          clear HA HCv HL HK H1 B1 HXr HT HBr HE4 HS3 HS2 HT3
          rcases Nat.eq_zero_or_pos pre.length with hz | hz
          · have k0 : ¬ (0 : Int) < pre.length := by omega
            clear hz
            gi_wp2_with fail
            refine ⟨trivial, ?_⟩
            have HMV := HMM
            have HGV := HG
            have HBV := HBB
            have HKV := Lib.hid (KeepsFrom.refl w4.heap.size W2)
            have HPV := Lib.hid (Keep.refl W2)
            gi_wp2_with fail
            refine ⟨trivial, CallsIn.inRound lp (callsIn_wide.2 ((HH.out _).mono ?_))⟩
            rintro e V ⟨rfl, hbV⟩
            have HM1 := Lib.hid (HMV.out.later hbV)
            have HG1 := Lib.hid (HGV.out.later hbV)
            have HB1' := Lib.hid (below_of HBV.out hbV)
            have HK1 := Lib.hid (HKV.out.trans ((ko_below hbV).from w4.heap.size))
            have HP1 := Lib.hid (HPV.out.trans (Keep.of_below hbV))
            clear hbV d0 d1 d2 d3 g0 g1 z0
            have hGb : w3.heap.size + 3 ≤ G := by have := HG0.out; have := HS4.out; omega
            cases hh : Tp.hasE a ((xa, xn), xv) with
            | true =>
              have HC2 : Hid (cnt a (pre.map Subtype.val ++ [((xa, xn), xv)]) = h + 1) := by rw [HCk.out, if_pos hh]; rfl
              have hO1 := HM1.out.putH ((h : Nat) + 1)
              have hG1 := HG1.out.other (b := w3.heap.size) (by omega) 0 (.int .i64 ((h : Nat) + 1))
              have hO2 := hO1.putQ (xa, xn)
              obtain ⟨c0, _, _, _⟩ := HM1.out.cells
              obtain ⟨g0, g1⟩ := px_cells (p := (xa, xn)) hG1
              obtain ⟨_, c1, _, _⟩ := hO2.cells
              have f0 := HM1.out.c0.frozen 0
              have f1 := hO1.c2.frozen 0
              have f2 := hO1.c2.frozen 1
              have f3 := hO2.c1.frozen 0
              have HO3 := Lib.hid (hO2.putN ((pre.length : Nat) + 1))
              have HKp := Lib.hid (((Keep.set HM1.out.c0 (by decide) (by decide) 0 (.int .i64 ((h : Nat) + 1))).trans (Keep.set hO1.c2 (by decide) (by decide) 0 (.int .u32 xa))).trans ((Keep.set (hO1.c2.set 0 (.int .u32 xa)) (by decide) (by decide) 1 (.int .i64 xn)).trans (Keep.set hO2.c1 (by decide) (by decide) 0 (.int .i64 ((pre.length : Nat) + 1)))))
              clear hO1 hO2 hG1
              simp only at c0 c1 g0 g1
              gi_wp2_with fail
              refine ⟨HK1.out.trans ((((KeepsOthers.setCell _ _ _).trans (KeepsOthers.setCell _ _ _)).trans ((KeepsOthers.setCell _ _ _).trans (KeepsOthers.setCell _ _ _))).from _), HP1.out.trans HKp.out, ?_, ?_⟩
              · have e1 : (((pre ++ [(⟨((xa, xn), xv), hx⟩ : Ent T.el)]).length : Nat) : Int) = (pre.length : Nat) + 1 := by simp
                rw [List.map_append, e1]
                show O9 _ ((cnt a (pre.map Subtype.val ++ [((xa, xn), xv)]) : Nat) : Int) _ (lstQ (0, 0) (pre.map Subtype.val ++ [((xa, xn), xv)])) _
                rw [HC2.out, HLq.out, Int.natCast_add]
                exact HO3.out
              · exact (((HB1'.out.setCell (by simp) _).setCell (by simp; omega) _).setCell (by simp; omega) _).setCell (by simp) _
            | false =>
              have HC2 : Hid (cnt a (pre.map Subtype.val ++ [((xa, xn), xv)]) = h) := by rw [HCk.out, if_neg (by rw [hh]; simp)]; rfl
              obtain ⟨_, _, _, _⟩ := HM1.out.cells
              have hO2 := HM1.out.putQ (xa, xn)
              obtain ⟨g0, g1⟩ := px_cells (p := (xa, xn)) HG1.out
              obtain ⟨_, c1, _, _⟩ := hO2.cells
              have f1 := HM1.out.c2.frozen 0
              have f2 := HM1.out.c2.frozen 1
              have f3 := hO2.c1.frozen 0
              have HO3 := Lib.hid (hO2.putN ((pre.length : Nat) + 1))
              have HKp := Lib.hid ((Keep.set HM1.out.c2 (by decide) (by decide) 0 (.int .u32 xa)).trans ((Keep.set (HM1.out.c2.set 0 (.int .u32 xa)) (by decide) (by decide) 1 (.int .i64 xn)).trans (Keep.set hO2.c1 (by decide) (by decide) 0 (.int .i64 ((pre.length : Nat) + 1)))))
              clear hO2
              simp only at c1 g0 g1
              gi_wp2_with fail
              refine ⟨HK1.out.trans (((KeepsOthers.setCell _ _ _).trans ((KeepsOthers.setCell _ _ _).trans (KeepsOthers.setCell _ _ _))).from _), HP1.out.trans HKp.out, ?_, ?_⟩
              · have e1 : (((pre ++ [(⟨((xa, xn), xv), hx⟩ : Ent T.el)]).length : Nat) : Int) = (pre.length : Nat) + 1 := by simp
                rw [List.map_append, e1]
                show O9 _ ((cnt a (pre.map Subtype.val ++ [((xa, xn), xv)]) : Nat) : Int) _ (lstQ (0, 0) (pre.map Subtype.val ++ [((xa, xn), xv)])) _
                rw [HC2.out, HLq.out]
                exact HO3.out
              · exact ((HB1'.out.setCell (by simp; omega) _).setCell (by simp; omega) _).setCell (by simp) _
          · have k0 : (0 : Int) < pre.length := by omega
            gi_wp2_with fail
            refine ⟨trivial, CallsIn.inRound lp (callsIn_wide.2 ((cmpR_any _ _ _ _ W2).mono ?_))⟩
            rintro e V0 ⟨rfl, hbV0⟩
            have HMV := Lib.hid (HMM.out.later hbV0)
            have HGV := Lib.hid (HG.out.later hbV0)
            have HBV := Lib.hid (below_of HBB.out hbV0)
            have HKV := Lib.hid ((ko_below hbV0).from w4.heap.size)
            have HPV := Lib.hid (Keep.of_below hbV0)
            have HYV := Lib.hid ((HY.out.later B3.out).later HBV.out)
            clear hbV0 d0 d1 d2 d3 g0 g1 z0
            by_cases hc : 0 ≤ Wp.cmpI qa qn xa xn
            · have f4 := HYV.out.frozen 0
              have y4 := HYV.out.cell (j := 0) rfl
              gi_wp2_with fail
              refine ⟨HKV.out.trans ((KeepsOthers.setCell _ _ _).from _), rfl, fun hp => ?_⟩
              rw [List.map_append] at hp
              obtain ⟨y, hy, e1⟩ := lstQ_mem (0, 0) (pre := pre.map Subtype.val) (by intro e1; have := congrArg List.length e1; rw [List.length_map] at this; simp at this; subst this; simp at hz)
              have hlt2 := prefix_rel HUp.out hp hy
              have e2 : y.1 = (qa, qn) := e1.symm.trans HQ.out
              rw [Tp.lt_iff, e2] at hlt2
              exact absurd hlt2 (by simp; omega)
            · obtain ⟨d0, d1, d2, d3⟩ := HMV.out.cells
              obtain ⟨g0, g1⟩ := px_cells (p := (xa, xn)) HGV.out
              have z0 := (HX3.out.later HBV.out).cell (j := 0) rfl
              simp only at d2 d3 g0 g1
              gi_wp2_with fail
              refine ⟨trivial, CallsIn.inRound lp (callsIn_wide.2 ((HH.out _).mono ?_))⟩
              rintro e V ⟨rfl, hbV⟩
              have HM1 := Lib.hid (HMV.out.later hbV)
              have HG1 := Lib.hid (HGV.out.later hbV)
              have HB1' := Lib.hid (below_of HBV.out hbV)
              have HK1 := Lib.hid (HKV.out.trans ((ko_below hbV).from w4.heap.size))
              have HP1 := Lib.hid (HPV.out.trans (Keep.of_below hbV))
              clear hbV d0 d1 d2 d3 g0 g1 z0
              have hGb : w3.heap.size + 3 ≤ G := by have := HG0.out; have := HS4.out; omega
              cases hh : Tp.hasE a ((xa, xn), xv) with
              | true =>
                have HC2 : Hid (cnt a (pre.map Subtype.val ++ [((xa, xn), xv)]) = h + 1) := by rw [HCk.out, if_pos hh]; rfl
                have hO1 := HM1.out.putH ((h : Nat) + 1)
                have hG1 := HG1.out.other (b := w3.heap.size) (by omega) 0 (.int .i64 ((h : Nat) + 1))
                have hO2 := hO1.putQ (xa, xn)
                obtain ⟨c0, _, _, _⟩ := HM1.out.cells
                obtain ⟨g0, g1⟩ := px_cells (p := (xa, xn)) hG1
                obtain ⟨_, c1, _, _⟩ := hO2.cells
                have f0 := HM1.out.c0.frozen 0
                have f1 := hO1.c2.frozen 0
                have f2 := hO1.c2.frozen 1
                have f3 := hO2.c1.frozen 0
                have HO3 := Lib.hid (hO2.putN ((pre.length : Nat) + 1))
                have HKp := Lib.hid (((Keep.set HM1.out.c0 (by decide) (by decide) 0 (.int .i64 ((h : Nat) + 1))).trans (Keep.set hO1.c2 (by decide) (by decide) 0 (.int .u32 xa))).trans ((Keep.set (hO1.c2.set 0 (.int .u32 xa)) (by decide) (by decide) 1 (.int .i64 xn)).trans (Keep.set hO2.c1 (by decide) (by decide) 0 (.int .i64 ((pre.length : Nat) + 1)))))
                clear hO1 hO2 hG1
                simp only at c0 c1 g0 g1
                gi_wp2_with fail
                refine ⟨HK1.out.trans ((((KeepsOthers.setCell _ _ _).trans (KeepsOthers.setCell _ _ _)).trans ((KeepsOthers.setCell _ _ _).trans (KeepsOthers.setCell _ _ _))).from _), HP1.out.trans HKp.out, ?_, ?_⟩
                · have e1 : (((pre ++ [(⟨((xa, xn), xv), hx⟩ : Ent T.el)]).length : Nat) : Int) = (pre.length : Nat) + 1 := by simp
                  rw [List.map_append, e1]
                  show O9 _ ((cnt a (pre.map Subtype.val ++ [((xa, xn), xv)]) : Nat) : Int) _ (lstQ (0, 0) (pre.map Subtype.val ++ [((xa, xn), xv)])) _
                  rw [HC2.out, HLq.out, Int.natCast_add]
                  exact HO3.out
                · exact (((HB1'.out.setCell (by simp) _).setCell (by simp; omega) _).setCell (by simp; omega) _).setCell (by simp) _
              | false =>
                have HC2 : Hid (cnt a (pre.map Subtype.val ++ [((xa, xn), xv)]) = h) := by rw [HCk.out, if_neg (by rw [hh]; simp)]; rfl
                obtain ⟨_, _, _, _⟩ := HM1.out.cells
                have hO2 := HM1.out.putQ (xa, xn)
                obtain ⟨g0, g1⟩ := px_cells (p := (xa, xn)) HG1.out
                obtain ⟨_, c1, _, _⟩ := hO2.cells
                have f1 := HM1.out.c2.frozen 0
                have f2 := HM1.out.c2.frozen 1
                have f3 := hO2.c1.frozen 0
                have HO3 := Lib.hid (hO2.putN ((pre.length : Nat) + 1))
                have HKp := Lib.hid ((Keep.set HM1.out.c2 (by decide) (by decide) 0 (.int .u32 xa)).trans ((Keep.set (HM1.out.c2.set 0 (.int .u32 xa)) (by decide) (by decide) 1 (.int .i64 xn)).trans (Keep.set hO2.c1 (by decide) (by decide) 0 (.int .i64 ((pre.length : Nat) + 1)))))
                clear hO2
                simp only at c1 g0 g1
                gi_wp2_with fail
                refine ⟨HK1.out.trans (((KeepsOthers.setCell _ _ _).trans ((KeepsOthers.setCell _ _ _).trans (KeepsOthers.setCell _ _ _))).from _), HP1.out.trans HKp.out, ?_, ?_⟩
                · have e1 : (((pre ++ [(⟨((xa, xn), xv), hx⟩ : Ent T.el)]).length : Nat) : Int) = (pre.length : Nat) + 1 := by simp
                  rw [List.map_append, e1]
                  show O9 _ ((cnt a (pre.map Subtype.val ++ [((xa, xn), xv)]) : Nat) : Int) _ (lstQ (0, 0) (pre.map Subtype.val ++ [((xa, xn), xv)])) _
                  rw [HC2.out, HLq.out]
                  exact HO3.out
                · exact ((HB1'.out.setCell (by simp; omega) _).setCell (by simp; omega) _).setCell (by simp) _
        case done =>
          rintro D ys W2 hD hys ⟨hm, hb2⟩ hK
          have hn : ys.length = T.el.length := by have := congrArg List.length hys; rw [List.length_map] at this; exact this
          rw [hn, hys] at hm
          obtain ⟨C, hC⟩ : ∃ C, C = T.el.filter (Tp.hasE a) := ⟨_, rfl⟩
          have hcn : cnt a T.el = C.length := by rw [hC]; rfl
          rw [hcn] at hm
          obtain ⟨q, hq⟩ : ∃ q, q = lstQ (0, 0) T.el := ⟨_, rfl⟩
          rw [← hq] at hm
          have HRise : Hid (C.Pairwise fun x y => x.1.2 < y.1.2) := by
            have := Tp.has_rise HUp.out HOk.out a
            rw [← hC] at this; exact this
          have HCm : Hid (∀ x ∈ C, Ok x.1 ∧ Wp.fst a x.1.2 = x.1.1) := by
            intro x hx
            rw [hC] at hx
            obtain ⟨h1, h2⟩ := List.mem_filter.1 hx
            exact ⟨HOk.out x h1, of_decide_eq_true h2⟩
          have HCf : Hid (C.length ≤ 60) := by
            have h1 : C.length ≤ T.el.length := by rw [hC]; exact List.length_filter_le _ _
            have h2 := HFew.out
            have : C.length ≤ 60 := by omega
            exact this
          have HE2 : Hid (SeqV w3 Br2 Bg2 C) := by rw [hC]; exact HS2.out
          have HMM := Lib.hid hm
          have HMb : Hid (w3.heap.size + 3 ≤ W2.heap.size) := by have := hm.c2.lt; show _ ≤ _; omega
          have HBB := Lib.hid hb2
          have HK2 := Lib.hid hK
          have HD0 := Lib.hid hD
          clear hm hb2 hK hys hn hq hcn hC hD
          go_wp2_with fail
          have hDl := (Array.getElem?_eq_some_iff.1 HK2.out).1
          have hM := BlkAt.new W2 (t := 3) [.int .i64 0]
          have hb5 := ba1 W2 (.cells #[.int .i64 0] 3)
          obtain ⟨w5, hw5⟩ : ∃ w5, w5 = W2.alloc (.cells #[.int .i64 0] 3) := ⟨_, rfl⟩
          rw [← hw5] at hb5 ⊢
          have HM5 : Hid (BlkAt 3 W2.heap.size [.int .i64 0] w5) := by rw [hw5]; exact hM
          have hs5 : w5.heap.size = W2.heap.size + 1 := by rw [hw5]; simp
          have HS5 := Lib.hid hs5
          have HO5 := Lib.hid (HMM.out.later hb5)
          have HB5 := Lib.hid (below_of HBB.out hb5)
          have HD5 : Hid (w5.heap[D]? = some (.deferred (some []))) := (hb5.block D hDl).trans HK2.out
          have HDl := Lib.hid hDl
          have hl3 := HBB.out.size
          clear hw5 hM hb5 hs5 hDl
          refine (wpIn_wide (n := 3)).1 (wpIn_range_left (n := 3) (gf := 52) (lb := #[.pointer (some ⟨Br2, 0, none⟩), .pointer (some ⟨Bg2, 0, none⟩)]) rfl (enters_of Try.func52 (by kernel_rfl) rfl)
            (over_stops (3 - 1) Br2 Bg2 C w5 (HE2.out.later HB5.out)) Keep.trans Keep.putObj (Below.refl _ _) (fun _ => rfl)
            (fun pre W => O9 w3.heap.size (C.length : Nat) (T.el.length : Nat) (lstQ q (pre.map Subtype.val)) W ∧ BlkAt 3 W2.heap.size [.int .i64 (pre.length : Nat)] W ∧ Below w3.heap.size w3 W ∧ W.heap[D]? = some (.deferred (some []))) (fun c pre W => c = .ret ∧ ¬ (pre.map Subtype.val <+: C))
            (fun s A B row hs hg hr => by
              obtain ⟨h1, h2, h3, h4⟩ := hs
              have hs5 := HS5.out
              have hd5 := HDl.out
              exact ⟨h1.grown hg (fun r e => (hr r e).2), h2.of_grown hg (fun r e => (hr r e).2), h3.grown hg h3.size (fun k e => by have := (hr k e).1; omega), (hg.block D (Array.getElem?_eq_some_iff.1 h4).1 (fun e => by have := (hr D e.symm).1; omega)).trans h4⟩)
            (fun c s A B row hs hg hr => hs) ⟨HO5.out, HM5.out, HB5.out, HD5.out⟩
            (fun pre x a' W => (O9 w3.heap.size (C.length : Nat) (T.el.length : Nat) (lstQ q (pre.map Subtype.val)) W ∧ BlkAt 3 W2.heap.size [.int .i64 (pre.length : Nat)] W ∧ Below w3.heap.size w3 W ∧ W.heap[D]? = some (.deferred (some []))) ∧ ∃ G, w5.heap.size ≤ G ∧ BlkAt 37 G [.int .u32 x.1.1.1, .int .i64 x.1.1.2] W ∧ a' = { tmps := #[.slice la l.length lc, .int .u32 a, undef, .pointer (some ⟨w.heap.size, 0, none⟩), .pointer (some ⟨w.heap.size + 1, 0, none⟩), .pointer (some ⟨t, 0, none⟩), .int .i64 (l.length : Nat), .func (.func 52) #[] #[.pointer (some ⟨Br, 0, none⟩), .pointer (some ⟨Bg, 0, none⟩)], .func (.func 52) #[] #[.pointer (some ⟨Br2, 0, none⟩), .pointer (some ⟨Bg2, 0, none⟩)], .pointer (some ⟨w3.heap.size, 0, none⟩), .pointer (some ⟨w3.heap.size + 1, 0, none⟩), .pointer (some ⟨w3.heap.size + 1 + 1, 0, none⟩), undef, .pointer (some ⟨W2.heap.size, 0, none⟩), .pointer (some ⟨G, 0, none⟩), .slice la l.length lc, .int .i64 (l.length : Nat), .bool false, undef, .pointer (some ⟨t, 0, none⟩), .pointer (some ⟨t, 0, none⟩), .bool false, .int .i64 (l.length : Nat), .slice la l.length lc, .int .i64 (l.length : Nat), .bool false, u26, u27, u28, u29, u30, u31, u32, u33, u34, u35, u36, u37, u38, u39, u40, u41, u42, u43, u44, u45, u46, u47, u48, u49, u50, u51, .pointer (some ⟨t, 0, none⟩), .func (.func 52) #[] #[.pointer (some ⟨Br, 0, none⟩), .pointer (some ⟨Bg, 0, none⟩)], .pointer (some ⟨t, 0, none⟩), .int .u32 a, .func (.func 52) #[] #[.pointer (some ⟨Br2, 0, none⟩), .pointer (some ⟨Bg2, 0, none⟩)], .func (.func 52) #[] #[.pointer (some ⟨Br, 0, none⟩), .pointer (some ⟨Bg, 0, none⟩)], .bool false, .bool false, .func (.func 52) #[] #[.pointer (some ⟨Br2, 0, none⟩), .pointer (some ⟨Bg2, 0, none⟩)], .bool false, .bool false, .agg #[.int .u32 0, .int .i64 0], .func (.func 52) #[] #[.pointer (some ⟨Br, 0, none⟩), .pointer (some ⟨Bg, 0, none⟩)], undef, undef, undef, undef, undef, undef, undef, undef, undef, undef, undef, undef, undef, undef, undef, undef, undef, undef, .func (.func 52) #[] #[.pointer (some ⟨Br2, 0, none⟩), .pointer (some ⟨Bg2, 0, none⟩)], .agg #[.int .u32 x.1.1.1, .int .i64 x.1.1.2], .int .i64 x.1.2, undef, undef, undef, undef, undef, undef, undef, undef, undef, undef, undef, undef, undef, undef, undef, undef, undef, undef, undef, undef, undef, undef, undef, undef, undef, undef, undef, undef, undef, undef, undef, undef, undef, undef, undef, undef], defers := [] })
            (fun pre x a' s A B row hs hg hr => by
              obtain ⟨⟨h1, h2, h3, h4⟩, G, hG0, hG, ha⟩ := hs
              have hs5 := HS5.out
              have hd5 := HDl.out
              exact ⟨⟨h1.grown hg (fun r e => (hr r e).2), h2.of_grown hg (fun r e => (hr r e).2), h3.grown hg h3.size (fun k e => by have := (hr k e).1; omega), (hg.block D (Array.getElem?_eq_some_iff.1 h4).1 (fun e => by have := (hr D e.symm).1; omega)).trans h4⟩, G, hG0, hG.of_grown hg (fun r e => (hr r e).2), ha⟩) ?assign2 ?body2 ?done2 ?stop2)
          case assign2 =>
            rintro lp pre x W4 K ⟨hm, hm2, hb2, hd⟩ hK
            have HMM := Lib.hid hm
            have HM2 := Lib.hid hm2
            have HBB := Lib.hid hb2
            have HDD := Lib.hid hd
            have HK2 := Lib.hid hK
            obtain ⟨⟨⟨xa, xn⟩, xv⟩, hx⟩ := x
            clear hm hb2 hK hm2 hd
            simp only [encE] at HK2 ⊢
            gi_wp2_with fail
            have hdl := (Array.getElem?_eq_some_iff.1 HDD.out).1
            refine HK2.out _ _ ((KeepsOthers.alloc _ _).from _) (Keep.of_below (ba1 _ _)) ⟨⟨HMM.out.later (ba1 _ _), HM2.out.later (ba1 _ _), HBB.out.trans ((ba1 _ _).mono HBB.out.size), ((ba1 _ _).block D hdl).trans HDD.out⟩, W4.heap.size, ?_, BlkAt.new W4 _, rfl⟩
            have h1 := HM2.out.lt
            have h2 := HS5.out
            omega
          case body2 =>
            rintro lp pre x a' W4 ⟨⟨hm, hm2, hb2, hd⟩, G, hG0, hG, rfl⟩ hlt
            obtain ⟨⟨⟨xa, xn⟩, xv⟩, hx⟩ := x
            have hxo := (HCm.out _ hx).1
            obtain ⟨g0, g1⟩ := px_cells hG
            have z0 := (HX3.out.later hb2).cell (j := 0) rfl
            have HMM := Lib.hid hm
            have HM2 := Lib.hid hm2
            have HBB := Lib.hid hb2
            have HDD := Lib.hid hd
            have HG : Hid (BlkAt 37 G [.int .u32 xa, .int .i64 xn] W4) := hG
            have HG0 := Lib.hid hG0
            have HLt : Hid (pre.length ≤ 60) := by have h1 := HCf.out; have : pre.length ≤ 60 := by omega
                                                   exact this
            have HXo := Lib.hid hxo
            have HH := Lib.hid (fun (V : World) => hasR_any xa xn a V hxo.a0 hxo.a1 ha0 ha1)
            rw [has_ok (x := ((xa, xn), xv)) hxo a, show Tp.hasE a ((xa, xn), xv) = true from decide_eq_true (HCm.out _ hx).2] at HH
            have HLq := Lib.hid (lstQ_snoc q (pre.map Subtype.val) ((xa, xn), xv))
            obtain ⟨qa, qn, hq⟩ : ∃ qa qn, lstQ q (pre.map Subtype.val) = (qa, qn) := ⟨_, _, rfl⟩
            rw [hq] at HMM
            simp only at g0 g1 HH ⊢
            have HQ := Lib.hid hq
            have k60 : (pre.length : Int) ≤ 60 := by have := HLt.out; omega
            clear hm hm2 hb2 hd hG hxo hq hG0 HA HCv HL HK HS2 HE2 HS3 HE4 H1 B1 HXr HT HT3 HBr
            gi_wp2_with fail
            refine ⟨trivial, CallsIn.inRound lp (callsIn_wide.2 ((HH.out _).mono ?_))⟩
            rintro e V ⟨rfl, hbV⟩
            have HM1 := Lib.hid (HMM.out.later hbV)
            have HN1 := Lib.hid (HM2.out.later hbV)
            have HG1 := Lib.hid (HG.out.later hbV)
            have HB1' := Lib.hid (below_of HBB.out hbV)
            have HK1 := Lib.hid ((ko_below hbV).from w5.heap.size)
            have HP1 := Lib.hid (Keep.of_below hbV)
            have HD1 : Hid (V.heap[D]? = some (.deferred (some []))) := (hbV.block D (Array.getElem?_eq_some_iff.1 HDD.out).1).trans HDD.out
            have HY1 := Lib.hid ((HY.out.later B3.out).later HB1'.out)
            have n0 := HN1.out.cell (j := 0) rfl
            clear hbV g0 g1 z0
            have hGb : W2.heap.size + 1 ≤ G := by have := HG0.out; have := HS5.out; omega
            have hMb := HMb.out
            obtain ⟨d0, d1, d2, d3⟩ := HM1.out.cells
            obtain ⟨g0, g1⟩ := px_cells (p := (xa, xn)) HG1.out
            simp only at d2 d3 g0 g1
            rcases Nat.eq_zero_or_pos pre.length with hz | hz
            · have k0 : ¬ (0 : Int) < pre.length := by omega
              have HMV := HM1
              have HNV := HN1
              have HBV := HB1'
              have HKV := HK1
              have HPV := HP1
              have HDV := HD1
              clear hz HD1 HP1
              gi_wp2_with fail
              · rename_i _ hb _; exact absurd hb (by simp [undef])
              · rename_i _ hb _; exact absurd hb (by simp [undef])
              refine ⟨trivial, ?_⟩
              have hO2 := HMV.out.putQ (xa, xn)
              have hGm : W2.heap.size ≠ w3.heap.size + 1 + 1 := by omega
              have hM2 := (HNV.out.other (b := w3.heap.size + 1 + 1) hGm 0 (.int .u32 xa)).other hGm 1 (.int .i64 xn)
              have c1 := hM2.cell (j := 0) rfl
              have f1 := HMV.out.c2.frozen 0
              have f2 := HMV.out.c2.frozen 1
              have f3 := hM2.frozen 0
              have HO3 : Hid (O9 w3.heap.size (C.length : Nat) (T.el.length : Nat) (xa, xn) (((V.setCell ⟨w3.heap.size + 1 + 1, 0, none⟩ (.int .u32 xa)).setCell ⟨w3.heap.size + 1 + 1, 1, none⟩ (.int .i64 xn)).setCell ⟨W2.heap.size, 0, none⟩ (.int .i64 ((pre.length : Nat) + 1)))) :=
                ⟨hO2.c0.other (by omega) _ _, hO2.c1.other (by omega) _ _, hO2.c2.other (by omega) _ _⟩
              have HM3 := Lib.hid (hM2.set 0 (.int .i64 ((pre.length : Nat) + 1)))
              have HKp := Lib.hid ((Keep.set HMV.out.c2 (by decide) (by decide) 0 (.int .u32 xa)).trans ((Keep.set (HMV.out.c2.set 0 (.int .u32 xa)) (by decide) (by decide) 1 (.int .i64 xn)).trans (Keep.set hM2 (by decide) (by decide) 0 (.int .i64 ((pre.length : Nat) + 1)))))
              clear hO2 hM2
              gi_wp2_with fail
              refine ⟨HKV.out.trans (((KeepsOthers.setCell _ _ _).trans ((KeepsOthers.setCell _ _ _).trans (KeepsOthers.setCell _ _ _))).from _), HPV.out.trans HKp.out, ?_, ?_, ?_, ?_⟩
              · rw [List.map_append]
                show O9 _ _ _ (lstQ q (pre.map Subtype.val ++ [((xa, xn), xv)])) _
                rw [HLq.out]
                exact HO3.out
              · have e1 : (((pre ++ [(⟨((xa, xn), xv), hx⟩ : Ent C)]).length : Nat) : Int) = (pre.length : Nat) + 1 := by simp
                rw [e1]
                exact HM3.out
              · exact ((HBV.out.setCell (by simp; omega) _).setCell (by simp; omega) _).setCell (by simp; omega) _
              · exact (((KeepsOthers.setCell _ _ _).trans ((KeepsOthers.setCell _ _ _).trans (KeepsOthers.setCell _ _ _)))).same D _ HDV.out rfl
            · have k0 : (0 : Int) < pre.length := by omega
              obtain ⟨y, hy, hyq⟩ := lstQ_mem q (pre := pre.map Subtype.val) (by intro e1; have := congrArg List.length e1; rw [List.length_map] at this; simp at this; subst this; simp at hz)
              obtain ⟨⟨ya, yn⟩, yv⟩ := y
              rw [HQ.out] at hyq
              simp only [Prod.mk.injEq] at hyq
              obtain ⟨rfl, rfl⟩ := hyq
              have HYm := Lib.hid hy
              obtain ⟨yC, hyC⟩ : ∃ hC : ((qa, qn), yv) ∈ C, True := by
                obtain ⟨z, hz, e⟩ := List.mem_map.1 hy
                exact ⟨by rw [← e]; exact z.2, trivial⟩
              have hyo := HCm.out _ yC
              have hxo := HCm.out _ hx
              have HW := Lib.hid (fun (U : World) => inR_any qa qn xa xn U hyo.1.a0 hyo.1.a1 hxo.1.a0 hxo.1.a1)
              have HWt : Hid (qn ≤ xn → Wp.inB qa qn xa xn = true) := fun hle => Tp.has_within (x := (qa, qn)) (y := (xa, xn)) (a := a) hyo.1 hxo.1 hyo.2 hxo.2 hle
              clear hy hyC hyo hxo
              by_cases hc : xn ≤ qn
              · have f4 := HY1.out.frozen 0
                have y4 := HY1.out.cell (j := 0) rfl
                gi_wp2_with fail
                refine ⟨trivial, ?_⟩
                gi_wp2_with fail
                refine ⟨HK1.out.trans ((KeepsOthers.setCell _ _ _).from _), rfl, fun hp => ?_⟩
                rw [List.map_append] at hp
                have hlt2 := prefix_rel HRise.out hp HYm.out
                exact absurd hlt2 (by simp; omega)
              · gi_wp2_with fail
                refine ⟨trivial, CallsIn.inRound lp (callsIn_wide.2 ((HW.out _).mono ?_))⟩
                rintro e V2 ⟨rfl, hbV⟩
                have HMV := Lib.hid (HM1.out.later hbV)
                have HNV := Lib.hid (HN1.out.later hbV)
                have HGV := Lib.hid (HG1.out.later hbV)
                have HBV := Lib.hid (below_of HB1'.out hbV)
                have HKV := Lib.hid (HK1.out.trans ((ko_below hbV).from w5.heap.size))
                have HPV := Lib.hid (HP1.out.trans (Keep.of_below hbV))
                have HDV : Hid (V2.heap[D]? = some (.deferred (some []))) := (hbV.block D (Array.getElem?_eq_some_iff.1 HD1.out).1).trans HD1.out
                rw [HWt.out (by omega)]
                clear hbV d0 d1 d2 d3 g0 g1 n0
                obtain ⟨d0, d1, d2, d3⟩ := HMV.out.cells
                obtain ⟨g0, g1⟩ := px_cells (p := (xa, xn)) HGV.out
                have n0 := HNV.out.cell (j := 0) rfl
                simp only at d2 d3 g0 g1
                have hO2 := HMV.out.putQ (xa, xn)
                have hGm : W2.heap.size ≠ w3.heap.size + 1 + 1 := by omega
                have hM2 := (HNV.out.other (b := w3.heap.size + 1 + 1) hGm 0 (.int .u32 xa)).other hGm 1 (.int .i64 xn)
                have c1 := hM2.cell (j := 0) rfl
                have f1 := HMV.out.c2.frozen 0
                have f2 := HMV.out.c2.frozen 1
                have f3 := hM2.frozen 0
                have HO3 : Hid (O9 w3.heap.size (C.length : Nat) (T.el.length : Nat) (xa, xn) (((V2.setCell ⟨w3.heap.size + 1 + 1, 0, none⟩ (.int .u32 xa)).setCell ⟨w3.heap.size + 1 + 1, 1, none⟩ (.int .i64 xn)).setCell ⟨W2.heap.size, 0, none⟩ (.int .i64 ((pre.length : Nat) + 1)))) :=
                  ⟨hO2.c0.other (by omega) _ _, hO2.c1.other (by omega) _ _, hO2.c2.other (by omega) _ _⟩
                have HM3 := Lib.hid (hM2.set 0 (.int .i64 ((pre.length : Nat) + 1)))
                have HKp := Lib.hid ((Keep.set HMV.out.c2 (by decide) (by decide) 0 (.int .u32 xa)).trans ((Keep.set (HMV.out.c2.set 0 (.int .u32 xa)) (by decide) (by decide) 1 (.int .i64 xn)).trans (Keep.set hM2 (by decide) (by decide) 0 (.int .i64 ((pre.length : Nat) + 1)))))
                clear hO2 hM2
                gi_wp2_with fail
                refine ⟨HKV.out.trans (((KeepsOthers.setCell _ _ _).trans ((KeepsOthers.setCell _ _ _).trans (KeepsOthers.setCell _ _ _))).from _), HPV.out.trans HKp.out, ?_, ?_, ?_, ?_⟩
                · rw [List.map_append]
                  show O9 _ _ _ (lstQ q (pre.map Subtype.val ++ [((xa, xn), xv)])) _
                  rw [HLq.out]
                  exact HO3.out
                · have e1 : (((pre ++ [(⟨((xa, xn), xv), hx⟩ : Ent C)]).length : Nat) : Int) = (pre.length : Nat) + 1 := by simp
                  rw [e1]
                  exact HM3.out
                · exact ((HBV.out.setCell (by simp; omega) _).setCell (by simp; omega) _).setCell (by simp; omega) _
                · exact (((KeepsOthers.setCell _ _ _).trans ((KeepsOthers.setCell _ _ _).trans (KeepsOthers.setCell _ _ _)))).same D _ HDV.out rfl
          case done2 =>
            rintro D2 ys W4 hD2 hys ⟨hm, hm2, hb2, hd⟩ hK2
            have hn : ys.length = C.length := by have := congrArg List.length hys; rw [List.length_map] at this; exact this
            rw [hn] at hm2
            have HMM := Lib.hid hm
            have HM2 := Lib.hid hm2
            have HBB := Lib.hid hb2
            have HDD := Lib.hid hd
            have HKK := Lib.hid hK2
            have HT4 := Lib.hid (HT3.out.later hb2)
            have HY4 := Lib.hid ((HY.out.later B3.out).later hb2)
            have hne : D ≠ D2 := by have h1 := HDl.out; have h2 := HS5.out; omega
            have HBf := Lib.hid (below_of HB.out (below_of B3.out hb2))
            obtain ⟨d0, d1, d2, d3⟩ := hm.cells
            have n0 := hm2.cell (j := 0) rfl
            have HD9 := Lib.hid hD2
            clear hm hm2 hb2 hd hK2 hys hn hD2
            go_wp2_with fail
            refine (wpIn_wide (n := 3)).1 (Code.wpIn_mono onlyN_le (wpIn_wide.2 ?_))
            refine wp_region_last (S := fun w' => Below W4.heap.size W4 w') (by simp only [List.pop_toArray, List.dropLast]; exact rfl) (by kernel_rfl) (by kernel_rfl) (Below.refl _ _).drew (fun hHeld => ?_)
            (refine wpAnyH_take (i := 0) (v := ?_) rfl (by kernel_rfl) (by kernel_rfl) (by kernel_rfl) (fun _ _ _ h => False.elim h) (Or.inl ⟨by rfl, ?_⟩) hHeld ?_; rotate_left; (focus (intro w hSw; (try dsimp only at hSw); go_simp; ((have hcc := cell_later hSw d1); go_simp; try with_reducible rfl))); (try simp only [Act.put, List.setIfInBounds_toArray, List.set_cons_zero, List.set_cons_succ, List.getElem_toArray, List.getElem_cons_zero]))
            (refine wpAnyH_take (i := 1) (v := ?_) rfl (by kernel_rfl) (by kernel_rfl) (by kernel_rfl) (fun _ _ _ h => False.elim h) (Or.inl ⟨by rfl, ?_⟩) hHeld ?_; rotate_left; (focus (intro w hSw; (try dsimp only at hSw); go_simp; try with_reducible rfl)); (try simp only [Act.put, List.setIfInBounds_toArray, List.set_cons_zero, List.set_cons_succ, List.getElem_toArray, List.getElem_cons_zero, List.getElem_cons_succ]))
            (refine wpAnyH_ready (rs := [2]) (by kernel_rfl) (by simp) ?_; refine AllReadyH.cons rfl (fun K hK => ?_) AllReadyH.nil; go_simp; (refine (lenT (HT4.out.later hHeld)).mono ?_; rintro e v1 ⟨rfl, rfl⟩); refine hK.out _ _ ?_ (fun hHeldN => ?_); (focus ((try dsimp only); (exact hHeld))); clear hK K hHeld; have hHeld := hHeldN; clear hHeldN; (try simp only [Act.put, List.setIfInBounds_toArray, List.set_cons_zero, List.set_cons_succ, List.getElem_toArray, List.getElem_cons_zero, List.getElem_cons_succ]))
            (refine wpAnyH_take (i := 3) (v := ?_) rfl (by kernel_rfl) (by kernel_rfl) (by kernel_rfl) (fun _ _ _ h => False.elim h) (Or.inl ⟨by rfl, ?_⟩) hHeld ?_; rotate_left; (focus (intro w hSw; (try dsimp only at hSw); go_simp; try with_reducible rfl)); (try simp only [Act.put, List.setIfInBounds_toArray, List.set_cons_zero, List.set_cons_succ, List.getElem_toArray, List.getElem_cons_zero, List.getElem_cons_succ])); (refine wpAnyH_take (i := 4) (v := ?_) rfl (by kernel_rfl) (by kernel_rfl) (by kernel_rfl) (fun _ _ _ h => False.elim h) (Or.inl ⟨by rfl, ?_⟩) hHeld ?_; rotate_left; (focus (intro w hSw; (try dsimp only at hSw); go_simp; try with_reducible rfl)); (try simp only [Act.put, List.setIfInBounds_toArray, List.set_cons_zero, List.set_cons_succ, List.getElem_toArray, List.getElem_cons_zero, List.getElem_cons_succ]))
            (refine wpAnyH_take (i := 5) (v := ?_) rfl (by kernel_rfl) (by kernel_rfl) (by kernel_rfl) (fun _ _ _ h => False.elim h) (Or.inl ⟨by rfl, ?_⟩) hHeld ?_; rotate_left; (focus (intro w hSw; (try dsimp only at hSw); go_simp; ((have hcc := cell_later hSw n0); go_simp; try with_reducible rfl))); (try simp only [Act.put, List.setIfInBounds_toArray, List.set_cons_zero, List.set_cons_succ, List.getElem_toArray, List.getElem_cons_zero, List.getElem_cons_succ]))
            (refine wpAnyH_take (i := 6) (v := ?_) rfl (by kernel_rfl) (by kernel_rfl) (by kernel_rfl) (fun _ _ _ h => False.elim h) (Or.inl ⟨by rfl, ?_⟩) hHeld ?_; rotate_left; (focus (intro w hSw; (try dsimp only at hSw); go_simp; ((have hcc := cell_later hSw d0); go_simp; try with_reducible rfl))); (try simp only [Act.put, List.setIfInBounds_toArray, List.set_cons_zero, List.set_cons_succ, List.getElem_toArray, List.getElem_cons_zero, List.getElem_cons_succ]))
            (refine wpAnyH_take (i := 7) (v := ?_) rfl (by kernel_rfl) (by kernel_rfl) (by kernel_rfl) (fun _ _ _ h => False.elim h) (Or.inl ⟨by rfl, ?_⟩) hHeld ?_; rotate_left; (focus (intro w hSw; (try dsimp only at hSw); go_simp; try with_reducible rfl)); (try simp only [Act.put, List.setIfInBounds_toArray, List.set_cons_zero, List.set_cons_succ, List.getElem_toArray, List.getElem_cons_zero, List.getElem_cons_succ])); (refine wpAnyH_take (i := 8) (v := ?_) rfl (by kernel_rfl) (by kernel_rfl) (by kernel_rfl) (fun _ _ _ h => False.elim h) (Or.inl ⟨by rfl, ?_⟩) hHeld ?_; rotate_left; (focus (intro w hSw; (try dsimp only at hSw); go_simp; try with_reducible rfl)); (try simp only [Act.put, List.setIfInBounds_toArray, List.set_cons_zero, List.set_cons_succ, List.getElem_toArray, List.getElem_cons_zero, List.getElem_cons_succ])); (refine wpAnyH_take (i := 9) (v := ?_) rfl (by kernel_rfl) (by kernel_rfl) (by kernel_rfl) (fun _ _ _ h => False.elim h) (Or.inl ⟨by rfl, ?_⟩) hHeld ?_; rotate_left; (focus (intro w hSw; (try dsimp only at hSw); go_simp; try with_reducible rfl)); (try simp only [Act.put, List.setIfInBounds_toArray, List.set_cons_zero, List.set_cons_succ, List.getElem_toArray, List.getElem_cons_zero, List.getElem_cons_succ]))
            (refine wpAnyH_ready (rs := [10]) (by kernel_rfl) (by simp) ?_; refine AllReadyH.cons rfl (fun K hK => ?_) AllReadyH.nil; go_simp; (refine (knownT _).mono ?_; rintro e v2 ⟨rfl, hb10⟩); refine hK.out _ _ ?_ (fun hHeldN => ?_); (focus ((try dsimp only); (exact below_of hHeld hb10))); clear hK K hHeld; have hHeld := hHeldN; clear hHeldN; (try simp only [Act.put, List.setIfInBounds_toArray, List.set_cons_zero, List.set_cons_succ, List.getElem_toArray, List.getElem_cons_zero, List.getElem_cons_succ]))
            (refine wpAnyH_take (i := 11) (v := ?_) rfl (by kernel_rfl) (by kernel_rfl) (by kernel_rfl) (fun _ _ _ h => False.elim h) (Or.inl ⟨by rfl, ?_⟩) hHeld ?_; rotate_left; (focus (intro w hSw; (try dsimp only at hSw); go_simp; try with_reducible rfl)); (try simp only [Act.put, List.setIfInBounds_toArray, List.set_cons_zero, List.set_cons_succ, List.getElem_toArray, List.getElem_cons_zero, List.getElem_cons_succ]))
            refine wpAnyH_done (by kernel_rfl) ?_ _
            have HYv := Lib.hid (HY4.out.later hHeld)
            have y4 := HYv.out.cell (j := 0) rfl
            have f4 := HYv.out.frozen 0
            have HH := Lib.hid hHeld
            clear hHeld hb10 d0 d1 d2 d3 n0
            refine lastQ_at rfl ?_
            go_simp
            simp only [onlyN]
            go_wp2_with fail
            have k1 : (v2.setCell ⟨w.heap.size + 1, 0, none⟩ (.bool true)).heap[D2]? = some (.deferred (some [])) := (KeepsOthers.setCell _ _ _).same D2 _ ((HH.out.block D2 (Array.getElem?_eq_some_iff.1 HKK.out).1).trans HKK.out) rfl
            have k2 : (v2.setCell ⟨w.heap.size + 1, 0, none⟩ (.bool true)).heap[D]? = some (.deferred (some [])) := (KeepsOthers.setCell _ _ _).same D _ ((HH.out.block D (Array.getElem?_eq_some_iff.1 HDD.out).1).trans HDD.out) rfl
            have k3 : ((v2.setCell ⟨w.heap.size + 1, 0, none⟩ (.bool true)).putObj D2 (.deferred none)).heap[D]? = some (.deferred (some [])) := (World.putObj_heap_other hne).trans k2
            have hg1 := grownBy_putObj' (v2.setCell ⟨w.heap.size + 1, 0, none⟩ (.bool true)) D2 (.deferred none)
            have hr1 : ∀ r, some D2 = some r → ∃ o : Obj, (v2.setCell ⟨w.heap.size + 1, 0, none⟩ (.bool true)).heap[r]? = some o ∧ o.isCells = false := fun r e => by cases e; exact ⟨_, k1, rfl⟩
            have hg2 := grownBy_putObj' ((v2.setCell ⟨w.heap.size + 1, 0, none⟩ (.bool true)).putObj D2 (.deferred none)) D (.deferred none)
            have hr2 : ∀ r, some D = some r → ∃ o : Obj, ((v2.setCell ⟨w.heap.size + 1, 0, none⟩ (.bool true)).putObj D2 (.deferred none)).heap[r]? = some o ∧ o.isCells = false := fun r e => by cases e; exact ⟨_, k3, rfl⟩
            have x0 := (((HYv.out.set 0 (.bool true)).of_grown hg1 hr1).of_grown hg2 hr2).cell (j := 0) rfl
            have hbz := (HBf.out.trans (HH.out.mono HBf.out.size)).setCell (p := ⟨w.heap.size + 1, 0, none⟩) (by simp) (.bool true)
            have hlw : w.heap.size ≤ D ∧ w.heap.size ≤ D2 := by
              have h1 := HB.out.size
              have h2 := B3.out.size
              have h3 := HS4.out
              have h4 := HD0.out
              have h5 := HD9.out
              have h6 := HB5.out.size
              omega
            have hbz1 := hbz.grown hg1 hbz.size (fun k e => by cases e; exact hlw.2)
            refine ⟨by simp, .inl ⟨_, _, rfl, run_takeDeferred k1, ⟨by simp, .inl ⟨_, _, rfl, run_takeDeferred k3, ?_⟩⟩⟩⟩
            refine ⟨.bool true, ?_, rfl, hbz1.grown hg2 hbz1.size (fun k e => by cases e; exact hlw.1)⟩
            simp [results, Try.f7, go_sem, x0]
          case stop2 =>
            rintro D2 c pre W4 hD2 hpre ⟨rfl, h⟩ hK2
            exact absurd hpre h
        case stop =>
          rintro D c pre W2 hD hpre ⟨rfl, h⟩ hK
          exact absurd hpre h
  · have k1 : (100 : Int) < l.length := by omega
    clear hgo
    refine callsIn_wide.1 (callsIn_of_wp_marks (n := 3) Try.func7 rfl trivial (wpIn_wide.2 ?_) rfl)
    simp only [Try.ntmps7, List.size_toArray, List.length_cons, List.length_nil, Nat.reduceAdd, Nat.reduceSub, Array.replicate_succ, Array.replicate_zero, List.push_toArray, List.append_toArray, List.nil_append, List.cons_append]
    have hY := BlkAt.new (w.alloc (.cells #[.int .u32 a] 35)) (t := 4) [.bool false]
    rw [World.size_alloc] at hY
    have hB := below_of (ba1 w (.cells #[.int .u32 a] 35)) (ba1 _ (.cells #[.bool false] 4))
    have HY := Lib.hid hY
    have HB := Lib.hid hB
    clear hY hB
    go_wp2_with fail
    refine (knownT _).mono ?_
    rintro e w1 ⟨rfl, b1⟩
    have HY1 := Lib.hid (HY.out.later b1)
    have HB1 := Lib.hid (below_of HB.out b1)
    have c0 := HY1.out.cell (j := 0) rfl
    have f0 := HY1.out.frozen 0
    clear b1
    go_wp2_with fail
    have x0 := (HY1.out.set 0 (.bool true)).cell (j := 0) rfl
    refine ⟨.bool true, ?_, rfl, HB1.out.setCell (by simp) _⟩
    simp [results, Try.f7, go_sem, x0]
end Go.Proofs.Ytbfkjdnopiadjaa
