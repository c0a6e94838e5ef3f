/- trie's with: the walk. -/
import Derived.Test.YtbfkjdnopiadjaaZ04

set_option linter.unusedSimpArgs false
set_option linter.unusedVariables false
namespace Go.Proofs.Ytbfkjdnopiadjaa
open Go.RowKit
attribute [local go_sem ↓] Go.wp_at_zero Go.wp_at_succ
attribute [local go_sem ↓ high] eqP neP
open Tp (Pf Ok mn bit com Tr withN)

theorem withNil {p : Pf} (v : Int) (w : World) :
    Calls Try.prog 47 #[.pointer none, .agg #[.int .u32 p.1, .int .i64 p.2], .int .i64 v] w fun e w' => ∃ u, e = .returned u ∧ TrAt w' u (withN p v .nil) ∧ Below w.heap.size w w' := by
  have hB := ba1 w (.cells #[.int .u32 p.1, .int .i64 p.2] 37)
  have hN := BlkAt.new (w.alloc (.cells #[.int .u32 p.1, .int .i64 p.2] 37)) (t := 92) (nc p (some v) (.pointer none) (.pointer none))
  rw [show (w.alloc (.cells #[.int .u32 p.1, .int .i64 p.2] 37)).heap.size = w.heap.size + 1 by simp] at hN
  have HT := Lib.hid (show TrAt _ (.pointer (some ⟨w.heap.size + 1, 0, none⟩)) (withN p v .nil) from ⟨_, _, _, rfl, hN, rfl, rfl⟩)
  have HB := Lib.hid (below_of hB (ba1 _ (.cells (nc p (some v) (.pointer none) (.pointer none)).toArray 92)))
  clear hB hN
  go_enter Try.func47, Try.ntmps47
  go_wp2_with fail
  go_ret
  exact ⟨_, rfl, HT.out, HB.out⟩
/-- The bounds of a side's place, and the ways on. -/
inductive Way (p q c : Pf) : Prop
  | same (h : c = q) : Way p q c
  | up0 (h : c ≠ q) (h1 : c = p) (hb : bit q.1 p.2 = 0) (n0 : 0 ≤ p.2) (n1 : p.2 ≤ 31) : Way p q c
  | up1 (h : c ≠ q) (h1 : c = p) (hb : bit q.1 p.2 = 1) (n0 : 0 ≤ p.2) (n1 : p.2 ≤ 31) : Way p q c
  | fork0 (h : c ≠ q) (h1 : c ≠ p) (hb : bit p.1 c.2 = 0) (hb2 : bit q.1 c.2 = 1) (n0 : 0 ≤ c.2) (n1 : c.2 ≤ 31) : Way p q c
  | fork1 (h : c ≠ q) (h1 : c ≠ p) (hb : bit p.1 c.2 = 1) (hb2 : bit q.1 c.2 = 0) (n0 : 0 ≤ c.2) (n1 : c.2 ≤ 31) : Way p q c
theorem way_of {p q : Pf} (hp : Ok p) (hq : Ok q) : Way p q (com p q) := by
  by_cases h : com p q = q
  · exact .same h
  · by_cases h1 : com p q = p
    · have hw := (Tp.com_wi hp hq).1 h1
      have hne : p ≠ q := fun e => h (h1.trans e)
      have hb := Tp.Bel.of hp hq hw hne
      have n31 := hb.n31
      rcases Tp.bit_or q.1 p.2 with e | e
      · exact .up0 h h1 e hp.n0 n31
      · exact .up1 h h1 e hp.n0 n31
    · have w1 : Tp.wi p q = false := by
        cases e : Tp.wi p q
        · rfl
        · exact absurd ((Tp.com_wi hp hq).2 e) h1
      have w2 : Tp.wi q p = false := by
        cases e : Tp.wi q p
        · rfl
        · exact absurd ((Tp.com_comm hp hq).trans ((Tp.com_wi hq hp).2 e)) h
      obtain ⟨c1, c2, c3, c4⟩ := Tp.com_part hp hq w1 w2
      have n31 := c2.n31
      rcases Tp.bit_or p.1 (com p q).2 with e | e
      · rcases Tp.bit_or q.1 (com p q).2 with e2 | e2
        · exact absurd (e.trans e2.symm) c4
        · exact .fork0 h h1 e e2 c1.n0 n31
      · rcases Tp.bit_or q.1 (com p q).2 with e2 | e2
        · exact .fork1 h h1 e e2 c1.n0 n31
        · exact absurd (e.trans e2.symm) c4
theorem sameP_no {p q : Pf} (h : p ≠ q) : sameP p.1 p.2 q.1 q.2 = false := by rw [sameP_eq]; exact decide_eq_false h
theorem sameP_yes {p q : Pf} (h : p = q) : sameP p.1 p.2 q.1 q.2 = true := sameP_iff.2 h
theorem px_cells {g : Nat} {p : Pf} {w : World} (h : BlkAt 37 g [.int .u32 p.1, .int .i64 p.2] w) : w.cell? ⟨g, 0, none⟩ = some (.int .u32 p.1) ∧ w.cell? ⟨g, 1, none⟩ = some (.int .i64 p.2) := ⟨h.cell (j := 0) rfl, h.cell (j := 1) rfl⟩
theorem sideI {a n k x : Int} (h0 : 0 ≤ n) (h1 : n ≤ 31) (hb : bit a n = x) (w : World) :
    Calls Try.prog 56 #[.agg #[.int .u32 a, .int .i64 k], .int .i64 n] w fun e w' => e = .returned (.int .i64 x) ∧ Below w.heap.size w w' := by rw [← hb]; exact sideT a n k w h0 h1
/-- A node's cells behind a store of a way. -/
theorem nd_set4 {b : Nat} {q : Pf} {o : Option Int} {vl vr x : Value} {w : World} (h : BlkAt 92 b (nc q o vl vr) w) : BlkAt 92 b (nc q o x vr) (w.setCell ⟨b, 4, none⟩ x) := h.set 4 x
theorem nd_set5 {b : Nat} {q : Pf} {o : Option Int} {vl vr x : Value} {w : World} (h : BlkAt 92 b (nc q o vl vr) w) : BlkAt 92 b (nc q o vl x) (w.setCell ⟨b, 5, none⟩ x) := h.set 5 x

set_option maxHeartbeats 4000000 in
set_option maxRecDepth 100000 in
theorem withT {p : Pf} (hp : Ok p) {v : Int} {q : Pf} (hq : Ok q) {o : Option Int} {l r : Tr} {b : Nat} {vl vr : Value} {w : World} (hb : BlkAt 92 b (nc q o vl vr) w) (hl : TrAt w vl l) (hr : TrAt w vr r) :
    Calls Try.prog 47 #[.pointer (some ⟨b, 0, none⟩), .agg #[.int .u32 p.1, .int .i64 p.2], .int .i64 v] w fun e w' => ∃ u, e = .returned u ∧ TrAt w' u (withN p v (.node q o l r)) ∧ Below w.heap.size w w' := by
  have hway := way_of hp hq
  have HM := Lib.hid (fun (W : World) => meetT hp hq W)
  have HW : Hid (withN p v (.node q o l r) = if com p q = q then .node p (some v) l r
    else if com p q = p then (if bit q.1 p.2 = 0 then .node p (some v) (.node q o l r) .nil else .node p (some v) .nil (.node q o l r))
    else (if bit p.1 (com p q).2 = 0 then .node (com p q) none (.node p (some v) .nil .nil) (.node q o l r) else .node (com p q) none (.node q o l r) (.node p (some v) .nil .nil))) := rfl
  have HS := Lib.hid (show TrAt w (.pointer (some ⟨b, 0, none⟩)) (.node q o l r) from ⟨b, vl, vr, rfl, hb, hl, hr⟩)
  obtain ⟨c, hc⟩ : ∃ c, c = com p q := ⟨_, rfl⟩
  rw [← hc] at hway HM HW
  obtain ⟨al, rfl⟩ := hl.ptr
  obtain ⟨ar, rfl⟩ := hr.ptr
  have hblt := hb.lt
  have HLr := Lib.hid (And.intro hl hr)
  have HBN := Lib.hid hb
  clear hc hp hq hl hr
  go_enter Try.func47, Try.ntmps47
  go_wp2_with fail
  have hB1 := ba1 w (.cells #[.int .u32 p.1, .int .i64 p.2] 37)
  have hP := (BlkAt.new w (t := 37) [.int .u32 p.1, .int .i64 p.2]).later (ba1 _ (.cells (nc p (some v) (.pointer none) (.pointer none)).toArray 92))
  have hN := BlkAt.new (w.alloc (.cells #[.int .u32 p.1, .int .i64 p.2] 37)) (t := 92) (nc p (some v) (.pointer none) (.pointer none))
  have hB := below_of hB1 (ba1 _ (.cells (nc p (some v) (.pointer none) (.pointer none)).toArray 92))
  clear hB1
  obtain ⟨W, hW⟩ : ∃ W, W = (w.alloc (.cells #[.int .u32 p.1, .int .i64 p.2] 37)).alloc (.cells #[.int .u32 p.1, .int .i64 p.2, .int .i64 v, .bool true, .pointer none, .pointer none] 92) := ⟨_, rfl⟩
  have eW : (w.alloc (.cells #[.int .u32 p.1, .int .i64 p.2] 37)).alloc (.cells (nc p (some v) (.pointer none) (.pointer none)).toArray 92) = W := hW.symm
  rw [show [Value.int .u32 p.1, Value.int .i64 p.2].toArray = #[.int .u32 p.1, .int .i64 p.2] from rfl, eW] at hP
  rw [eW] at hN hB
  rw [show (w.alloc (.cells #[.int .u32 p.1, .int .i64 p.2] 37)).heap.size = w.heap.size + 1 by simp] at hN
  rw [← hW]
  clear hW eW
  have HP := Lib.hid hP
  have HN := Lib.hid hN
  have HB := Lib.hid hB
  have HBW := Lib.hid (hb.later hB)
  clear hP hN hB hb
  refine wp_region_fin (S := fun w' => Below W.heap.size W w') (fun A w3 => ∃ g : Nat, A = ⟨#[.pointer (some ⟨b, 0, none⟩), .agg #[.int .u32 p.1, .int .i64 p.2], .int .i64 v, undef, .pointer (some ⟨w.heap.size, 0, none⟩), undef, .pointer none, .pointer (some ⟨w.heap.size + 1, 0, none⟩), .pointer (some ⟨g, 0, none⟩), undef, .agg #[.int .u32 p.1, .int .i64 p.2], .int .i64 v, .agg #[.int .u32 p.1, .int .i64 p.2, .int .i64 v, .bool true, .pointer none, .pointer none], .pointer (some ⟨w.heap.size + 1, 0, none⟩), .pointer (some ⟨b, 0, none⟩), .bool false, undef, .agg #[.int .u32 p.1, .int .i64 p.2], .pointer (some ⟨b, 0, none⟩), .pointer (some ⟨b, 0, none⟩), .pointer (some ⟨b, 0, none⟩), .agg #[.int .u32 q.1, .int .i64 q.2], .agg #[.int .u32 c.1, .int .i64 c.2], undef, undef, undef, undef, undef, undef, undef, undef, undef, undef, undef, undef, undef, undef, undef, undef, undef, undef, undef, undef, undef, undef, undef, undef, undef, undef, undef, undef, undef, undef, undef, undef, undef, undef, undef, undef, undef, undef, undef, undef, undef, undef, undef, undef, undef, undef, undef, undef, undef, undef, undef, undef, undef, undef, undef], []⟩ ∧ Below W.heap.size W w3 ∧ W.heap.size ≤ g ∧ BlkAt 37 g [.int .u32 c.1, .int .i64 c.2] w3) (by kernel_rfl) (Below.refl _ _).drew ?_ ?_
  · rintro A w3 ⟨g, rfl, hB3, hg, hG⟩
    have hP3 := HP.out.later hB3
    have hN3 := HN.out.later hB3
    have hQ3 := HBW.out.later hB3
    have hBw := below_of HB.out hB3
    have hge : w.heap.size + 2 ≤ w3.heap.size := by have := hN3.lt; omega
    have hgo : g ≠ w.heap.size + 1 := by have := HN.out.lt; omega
    obtain ⟨g0, g1⟩ := px_cells hG
    obtain ⟨p0, p1⟩ := px_cells hP3
    obtain ⟨q0, q1, q2, q3, q4, q5⟩ := nd_cells hQ3
    obtain ⟨n0, n1, n2, n3, n4, n5⟩ := nd_cells hN3
    have f4 := hN3.frozen 4
    have f5 := hN3.frozen 5
    have HN3 := Lib.hid hN3
    have HQ3 := Lib.hid hQ3
    have HG3 := Lib.hid hG
    have HBw := Lib.hid hBw
    have HP3 := Lib.hid hP3
    clear hP3 hN3 hQ3 hBw hG hB3 hg HP HN HBW HM HB
    rcases hway with h | ⟨h, h1, hb, m0, m1⟩ | ⟨h, h1, hb, m0, m1⟩ | ⟨h, h1, hb, hb2, m0, m1⟩ | ⟨h, h1, hb, hb2, m0, m1⟩
    · have k1 := sameP_yes h
      have HWn := Lib.hid (HW.out.trans (if_pos h))
      clear h HW q2 q3 n0 n1 n2 n3 HBN
      go_wp2_with fail
      go_ret
      have hB4 := (HBw.out.setCell (p := ⟨w.heap.size + 1, 4, none⟩) (Nat.le_succ _) (.pointer al)).setCell (p := ⟨w.heap.size + 1, 5, none⟩) (Nat.le_succ _) (.pointer ar)
      refine ⟨_, rfl, ?_, hB4⟩
      rw [HWn.out]
      exact ⟨_, _, _, rfl, nd_set5 (nd_set4 HN3.out), HLr.out.1.later hB4, HLr.out.2.later hB4⟩
    · have k1 := sameP_no h
      have k2 := sameP_yes h1
      have HWn := Lib.hid ((HW.out.trans ((if_neg h).trans (if_pos h1))).trans (if_pos hb))
      have HBt := Lib.hid hb
      clear h h1 hb HW q2 q3 n0 n1 n2 n3
      go_wp2_with fail
      (refine wp_region_held_drew (S := (fun w' => Below w.heap.size w w')) (by kernel_rfl) ?_ (fun hHeld => ?_); (focus ((try dsimp only); (exact HBw.out.drew))))
      (refine wpAnyH_take (i := 0) (v := ?_) rfl (by kernel_rfl) (by kernel_rfl) (by kernel_rfl) (fun _ _ _ h => h) (Or.inl ⟨by rfl, ?_⟩) hHeld ?_; rotate_left; (focus (intro w hSw; (try dsimp only at hSw); go_simp; try with_reducible rfl)); (try simp only [Act.put, List.setIfInBounds_toArray, List.set_cons_zero, List.set_cons_succ, List.getElem_toArray, List.getElem_cons_zero])); (refine wpAnyH_take (i := 1) (v := ?_) rfl (by kernel_rfl) (by kernel_rfl) (by kernel_rfl) (fun _ _ _ h => h) (Or.inl ⟨by rfl, ?_⟩) hHeld ?_; rotate_left; (focus (intro w hSw; (try dsimp only at hSw); go_simp; try with_reducible rfl)); (try simp only [Act.put, List.setIfInBounds_toArray, List.set_cons_zero, List.set_cons_succ, List.getElem_toArray, List.getElem_cons_zero, List.getElem_cons_succ])); (refine wpAnyH_take (i := 2) (v := ?_) rfl (by kernel_rfl) (by kernel_rfl) (by kernel_rfl) (fun _ _ _ h => h) (Or.inl ⟨by rfl, ?_⟩) hHeld ?_; rotate_left; (focus (intro w hSw; (try dsimp only at hSw); go_simp; try with_reducible rfl)); (try simp only [Act.put, List.setIfInBounds_toArray, List.set_cons_zero, List.set_cons_succ, List.getElem_toArray, List.getElem_cons_zero, List.getElem_cons_succ])); (refine wpAnyH_take (i := 3) (v := ?_) rfl (by kernel_rfl) (by kernel_rfl) (by kernel_rfl) (fun _ _ _ h => h) (Or.inl ⟨by rfl, ?_⟩) hHeld ?_; rotate_left; (focus (intro w hSw; (try dsimp only at hSw); go_simp; try with_reducible rfl)); (try simp only [Act.put, List.setIfInBounds_toArray, List.set_cons_zero, List.set_cons_succ, List.getElem_toArray, List.getElem_cons_zero, List.getElem_cons_succ]))
      (refine wpAnyH_take (i := 4) (v := ?_) rfl (by kernel_rfl) (by kernel_rfl) (by kernel_rfl) (fun _ _ _ h => h) (Or.inl ⟨by rfl, ?_⟩) hHeld ?_; rotate_left; (focus (intro w hSw; (try dsimp only at hSw); go_simp; (obtain ⟨x0, x1, _⟩ := nd_cells (HBN.out.later hSw); go_simp; try with_reducible rfl))); (try simp only [Act.put, List.setIfInBounds_toArray, List.set_cons_zero, List.set_cons_succ, List.getElem_toArray, List.getElem_cons_zero, List.getElem_cons_succ]))
      (refine wpAnyH_take (i := 5) (v := ?_) rfl (by kernel_rfl) (by kernel_rfl) (by kernel_rfl) (fun _ _ _ h => h) (Or.inl ⟨by rfl, ?_⟩) hHeld ?_; rotate_left; (focus (intro w hSw; (try dsimp only at hSw); go_simp; try with_reducible rfl)); (try simp only [Act.put, List.setIfInBounds_toArray, List.set_cons_zero, List.set_cons_succ, List.getElem_toArray, List.getElem_cons_zero, List.getElem_cons_succ])); (refine wpAnyH_take (i := 8) (v := ?_) rfl (by kernel_rfl) (by kernel_rfl) (by kernel_rfl) (fun _ _ _ h => h) (Or.inl ⟨by rfl, ?_⟩) hHeld ?_; rotate_left; (focus (intro w hSw; (try dsimp only at hSw); go_simp; try with_reducible rfl)); (try simp only [Act.put, List.setIfInBounds_toArray, List.set_cons_zero, List.set_cons_succ, List.getElem_toArray, List.getElem_cons_zero, List.getElem_cons_succ])); (refine wpAnyH_take (i := 9) (v := ?_) rfl (by kernel_rfl) (by kernel_rfl) (by kernel_rfl) (fun _ _ _ h => h) (Or.inl ⟨by rfl, ?_⟩) hHeld ?_; rotate_left; (focus (intro w hSw; (try dsimp only at hSw); go_simp; try with_reducible rfl)); (try simp only [Act.put, List.setIfInBounds_toArray, List.set_cons_zero, List.set_cons_succ, List.getElem_toArray, List.getElem_cons_zero, List.getElem_cons_succ])); (refine wpAnyH_take (i := 10) (v := ?_) rfl (by kernel_rfl) (by kernel_rfl) (by kernel_rfl) (fun _ _ _ h => h) (Or.inl ⟨by rfl, ?_⟩) hHeld ?_; rotate_left; (focus (intro w hSw; (try dsimp only at hSw); go_simp; try with_reducible rfl)); (try simp only [Act.put, List.setIfInBounds_toArray, List.set_cons_zero, List.set_cons_succ, List.getElem_toArray, List.getElem_cons_zero, List.getElem_cons_succ]))
      (refine wpAnyH_ready (rs := [6]) (by kernel_rfl) (by simp) ?_; refine AllReadyH.cons rfl (fun K hK => ?_) AllReadyH.nil; go_simp; skip; refine hK.out _ _ ?_ (fun hHeldN => ?_); (focus ((try dsimp only); (exact hHeld))); clear hK K hHeld; have hHeld := hHeldN; clear hHeldN; (try simp only [Act.put, List.setIfInBounds_toArray, List.set_cons_zero, List.set_cons_succ, List.getElem_toArray, List.getElem_cons_zero, List.getElem_cons_succ]))
      (refine wpAnyH_ready (rs := [7]) (by kernel_rfl) (by simp) ?_; refine AllReadyH.cons rfl (fun K hK => ?_) AllReadyH.nil; go_simp; refine (sideI m0 m1 HBt.out _).mono ?_; rintro e w5 ⟨rfl, hs⟩; simp only []; refine hK.out _ _ ?_ (fun hHeldN => ?_); (focus ((try dsimp only); (exact hHeld.trans (hs.mono hHeld.size)))); clear hK K hHeld; have hHeld := hHeldN; clear hHeldN; (try simp only [Act.put, List.setIfInBounds_toArray, List.set_cons_zero, List.set_cons_succ, List.getElem_toArray, List.getElem_cons_zero, List.getElem_cons_succ]))
      (refine wpAnyH_take (i := 11) (v := ?_) rfl (by kernel_rfl) (by kernel_rfl) (by kernel_rfl) (fun _ _ _ h => h) (Or.inl ⟨by rfl, ?_⟩) hHeld ?_; rotate_left; (focus (intro w hSw; (try dsimp only at hSw); go_simp; try with_reducible rfl)); (try simp only [Act.put, List.setIfInBounds_toArray, List.set_cons_zero, List.set_cons_succ, List.getElem_toArray, List.getElem_cons_zero, List.getElem_cons_succ]))
      have hN5 := BlkAt.later (w' := w5) (show BlkAt 92 (w.heap.size + 1) (nc p (some v) (.pointer none) (.pointer none)) w3.drew from HN3.out) hs
      have x4 : w5.cell? ⟨w.heap.size + 1, 4, none⟩ = some (.pointer none) := hN5.cell (j := 4) rfl
      have y4 := hN5.frozen 4
      have hb5 := hHeld
      (refine wpAnyH_ready (rs := [12]) (by kernel_rfl) (by simp) ?_; refine AllReadyH.cons rfl (fun K hK => ?_) AllReadyH.nil; go_simp; skip; refine hK.out _ _ ?_ (fun hHeldN => ?_); (focus ((try dsimp only); (exact hb5.setCell (p := ⟨w.heap.size + 1, 4, none⟩) (Nat.le_succ _) _))); clear hK K hHeld; have hHeld := hHeldN; clear hHeldN; (try simp only [Act.put, List.setIfInBounds_toArray, List.set_cons_zero, List.set_cons_succ, List.getElem_toArray, List.getElem_cons_zero, List.getElem_cons_succ]))
      refine wpAnyH_done (by kernel_rfl) ?_ _
      have HN5 := Lib.hid hN5
      have HB5 := Lib.hid hb5
      clear hN5 hb5 hs hHeld x4 y4
      go_wp2_with fail
      go_ret
      have hB4 := HB5.out.setCell (p := ⟨w.heap.size + 1, 4, none⟩) (Nat.le_succ _) (.pointer (some ⟨b, 0, none⟩))
      refine ⟨_, rfl, ?_, hB4⟩
      rw [HWn.out]
      exact ⟨_, _, _, rfl, nd_set4 HN5.out, HS.out.later hB4, rfl⟩
    · have k1 := sameP_no h
      have k2 := sameP_yes h1
      have HWn := Lib.hid ((HW.out.trans ((if_neg h).trans (if_pos h1))).trans (if_neg (by rw [hb]; decide)))
      have HBt := Lib.hid hb
      clear h h1 hb HW q2 q3 n0 n1 n2 n3
      go_wp2_with fail
      (refine wp_region_held_drew (S := (fun w' => Below w.heap.size w w')) (by kernel_rfl) ?_ (fun hHeld => ?_); (focus ((try dsimp only); (exact HBw.out.drew))))
      (refine wpAnyH_take (i := 0) (v := ?_) rfl (by kernel_rfl) (by kernel_rfl) (by kernel_rfl) (fun _ _ _ h => h) (Or.inl ⟨by rfl, ?_⟩) hHeld ?_; rotate_left; (focus (intro w hSw; (try dsimp only at hSw); go_simp; try with_reducible rfl)); (try simp only [Act.put, List.setIfInBounds_toArray, List.set_cons_zero, List.set_cons_succ, List.getElem_toArray, List.getElem_cons_zero])); (refine wpAnyH_take (i := 1) (v := ?_) rfl (by kernel_rfl) (by kernel_rfl) (by kernel_rfl) (fun _ _ _ h => h) (Or.inl ⟨by rfl, ?_⟩) hHeld ?_; rotate_left; (focus (intro w hSw; (try dsimp only at hSw); go_simp; try with_reducible rfl)); (try simp only [Act.put, List.setIfInBounds_toArray, List.set_cons_zero, List.set_cons_succ, List.getElem_toArray, List.getElem_cons_zero, List.getElem_cons_succ])); (refine wpAnyH_take (i := 2) (v := ?_) rfl (by kernel_rfl) (by kernel_rfl) (by kernel_rfl) (fun _ _ _ h => h) (Or.inl ⟨by rfl, ?_⟩) hHeld ?_; rotate_left; (focus (intro w hSw; (try dsimp only at hSw); go_simp; try with_reducible rfl)); (try simp only [Act.put, List.setIfInBounds_toArray, List.set_cons_zero, List.set_cons_succ, List.getElem_toArray, List.getElem_cons_zero, List.getElem_cons_succ])); (refine wpAnyH_take (i := 3) (v := ?_) rfl (by kernel_rfl) (by kernel_rfl) (by kernel_rfl) (fun _ _ _ h => h) (Or.inl ⟨by rfl, ?_⟩) hHeld ?_; rotate_left; (focus (intro w hSw; (try dsimp only at hSw); go_simp; try with_reducible rfl)); (try simp only [Act.put, List.setIfInBounds_toArray, List.set_cons_zero, List.set_cons_succ, List.getElem_toArray, List.getElem_cons_zero, List.getElem_cons_succ]))
      (refine wpAnyH_take (i := 4) (v := ?_) rfl (by kernel_rfl) (by kernel_rfl) (by kernel_rfl) (fun _ _ _ h => h) (Or.inl ⟨by rfl, ?_⟩) hHeld ?_; rotate_left; (focus (intro w hSw; (try dsimp only at hSw); go_simp; (obtain ⟨x0, x1, _⟩ := nd_cells (HBN.out.later hSw); go_simp; try with_reducible rfl))); (try simp only [Act.put, List.setIfInBounds_toArray, List.set_cons_zero, List.set_cons_succ, List.getElem_toArray, List.getElem_cons_zero, List.getElem_cons_succ]))
      (refine wpAnyH_take (i := 5) (v := ?_) rfl (by kernel_rfl) (by kernel_rfl) (by kernel_rfl) (fun _ _ _ h => h) (Or.inl ⟨by rfl, ?_⟩) hHeld ?_; rotate_left; (focus (intro w hSw; (try dsimp only at hSw); go_simp; try with_reducible rfl)); (try simp only [Act.put, List.setIfInBounds_toArray, List.set_cons_zero, List.set_cons_succ, List.getElem_toArray, List.getElem_cons_zero, List.getElem_cons_succ])); (refine wpAnyH_take (i := 8) (v := ?_) rfl (by kernel_rfl) (by kernel_rfl) (by kernel_rfl) (fun _ _ _ h => h) (Or.inl ⟨by rfl, ?_⟩) hHeld ?_; rotate_left; (focus (intro w hSw; (try dsimp only at hSw); go_simp; try with_reducible rfl)); (try simp only [Act.put, List.setIfInBounds_toArray, List.set_cons_zero, List.set_cons_succ, List.getElem_toArray, List.getElem_cons_zero, List.getElem_cons_succ])); (refine wpAnyH_take (i := 9) (v := ?_) rfl (by kernel_rfl) (by kernel_rfl) (by kernel_rfl) (fun _ _ _ h => h) (Or.inl ⟨by rfl, ?_⟩) hHeld ?_; rotate_left; (focus (intro w hSw; (try dsimp only at hSw); go_simp; try with_reducible rfl)); (try simp only [Act.put, List.setIfInBounds_toArray, List.set_cons_zero, List.set_cons_succ, List.getElem_toArray, List.getElem_cons_zero, List.getElem_cons_succ])); (refine wpAnyH_take (i := 10) (v := ?_) rfl (by kernel_rfl) (by kernel_rfl) (by kernel_rfl) (fun _ _ _ h => h) (Or.inl ⟨by rfl, ?_⟩) hHeld ?_; rotate_left; (focus (intro w hSw; (try dsimp only at hSw); go_simp; try with_reducible rfl)); (try simp only [Act.put, List.setIfInBounds_toArray, List.set_cons_zero, List.set_cons_succ, List.getElem_toArray, List.getElem_cons_zero, List.getElem_cons_succ]))
      (refine wpAnyH_ready (rs := [6]) (by kernel_rfl) (by simp) ?_; refine AllReadyH.cons rfl (fun K hK => ?_) AllReadyH.nil; go_simp; skip; refine hK.out _ _ ?_ (fun hHeldN => ?_); (focus ((try dsimp only); (exact hHeld))); clear hK K hHeld; have hHeld := hHeldN; clear hHeldN; (try simp only [Act.put, List.setIfInBounds_toArray, List.set_cons_zero, List.set_cons_succ, List.getElem_toArray, List.getElem_cons_zero, List.getElem_cons_succ]))
      (refine wpAnyH_ready (rs := [7]) (by kernel_rfl) (by simp) ?_; refine AllReadyH.cons rfl (fun K hK => ?_) AllReadyH.nil; go_simp; refine (sideI m0 m1 HBt.out _).mono ?_; rintro e w5 ⟨rfl, hs⟩; simp only []; refine hK.out _ _ ?_ (fun hHeldN => ?_); (focus ((try dsimp only); (exact hHeld.trans (hs.mono hHeld.size)))); clear hK K hHeld; have hHeld := hHeldN; clear hHeldN; (try simp only [Act.put, List.setIfInBounds_toArray, List.set_cons_zero, List.set_cons_succ, List.getElem_toArray, List.getElem_cons_zero, List.getElem_cons_succ]))
      (refine wpAnyH_take (i := 11) (v := ?_) rfl (by kernel_rfl) (by kernel_rfl) (by kernel_rfl) (fun _ _ _ h => h) (Or.inl ⟨by rfl, ?_⟩) hHeld ?_; rotate_left; (focus (intro w hSw; (try dsimp only at hSw); go_simp; try with_reducible rfl)); (try simp only [Act.put, List.setIfInBounds_toArray, List.set_cons_zero, List.set_cons_succ, List.getElem_toArray, List.getElem_cons_zero, List.getElem_cons_succ]))
      have hN5 := BlkAt.later (w' := w5) (show BlkAt 92 (w.heap.size + 1) (nc p (some v) (.pointer none) (.pointer none)) w3.drew from HN3.out) hs
      have x4 : w5.cell? ⟨w.heap.size + 1, 5, none⟩ = some (.pointer none) := hN5.cell (j := 5) rfl
      have y4 := hN5.frozen 5
      have hb5 := hHeld
      (refine wpAnyH_ready (rs := [12]) (by kernel_rfl) (by simp) ?_; refine AllReadyH.cons rfl (fun K hK => ?_) AllReadyH.nil; go_simp; skip; refine hK.out _ _ ?_ (fun hHeldN => ?_); (focus ((try dsimp only); (exact hb5.setCell (p := ⟨w.heap.size + 1, 5, none⟩) (Nat.le_succ _) _))); clear hK K hHeld; have hHeld := hHeldN; clear hHeldN; (try simp only [Act.put, List.setIfInBounds_toArray, List.set_cons_zero, List.set_cons_succ, List.getElem_toArray, List.getElem_cons_zero, List.getElem_cons_succ]))
      refine wpAnyH_done (by kernel_rfl) ?_ _
      have HN5 := Lib.hid hN5
      have HB5 := Lib.hid hb5
      clear hN5 hb5 hs hHeld x4 y4
      go_wp2_with fail
      go_ret
      have hB4 := HB5.out.setCell (p := ⟨w.heap.size + 1, 5, none⟩) (Nat.le_succ _) (.pointer (some ⟨b, 0, none⟩))
      refine ⟨_, rfl, ?_, hB4⟩
      rw [HWn.out]
      exact ⟨_, _, _, rfl, nd_set5 HN5.out, rfl, HS.out.later hB4⟩
    · have k1 := sameP_no h
      have k2 := sameP_no h1
      have HWn := Lib.hid ((HW.out.trans ((if_neg h).trans (if_neg h1))).trans (if_pos hb))
      have HBt := Lib.hid hb
      have HBt2 := Lib.hid hb2
      clear h h1 hb hb2 HW q2 q3 n0 n1 n2 n3
      go_wp2_with fail
      have hF := BlkAt.new w3 (t := 92) (nc c none (.pointer none) (.pointer none))
      have hB6 := ba1 w3 (.cells (nc c none (.pointer none) (.pointer none)).toArray 92)
      obtain ⟨W6, hW6⟩ : ∃ W6, W6 = w3.alloc (.cells #[.int .u32 c.1, .int .i64 c.2, .int .i64 0, .bool false, .pointer none, .pointer none] 92) := ⟨_, rfl⟩
      have eW : w3.alloc (.cells (nc c none (.pointer none) (.pointer none)).toArray 92) = W6 := hW6.symm
      rw [eW] at hF hB6
      rw [← hW6]
      clear hW6 eW
      have hS6 : (W6.cell? ⟨w.heap.size, 0, none⟩ = some (.int .u32 p.1) ∧ W6.cell? ⟨w.heap.size, 1, none⟩ = some (.int .i64 p.2) ∧ W6.cell? ⟨g, 1, none⟩ = some (.int .i64 c.2)) ∧ Below w.heap.size w W6 := ⟨⟨cell_later hB6 p0, cell_later hB6 p1, cell_later hB6 g1⟩, below_of HBw.out hB6⟩
      have hN6 := HN3.out.later hB6
      have HNE : Hid (w3.heap.size ≠ w.heap.size ∧ w3.heap.size ≠ g ∧ w3.heap.size ≠ w.heap.size + 1) := by
        have := HG3.out.lt
        have : w3.heap.size ≠ w.heap.size ∧ w3.heap.size ≠ g ∧ w3.heap.size ≠ w.heap.size + 1 := by omega
        exact this
      have HLE : Hid (w.heap.size ≤ w3.heap.size) := by
        have : w.heap.size ≤ w3.heap.size := by omega
        exact this
      clear hB6 p0 p1 g0 g1 q0 q1 q4 q5 n4 n5 f4 f5 HN3 HQ3 HG3 HBw HP3 hge hgo
      (refine wp_region_held_drew (S := (fun w' => (w'.cell? ⟨w.heap.size, 0, none⟩ = some (.int .u32 p.1) ∧ w'.cell? ⟨w.heap.size, 1, none⟩ = some (.int .i64 p.2) ∧ w'.cell? ⟨g, 1, none⟩ = some (.int .i64 c.2)) ∧ Below w.heap.size w w')) (by kernel_rfl) ?_ (fun hHeld => ?_); (focus ((try dsimp only); (exact ⟨hS6.1, hS6.2.drew⟩))))
      (refine wpAnyH_take (i := 0) (v := ?_) rfl (by kernel_rfl) (by kernel_rfl) (by kernel_rfl) (fun _ _ _ h => h) (Or.inl ⟨by rfl, ?_⟩) hHeld ?_; rotate_left; (focus (intro w hSw; (try dsimp only at hSw); go_simp; try with_reducible rfl)); (try simp only [Act.put, List.setIfInBounds_toArray, List.set_cons_zero, List.set_cons_succ, List.getElem_toArray, List.getElem_cons_zero]))
      (refine wpAnyH_take (i := 1) (v := ?_) rfl (by kernel_rfl) (by kernel_rfl) (by kernel_rfl) (fun _ _ _ h => h) (Or.inl ⟨by rfl, ?_⟩) hHeld ?_; rotate_left; (focus (intro w hSw; (try dsimp only at hSw); go_simp; (obtain ⟨⟨x0, x1, x2⟩, _⟩ := hSw; go_simp; try with_reducible rfl))); (try simp only [Act.put, List.setIfInBounds_toArray, List.set_cons_zero, List.set_cons_succ, List.getElem_toArray, List.getElem_cons_zero, List.getElem_cons_succ]))
      (refine wpAnyH_take (i := 2) (v := ?_) rfl (by kernel_rfl) (by kernel_rfl) (by kernel_rfl) (fun _ _ _ h => h) (Or.inl ⟨by rfl, ?_⟩) hHeld ?_; rotate_left; (focus (intro w hSw; (try dsimp only at hSw); go_simp; try with_reducible rfl)); (try simp only [Act.put, List.setIfInBounds_toArray, List.set_cons_zero, List.set_cons_succ, List.getElem_toArray, List.getElem_cons_zero, List.getElem_cons_succ]))
      (refine wpAnyH_take (i := 3) (v := ?_) rfl (by kernel_rfl) (by kernel_rfl) (by kernel_rfl) (fun _ _ _ h => h) (Or.inl ⟨by rfl, ?_⟩) hHeld ?_; rotate_left; (focus (intro w hSw; (try dsimp only at hSw); go_simp; (obtain ⟨⟨x0, x1, x2⟩, _⟩ := hSw; go_simp; try with_reducible rfl))); (try simp only [Act.put, List.setIfInBounds_toArray, List.set_cons_zero, List.set_cons_succ, List.getElem_toArray, List.getElem_cons_zero, List.getElem_cons_succ]))
      (refine wpAnyH_take (i := 5) (v := ?_) rfl (by kernel_rfl) (by kernel_rfl) (by kernel_rfl) (fun _ _ _ h => h) (Or.inl ⟨by rfl, ?_⟩) hHeld ?_; rotate_left; (focus (intro w hSw; (try dsimp only at hSw); go_simp; try with_reducible rfl)); (try simp only [Act.put, List.setIfInBounds_toArray, List.set_cons_zero, List.set_cons_succ, List.getElem_toArray, List.getElem_cons_zero, List.getElem_cons_succ])); (refine wpAnyH_take (i := 6) (v := ?_) rfl (by kernel_rfl) (by kernel_rfl) (by kernel_rfl) (fun _ _ _ h => h) (Or.inl ⟨by rfl, ?_⟩) hHeld ?_; rotate_left; (focus (intro w hSw; (try dsimp only at hSw); go_simp; try with_reducible rfl)); (try simp only [Act.put, List.setIfInBounds_toArray, List.set_cons_zero, List.set_cons_succ, List.getElem_toArray, List.getElem_cons_zero, List.getElem_cons_succ])); (refine wpAnyH_take (i := 7) (v := ?_) rfl (by kernel_rfl) (by kernel_rfl) (by kernel_rfl) (fun _ _ _ h => h) (Or.inl ⟨by rfl, ?_⟩) hHeld ?_; rotate_left; (focus (intro w hSw; (try dsimp only at hSw); go_simp; try with_reducible rfl)); (try simp only [Act.put, List.setIfInBounds_toArray, List.set_cons_zero, List.set_cons_succ, List.getElem_toArray, List.getElem_cons_zero, List.getElem_cons_succ]))
      (refine wpAnyH_ready (rs := [4]) (by kernel_rfl) (by simp) ?_; refine AllReadyH.cons rfl (fun K hK => ?_) AllReadyH.nil; go_simp; refine (sideI m0 m1 HBt.out _).mono ?_; rintro e w7 ⟨rfl, hs⟩; simp only []; refine hK.out _ _ ?_ (fun hHeldN => ?_); (focus ((try dsimp only); (exact ⟨⟨cell_later hs hHeld.1.1, cell_later hs hHeld.1.2.1, cell_later hs hHeld.1.2.2⟩, hHeld.2.trans (hs.mono hHeld.2.size)⟩))); clear hK K hHeld; have hHeld := hHeldN; clear hHeldN; (try simp only [Act.put, List.setIfInBounds_toArray, List.set_cons_zero, List.set_cons_succ, List.getElem_toArray, List.getElem_cons_zero, List.getElem_cons_succ]))
      (refine wpAnyH_take (i := 8) (v := ?_) rfl (by kernel_rfl) (by kernel_rfl) (by kernel_rfl) (fun _ _ _ h => h) (Or.inl ⟨by rfl, ?_⟩) hHeld ?_; rotate_left; (focus (intro w hSw; (try dsimp only at hSw); go_simp; try with_reducible rfl)); (try simp only [Act.put, List.setIfInBounds_toArray, List.set_cons_zero, List.set_cons_succ, List.getElem_toArray, List.getElem_cons_zero, List.getElem_cons_succ]))
      have hF7 := BlkAt.later (w' := w7) (show BlkAt 92 w3.heap.size (nc c none (.pointer none) (.pointer none)) W6.drew from hF) hs
      have hN7 := BlkAt.later (w' := w7) (show BlkAt 92 (w.heap.size + 1) (nc p (some v) (.pointer none) (.pointer none)) W6.drew from hN6) hs
      have x4 : w7.cell? ⟨w3.heap.size, 4, none⟩ = some (.pointer none) := hF7.cell (j := 4) rfl
      have y4 := hF7.frozen 4
      have hb7 := hHeld
      have hS8 : ((w7.setCell ⟨w3.heap.size, 4, none⟩ (.pointer (some ⟨w.heap.size + 1, 0, none⟩))).cell? ⟨w.heap.size, 0, none⟩ = some (.int .u32 p.1) ∧ (w7.setCell ⟨w3.heap.size, 4, none⟩ (.pointer (some ⟨w.heap.size + 1, 0, none⟩))).cell? ⟨w.heap.size, 1, none⟩ = some (.int .i64 p.2) ∧ (w7.setCell ⟨w3.heap.size, 4, none⟩ (.pointer (some ⟨w.heap.size + 1, 0, none⟩))).cell? ⟨g, 1, none⟩ = some (.int .i64 c.2)) ∧ Below w.heap.size w (w7.setCell ⟨w3.heap.size, 4, none⟩ (.pointer (some ⟨w.heap.size + 1, 0, none⟩))) := by
        obtain ⟨z1, z2, z3⟩ := HNE.out
        exact ⟨⟨by rw [World.cell?_setCell_far _ _ _ _ z1]; exact hb7.1.1, by rw [World.cell?_setCell_far _ _ _ _ z1]; exact hb7.1.2.1, by rw [World.cell?_setCell_far _ _ _ _ z2]; exact hb7.1.2.2⟩, hb7.2.setCell HLE.out _⟩
      (refine wpAnyH_ready (rs := [9]) (by kernel_rfl) (by simp) ?_; refine AllReadyH.cons rfl (fun K hK => ?_) AllReadyH.nil; go_simp; skip; refine hK.out _ _ ?_ (fun hHeldN => ?_); (focus ((try dsimp only); (exact hS8))); clear hK K hHeld; have hHeld := hHeldN; clear hHeldN; (try simp only [Act.put, List.setIfInBounds_toArray, List.set_cons_zero, List.set_cons_succ, List.getElem_toArray, List.getElem_cons_zero, List.getElem_cons_succ]))
      refine wpAnyH_done (by kernel_rfl) ?_ _
      have hF8 := nd_set4 (x := .pointer (some ⟨w.heap.size + 1, 0, none⟩)) hF7
      have hN8 := hN7.other HNE.out.2.2.symm 4 (.pointer (some ⟨w.heap.size + 1, 0, none⟩))
      obtain ⟨W8, hW8⟩ : ∃ W8, W8 = w7.setCell ⟨w3.heap.size, 4, none⟩ (.pointer (some ⟨w.heap.size + 1, 0, none⟩)) := ⟨_, rfl⟩
      rw [← hW8] at hF8 hN8 hS8
      rw [← hW8]
      clear hW8 hF7 hN7 x4 y4 hb7 hs hHeld hF hN6 hS6
      go_wp2_with fail
      (refine wp_region_held_drew (S := (fun w' => (w'.cell? ⟨w.heap.size, 0, none⟩ = some (.int .u32 p.1) ∧ w'.cell? ⟨w.heap.size, 1, none⟩ = some (.int .i64 p.2) ∧ w'.cell? ⟨g, 1, none⟩ = some (.int .i64 c.2)) ∧ Below w.heap.size w w')) (by kernel_rfl) ?_ (fun hHeld => ?_); (focus ((try dsimp only); (exact ⟨hS8.1, hS8.2.drew⟩))))
      (refine wpAnyH_take (i := 0) (v := ?_) rfl (by kernel_rfl) (by kernel_rfl) (by kernel_rfl) (fun _ _ _ h => h) (Or.inl ⟨by rfl, ?_⟩) hHeld ?_; rotate_left; (focus (intro w hSw; (try dsimp only at hSw); go_simp; try with_reducible rfl)); (try simp only [Act.put, List.setIfInBounds_toArray, List.set_cons_zero, List.set_cons_succ, List.getElem_toArray, List.getElem_cons_zero])); (refine wpAnyH_take (i := 1) (v := ?_) rfl (by kernel_rfl) (by kernel_rfl) (by kernel_rfl) (fun _ _ _ h => h) (Or.inl ⟨by rfl, ?_⟩) hHeld ?_; rotate_left; (focus (intro w hSw; (try dsimp only at hSw); go_simp; try with_reducible rfl)); (try simp only [Act.put, List.setIfInBounds_toArray, List.set_cons_zero, List.set_cons_succ, List.getElem_toArray, List.getElem_cons_zero, List.getElem_cons_succ])); (refine wpAnyH_take (i := 2) (v := ?_) rfl (by kernel_rfl) (by kernel_rfl) (by kernel_rfl) (fun _ _ _ h => h) (Or.inl ⟨by rfl, ?_⟩) hHeld ?_; rotate_left; (focus (intro w hSw; (try dsimp only at hSw); go_simp; try with_reducible rfl)); (try simp only [Act.put, List.setIfInBounds_toArray, List.set_cons_zero, List.set_cons_succ, List.getElem_toArray, List.getElem_cons_zero, List.getElem_cons_succ])); (refine wpAnyH_take (i := 3) (v := ?_) rfl (by kernel_rfl) (by kernel_rfl) (by kernel_rfl) (fun _ _ _ h => h) (Or.inl ⟨by rfl, ?_⟩) hHeld ?_; rotate_left; (focus (intro w hSw; (try dsimp only at hSw); go_simp; try with_reducible rfl)); (try simp only [Act.put, List.setIfInBounds_toArray, List.set_cons_zero, List.set_cons_succ, List.getElem_toArray, List.getElem_cons_zero, List.getElem_cons_succ]))
      (refine wpAnyH_take (i := 4) (v := ?_) rfl (by kernel_rfl) (by kernel_rfl) (by kernel_rfl) (fun _ _ _ h => h) (Or.inl ⟨by rfl, ?_⟩) hHeld ?_; rotate_left; (focus (intro w hSw; (try dsimp only at hSw); go_simp; (obtain ⟨x0, x1, _⟩ := nd_cells (HBN.out.later hSw.2); go_simp; try with_reducible rfl))); (try simp only [Act.put, List.setIfInBounds_toArray, List.set_cons_zero, List.set_cons_succ, List.getElem_toArray, List.getElem_cons_zero, List.getElem_cons_succ]))
      (refine wpAnyH_take (i := 5) (v := ?_) rfl (by kernel_rfl) (by kernel_rfl) (by kernel_rfl) (fun _ _ _ h => h) (Or.inl ⟨by rfl, ?_⟩) hHeld ?_; rotate_left; (focus (intro w hSw; (try dsimp only at hSw); go_simp; try with_reducible rfl)); (try simp only [Act.put, List.setIfInBounds_toArray, List.set_cons_zero, List.set_cons_succ, List.getElem_toArray, List.getElem_cons_zero, List.getElem_cons_succ]))
      (refine wpAnyH_take (i := 6) (v := ?_) rfl (by kernel_rfl) (by kernel_rfl) (by kernel_rfl) (fun _ _ _ h => h) (Or.inl ⟨by rfl, ?_⟩) hHeld ?_; rotate_left; (focus (intro w hSw; (try dsimp only at hSw); go_simp; (obtain ⟨⟨x0, x1, x2⟩, _⟩ := hSw; go_simp; try with_reducible rfl))); (try simp only [Act.put, List.setIfInBounds_toArray, List.set_cons_zero, List.set_cons_succ, List.getElem_toArray, List.getElem_cons_zero, List.getElem_cons_succ]))
      (refine wpAnyH_take (i := 8) (v := ?_) rfl (by kernel_rfl) (by kernel_rfl) (by kernel_rfl) (fun _ _ _ h => h) (Or.inl ⟨by rfl, ?_⟩) hHeld ?_; rotate_left; (focus (intro w hSw; (try dsimp only at hSw); go_simp; try with_reducible rfl)); (try simp only [Act.put, List.setIfInBounds_toArray, List.set_cons_zero, List.set_cons_succ, List.getElem_toArray, List.getElem_cons_zero, List.getElem_cons_succ])); (refine wpAnyH_take (i := 9) (v := ?_) rfl (by kernel_rfl) (by kernel_rfl) (by kernel_rfl) (fun _ _ _ h => h) (Or.inl ⟨by rfl, ?_⟩) hHeld ?_; rotate_left; (focus (intro w hSw; (try dsimp only at hSw); go_simp; try with_reducible rfl)); (try simp only [Act.put, List.setIfInBounds_toArray, List.set_cons_zero, List.set_cons_succ, List.getElem_toArray, List.getElem_cons_zero, List.getElem_cons_succ])); (refine wpAnyH_take (i := 10) (v := ?_) rfl (by kernel_rfl) (by kernel_rfl) (by kernel_rfl) (fun _ _ _ h => h) (Or.inl ⟨by rfl, ?_⟩) hHeld ?_; rotate_left; (focus (intro w hSw; (try dsimp only at hSw); go_simp; try with_reducible rfl)); (try simp only [Act.put, List.setIfInBounds_toArray, List.set_cons_zero, List.set_cons_succ, List.getElem_toArray, List.getElem_cons_zero, List.getElem_cons_succ]))
      (refine wpAnyH_ready (rs := [7]) (by kernel_rfl) (by simp) ?_; refine AllReadyH.cons rfl (fun K hK => ?_) AllReadyH.nil; go_simp; refine (sideI m0 m1 HBt2.out _).mono ?_; rintro e w9 ⟨rfl, hs⟩; simp only []; refine hK.out _ _ ?_ (fun hHeldN => ?_); (focus ((try dsimp only); (exact ⟨⟨cell_later hs hHeld.1.1, cell_later hs hHeld.1.2.1, cell_later hs hHeld.1.2.2⟩, hHeld.2.trans (hs.mono hHeld.2.size)⟩))); clear hK K hHeld; have hHeld := hHeldN; clear hHeldN; (try simp only [Act.put, List.setIfInBounds_toArray, List.set_cons_zero, List.set_cons_succ, List.getElem_toArray, List.getElem_cons_zero, List.getElem_cons_succ]))
      (refine wpAnyH_take (i := 11) (v := ?_) rfl (by kernel_rfl) (by kernel_rfl) (by kernel_rfl) (fun _ _ _ h => h) (Or.inl ⟨by rfl, ?_⟩) hHeld ?_; rotate_left; (focus (intro w hSw; (try dsimp only at hSw); go_simp; try with_reducible rfl)); (try simp only [Act.put, List.setIfInBounds_toArray, List.set_cons_zero, List.set_cons_succ, List.getElem_toArray, List.getElem_cons_zero, List.getElem_cons_succ]))
      have hF9 := BlkAt.later (w' := w9) (show BlkAt 92 w3.heap.size (nc c none (.pointer (some ⟨w.heap.size + 1, 0, none⟩)) (.pointer none)) W8.drew from hF8) hs
      have hN9 := BlkAt.later (w' := w9) (show BlkAt 92 (w.heap.size + 1) (nc p (some v) (.pointer none) (.pointer none)) W8.drew from hN8) hs
      have x4 : w9.cell? ⟨w3.heap.size, 5, none⟩ = some (.pointer none) := hF9.cell (j := 5) rfl
      have y4 := hF9.frozen 5
      have hb9 := hHeld
      have hSa : ((w9.setCell ⟨w3.heap.size, 5, none⟩ (.pointer (some ⟨b, 0, none⟩))).cell? ⟨w.heap.size, 0, none⟩ = some (.int .u32 p.1) ∧ (w9.setCell ⟨w3.heap.size, 5, none⟩ (.pointer (some ⟨b, 0, none⟩))).cell? ⟨w.heap.size, 1, none⟩ = some (.int .i64 p.2) ∧ (w9.setCell ⟨w3.heap.size, 5, none⟩ (.pointer (some ⟨b, 0, none⟩))).cell? ⟨g, 1, none⟩ = some (.int .i64 c.2)) ∧ Below w.heap.size w (w9.setCell ⟨w3.heap.size, 5, none⟩ (.pointer (some ⟨b, 0, none⟩))) := by
        obtain ⟨z1, z2, z3⟩ := HNE.out
        exact ⟨⟨by rw [World.cell?_setCell_far _ _ _ _ z1]; exact hb9.1.1, by rw [World.cell?_setCell_far _ _ _ _ z1]; exact hb9.1.2.1, by rw [World.cell?_setCell_far _ _ _ _ z2]; exact hb9.1.2.2⟩, hb9.2.setCell HLE.out _⟩
      (refine wpAnyH_ready (rs := [12]) (by kernel_rfl) (by simp) ?_; refine AllReadyH.cons rfl (fun K hK => ?_) AllReadyH.nil; go_simp; skip; refine hK.out _ _ ?_ (fun hHeldN => ?_); (focus ((try dsimp only); (exact hSa))); clear hK K hHeld; have hHeld := hHeldN; clear hHeldN; (try simp only [Act.put, List.setIfInBounds_toArray, List.set_cons_zero, List.set_cons_succ, List.getElem_toArray, List.getElem_cons_zero, List.getElem_cons_succ]))
      refine wpAnyH_done (by kernel_rfl) ?_ _
      have HFa := Lib.hid (nd_set5 (x := .pointer (some ⟨b, 0, none⟩)) hF9)
      have HNa := Lib.hid (hN9.other HNE.out.2.2.symm 5 (.pointer (some ⟨b, 0, none⟩)))
      have HSa := Lib.hid hSa.2
      obtain ⟨Wa, hWa⟩ : ∃ Wa, Wa = w9.setCell ⟨w3.heap.size, 5, none⟩ (.pointer (some ⟨b, 0, none⟩)) := ⟨_, rfl⟩
      rw [← hWa] at HFa HNa HSa
      rw [← hWa]
      clear hWa hF9 hN9 x4 y4 hb9 hs hHeld hF8 hN8 hS8 hSa
      go_wp2_with fail
      go_ret
      refine ⟨_, rfl, ?_, HSa.out⟩
      rw [HWn.out]
      exact ⟨_, _, _, rfl, HFa.out, ⟨_, _, _, rfl, HNa.out, rfl, rfl⟩, HS.out.later HSa.out⟩
    · have k1 := sameP_no h
      have k2 := sameP_no h1
      have HWn := Lib.hid ((HW.out.trans ((if_neg h).trans (if_neg h1))).trans (if_neg (by rw [hb]; decide)))
      have HBt := Lib.hid hb
      have HBt2 := Lib.hid hb2
      clear h h1 hb hb2 HW q2 q3 n0 n1 n2 n3
      go_wp2_with fail
      have hF := BlkAt.new w3 (t := 92) (nc c none (.pointer none) (.pointer none))
      have hB6 := ba1 w3 (.cells (nc c none (.pointer none) (.pointer none)).toArray 92)
      obtain ⟨W6, hW6⟩ : ∃ W6, W6 = w3.alloc (.cells #[.int .u32 c.1, .int .i64 c.2, .int .i64 0, .bool false, .pointer none, .pointer none] 92) := ⟨_, rfl⟩
      have eW : w3.alloc (.cells (nc c none (.pointer none) (.pointer none)).toArray 92) = W6 := hW6.symm
      rw [eW] at hF hB6
      rw [← hW6]
      clear hW6 eW
      have hS6 : (W6.cell? ⟨w.heap.size, 0, none⟩ = some (.int .u32 p.1) ∧ W6.cell? ⟨w.heap.size, 1, none⟩ = some (.int .i64 p.2) ∧ W6.cell? ⟨g, 1, none⟩ = some (.int .i64 c.2)) ∧ Below w.heap.size w W6 := ⟨⟨cell_later hB6 p0, cell_later hB6 p1, cell_later hB6 g1⟩, below_of HBw.out hB6⟩
      have hN6 := HN3.out.later hB6
      have HNE : Hid (w3.heap.size ≠ w.heap.size ∧ w3.heap.size ≠ g ∧ w3.heap.size ≠ w.heap.size + 1) := by
        have := HG3.out.lt
        have : w3.heap.size ≠ w.heap.size ∧ w3.heap.size ≠ g ∧ w3.heap.size ≠ w.heap.size + 1 := by omega
        exact this
      have HLE : Hid (w.heap.size ≤ w3.heap.size) := by
        have : w.heap.size ≤ w3.heap.size := by omega
        exact this
      clear hB6 p0 p1 g0 g1 q0 q1 q4 q5 n4 n5 f4 f5 HN3 HQ3 HG3 HBw HP3 hge hgo
      (refine wp_region_held_drew (S := (fun w' => (w'.cell? ⟨w.heap.size, 0, none⟩ = some (.int .u32 p.1) ∧ w'.cell? ⟨w.heap.size, 1, none⟩ = some (.int .i64 p.2) ∧ w'.cell? ⟨g, 1, none⟩ = some (.int .i64 c.2)) ∧ Below w.heap.size w w')) (by kernel_rfl) ?_ (fun hHeld => ?_); (focus ((try dsimp only); (exact ⟨hS6.1, hS6.2.drew⟩))))
      (refine wpAnyH_take (i := 0) (v := ?_) rfl (by kernel_rfl) (by kernel_rfl) (by kernel_rfl) (fun _ _ _ h => h) (Or.inl ⟨by rfl, ?_⟩) hHeld ?_; rotate_left; (focus (intro w hSw; (try dsimp only at hSw); go_simp; try with_reducible rfl)); (try simp only [Act.put, List.setIfInBounds_toArray, List.set_cons_zero, List.set_cons_succ, List.getElem_toArray, List.getElem_cons_zero]))
      (refine wpAnyH_take (i := 1) (v := ?_) rfl (by kernel_rfl) (by kernel_rfl) (by kernel_rfl) (fun _ _ _ h => h) (Or.inl ⟨by rfl, ?_⟩) hHeld ?_; rotate_left; (focus (intro w hSw; (try dsimp only at hSw); go_simp; (obtain ⟨⟨x0, x1, x2⟩, _⟩ := hSw; go_simp; try with_reducible rfl))); (try simp only [Act.put, List.setIfInBounds_toArray, List.set_cons_zero, List.set_cons_succ, List.getElem_toArray, List.getElem_cons_zero, List.getElem_cons_succ]))
      (refine wpAnyH_take (i := 2) (v := ?_) rfl (by kernel_rfl) (by kernel_rfl) (by kernel_rfl) (fun _ _ _ h => h) (Or.inl ⟨by rfl, ?_⟩) hHeld ?_; rotate_left; (focus (intro w hSw; (try dsimp only at hSw); go_simp; try with_reducible rfl)); (try simp only [Act.put, List.setIfInBounds_toArray, List.set_cons_zero, List.set_cons_succ, List.getElem_toArray, List.getElem_cons_zero, List.getElem_cons_succ]))
      (refine wpAnyH_take (i := 3) (v := ?_) rfl (by kernel_rfl) (by kernel_rfl) (by kernel_rfl) (fun _ _ _ h => h) (Or.inl ⟨by rfl, ?_⟩) hHeld ?_; rotate_left; (focus (intro w hSw; (try dsimp only at hSw); go_simp; (obtain ⟨⟨x0, x1, x2⟩, _⟩ := hSw; go_simp; try with_reducible rfl))); (try simp only [Act.put, List.setIfInBounds_toArray, List.set_cons_zero, List.set_cons_succ, List.getElem_toArray, List.getElem_cons_zero, List.getElem_cons_succ]))
      (refine wpAnyH_take (i := 5) (v := ?_) rfl (by kernel_rfl) (by kernel_rfl) (by kernel_rfl) (fun _ _ _ h => h) (Or.inl ⟨by rfl, ?_⟩) hHeld ?_; rotate_left; (focus (intro w hSw; (try dsimp only at hSw); go_simp; try with_reducible rfl)); (try simp only [Act.put, List.setIfInBounds_toArray, List.set_cons_zero, List.set_cons_succ, List.getElem_toArray, List.getElem_cons_zero, List.getElem_cons_succ])); (refine wpAnyH_take (i := 6) (v := ?_) rfl (by kernel_rfl) (by kernel_rfl) (by kernel_rfl) (fun _ _ _ h => h) (Or.inl ⟨by rfl, ?_⟩) hHeld ?_; rotate_left; (focus (intro w hSw; (try dsimp only at hSw); go_simp; try with_reducible rfl)); (try simp only [Act.put, List.setIfInBounds_toArray, List.set_cons_zero, List.set_cons_succ, List.getElem_toArray, List.getElem_cons_zero, List.getElem_cons_succ])); (refine wpAnyH_take (i := 7) (v := ?_) rfl (by kernel_rfl) (by kernel_rfl) (by kernel_rfl) (fun _ _ _ h => h) (Or.inl ⟨by rfl, ?_⟩) hHeld ?_; rotate_left; (focus (intro w hSw; (try dsimp only at hSw); go_simp; try with_reducible rfl)); (try simp only [Act.put, List.setIfInBounds_toArray, List.set_cons_zero, List.set_cons_succ, List.getElem_toArray, List.getElem_cons_zero, List.getElem_cons_succ]))
      (refine wpAnyH_ready (rs := [4]) (by kernel_rfl) (by simp) ?_; refine AllReadyH.cons rfl (fun K hK => ?_) AllReadyH.nil; go_simp; refine (sideI m0 m1 HBt.out _).mono ?_; rintro e w7 ⟨rfl, hs⟩; simp only []; refine hK.out _ _ ?_ (fun hHeldN => ?_); (focus ((try dsimp only); (exact ⟨⟨cell_later hs hHeld.1.1, cell_later hs hHeld.1.2.1, cell_later hs hHeld.1.2.2⟩, hHeld.2.trans (hs.mono hHeld.2.size)⟩))); clear hK K hHeld; have hHeld := hHeldN; clear hHeldN; (try simp only [Act.put, List.setIfInBounds_toArray, List.set_cons_zero, List.set_cons_succ, List.getElem_toArray, List.getElem_cons_zero, List.getElem_cons_succ]))
      (refine wpAnyH_take (i := 8) (v := ?_) rfl (by kernel_rfl) (by kernel_rfl) (by kernel_rfl) (fun _ _ _ h => h) (Or.inl ⟨by rfl, ?_⟩) hHeld ?_; rotate_left; (focus (intro w hSw; (try dsimp only at hSw); go_simp; try with_reducible rfl)); (try simp only [Act.put, List.setIfInBounds_toArray, List.set_cons_zero, List.set_cons_succ, List.getElem_toArray, List.getElem_cons_zero, List.getElem_cons_succ]))
      have hF7 := BlkAt.later (w' := w7) (show BlkAt 92 w3.heap.size (nc c none (.pointer none) (.pointer none)) W6.drew from hF) hs
      have hN7 := BlkAt.later (w' := w7) (show BlkAt 92 (w.heap.size + 1) (nc p (some v) (.pointer none) (.pointer none)) W6.drew from hN6) hs
      have x4 : w7.cell? ⟨w3.heap.size, 5, none⟩ = some (.pointer none) := hF7.cell (j := 5) rfl
      have y4 := hF7.frozen 5
      have hb7 := hHeld
      have hS8 : ((w7.setCell ⟨w3.heap.size, 5, none⟩ (.pointer (some ⟨w.heap.size + 1, 0, none⟩))).cell? ⟨w.heap.size, 0, none⟩ = some (.int .u32 p.1) ∧ (w7.setCell ⟨w3.heap.size, 5, none⟩ (.pointer (some ⟨w.heap.size + 1, 0, none⟩))).cell? ⟨w.heap.size, 1, none⟩ = some (.int .i64 p.2) ∧ (w7.setCell ⟨w3.heap.size, 5, none⟩ (.pointer (some ⟨w.heap.size + 1, 0, none⟩))).cell? ⟨g, 1, none⟩ = some (.int .i64 c.2)) ∧ Below w.heap.size w (w7.setCell ⟨w3.heap.size, 5, none⟩ (.pointer (some ⟨w.heap.size + 1, 0, none⟩))) := by
        obtain ⟨z1, z2, z3⟩ := HNE.out
        exact ⟨⟨by rw [World.cell?_setCell_far _ _ _ _ z1]; exact hb7.1.1, by rw [World.cell?_setCell_far _ _ _ _ z1]; exact hb7.1.2.1, by rw [World.cell?_setCell_far _ _ _ _ z2]; exact hb7.1.2.2⟩, hb7.2.setCell HLE.out _⟩
      (refine wpAnyH_ready (rs := [9]) (by kernel_rfl) (by simp) ?_; refine AllReadyH.cons rfl (fun K hK => ?_) AllReadyH.nil; go_simp; skip; refine hK.out _ _ ?_ (fun hHeldN => ?_); (focus ((try dsimp only); (exact hS8))); clear hK K hHeld; have hHeld := hHeldN; clear hHeldN; (try simp only [Act.put, List.setIfInBounds_toArray, List.set_cons_zero, List.set_cons_succ, List.getElem_toArray, List.getElem_cons_zero, List.getElem_cons_succ]))
      refine wpAnyH_done (by kernel_rfl) ?_ _
      have hF8 := nd_set5 (x := .pointer (some ⟨w.heap.size + 1, 0, none⟩)) hF7
      have hN8 := hN7.other HNE.out.2.2.symm 5 (.pointer (some ⟨w.heap.size + 1, 0, none⟩))
      obtain ⟨W8, hW8⟩ : ∃ W8, W8 = w7.setCell ⟨w3.heap.size, 5, none⟩ (.pointer (some ⟨w.heap.size + 1, 0, none⟩)) := ⟨_, rfl⟩
      rw [← hW8] at hF8 hN8 hS8
      rw [← hW8]
      clear hW8 hF7 hN7 x4 y4 hb7 hs hHeld hF hN6 hS6
      go_wp2_with fail
      (refine wp_region_held_drew (S := (fun w' => (w'.cell? ⟨w.heap.size, 0, none⟩ = some (.int .u32 p.1) ∧ w'.cell? ⟨w.heap.size, 1, none⟩ = some (.int .i64 p.2) ∧ w'.cell? ⟨g, 1, none⟩ = some (.int .i64 c.2)) ∧ Below w.heap.size w w')) (by kernel_rfl) ?_ (fun hHeld => ?_); (focus ((try dsimp only); (exact ⟨hS8.1, hS8.2.drew⟩))))
      (refine wpAnyH_take (i := 0) (v := ?_) rfl (by kernel_rfl) (by kernel_rfl) (by kernel_rfl) (fun _ _ _ h => h) (Or.inl ⟨by rfl, ?_⟩) hHeld ?_; rotate_left; (focus (intro w hSw; (try dsimp only at hSw); go_simp; try with_reducible rfl)); (try simp only [Act.put, List.setIfInBounds_toArray, List.set_cons_zero, List.set_cons_succ, List.getElem_toArray, List.getElem_cons_zero])); (refine wpAnyH_take (i := 1) (v := ?_) rfl (by kernel_rfl) (by kernel_rfl) (by kernel_rfl) (fun _ _ _ h => h) (Or.inl ⟨by rfl, ?_⟩) hHeld ?_; rotate_left; (focus (intro w hSw; (try dsimp only at hSw); go_simp; try with_reducible rfl)); (try simp only [Act.put, List.setIfInBounds_toArray, List.set_cons_zero, List.set_cons_succ, List.getElem_toArray, List.getElem_cons_zero, List.getElem_cons_succ])); (refine wpAnyH_take (i := 2) (v := ?_) rfl (by kernel_rfl) (by kernel_rfl) (by kernel_rfl) (fun _ _ _ h => h) (Or.inl ⟨by rfl, ?_⟩) hHeld ?_; rotate_left; (focus (intro w hSw; (try dsimp only at hSw); go_simp; try with_reducible rfl)); (try simp only [Act.put, List.setIfInBounds_toArray, List.set_cons_zero, List.set_cons_succ, List.getElem_toArray, List.getElem_cons_zero, List.getElem_cons_succ])); (refine wpAnyH_take (i := 3) (v := ?_) rfl (by kernel_rfl) (by kernel_rfl) (by kernel_rfl) (fun _ _ _ h => h) (Or.inl ⟨by rfl, ?_⟩) hHeld ?_; rotate_left; (focus (intro w hSw; (try dsimp only at hSw); go_simp; try with_reducible rfl)); (try simp only [Act.put, List.setIfInBounds_toArray, List.set_cons_zero, List.set_cons_succ, List.getElem_toArray, List.getElem_cons_zero, List.getElem_cons_succ]))
      (refine wpAnyH_take (i := 4) (v := ?_) rfl (by kernel_rfl) (by kernel_rfl) (by kernel_rfl) (fun _ _ _ h => h) (Or.inl ⟨by rfl, ?_⟩) hHeld ?_; rotate_left; (focus (intro w hSw; (try dsimp only at hSw); go_simp; (obtain ⟨x0, x1, _⟩ := nd_cells (HBN.out.later hSw.2); go_simp; try with_reducible rfl))); (try simp only [Act.put, List.setIfInBounds_toArray, List.set_cons_zero, List.set_cons_succ, List.getElem_toArray, List.getElem_cons_zero, List.getElem_cons_succ]))
      (refine wpAnyH_take (i := 5) (v := ?_) rfl (by kernel_rfl) (by kernel_rfl) (by kernel_rfl) (fun _ _ _ h => h) (Or.inl ⟨by rfl, ?_⟩) hHeld ?_; rotate_left; (focus (intro w hSw; (try dsimp only at hSw); go_simp; try with_reducible rfl)); (try simp only [Act.put, List.setIfInBounds_toArray, List.set_cons_zero, List.set_cons_succ, List.getElem_toArray, List.getElem_cons_zero, List.getElem_cons_succ]))
      (refine wpAnyH_take (i := 6) (v := ?_) rfl (by kernel_rfl) (by kernel_rfl) (by kernel_rfl) (fun _ _ _ h => h) (Or.inl ⟨by rfl, ?_⟩) hHeld ?_; rotate_left; (focus (intro w hSw; (try dsimp only at hSw); go_simp; (obtain ⟨⟨x0, x1, x2⟩, _⟩ := hSw; go_simp; try with_reducible rfl))); (try simp only [Act.put, List.setIfInBounds_toArray, List.set_cons_zero, List.set_cons_succ, List.getElem_toArray, List.getElem_cons_zero, List.getElem_cons_succ]))
      (refine wpAnyH_take (i := 8) (v := ?_) rfl (by kernel_rfl) (by kernel_rfl) (by kernel_rfl) (fun _ _ _ h => h) (Or.inl ⟨by rfl, ?_⟩) hHeld ?_; rotate_left; (focus (intro w hSw; (try dsimp only at hSw); go_simp; try with_reducible rfl)); (try simp only [Act.put, List.setIfInBounds_toArray, List.set_cons_zero, List.set_cons_succ, List.getElem_toArray, List.getElem_cons_zero, List.getElem_cons_succ])); (refine wpAnyH_take (i := 9) (v := ?_) rfl (by kernel_rfl) (by kernel_rfl) (by kernel_rfl) (fun _ _ _ h => h) (Or.inl ⟨by rfl, ?_⟩) hHeld ?_; rotate_left; (focus (intro w hSw; (try dsimp only at hSw); go_simp; try with_reducible rfl)); (try simp only [Act.put, List.setIfInBounds_toArray, List.set_cons_zero, List.set_cons_succ, List.getElem_toArray, List.getElem_cons_zero, List.getElem_cons_succ])); (refine wpAnyH_take (i := 10) (v := ?_) rfl (by kernel_rfl) (by kernel_rfl) (by kernel_rfl) (fun _ _ _ h => h) (Or.inl ⟨by rfl, ?_⟩) hHeld ?_; rotate_left; (focus (intro w hSw; (try dsimp only at hSw); go_simp; try with_reducible rfl)); (try simp only [Act.put, List.setIfInBounds_toArray, List.set_cons_zero, List.set_cons_succ, List.getElem_toArray, List.getElem_cons_zero, List.getElem_cons_succ]))
      (refine wpAnyH_ready (rs := [7]) (by kernel_rfl) (by simp) ?_; refine AllReadyH.cons rfl (fun K hK => ?_) AllReadyH.nil; go_simp; refine (sideI m0 m1 HBt2.out _).mono ?_; rintro e w9 ⟨rfl, hs⟩; simp only []; refine hK.out _ _ ?_ (fun hHeldN => ?_); (focus ((try dsimp only); (exact ⟨⟨cell_later hs hHeld.1.1, cell_later hs hHeld.1.2.1, cell_later hs hHeld.1.2.2⟩, hHeld.2.trans (hs.mono hHeld.2.size)⟩))); clear hK K hHeld; have hHeld := hHeldN; clear hHeldN; (try simp only [Act.put, List.setIfInBounds_toArray, List.set_cons_zero, List.set_cons_succ, List.getElem_toArray, List.getElem_cons_zero, List.getElem_cons_succ]))
      (refine wpAnyH_take (i := 11) (v := ?_) rfl (by kernel_rfl) (by kernel_rfl) (by kernel_rfl) (fun _ _ _ h => h) (Or.inl ⟨by rfl, ?_⟩) hHeld ?_; rotate_left; (focus (intro w hSw; (try dsimp only at hSw); go_simp; try with_reducible rfl)); (try simp only [Act.put, List.setIfInBounds_toArray, List.set_cons_zero, List.set_cons_succ, List.getElem_toArray, List.getElem_cons_zero, List.getElem_cons_succ]))
      have hF9 := BlkAt.later (w' := w9) (show BlkAt 92 w3.heap.size (nc c none (.pointer none) (.pointer (some ⟨w.heap.size + 1, 0, none⟩))) W8.drew from hF8) hs
      have hN9 := BlkAt.later (w' := w9) (show BlkAt 92 (w.heap.size + 1) (nc p (some v) (.pointer none) (.pointer none)) W8.drew from hN8) hs
      have x4 : w9.cell? ⟨w3.heap.size, 4, none⟩ = some (.pointer none) := hF9.cell (j := 4) rfl
      have y4 := hF9.frozen 4
      have hb9 := hHeld
      have hSa : ((w9.setCell ⟨w3.heap.size, 4, none⟩ (.pointer (some ⟨b, 0, none⟩))).cell? ⟨w.heap.size, 0, none⟩ = some (.int .u32 p.1) ∧ (w9.setCell ⟨w3.heap.size, 4, none⟩ (.pointer (some ⟨b, 0, none⟩))).cell? ⟨w.heap.size, 1, none⟩ = some (.int .i64 p.2) ∧ (w9.setCell ⟨w3.heap.size, 4, none⟩ (.pointer (some ⟨b, 0, none⟩))).cell? ⟨g, 1, none⟩ = some (.int .i64 c.2)) ∧ Below w.heap.size w (w9.setCell ⟨w3.heap.size, 4, none⟩ (.pointer (some ⟨b, 0, none⟩))) := by
        obtain ⟨z1, z2, z3⟩ := HNE.out
        exact ⟨⟨by rw [World.cell?_setCell_far _ _ _ _ z1]; exact hb9.1.1, by rw [World.cell?_setCell_far _ _ _ _ z1]; exact hb9.1.2.1, by rw [World.cell?_setCell_far _ _ _ _ z2]; exact hb9.1.2.2⟩, hb9.2.setCell HLE.out _⟩
      (refine wpAnyH_ready (rs := [12]) (by kernel_rfl) (by simp) ?_; refine AllReadyH.cons rfl (fun K hK => ?_) AllReadyH.nil; go_simp; skip; refine hK.out _ _ ?_ (fun hHeldN => ?_); (focus ((try dsimp only); (exact hSa))); clear hK K hHeld; have hHeld := hHeldN; clear hHeldN; (try simp only [Act.put, List.setIfInBounds_toArray, List.set_cons_zero, List.set_cons_succ, List.getElem_toArray, List.getElem_cons_zero, List.getElem_cons_succ]))
      refine wpAnyH_done (by kernel_rfl) ?_ _
      have HFa := Lib.hid (nd_set4 (x := .pointer (some ⟨b, 0, none⟩)) hF9)
      have HNa := Lib.hid (hN9.other HNE.out.2.2.symm 4 (.pointer (some ⟨b, 0, none⟩)))
      have HSa := Lib.hid hSa.2
      obtain ⟨Wa, hWa⟩ : ∃ Wa, Wa = w9.setCell ⟨w3.heap.size, 4, none⟩ (.pointer (some ⟨b, 0, none⟩)) := ⟨_, rfl⟩
      rw [← hWa] at HFa HNa HSa
      rw [← hWa]
      clear hWa hF9 hN9 x4 y4 hb9 hs hHeld hF8 hN8 hS8 hSa
      go_wp2_with fail
      go_ret
      refine ⟨_, rfl, ?_, HSa.out⟩
      rw [HWn.out]
      exact ⟨_, _, _, rfl, HFa.out, HS.out.later HSa.out, ⟨_, _, _, rfl, HNa.out, rfl, rfl⟩⟩
  · intro hfin hHeld
    (refine wpAnyH_take (i := 0) (v := ?_) rfl (by kernel_rfl) (by kernel_rfl) (by kernel_rfl) (fun _ _ _ h => h) (Or.inl ⟨by rfl, ?_⟩) hHeld ?_; rotate_left; (focus (intro w hSw; (try dsimp only at hSw); go_simp; (obtain ⟨c0, c1⟩ := px_cells (HP.out.later hSw); go_simp; try with_reducible rfl))); (try simp only [Act.put, List.setIfInBounds_toArray, List.set_cons_zero, List.set_cons_succ, List.getElem_toArray, List.getElem_cons_zero]))
    (refine wpAnyH_take (i := 1) (v := ?_) rfl (by kernel_rfl) (by kernel_rfl) (by kernel_rfl) (fun _ _ _ h => h) (Or.inl ⟨by rfl, ?_⟩) hHeld ?_; rotate_left; (focus (intro w hSw; (try dsimp only at hSw); go_simp; try with_reducible rfl)); (try simp only [Act.put, List.setIfInBounds_toArray, List.set_cons_zero, List.set_cons_succ, List.getElem_toArray, List.getElem_cons_zero, List.getElem_cons_succ])); (refine wpAnyH_take (i := 2) (v := ?_) rfl (by kernel_rfl) (by kernel_rfl) (by kernel_rfl) (fun _ _ _ h => h) (Or.inl ⟨by rfl, ?_⟩) hHeld ?_; rotate_left; (focus (intro w hSw; (try dsimp only at hSw); go_simp; try with_reducible rfl)); (try simp only [Act.put, List.setIfInBounds_toArray, List.set_cons_zero, List.set_cons_succ, List.getElem_toArray, List.getElem_cons_zero, List.getElem_cons_succ])); (refine wpAnyH_take (i := 3) (v := ?_) rfl (by kernel_rfl) (by kernel_rfl) (by kernel_rfl) (fun _ _ _ h => h) (Or.inl ⟨by rfl, ?_⟩) hHeld ?_; rotate_left; (focus (intro w hSw; (try dsimp only at hSw); go_simp; try with_reducible rfl)); (try simp only [Act.put, List.setIfInBounds_toArray, List.set_cons_zero, List.set_cons_succ, List.getElem_toArray, List.getElem_cons_zero, List.getElem_cons_succ]))
    (refine wpAnyH_take (i := 4) (v := ?_) rfl (by kernel_rfl) (by kernel_rfl) (by kernel_rfl) (fun _ _ _ h => h) (Or.inl ⟨by rfl, ?_⟩) hHeld ?_; rotate_left; (focus (intro w hSw; (try dsimp only at hSw); go_simp; (obtain ⟨c0, c1, _⟩ := nd_cells (HBW.out.later hSw); go_simp; try with_reducible rfl))); (try simp only [Act.put, List.setIfInBounds_toArray, List.set_cons_zero, List.set_cons_succ, List.getElem_toArray, List.getElem_cons_zero, List.getElem_cons_succ]))
    refine wpAnyH_ready (rs := [5, 6]) (by kernel_rfl) (by simp) ?_
    refine AllReadyH.cons rfl (fun K hK => ?_) (AllReadyH.cons rfl (fun K hK => ?_) AllReadyH.nil)
    · go_simp
      refine (HM.out _).mono ?_
      rintro e w1 ⟨rfl, hs⟩
      simp only [pv]
      have hb1 : Below W.heap.size W w1 := hHeld.trans (hs.mono hHeld.size)
      refine hK.out _ _ hb1 (fun hHeldN => ?_)
      clear hK K hHeld hs
      have hHeld := hHeldN
      clear hHeldN
      (try simp only [Act.put, List.setIfInBounds_toArray, List.set_cons_zero, List.set_cons_succ, List.getElem_toArray, List.getElem_cons_zero, List.getElem_cons_succ])
      (refine wpAnyH_ready (rs := [6]) (by kernel_rfl) (by simp) ?_; refine AllReadyH.cons rfl (fun K hK => ?_) AllReadyH.nil; go_simp; skip; refine hK.out _ _ ?_ (fun hHeldN => ?_); (focus ((try dsimp only); (exact hb1.alloc hb1.size _))); clear hK K hHeld; have hHeld := hHeldN; clear hHeldN; (try simp only [Act.put, List.setIfInBounds_toArray, List.set_cons_zero, List.set_cons_succ, List.getElem_toArray, List.getElem_cons_zero, List.getElem_cons_succ]))
      (refine wpAnyH_ready (rs := [7]) (by kernel_rfl) (by simp) ?_; refine AllReadyH.cons rfl (fun K hK => ?_) AllReadyH.nil; go_simp; skip; refine hK.out _ _ ?_ (fun hHeldN => ?_); (focus ((try dsimp only); (exact (hb1.alloc hb1.size _)))); clear hK K hHeld; have hHeld := hHeldN; clear hHeldN; (try simp only [Act.put, List.setIfInBounds_toArray, List.set_cons_zero, List.set_cons_succ, List.getElem_toArray, List.getElem_cons_zero, List.getElem_cons_succ]))
      refine wpAnyH_done (by kernel_rfl) ?_ _
      exact hfin _ _ ⟨_, rfl, hb1.alloc hb1.size _, hb1.size, BlkAt.new _ _⟩
    · go_simp
      have hg : BlkAt 37 W.heap.size [.int .u32 0, .int .i64 0] (W.alloc (.cells #[.int .u32 0, .int .i64 0] 37)).drew := BlkAt.new W [.int .u32 0, .int .i64 0]
      have hb1 : Below W.heap.size W (W.alloc (.cells #[.int .u32 0, .int .i64 0] 37)).drew := (ba1 _ _).drew
      refine hK.out _ _ hb1 (fun hHeldN => ?_)
      clear hK K hHeld
      have hHeld := hHeldN
      clear hHeldN
      (try simp only [Act.put, List.setIfInBounds_toArray, List.set_cons_zero, List.set_cons_succ, List.getElem_toArray, List.getElem_cons_zero, List.getElem_cons_succ])
      obtain ⟨W1, hW1⟩ : ∃ W1, W1 = (W.alloc (.cells #[.int .u32 0, .int .i64 0] 37)).drew := ⟨_, rfl⟩
      rw [← hW1] at hg hHeld ⊢
      clear hW1 hb1
      (refine wpAnyH_ready (rs := [5]) (by kernel_rfl) (by simp) ?_; refine AllReadyH.cons rfl (fun K hK => ?_) AllReadyH.nil; go_simp; refine (HM.out _).mono ?_; rintro e w2 ⟨rfl, hs⟩; simp only [pv]; refine hK.out _ _ ?_ (fun hHeldN => ?_); (focus ((try dsimp only); (exact hHeld.trans (hs.mono hHeld.size)))); clear hK K hHeld; have hHeld := hHeldN; clear hHeldN; (try simp only [Act.put, List.setIfInBounds_toArray, List.set_cons_zero, List.set_cons_succ, List.getElem_toArray, List.getElem_cons_zero, List.getElem_cons_succ]))
      have hg2 := hg.later hs
      have c0 : w2.cell? ⟨W.heap.size, 0, none⟩ = some (.int .u32 0) := hg2.cell (j := 0) rfl
      have c1 : w2.cell? ⟨W.heap.size, 1, none⟩ = some (.int .i64 0) := hg2.cell (j := 1) rfl
      have f0 := hg2.frozen 0
      have f1 := hg2.frozen 1
      have hb2 := hHeld
      (refine wpAnyH_ready (rs := [7]) (by kernel_rfl) (by simp) ?_; refine AllReadyH.cons rfl (fun K hK => ?_) AllReadyH.nil; go_simp; skip; refine hK.out _ _ ?_ (fun hHeldN => ?_); (focus ((try dsimp only); (exact (hb2.setCell (p := ⟨W.heap.size, 0, none⟩) (Nat.le_refl _) _).setCell (p := ⟨W.heap.size, 1, none⟩) (Nat.le_refl _) _))); clear hK K hHeld; have hHeld := hHeldN; clear hHeldN; (try simp only [Act.put, List.setIfInBounds_toArray, List.set_cons_zero, List.set_cons_succ, List.getElem_toArray, List.getElem_cons_zero, List.getElem_cons_succ]))
      refine wpAnyH_done (by kernel_rfl) ?_ _
      exact hfin _ _ ⟨_, rfl, (hb2.setCell (p := ⟨W.heap.size, 0, none⟩) (Nat.le_refl _) _).setCell (p := ⟨W.heap.size, 1, none⟩) (Nat.le_refl _) _, Nat.le_refl _, (hg2.set 0 (.int .u32 c.1)).set 1 (.int .i64 c.2)⟩
end Go.Proofs.Ytbfkjdnopiadjaa
