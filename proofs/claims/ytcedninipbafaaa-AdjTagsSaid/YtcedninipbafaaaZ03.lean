/- adj.heed: the walks, a way each. -/
import Derived.Test.YtcedninipbafaaaZ02

set_option linter.unusedSimpArgs false
set_option linter.unusedVariables false
namespace Go.Proofs.Ytcedninipbafaaa
open Go.RowKit
attribute [local go_sem ↓] Go.wp_at_zero Go.wp_at_succ
attribute [local go_sem ↓ high] eqTI neTI eqVI neVI

/-- What is heard is taken up; where it hears us, it is Up. -/
def setV (v : Vw) (h : Hl) : Vw := ⟨1, v.mb, v.mt, h.mb, h.mt, h.n⟩
def upV (v : Vw) (h : Hl) : Vw := if sameTI h.hb h.ht v.mb v.mt = true then ⟨2, v.mb, v.mt, v.tb, v.tt, v.n⟩ else v
def HeA (p : Nat) (a : Ad) (v : Vw) (w : World) (e : Ending) (w' : World) : Prop := (∃ x, e = .returned x) ∧ PA p ⟨a.node, a.every, a.dead, a.said, 0, v⟩ w' ∧ Chg [p] w w'
/-- A hello's block. -/
def HBk (b : Nat) (h : Hl) (w : World) : Prop := BlkAt 35 b [.int .i64 h.n, .int .u64 h.mb, .int .u64 h.mt, .int .u64 h.hb, .int .u64 h.ht] w
theorem PA.setSt {p : Nat} {a : Ad} {w : World} (h : PA p a w) {s : Int} : PA p ⟨a.node, a.every, a.dead, a.said, a.sil, s, a.v.mb, a.v.mt, a.v.tb, a.v.tt, a.v.n⟩ (w.setCell ⟨p, 5, none⟩ (.int .i64 s)) := BlkAt.set h 5 _
theorem PA.setHd {p : Nat} {a : Ad} {w : World} (h : PA p a w) (g : Hl) : PA p ⟨a.node, a.every, a.dead, a.said, a.sil, setV a.v g⟩ ((((w.setCell ⟨p, 5, none⟩ (.int .i64 1)).setCell ⟨p, 8, none⟩ (.int .u64 g.mb)).setCell ⟨p, 9, none⟩ (.int .u64 g.mt)).setCell ⟨p, 10, none⟩ (.int .i64 g.n)) :=
  (((BlkAt.set h 5 (.int .i64 1)).set 8 (.int .u64 g.mb)).set 9 (.int .u64 g.mt)).set 10 (.int .i64 g.n)

set_option maxHeartbeats 8000000 in
set_option maxRecDepth 100000 in
theorem heedN {p : Nat} {a : Ad} {w : World} (hA : PA p a w) (h : Hl) (t0 : (h.n == a.node) = false) (tE : (h.n == a.v.n) = false) (tZ : sameTI a.v.tb a.v.tt 0 0 = true) (tM : sameTI h.mb h.mt a.v.tb a.v.tt = false) :
    Calls Try.prog 26 #[.pointer (some ⟨p, 0, none⟩), .agg #[.int .i64 h.n, .int .u64 h.mb, .int .u64 h.mt, .int .u64 h.hb, .int .u64 h.ht]] w (HeA p a (upV (setV a.v h) h) w) := by
  unfold HeA
  obtain ⟨V, hV⟩ : ∃ V, V = setV a.v h := ⟨_, rfl⟩
  rw [← hV]
  have HVV := Lib.hid hV
  clear hV
  obtain ⟨w1, hw1⟩ : ∃ W, W = w.alloc (.cells #[.int .i64 h.n, .int .u64 h.mb, .int .u64 h.mt, .int .u64 h.hb, .int .u64 h.ht] 35) := ⟨_, rfl⟩
  have hb : Below w.heap.size w w1 := by rw [hw1]; exact (Below.refl _ _).alloc (Nat.le_refl _) _
  have HP1 := Lib.hid (hA.later hb)
  have HH1 : Hid (HBk w.heap.size h w1) := by
    have : HBk w.heap.size h w1 := by rw [hw1]; exact BlkAt.new w _
    exact this
  have HC1 := Lib.hid (Chg.of_below [p] hb)
  have HNE : Hid (w.heap.size ∉ [p]) := by
    have : w.heap.size ∉ [p] := by have := hA.lt; simp; omega
    exact this
  have HW := Lib.hid hw1
  clear hA hb hw1
  go_enter Try.func26, Try.ntmps26
  go_wp2_with fail
  rw [← HW.out]
  have hP := HP1.out
  have hH := HH1.out
  have c0 := BlkAt.cell hP (j := 0) rfl; have c1 := BlkAt.cell hP (j := 1) rfl; have c2 := BlkAt.cell hP (j := 2) rfl; have c3 := BlkAt.cell hP (j := 3) rfl; have c4 := BlkAt.cell hP (j := 4) rfl; have c5 := BlkAt.cell hP (j := 5) rfl; have c6 := BlkAt.cell hP (j := 6) rfl; have c7 := BlkAt.cell hP (j := 7) rfl; have c8 := BlkAt.cell hP (j := 8) rfl; have c9 := BlkAt.cell hP (j := 9) rfl; have c10 := BlkAt.cell hP (j := 10) rfl
  have g0 := BlkAt.cell hH (j := 0) rfl; have g1 := BlkAt.cell hH (j := 1) rfl; have g2 := BlkAt.cell hH (j := 2) rfl; have g3 := BlkAt.cell hH (j := 3) rfl; have g4 := BlkAt.cell hH (j := 4) rfl
  have hfz : ∀ j, (w1).frozen? ⟨p, j, none⟩ = false := fun j => BlkAt.frozen hP j
  clear hP hH
  go_wp2_with fail
  go_quiet (fail)
  obtain ⟨x2, hx2⟩ : ∃ W, W = World.drewN w1 nq := ⟨_, rfl⟩
  rw [← hx2]
  have HP2 : Hid (PA p a x2) := by
    have : PA p a x2 := by rw [hx2]; exact HP1.out
    exact this
  have HH2 : Hid (HBk w.heap.size h x2) := by
    have : HBk w.heap.size h x2 := by rw [hx2]; exact HH1.out
    exact this
  have HC2 : Hid (Chg [p] w x2) := by
    have : Chg [p] w x2 := by rw [hx2]; exact Chg.dr HC1.out _
    exact this
  clear hx2
  clear c0 c1 c2 c3 c4 c5 c6 c7 c8 c9 c10 g0 g1 g2 g3 g4 hfz
  go_wp2_with fail
  (refine wp_region_held_drew (S := (fun w' => Below x2.heap.size x2 w')) (by kernel_rfl) ?_ (fun hHeld => ?_); (focus ((try dsimp only); (exact (Below.refl _ _).drew))))
  (try dsimp only at hHeld)
  (refine wpAnyH_take (i := 0) (v := ?_) rfl (by kernel_rfl) (by kernel_rfl) (by kernel_rfl) (fun _ _ _ h => h) (Or.inl ⟨by rfl, ?_⟩) hHeld ?_; rotate_left; (focus (intro w hSw; (try dsimp only at hSw); go_simp; try with_reducible rfl)); (try simp only [Act.put, List.setIfInBounds_toArray, List.set_cons_zero, List.set_cons_succ, List.getElem_toArray, List.getElem_cons_zero])); (refine wpAnyH_take (i := 1) (v := ?_) rfl (by kernel_rfl) (by kernel_rfl) (by kernel_rfl) (fun _ _ _ h => h) (Or.inl ⟨by rfl, ?_⟩) hHeld ?_; rotate_left; (focus (intro w hSw; (try dsimp only at hSw); go_simp; try with_reducible rfl)); (try simp only [Act.put, List.setIfInBounds_toArray, List.set_cons_zero, List.set_cons_succ, List.getElem_toArray, List.getElem_cons_zero, List.getElem_cons_succ])); (refine wpAnyH_take (i := 2) (v := ?_) rfl (by kernel_rfl) (by kernel_rfl) (by kernel_rfl) (fun _ _ _ h => h) (Or.inl ⟨by rfl, ?_⟩) hHeld ?_; rotate_left; (focus (intro w hSw; (try dsimp only at hSw); go_simp; try with_reducible rfl)); (try simp only [Act.put, List.setIfInBounds_toArray, List.set_cons_zero, List.set_cons_succ, List.getElem_toArray, List.getElem_cons_zero, List.getElem_cons_succ]))
  (refine wpAnyH_take (i := 3) (v := ?_) rfl (by kernel_rfl) (by kernel_rfl) (by kernel_rfl) (fun _ _ _ h => h) (Or.inl ⟨by rfl, ?_⟩) hHeld ?_; rotate_left; (focus (intro w hSw; (try dsimp only at hSw); go_simp; (have e0 := BlkAt.cell (BlkAt.later HP2.out hSw) (j := 0) rfl; have e1 := BlkAt.cell (BlkAt.later HP2.out hSw) (j := 1) rfl; have e2 := BlkAt.cell (BlkAt.later HP2.out hSw) (j := 2) rfl; have e3 := BlkAt.cell (BlkAt.later HP2.out hSw) (j := 3) rfl; have e4 := BlkAt.cell (BlkAt.later HP2.out hSw) (j := 4) rfl; have e5 := BlkAt.cell (BlkAt.later HP2.out hSw) (j := 5) rfl; have e6 := BlkAt.cell (BlkAt.later HP2.out hSw) (j := 6) rfl; have e7 := BlkAt.cell (BlkAt.later HP2.out hSw) (j := 7) rfl; have e8 := BlkAt.cell (BlkAt.later HP2.out hSw) (j := 8) rfl; have e9 := BlkAt.cell (BlkAt.later HP2.out hSw) (j := 9) rfl; have e10 := BlkAt.cell (BlkAt.later HP2.out hSw) (j := 10) rfl; go_simp; try with_reducible rfl))); (try simp only [Act.put, List.setIfInBounds_toArray, List.set_cons_zero, List.set_cons_succ, List.getElem_toArray, List.getElem_cons_zero, List.getElem_cons_succ]))
  (refine wpAnyH_ready (rs := [4]) (by kernel_rfl) (by simp) ?_; refine AllReadyH.cons rfl (fun K hK => ?_) AllReadyH.nil; go_simp; refine (zeroW a.v.tb a.v.tt _).mono ?_; rintro e y4 ⟨rfl, hs⟩; rw [tZ]; refine hK.out _ _ ?_ (fun hHeldN => ?_); (focus ((try dsimp only); (exact hHeld.trans (hs.mono hHeld.size)))); clear hK K hHeld; have hHeld := hHeldN; clear hHeldN; (try simp only [Act.put, List.setIfInBounds_toArray, List.set_cons_zero, List.set_cons_succ, List.getElem_toArray, List.getElem_cons_zero, List.getElem_cons_succ]))
  (refine wpAnyH_take (i := 5) (v := ?_) rfl (by kernel_rfl) (by kernel_rfl) (by kernel_rfl) (fun _ _ _ h => h) (Or.inl ⟨by rfl, ?_⟩) hHeld ?_; rotate_left; (focus (intro w hSw; (try dsimp only at hSw); go_simp; try with_reducible rfl)); (try simp only [Act.put, List.setIfInBounds_toArray, List.set_cons_zero, List.set_cons_succ, List.getElem_toArray, List.getElem_cons_zero, List.getElem_cons_succ])); (refine wpAnyH_take (i := 6) (v := ?_) rfl (by kernel_rfl) (by kernel_rfl) (by kernel_rfl) (fun _ _ _ h => h) (Or.inl ⟨by rfl, ?_⟩) hHeld ?_; rotate_left; (focus (intro w hSw; (try dsimp only at hSw); go_simp; try with_reducible rfl)); (try simp only [Act.put, List.setIfInBounds_toArray, List.set_cons_zero, List.set_cons_succ, List.getElem_toArray, List.getElem_cons_zero, List.getElem_cons_succ]))
  (refine wpAnyH_take (i := 7) (v := undef) rfl (by kernel_rfl) (by kernel_rfl) (by kernel_rfl) (fun _ _ _ h => h) (Or.inr ⟨by rfl, rfl⟩) hHeld ?_; (try simp only [Act.put, List.setIfInBounds_toArray, List.set_cons_zero, List.set_cons_succ, List.getElem_toArray, List.getElem_cons_zero, List.getElem_cons_succ])); (refine wpAnyH_take (i := 8) (v := undef) rfl (by kernel_rfl) (by kernel_rfl) (by kernel_rfl) (fun _ _ _ h => h) (Or.inr ⟨by rfl, rfl⟩) hHeld ?_; (try simp only [Act.put, List.setIfInBounds_toArray, List.set_cons_zero, List.set_cons_succ, List.getElem_toArray, List.getElem_cons_zero, List.getElem_cons_succ])); (refine wpAnyH_take (i := 9) (v := undef) rfl (by kernel_rfl) (by kernel_rfl) (by kernel_rfl) (fun _ _ _ h => h) (Or.inr ⟨by rfl, rfl⟩) hHeld ?_; (try simp only [Act.put, List.setIfInBounds_toArray, List.set_cons_zero, List.set_cons_succ, List.getElem_toArray, List.getElem_cons_zero, List.getElem_cons_succ])); (refine wpAnyH_take (i := 10) (v := undef) rfl (by kernel_rfl) (by kernel_rfl) (by kernel_rfl) (fun _ _ _ h => h) (Or.inr ⟨by rfl, rfl⟩) hHeld ?_; (try simp only [Act.put, List.setIfInBounds_toArray, List.set_cons_zero, List.set_cons_succ, List.getElem_toArray, List.getElem_cons_zero, List.getElem_cons_succ])); (refine wpAnyH_take (i := 11) (v := undef) rfl (by kernel_rfl) (by kernel_rfl) (by kernel_rfl) (fun _ _ _ h => h) (Or.inr ⟨by rfl, rfl⟩) hHeld ?_; (try simp only [Act.put, List.setIfInBounds_toArray, List.set_cons_zero, List.set_cons_succ, List.getElem_toArray, List.getElem_cons_zero, List.getElem_cons_succ])); (refine wpAnyH_take (i := 12) (v := undef) rfl (by kernel_rfl) (by kernel_rfl) (by kernel_rfl) (fun _ _ _ h => h) (Or.inr ⟨by rfl, rfl⟩) hHeld ?_; (try simp only [Act.put, List.setIfInBounds_toArray, List.set_cons_zero, List.set_cons_succ, List.getElem_toArray, List.getElem_cons_zero, List.getElem_cons_succ])); (refine wpAnyH_take (i := 13) (v := undef) rfl (by kernel_rfl) (by kernel_rfl) (by kernel_rfl) (fun _ _ _ h => h) (Or.inr ⟨by rfl, rfl⟩) hHeld ?_; (try simp only [Act.put, List.setIfInBounds_toArray, List.set_cons_zero, List.set_cons_succ, List.getElem_toArray, List.getElem_cons_zero, List.getElem_cons_succ]))
  (refine wpAnyH_take (i := 14) (v := ?_) rfl (by kernel_rfl) (by kernel_rfl) (by kernel_rfl) (fun _ _ _ h => h) (Or.inl ⟨by rfl, ?_⟩) hHeld ?_; rotate_left; (focus (intro w hSw; (try dsimp only at hSw); go_simp; try with_reducible rfl)); (try simp only [Act.put, List.setIfInBounds_toArray, List.set_cons_zero, List.set_cons_succ, List.getElem_toArray, List.getElem_cons_zero, List.getElem_cons_succ])); (refine wpAnyH_take (i := 15) (v := ?_) rfl (by kernel_rfl) (by kernel_rfl) (by kernel_rfl) (fun _ _ _ h => h) (Or.inl ⟨by rfl, ?_⟩) hHeld ?_; rotate_left; (focus (intro w hSw; (try dsimp only at hSw); go_simp; try with_reducible rfl)); (try simp only [Act.put, List.setIfInBounds_toArray, List.set_cons_zero, List.set_cons_succ, List.getElem_toArray, List.getElem_cons_zero, List.getElem_cons_succ]))
  refine wpAnyH_done (by kernel_rfl) ?_ _
  have HP3 : Hid (PA p a y4) := by
    have : PA p a y4 := HP2.out.later hHeld
    exact this
  have HH3 : Hid (HBk w.heap.size h y4) := by
    have : HBk w.heap.size h y4 := BlkAt.later HH2.out hHeld
    exact this
  have HC3 : Hid (Chg [p] w y4) := by
    have : Chg [p] w y4 := HC2.out.trans (Chg.of_below _ hHeld)
    exact this
  clear hHeld hs
  have hP := HP3.out
  have hH := HH3.out
  have c0 := BlkAt.cell hP (j := 0) rfl; have c1 := BlkAt.cell hP (j := 1) rfl; have c2 := BlkAt.cell hP (j := 2) rfl; have c3 := BlkAt.cell hP (j := 3) rfl; have c4 := BlkAt.cell hP (j := 4) rfl; have c5 := BlkAt.cell hP (j := 5) rfl; have c6 := BlkAt.cell hP (j := 6) rfl; have c7 := BlkAt.cell hP (j := 7) rfl; have c8 := BlkAt.cell hP (j := 8) rfl; have c9 := BlkAt.cell hP (j := 9) rfl; have c10 := BlkAt.cell hP (j := 10) rfl
  have g0 := BlkAt.cell hH (j := 0) rfl; have g1 := BlkAt.cell hH (j := 1) rfl; have g2 := BlkAt.cell hH (j := 2) rfl; have g3 := BlkAt.cell hH (j := 3) rfl; have g4 := BlkAt.cell hH (j := 4) rfl
  have hfz : ∀ j, (y4).frozen? ⟨p, j, none⟩ = false := fun j => BlkAt.frozen hP j
  clear hP hH
  go_wp2_with fail
  go_quiet (fail)
  obtain ⟨x4, hx4⟩ : ∃ W, W = World.drewN y4 nq := ⟨_, rfl⟩
  rw [← hx4]
  have HP4 : Hid (PA p a x4) := by
    have : PA p a x4 := by rw [hx4]; exact HP3.out
    exact this
  have HH4 : Hid (HBk w.heap.size h x4) := by
    have : HBk w.heap.size h x4 := by rw [hx4]; exact HH3.out
    exact this
  have HC4 : Hid (Chg [p] w x4) := by
    have : Chg [p] w x4 := by rw [hx4]; exact Chg.dr HC3.out _
    exact this
  clear hx4
  clear c0 c1 c2 c3 c4 c5 c6 c7 c8 c9 c10 g0 g1 g2 g3 g4 hfz
  go_wp2_with fail
  have HPx : Hid (PA p a (World.drew x4)) := by
    have : PA p a (World.drew x4) := HP4.out
    exact this
  (refine wp_region_held_drew (S := (fun w' => Chg [p] x4 w')) (by kernel_rfl) ?_ (fun hHeld => ?_); (focus ((try dsimp only); (exact (Chg.refl _ _).drew))))
  (try dsimp only at hHeld)
  obtain ⟨d0, hd0⟩ : ∃ W0, W0 = World.drew x4 := ⟨_, rfl⟩
  rw [← hd0]
  rw [← hd0] at hHeld HPx
  clear hd0
  have hP := HPx.out
  have c0 := BlkAt.cell hP (j := 0) rfl; have c1 := BlkAt.cell hP (j := 1) rfl; have c2 := BlkAt.cell hP (j := 2) rfl; have c3 := BlkAt.cell hP (j := 3) rfl; have c4 := BlkAt.cell hP (j := 4) rfl; have c5 := BlkAt.cell hP (j := 5) rfl; have c6 := BlkAt.cell hP (j := 6) rfl; have c7 := BlkAt.cell hP (j := 7) rfl; have c8 := BlkAt.cell hP (j := 8) rfl; have c9 := BlkAt.cell hP (j := 9) rfl; have c10 := BlkAt.cell hP (j := 10) rfl
  have hfz : ∀ j, d0.frozen? ⟨p, j, none⟩ = false := fun j => BlkAt.frozen hP j
  clear hP
  (refine wpAnyH_take (i := 0) (v := ?_) rfl (by kernel_rfl) (by kernel_rfl) (by kernel_rfl) (fun _ _ _ h => h) (Or.inl ⟨by rfl, ?_⟩) hHeld ?_; rotate_left; (focus (intro w hSw; (try dsimp only at hSw); go_simp; try with_reducible rfl)); (try simp only [Act.put, List.setIfInBounds_toArray, List.set_cons_zero, List.set_cons_succ, List.getElem_toArray, List.getElem_cons_zero])); (refine wpAnyH_take (i := 1) (v := ?_) rfl (by kernel_rfl) (by kernel_rfl) (by kernel_rfl) (fun _ _ _ h => h) (Or.inl ⟨by rfl, ?_⟩) hHeld ?_; rotate_left; (focus (intro w hSw; (try dsimp only at hSw); go_simp; try with_reducible rfl)); (try simp only [Act.put, List.setIfInBounds_toArray, List.set_cons_zero, List.set_cons_succ, List.getElem_toArray, List.getElem_cons_zero, List.getElem_cons_succ])); (refine wpAnyH_take (i := 2) (v := ?_) rfl (by kernel_rfl) (by kernel_rfl) (by kernel_rfl) (fun _ _ _ h => h) (Or.inl ⟨by rfl, ?_⟩) hHeld ?_; rotate_left; (focus (intro w hSw; (try dsimp only at hSw); go_simp; try with_reducible rfl)); (try simp only [Act.put, List.setIfInBounds_toArray, List.set_cons_zero, List.set_cons_succ, List.getElem_toArray, List.getElem_cons_zero, List.getElem_cons_succ])); (refine wpAnyH_take (i := 3) (v := ?_) rfl (by kernel_rfl) (by kernel_rfl) (by kernel_rfl) (fun _ _ _ h => h) (Or.inl ⟨by rfl, ?_⟩) hHeld ?_; rotate_left; (focus (intro w hSw; (try dsimp only at hSw); go_simp; try with_reducible rfl)); (try simp only [Act.put, List.setIfInBounds_toArray, List.set_cons_zero, List.set_cons_succ, List.getElem_toArray, List.getElem_cons_zero, List.getElem_cons_succ]))
  (refine wpAnyH_take (i := 4) (v := ?_) rfl (by kernel_rfl) (by kernel_rfl) (by kernel_rfl) (fun _ _ _ h => h) (Or.inl ⟨by rfl, ?_⟩) hHeld ?_; rotate_left; (focus (intro w hSw; (try dsimp only at hSw); go_simp; (have e0 := BlkAt.cell (Chg.blk hSw HH4.out HNE.out) (j := 0) rfl; have e1 := BlkAt.cell (Chg.blk hSw HH4.out HNE.out) (j := 1) rfl; have e2 := BlkAt.cell (Chg.blk hSw HH4.out HNE.out) (j := 2) rfl; have e3 := BlkAt.cell (Chg.blk hSw HH4.out HNE.out) (j := 3) rfl; have e4 := BlkAt.cell (Chg.blk hSw HH4.out HNE.out) (j := 4) rfl; go_simp; try with_reducible rfl))); (try simp only [Act.put, List.setIfInBounds_toArray, List.set_cons_zero, List.set_cons_succ, List.getElem_toArray, List.getElem_cons_zero, List.getElem_cons_succ]))
  (refine wpAnyH_take (i := 5) (v := ?_) rfl (by kernel_rfl) (by kernel_rfl) (by kernel_rfl) (fun _ _ _ h => h) (Or.inl ⟨by rfl, ?_⟩) hHeld ?_; rotate_left; (focus (intro w hSw; (try dsimp only at hSw); go_simp; try with_reducible rfl)); (try simp only [Act.put, List.setIfInBounds_toArray, List.set_cons_zero, List.set_cons_succ, List.getElem_toArray, List.getElem_cons_zero, List.getElem_cons_succ]))
  (refine wpAnyH_take (i := 6) (v := ?_) rfl (by kernel_rfl) (by kernel_rfl) (by kernel_rfl) (fun _ _ _ h => h) (Or.inl ⟨by rfl, ?_⟩) hHeld ?_; rotate_left; (focus (intro w hSw; (try dsimp only at hSw); go_simp; (have e0 := BlkAt.cell (Chg.blk hSw HH4.out HNE.out) (j := 0) rfl; have e1 := BlkAt.cell (Chg.blk hSw HH4.out HNE.out) (j := 1) rfl; have e2 := BlkAt.cell (Chg.blk hSw HH4.out HNE.out) (j := 2) rfl; have e3 := BlkAt.cell (Chg.blk hSw HH4.out HNE.out) (j := 3) rfl; have e4 := BlkAt.cell (Chg.blk hSw HH4.out HNE.out) (j := 4) rfl; go_simp; try with_reducible rfl))); (try simp only [Act.put, List.setIfInBounds_toArray, List.set_cons_zero, List.set_cons_succ, List.getElem_toArray, List.getElem_cons_zero, List.getElem_cons_succ]))
  (refine wpAnyH_take (i := 7) (v := ?_) rfl (by kernel_rfl) (by kernel_rfl) (by kernel_rfl) (fun _ _ _ h => h) (Or.inl ⟨by rfl, ?_⟩) hHeld ?_; rotate_left; (focus (intro w hSw; (try dsimp only at hSw); go_simp; try with_reducible rfl)); (try simp only [Act.put, List.setIfInBounds_toArray, List.set_cons_zero, List.set_cons_succ, List.getElem_toArray, List.getElem_cons_zero, List.getElem_cons_succ])); (refine wpAnyH_take (i := 8) (v := ?_) rfl (by kernel_rfl) (by kernel_rfl) (by kernel_rfl) (fun _ _ _ h => h) (Or.inl ⟨by rfl, ?_⟩) hHeld ?_; rotate_left; (focus (intro w hSw; (try dsimp only at hSw); go_simp; try with_reducible rfl)); (try simp only [Act.put, List.setIfInBounds_toArray, List.set_cons_zero, List.set_cons_succ, List.getElem_toArray, List.getElem_cons_zero, List.getElem_cons_succ]))
  (refine wpAnyH_ready (rs := [9]) (by kernel_rfl) (by simp) ?_; refine AllReadyH.cons rfl (fun K hK => ?_) AllReadyH.nil; go_simp; skip; refine hK.out _ _ ?_ (fun hHeldN => ?_); (focus ((try dsimp only); (exact Chg.set hHeld (by simp) 5 _))); clear hK K hHeld; have hHeld := hHeldN; clear hHeldN; (try simp only [Act.put, List.setIfInBounds_toArray, List.set_cons_zero, List.set_cons_succ, List.getElem_toArray, List.getElem_cons_zero, List.getElem_cons_succ]))
  (refine wpAnyH_take (i := 10) (v := ?_) rfl (by kernel_rfl) (by kernel_rfl) (by kernel_rfl) (fun _ _ _ h => h) (Or.inl ⟨by rfl, ?_⟩) hHeld ?_; rotate_left; (focus (intro w hSw; (try dsimp only at hSw); go_simp; try with_reducible rfl)); (try simp only [Act.put, List.setIfInBounds_toArray, List.set_cons_zero, List.set_cons_succ, List.getElem_toArray, List.getElem_cons_zero, List.getElem_cons_succ])); (refine wpAnyH_take (i := 11) (v := ?_) rfl (by kernel_rfl) (by kernel_rfl) (by kernel_rfl) (fun _ _ _ h => h) (Or.inl ⟨by rfl, ?_⟩) hHeld ?_; rotate_left; (focus (intro w hSw; (try dsimp only at hSw); go_simp; try with_reducible rfl)); (try simp only [Act.put, List.setIfInBounds_toArray, List.set_cons_zero, List.set_cons_succ, List.getElem_toArray, List.getElem_cons_zero, List.getElem_cons_succ]))
  (refine wpAnyH_ready (rs := [12]) (by kernel_rfl) (by simp) ?_; refine AllReadyH.cons rfl (fun K hK => ?_) AllReadyH.nil; go_simp; skip; refine hK.out _ _ ?_ (fun hHeldN => ?_); (focus ((try dsimp only); (exact Chg.set (Chg.set hHeld (by simp) 8 _) (by simp) 9 _))); clear hK K hHeld; have hHeld := hHeldN; clear hHeldN; (try simp only [Act.put, List.setIfInBounds_toArray, List.set_cons_zero, List.set_cons_succ, List.getElem_toArray, List.getElem_cons_zero, List.getElem_cons_succ]))
  (refine wpAnyH_take (i := 13) (v := ?_) rfl (by kernel_rfl) (by kernel_rfl) (by kernel_rfl) (fun _ _ _ h => h) (Or.inl ⟨by rfl, ?_⟩) hHeld ?_; rotate_left; (focus (intro w hSw; (try dsimp only at hSw); go_simp; try with_reducible rfl)); (try simp only [Act.put, List.setIfInBounds_toArray, List.set_cons_zero, List.set_cons_succ, List.getElem_toArray, List.getElem_cons_zero, List.getElem_cons_succ])); (refine wpAnyH_take (i := 14) (v := ?_) rfl (by kernel_rfl) (by kernel_rfl) (by kernel_rfl) (fun _ _ _ h => h) (Or.inl ⟨by rfl, ?_⟩) hHeld ?_; rotate_left; (focus (intro w hSw; (try dsimp only at hSw); go_simp; try with_reducible rfl)); (try simp only [Act.put, List.setIfInBounds_toArray, List.set_cons_zero, List.set_cons_succ, List.getElem_toArray, List.getElem_cons_zero, List.getElem_cons_succ]))
  (refine wpAnyH_ready (rs := [15]) (by kernel_rfl) (by simp) ?_; refine AllReadyH.cons rfl (fun K hK => ?_) AllReadyH.nil; go_simp; skip; refine hK.out _ _ ?_ (fun hHeldN => ?_); (focus ((try dsimp only); (exact Chg.set hHeld (by simp) 10 _))); clear hK K hHeld; have hHeld := hHeldN; clear hHeldN; (try simp only [Act.put, List.setIfInBounds_toArray, List.set_cons_zero, List.set_cons_succ, List.getElem_toArray, List.getElem_cons_zero, List.getElem_cons_succ]))
  refine wpAnyH_done (by kernel_rfl) ?_ _
  obtain ⟨z2, hz2⟩ : ∃ W, W = (((d0.setCell ⟨p, 5, none⟩ (.int .i64 1)).setCell ⟨p, 8, none⟩ (.int .u64 h.mb)).setCell ⟨p, 9, none⟩ (.int .u64 h.mt)).setCell ⟨p, 10, none⟩ (.int .i64 h.n) := ⟨_, rfl⟩
  rw [← hz2]
  rw [← hz2] at hHeld
  have HP5 : Hid (PA p ⟨a.node, a.every, a.dead, a.said, a.sil, setV a.v h⟩ z2) := by
    have : PA p ⟨a.node, a.every, a.dead, a.said, a.sil, setV a.v h⟩ z2 := by rw [hz2]; exact HPx.out.setHd h
    exact this
  have HH5 : Hid (HBk w.heap.size h z2) := by
    have : HBk w.heap.size h z2 := hHeld.blk HH4.out HNE.out
    exact this
  have HC5 : Hid (Chg [p] w z2) := by
    have : Chg [p] w z2 := HC4.out.trans hHeld
    exact this
  clear hHeld hz2 HPx c0 c1 c2 c3 c4 c5 c6 c7 c8 c9 c10 hfz
  have HPv : Hid (PA p ⟨a.node, a.every, a.dead, a.said, a.sil, V⟩ z2) := by
    have : PA p ⟨a.node, a.every, a.dead, a.said, a.sil, V⟩ z2 := by rw [HVV.out]; exact HP5.out
    exact this
  have hP := HPv.out
  have c4 := BlkAt.cell hP (j := 4) rfl
  have hfz : ∀ j, (z2).frozen? ⟨p, j, none⟩ = false := fun j => BlkAt.frozen hP j
  clear hP
  go_wp2_with fail
  obtain ⟨z3, hz3⟩ : ∃ W, W = z2.setCell ⟨p, 4, none⟩ (.int .i64 0) := ⟨_, rfl⟩
  rw [← hz3]
  have hCs : Chg [p] z2 z3 := by rw [hz3]; exact Chg.set (Chg.refl _ _) (by simp) 4 _
  have HP6 : Hid (PA p ⟨a.node, a.every, a.dead, a.said, 0, V⟩ z3) := by
    have : PA p ⟨a.node, a.every, a.dead, a.said, 0, V⟩ z3 := by rw [hz3]; exact HPv.out.setSil
    exact this
  have HH6 : Hid (HBk w.heap.size h z3) := by
    have : HBk w.heap.size h z3 := hCs.blk HH5.out HNE.out
    exact this
  have HC6 : Hid (Chg [p] w z3) := by
    have : Chg [p] w z3 := HC5.out.trans hCs
    exact this
  clear hz3 hCs HPv c4 hfz
  have hP := HP6.out
  have hH := HH6.out
  have c0 := BlkAt.cell hP (j := 0) rfl; have c1 := BlkAt.cell hP (j := 1) rfl; have c2 := BlkAt.cell hP (j := 2) rfl; have c3 := BlkAt.cell hP (j := 3) rfl; have c4 := BlkAt.cell hP (j := 4) rfl; have c5 := BlkAt.cell hP (j := 5) rfl; have c6 := BlkAt.cell hP (j := 6) rfl; have c7 := BlkAt.cell hP (j := 7) rfl; have c8 := BlkAt.cell hP (j := 8) rfl; have c9 := BlkAt.cell hP (j := 9) rfl; have c10 := BlkAt.cell hP (j := 10) rfl
  have g0 := BlkAt.cell hH (j := 0) rfl; have g1 := BlkAt.cell hH (j := 1) rfl; have g2 := BlkAt.cell hH (j := 2) rfl; have g3 := BlkAt.cell hH (j := 3) rfl; have g4 := BlkAt.cell hH (j := 4) rfl
  have hfz : ∀ j, (z3).frozen? ⟨p, j, none⟩ = false := fun j => BlkAt.frozen hP j
  clear hP hH
  go_quiet (fail)
  have HPn := Lib.hid (HP6.out.dr nq)
  have HCn := Lib.hid (HC6.out.dr nq)
  cases tU : sameTI h.hb h.ht V.mb V.mt with
  | false =>
    have HU : Hid (upV V h = V) := by
      have : upV V h = V := if_neg (by rw [tU]; simp)
      exact this
    go_wp2_with fail
    go_end0
    exact ⟨⟨_, rfl⟩, by rw [HU.out]; exact HPn.out, HCn.out⟩
  | true =>
    have HU : Hid (upV V h = ⟨2, V.mb, V.mt, V.tb, V.tt, V.n⟩) := by
      have : upV V h = ⟨2, V.mb, V.mt, V.tb, V.tt, V.n⟩ := if_pos tU
      exact this
    go_wp2_with fail
    go_end0
    exact ⟨⟨_, rfl⟩, by rw [HU.out]; exact HPn.out.setSt, HCn.out.set (by simp) 5 _⟩

set_option maxHeartbeats 8000000 in
set_option maxRecDepth 100000 in
theorem heedO {p : Nat} {a : Ad} {w : World} (hA : PA p a w) (h : Hl) (t0 : (h.n == a.node) = false) (tE : (h.n == a.v.n) = false) (tF : (h.n != a.v.n) = true) (tZ : sameTI a.v.tb a.v.tt 0 0 = false) :
    Calls Try.prog 26 #[.pointer (some ⟨p, 0, none⟩), .agg #[.int .i64 h.n, .int .u64 h.mb, .int .u64 h.mt, .int .u64 h.hb, .int .u64 h.ht]] w (HeA p a (upV (setV (anV a.v) h) h) w) := by
  unfold HeA
  obtain ⟨V, hV⟩ : ∃ V, V = setV (anV a.v) h := ⟨_, rfl⟩
  rw [← hV]
  have HVV := Lib.hid hV
  clear hV
  obtain ⟨w1, hw1⟩ : ∃ W, W = w.alloc (.cells #[.int .i64 h.n, .int .u64 h.mb, .int .u64 h.mt, .int .u64 h.hb, .int .u64 h.ht] 35) := ⟨_, rfl⟩
  have hb : Below w.heap.size w w1 := by rw [hw1]; exact (Below.refl _ _).alloc (Nat.le_refl _) _
  have HP1 := Lib.hid (hA.later hb)
  have HH1 : Hid (HBk w.heap.size h w1) := by
    have : HBk w.heap.size h w1 := by rw [hw1]; exact BlkAt.new w _
    exact this
  have HC1 := Lib.hid (Chg.of_below [p] hb)
  have HNE : Hid (w.heap.size ∉ [p]) := by
    have : w.heap.size ∉ [p] := by have := hA.lt; simp; omega
    exact this
  have HW := Lib.hid hw1
  clear hA hb hw1
  go_enter Try.func26, Try.ntmps26
  go_wp2_with fail
  rw [← HW.out]
  have hP := HP1.out
  have hH := HH1.out
  have c0 := BlkAt.cell hP (j := 0) rfl; have c1 := BlkAt.cell hP (j := 1) rfl; have c2 := BlkAt.cell hP (j := 2) rfl; have c3 := BlkAt.cell hP (j := 3) rfl; have c4 := BlkAt.cell hP (j := 4) rfl; have c5 := BlkAt.cell hP (j := 5) rfl; have c6 := BlkAt.cell hP (j := 6) rfl; have c7 := BlkAt.cell hP (j := 7) rfl; have c8 := BlkAt.cell hP (j := 8) rfl; have c9 := BlkAt.cell hP (j := 9) rfl; have c10 := BlkAt.cell hP (j := 10) rfl
  have g0 := BlkAt.cell hH (j := 0) rfl; have g1 := BlkAt.cell hH (j := 1) rfl; have g2 := BlkAt.cell hH (j := 2) rfl; have g3 := BlkAt.cell hH (j := 3) rfl; have g4 := BlkAt.cell hH (j := 4) rfl
  have hfz : ∀ j, (w1).frozen? ⟨p, j, none⟩ = false := fun j => BlkAt.frozen hP j
  clear hP hH
  go_wp2_with fail
  go_quiet (fail)
  obtain ⟨x2, hx2⟩ : ∃ W, W = World.drewN w1 nq := ⟨_, rfl⟩
  rw [← hx2]
  have HP2 : Hid (PA p a x2) := by
    have : PA p a x2 := by rw [hx2]; exact HP1.out
    exact this
  have HH2 : Hid (HBk w.heap.size h x2) := by
    have : HBk w.heap.size h x2 := by rw [hx2]; exact HH1.out
    exact this
  have HC2 : Hid (Chg [p] w x2) := by
    have : Chg [p] w x2 := by rw [hx2]; exact Chg.dr HC1.out _
    exact this
  clear hx2
  clear c0 c1 c2 c3 c4 c5 c6 c7 c8 c9 c10 g0 g1 g2 g3 g4 hfz
  go_wp2_with fail
  (refine wp_region_held_drew (S := (fun w' => Below x2.heap.size x2 w')) (by kernel_rfl) ?_ (fun hHeld => ?_); (focus ((try dsimp only); (exact (Below.refl _ _).drew))))
  (try dsimp only at hHeld)
  (refine wpAnyH_take (i := 0) (v := ?_) rfl (by kernel_rfl) (by kernel_rfl) (by kernel_rfl) (fun _ _ _ h => h) (Or.inl ⟨by rfl, ?_⟩) hHeld ?_; rotate_left; (focus (intro w hSw; (try dsimp only at hSw); go_simp; try with_reducible rfl)); (try simp only [Act.put, List.setIfInBounds_toArray, List.set_cons_zero, List.set_cons_succ, List.getElem_toArray, List.getElem_cons_zero])); (refine wpAnyH_take (i := 1) (v := ?_) rfl (by kernel_rfl) (by kernel_rfl) (by kernel_rfl) (fun _ _ _ h => h) (Or.inl ⟨by rfl, ?_⟩) hHeld ?_; rotate_left; (focus (intro w hSw; (try dsimp only at hSw); go_simp; try with_reducible rfl)); (try simp only [Act.put, List.setIfInBounds_toArray, List.set_cons_zero, List.set_cons_succ, List.getElem_toArray, List.getElem_cons_zero, List.getElem_cons_succ])); (refine wpAnyH_take (i := 2) (v := ?_) rfl (by kernel_rfl) (by kernel_rfl) (by kernel_rfl) (fun _ _ _ h => h) (Or.inl ⟨by rfl, ?_⟩) hHeld ?_; rotate_left; (focus (intro w hSw; (try dsimp only at hSw); go_simp; try with_reducible rfl)); (try simp only [Act.put, List.setIfInBounds_toArray, List.set_cons_zero, List.set_cons_succ, List.getElem_toArray, List.getElem_cons_zero, List.getElem_cons_succ]))
  (refine wpAnyH_take (i := 3) (v := ?_) rfl (by kernel_rfl) (by kernel_rfl) (by kernel_rfl) (fun _ _ _ h => h) (Or.inl ⟨by rfl, ?_⟩) hHeld ?_; rotate_left; (focus (intro w hSw; (try dsimp only at hSw); go_simp; (have e0 := BlkAt.cell (BlkAt.later HP2.out hSw) (j := 0) rfl; have e1 := BlkAt.cell (BlkAt.later HP2.out hSw) (j := 1) rfl; have e2 := BlkAt.cell (BlkAt.later HP2.out hSw) (j := 2) rfl; have e3 := BlkAt.cell (BlkAt.later HP2.out hSw) (j := 3) rfl; have e4 := BlkAt.cell (BlkAt.later HP2.out hSw) (j := 4) rfl; have e5 := BlkAt.cell (BlkAt.later HP2.out hSw) (j := 5) rfl; have e6 := BlkAt.cell (BlkAt.later HP2.out hSw) (j := 6) rfl; have e7 := BlkAt.cell (BlkAt.later HP2.out hSw) (j := 7) rfl; have e8 := BlkAt.cell (BlkAt.later HP2.out hSw) (j := 8) rfl; have e9 := BlkAt.cell (BlkAt.later HP2.out hSw) (j := 9) rfl; have e10 := BlkAt.cell (BlkAt.later HP2.out hSw) (j := 10) rfl; go_simp; try with_reducible rfl))); (try simp only [Act.put, List.setIfInBounds_toArray, List.set_cons_zero, List.set_cons_succ, List.getElem_toArray, List.getElem_cons_zero, List.getElem_cons_succ]))
  (refine wpAnyH_ready (rs := [4]) (by kernel_rfl) (by simp) ?_; refine AllReadyH.cons rfl (fun K hK => ?_) AllReadyH.nil; go_simp; refine (zeroW a.v.tb a.v.tt _).mono ?_; rintro e y4 ⟨rfl, hs⟩; rw [tZ]; refine hK.out _ _ ?_ (fun hHeldN => ?_); (focus ((try dsimp only); (exact hHeld.trans (hs.mono hHeld.size)))); clear hK K hHeld; have hHeld := hHeldN; clear hHeldN; (try simp only [Act.put, List.setIfInBounds_toArray, List.set_cons_zero, List.set_cons_succ, List.getElem_toArray, List.getElem_cons_zero, List.getElem_cons_succ]))
  (refine wpAnyH_take (i := 5) (v := ?_) rfl (by kernel_rfl) (by kernel_rfl) (by kernel_rfl) (fun _ _ _ h => h) (Or.inl ⟨by rfl, ?_⟩) hHeld ?_; rotate_left; (focus (intro w hSw; (try dsimp only at hSw); go_simp; try with_reducible rfl)); (try simp only [Act.put, List.setIfInBounds_toArray, List.set_cons_zero, List.set_cons_succ, List.getElem_toArray, List.getElem_cons_zero, List.getElem_cons_succ])); (refine wpAnyH_take (i := 6) (v := ?_) rfl (by kernel_rfl) (by kernel_rfl) (by kernel_rfl) (fun _ _ _ h => h) (Or.inl ⟨by rfl, ?_⟩) hHeld ?_; rotate_left; (focus (intro w hSw; (try dsimp only at hSw); go_simp; try with_reducible rfl)); (try simp only [Act.put, List.setIfInBounds_toArray, List.set_cons_zero, List.set_cons_succ, List.getElem_toArray, List.getElem_cons_zero, List.getElem_cons_succ])); (refine wpAnyH_take (i := 7) (v := ?_) rfl (by kernel_rfl) (by kernel_rfl) (by kernel_rfl) (fun _ _ _ h => h) (Or.inl ⟨by rfl, ?_⟩) hHeld ?_; rotate_left; (focus (intro w hSw; (try dsimp only at hSw); go_simp; try with_reducible rfl)); (try simp only [Act.put, List.setIfInBounds_toArray, List.set_cons_zero, List.set_cons_succ, List.getElem_toArray, List.getElem_cons_zero, List.getElem_cons_succ]))
  (refine wpAnyH_take (i := 8) (v := ?_) rfl (by kernel_rfl) (by kernel_rfl) (by kernel_rfl) (fun _ _ _ h => h) (Or.inl ⟨by rfl, ?_⟩) hHeld ?_; rotate_left; (focus (intro w hSw; (try dsimp only at hSw); go_simp; (have e0 := BlkAt.cell (BlkAt.later HH2.out hSw) (j := 0) rfl; have e1 := BlkAt.cell (BlkAt.later HH2.out hSw) (j := 1) rfl; have e2 := BlkAt.cell (BlkAt.later HH2.out hSw) (j := 2) rfl; have e3 := BlkAt.cell (BlkAt.later HH2.out hSw) (j := 3) rfl; have e4 := BlkAt.cell (BlkAt.later HH2.out hSw) (j := 4) rfl; go_simp; try with_reducible rfl))); (try simp only [Act.put, List.setIfInBounds_toArray, List.set_cons_zero, List.set_cons_succ, List.getElem_toArray, List.getElem_cons_zero, List.getElem_cons_succ]))
  (refine wpAnyH_take (i := 9) (v := ?_) rfl (by kernel_rfl) (by kernel_rfl) (by kernel_rfl) (fun _ _ _ h => h) (Or.inl ⟨by rfl, ?_⟩) hHeld ?_; rotate_left; (focus (intro w hSw; (try dsimp only at hSw); go_simp; try with_reducible rfl)); (try simp only [Act.put, List.setIfInBounds_toArray, List.set_cons_zero, List.set_cons_succ, List.getElem_toArray, List.getElem_cons_zero, List.getElem_cons_succ])); (refine wpAnyH_take (i := 10) (v := ?_) rfl (by kernel_rfl) (by kernel_rfl) (by kernel_rfl) (fun _ _ _ h => h) (Or.inl ⟨by rfl, ?_⟩) hHeld ?_; rotate_left; (focus (intro w hSw; (try dsimp only at hSw); go_simp; try with_reducible rfl)); (try simp only [Act.put, List.setIfInBounds_toArray, List.set_cons_zero, List.set_cons_succ, List.getElem_toArray, List.getElem_cons_zero, List.getElem_cons_succ])); (refine wpAnyH_take (i := 11) (v := ?_) rfl (by kernel_rfl) (by kernel_rfl) (by kernel_rfl) (fun _ _ _ h => h) (Or.inl ⟨by rfl, ?_⟩) hHeld ?_; rotate_left; (focus (intro w hSw; (try dsimp only at hSw); go_simp; try with_reducible rfl)); (try simp only [Act.put, List.setIfInBounds_toArray, List.set_cons_zero, List.set_cons_succ, List.getElem_toArray, List.getElem_cons_zero, List.getElem_cons_succ]))
  (refine wpAnyH_take (i := 12) (v := ?_) rfl (by kernel_rfl) (by kernel_rfl) (by kernel_rfl) (fun _ _ _ h => h) (Or.inl ⟨by rfl, ?_⟩) hHeld ?_; rotate_left; (focus (intro w hSw; (try dsimp only at hSw); go_simp; (have e0 := BlkAt.cell (BlkAt.later HP2.out hSw) (j := 0) rfl; have e1 := BlkAt.cell (BlkAt.later HP2.out hSw) (j := 1) rfl; have e2 := BlkAt.cell (BlkAt.later HP2.out hSw) (j := 2) rfl; have e3 := BlkAt.cell (BlkAt.later HP2.out hSw) (j := 3) rfl; have e4 := BlkAt.cell (BlkAt.later HP2.out hSw) (j := 4) rfl; have e5 := BlkAt.cell (BlkAt.later HP2.out hSw) (j := 5) rfl; have e6 := BlkAt.cell (BlkAt.later HP2.out hSw) (j := 6) rfl; have e7 := BlkAt.cell (BlkAt.later HP2.out hSw) (j := 7) rfl; have e8 := BlkAt.cell (BlkAt.later HP2.out hSw) (j := 8) rfl; have e9 := BlkAt.cell (BlkAt.later HP2.out hSw) (j := 9) rfl; have e10 := BlkAt.cell (BlkAt.later HP2.out hSw) (j := 10) rfl; go_simp; try with_reducible rfl))); (try simp only [Act.put, List.setIfInBounds_toArray, List.set_cons_zero, List.set_cons_succ, List.getElem_toArray, List.getElem_cons_zero, List.getElem_cons_succ]))
  (refine wpAnyH_take (i := 13) (v := ?_) rfl (by kernel_rfl) (by kernel_rfl) (by kernel_rfl) (fun _ _ _ h => h) (Or.inl ⟨by rfl, ?_⟩) hHeld ?_; rotate_left; (focus (intro w hSw; (try dsimp only at hSw); go_simp; try with_reducible rfl)); (try simp only [Act.put, List.setIfInBounds_toArray, List.set_cons_zero, List.set_cons_succ, List.getElem_toArray, List.getElem_cons_zero, List.getElem_cons_succ])); (refine wpAnyH_take (i := 14) (v := ?_) rfl (by kernel_rfl) (by kernel_rfl) (by kernel_rfl) (fun _ _ _ h => h) (Or.inl ⟨by rfl, ?_⟩) hHeld ?_; rotate_left; (focus (intro w hSw; (try dsimp only at hSw); go_simp; try with_reducible rfl)); (try simp only [Act.put, List.setIfInBounds_toArray, List.set_cons_zero, List.set_cons_succ, List.getElem_toArray, List.getElem_cons_zero, List.getElem_cons_succ])); (refine wpAnyH_take (i := 15) (v := ?_) rfl (by kernel_rfl) (by kernel_rfl) (by kernel_rfl) (fun _ _ _ h => h) (Or.inl ⟨by rfl, ?_⟩) hHeld ?_; rotate_left; (focus (intro w hSw; (try dsimp only at hSw); go_simp; try with_reducible rfl)); (try simp only [Act.put, List.setIfInBounds_toArray, List.set_cons_zero, List.set_cons_succ, List.getElem_toArray, List.getElem_cons_zero, List.getElem_cons_succ]))
  refine wpAnyH_done (by kernel_rfl) ?_ _
  have HP3 : Hid (PA p a y4) := by
    have : PA p a y4 := HP2.out.later hHeld
    exact this
  have HH3 : Hid (HBk w.heap.size h y4) := by
    have : HBk w.heap.size h y4 := BlkAt.later HH2.out hHeld
    exact this
  have HC3 : Hid (Chg [p] w y4) := by
    have : Chg [p] w y4 := HC2.out.trans (Chg.of_below _ hHeld)
    exact this
  clear hHeld hs
  have HA := Lib.hid (anewW HP3.out)
  go_wp2_with fail
  refine HA.out.mono ?_
  rintro e z1 ⟨⟨_, rfl⟩, hP, hC⟩
  have HP4 : Hid (PA p (dropA a) z1) := by
    have : PA p (dropA a) z1 := hP
    exact this
  have HH4 : Hid (HBk w.heap.size h z1) := by
    have : HBk w.heap.size h z1 := hC.blk HH3.out HNE.out
    exact this
  have HC4 : Hid (Chg [p] w z1) := by
    have : Chg [p] w z1 := HC3.out.trans hC
    exact this
  clear hP hC
  go_wp2_with fail
  have HPx : Hid (PA p (dropA a) (World.drew z1)) := by
    have : PA p (dropA a) (World.drew z1) := HP4.out
    exact this
  (refine wp_region_held_drew (S := (fun w' => Chg [p] z1 w')) (by kernel_rfl) ?_ (fun hHeld => ?_); (focus ((try dsimp only); (exact (Chg.refl _ _).drew))))
  (try dsimp only at hHeld)
  obtain ⟨d0, hd0⟩ : ∃ W0, W0 = World.drew z1 := ⟨_, rfl⟩
  rw [← hd0]
  rw [← hd0] at hHeld HPx
  clear hd0
  have hP := HPx.out
  have c0 := BlkAt.cell hP (j := 0) rfl; have c1 := BlkAt.cell hP (j := 1) rfl; have c2 := BlkAt.cell hP (j := 2) rfl; have c3 := BlkAt.cell hP (j := 3) rfl; have c4 := BlkAt.cell hP (j := 4) rfl; have c5 := BlkAt.cell hP (j := 5) rfl; have c6 := BlkAt.cell hP (j := 6) rfl; have c7 := BlkAt.cell hP (j := 7) rfl; have c8 := BlkAt.cell hP (j := 8) rfl; have c9 := BlkAt.cell hP (j := 9) rfl; have c10 := BlkAt.cell hP (j := 10) rfl
  have hfz : ∀ j, d0.frozen? ⟨p, j, none⟩ = false := fun j => BlkAt.frozen hP j
  clear hP
  (refine wpAnyH_take (i := 0) (v := ?_) rfl (by kernel_rfl) (by kernel_rfl) (by kernel_rfl) (fun _ _ _ h => h) (Or.inl ⟨by rfl, ?_⟩) hHeld ?_; rotate_left; (focus (intro w hSw; (try dsimp only at hSw); go_simp; try with_reducible rfl)); (try simp only [Act.put, List.setIfInBounds_toArray, List.set_cons_zero, List.set_cons_succ, List.getElem_toArray, List.getElem_cons_zero])); (refine wpAnyH_take (i := 1) (v := ?_) rfl (by kernel_rfl) (by kernel_rfl) (by kernel_rfl) (fun _ _ _ h => h) (Or.inl ⟨by rfl, ?_⟩) hHeld ?_; rotate_left; (focus (intro w hSw; (try dsimp only at hSw); go_simp; try with_reducible rfl)); (try simp only [Act.put, List.setIfInBounds_toArray, List.set_cons_zero, List.set_cons_succ, List.getElem_toArray, List.getElem_cons_zero, List.getElem_cons_succ])); (refine wpAnyH_take (i := 2) (v := ?_) rfl (by kernel_rfl) (by kernel_rfl) (by kernel_rfl) (fun _ _ _ h => h) (Or.inl ⟨by rfl, ?_⟩) hHeld ?_; rotate_left; (focus (intro w hSw; (try dsimp only at hSw); go_simp; try with_reducible rfl)); (try simp only [Act.put, List.setIfInBounds_toArray, List.set_cons_zero, List.set_cons_succ, List.getElem_toArray, List.getElem_cons_zero, List.getElem_cons_succ])); (refine wpAnyH_take (i := 3) (v := ?_) rfl (by kernel_rfl) (by kernel_rfl) (by kernel_rfl) (fun _ _ _ h => h) (Or.inl ⟨by rfl, ?_⟩) hHeld ?_; rotate_left; (focus (intro w hSw; (try dsimp only at hSw); go_simp; try with_reducible rfl)); (try simp only [Act.put, List.setIfInBounds_toArray, List.set_cons_zero, List.set_cons_succ, List.getElem_toArray, List.getElem_cons_zero, List.getElem_cons_succ]))
  (refine wpAnyH_take (i := 4) (v := ?_) rfl (by kernel_rfl) (by kernel_rfl) (by kernel_rfl) (fun _ _ _ h => h) (Or.inl ⟨by rfl, ?_⟩) hHeld ?_; rotate_left; (focus (intro w hSw; (try dsimp only at hSw); go_simp; (have e0 := BlkAt.cell (Chg.blk hSw HH4.out HNE.out) (j := 0) rfl; have e1 := BlkAt.cell (Chg.blk hSw HH4.out HNE.out) (j := 1) rfl; have e2 := BlkAt.cell (Chg.blk hSw HH4.out HNE.out) (j := 2) rfl; have e3 := BlkAt.cell (Chg.blk hSw HH4.out HNE.out) (j := 3) rfl; have e4 := BlkAt.cell (Chg.blk hSw HH4.out HNE.out) (j := 4) rfl; go_simp; try with_reducible rfl))); (try simp only [Act.put, List.setIfInBounds_toArray, List.set_cons_zero, List.set_cons_succ, List.getElem_toArray, List.getElem_cons_zero, List.getElem_cons_succ]))
  (refine wpAnyH_take (i := 5) (v := ?_) rfl (by kernel_rfl) (by kernel_rfl) (by kernel_rfl) (fun _ _ _ h => h) (Or.inl ⟨by rfl, ?_⟩) hHeld ?_; rotate_left; (focus (intro w hSw; (try dsimp only at hSw); go_simp; try with_reducible rfl)); (try simp only [Act.put, List.setIfInBounds_toArray, List.set_cons_zero, List.set_cons_succ, List.getElem_toArray, List.getElem_cons_zero, List.getElem_cons_succ]))
  (refine wpAnyH_take (i := 6) (v := ?_) rfl (by kernel_rfl) (by kernel_rfl) (by kernel_rfl) (fun _ _ _ h => h) (Or.inl ⟨by rfl, ?_⟩) hHeld ?_; rotate_left; (focus (intro w hSw; (try dsimp only at hSw); go_simp; (have e0 := BlkAt.cell (Chg.blk hSw HH4.out HNE.out) (j := 0) rfl; have e1 := BlkAt.cell (Chg.blk hSw HH4.out HNE.out) (j := 1) rfl; have e2 := BlkAt.cell (Chg.blk hSw HH4.out HNE.out) (j := 2) rfl; have e3 := BlkAt.cell (Chg.blk hSw HH4.out HNE.out) (j := 3) rfl; have e4 := BlkAt.cell (Chg.blk hSw HH4.out HNE.out) (j := 4) rfl; go_simp; try with_reducible rfl))); (try simp only [Act.put, List.setIfInBounds_toArray, List.set_cons_zero, List.set_cons_succ, List.getElem_toArray, List.getElem_cons_zero, List.getElem_cons_succ]))
  (refine wpAnyH_take (i := 7) (v := ?_) rfl (by kernel_rfl) (by kernel_rfl) (by kernel_rfl) (fun _ _ _ h => h) (Or.inl ⟨by rfl, ?_⟩) hHeld ?_; rotate_left; (focus (intro w hSw; (try dsimp only at hSw); go_simp; try with_reducible rfl)); (try simp only [Act.put, List.setIfInBounds_toArray, List.set_cons_zero, List.set_cons_succ, List.getElem_toArray, List.getElem_cons_zero, List.getElem_cons_succ])); (refine wpAnyH_take (i := 8) (v := ?_) rfl (by kernel_rfl) (by kernel_rfl) (by kernel_rfl) (fun _ _ _ h => h) (Or.inl ⟨by rfl, ?_⟩) hHeld ?_; rotate_left; (focus (intro w hSw; (try dsimp only at hSw); go_simp; try with_reducible rfl)); (try simp only [Act.put, List.setIfInBounds_toArray, List.set_cons_zero, List.set_cons_succ, List.getElem_toArray, List.getElem_cons_zero, List.getElem_cons_succ]))
  (refine wpAnyH_ready (rs := [9]) (by kernel_rfl) (by simp) ?_; refine AllReadyH.cons rfl (fun K hK => ?_) AllReadyH.nil; go_simp; skip; refine hK.out _ _ ?_ (fun hHeldN => ?_); (focus ((try dsimp only); (exact Chg.set hHeld (by simp) 5 _))); clear hK K hHeld; have hHeld := hHeldN; clear hHeldN; (try simp only [Act.put, List.setIfInBounds_toArray, List.set_cons_zero, List.set_cons_succ, List.getElem_toArray, List.getElem_cons_zero, List.getElem_cons_succ]))
  (refine wpAnyH_take (i := 10) (v := ?_) rfl (by kernel_rfl) (by kernel_rfl) (by kernel_rfl) (fun _ _ _ h => h) (Or.inl ⟨by rfl, ?_⟩) hHeld ?_; rotate_left; (focus (intro w hSw; (try dsimp only at hSw); go_simp; try with_reducible rfl)); (try simp only [Act.put, List.setIfInBounds_toArray, List.set_cons_zero, List.set_cons_succ, List.getElem_toArray, List.getElem_cons_zero, List.getElem_cons_succ])); (refine wpAnyH_take (i := 11) (v := ?_) rfl (by kernel_rfl) (by kernel_rfl) (by kernel_rfl) (fun _ _ _ h => h) (Or.inl ⟨by rfl, ?_⟩) hHeld ?_; rotate_left; (focus (intro w hSw; (try dsimp only at hSw); go_simp; try with_reducible rfl)); (try simp only [Act.put, List.setIfInBounds_toArray, List.set_cons_zero, List.set_cons_succ, List.getElem_toArray, List.getElem_cons_zero, List.getElem_cons_succ]))
  (refine wpAnyH_ready (rs := [12]) (by kernel_rfl) (by simp) ?_; refine AllReadyH.cons rfl (fun K hK => ?_) AllReadyH.nil; go_simp; skip; refine hK.out _ _ ?_ (fun hHeldN => ?_); (focus ((try dsimp only); (exact Chg.set (Chg.set hHeld (by simp) 8 _) (by simp) 9 _))); clear hK K hHeld; have hHeld := hHeldN; clear hHeldN; (try simp only [Act.put, List.setIfInBounds_toArray, List.set_cons_zero, List.set_cons_succ, List.getElem_toArray, List.getElem_cons_zero, List.getElem_cons_succ]))
  (refine wpAnyH_take (i := 13) (v := ?_) rfl (by kernel_rfl) (by kernel_rfl) (by kernel_rfl) (fun _ _ _ h => h) (Or.inl ⟨by rfl, ?_⟩) hHeld ?_; rotate_left; (focus (intro w hSw; (try dsimp only at hSw); go_simp; try with_reducible rfl)); (try simp only [Act.put, List.setIfInBounds_toArray, List.set_cons_zero, List.set_cons_succ, List.getElem_toArray, List.getElem_cons_zero, List.getElem_cons_succ])); (refine wpAnyH_take (i := 14) (v := ?_) rfl (by kernel_rfl) (by kernel_rfl) (by kernel_rfl) (fun _ _ _ h => h) (Or.inl ⟨by rfl, ?_⟩) hHeld ?_; rotate_left; (focus (intro w hSw; (try dsimp only at hSw); go_simp; try with_reducible rfl)); (try simp only [Act.put, List.setIfInBounds_toArray, List.set_cons_zero, List.set_cons_succ, List.getElem_toArray, List.getElem_cons_zero, List.getElem_cons_succ]))
  (refine wpAnyH_ready (rs := [15]) (by kernel_rfl) (by simp) ?_; refine AllReadyH.cons rfl (fun K hK => ?_) AllReadyH.nil; go_simp; skip; refine hK.out _ _ ?_ (fun hHeldN => ?_); (focus ((try dsimp only); (exact Chg.set hHeld (by simp) 10 _))); clear hK K hHeld; have hHeld := hHeldN; clear hHeldN; (try simp only [Act.put, List.setIfInBounds_toArray, List.set_cons_zero, List.set_cons_succ, List.getElem_toArray, List.getElem_cons_zero, List.getElem_cons_succ]))
  refine wpAnyH_done (by kernel_rfl) ?_ _
  obtain ⟨z2, hz2⟩ : ∃ W, W = (((d0.setCell ⟨p, 5, none⟩ (.int .i64 1)).setCell ⟨p, 8, none⟩ (.int .u64 h.mb)).setCell ⟨p, 9, none⟩ (.int .u64 h.mt)).setCell ⟨p, 10, none⟩ (.int .i64 h.n) := ⟨_, rfl⟩
  rw [← hz2]
  rw [← hz2] at hHeld
  have HP5 : Hid (PA p ⟨a.node, a.every, a.dead, a.said, a.sil, setV (anV a.v) h⟩ z2) := by
    have : PA p ⟨a.node, a.every, a.dead, a.said, a.sil, setV (anV a.v) h⟩ z2 := by rw [hz2]; exact HPx.out.setHd h
    exact this
  have HH5 : Hid (HBk w.heap.size h z2) := by
    have : HBk w.heap.size h z2 := hHeld.blk HH4.out HNE.out
    exact this
  have HC5 : Hid (Chg [p] w z2) := by
    have : Chg [p] w z2 := HC4.out.trans hHeld
    exact this
  clear hHeld hz2 HPx c0 c1 c2 c3 c4 c5 c6 c7 c8 c9 c10 hfz
  have HPv : Hid (PA p ⟨a.node, a.every, a.dead, a.said, a.sil, V⟩ z2) := by
    have : PA p ⟨a.node, a.every, a.dead, a.said, a.sil, V⟩ z2 := by rw [HVV.out]; exact HP5.out
    exact this
  have hP := HPv.out
  have c4 := BlkAt.cell hP (j := 4) rfl
  have hfz : ∀ j, (z2).frozen? ⟨p, j, none⟩ = false := fun j => BlkAt.frozen hP j
  clear hP
  go_wp2_with fail
  obtain ⟨z3, hz3⟩ : ∃ W, W = z2.setCell ⟨p, 4, none⟩ (.int .i64 0) := ⟨_, rfl⟩
  rw [← hz3]
  have hCs : Chg [p] z2 z3 := by rw [hz3]; exact Chg.set (Chg.refl _ _) (by simp) 4 _
  have HP6 : Hid (PA p ⟨a.node, a.every, a.dead, a.said, 0, V⟩ z3) := by
    have : PA p ⟨a.node, a.every, a.dead, a.said, 0, V⟩ z3 := by rw [hz3]; exact HPv.out.setSil
    exact this
  have HH6 : Hid (HBk w.heap.size h z3) := by
    have : HBk w.heap.size h z3 := hCs.blk HH5.out HNE.out
    exact this
  have HC6 : Hid (Chg [p] w z3) := by
    have : Chg [p] w z3 := HC5.out.trans hCs
    exact this
  clear hz3 hCs HPv c4 hfz
  have hP := HP6.out
  have hH := HH6.out
  have c0 := BlkAt.cell hP (j := 0) rfl; have c1 := BlkAt.cell hP (j := 1) rfl; have c2 := BlkAt.cell hP (j := 2) rfl; have c3 := BlkAt.cell hP (j := 3) rfl; have c4 := BlkAt.cell hP (j := 4) rfl; have c5 := BlkAt.cell hP (j := 5) rfl; have c6 := BlkAt.cell hP (j := 6) rfl; have c7 := BlkAt.cell hP (j := 7) rfl; have c8 := BlkAt.cell hP (j := 8) rfl; have c9 := BlkAt.cell hP (j := 9) rfl; have c10 := BlkAt.cell hP (j := 10) rfl
  have g0 := BlkAt.cell hH (j := 0) rfl; have g1 := BlkAt.cell hH (j := 1) rfl; have g2 := BlkAt.cell hH (j := 2) rfl; have g3 := BlkAt.cell hH (j := 3) rfl; have g4 := BlkAt.cell hH (j := 4) rfl
  have hfz : ∀ j, (z3).frozen? ⟨p, j, none⟩ = false := fun j => BlkAt.frozen hP j
  clear hP hH
  go_quiet (fail)
  have HPn := Lib.hid (HP6.out.dr nq)
  have HCn := Lib.hid (HC6.out.dr nq)
  cases tU : sameTI h.hb h.ht V.mb V.mt with
  | false =>
    have HU : Hid (upV V h = V) := by
      have : upV V h = V := if_neg (by rw [tU]; simp)
      exact this
    go_wp2_with fail
    go_end0
    exact ⟨⟨_, rfl⟩, by rw [HU.out]; exact HPn.out, HCn.out⟩
  | true =>
    have HU : Hid (upV V h = ⟨2, V.mb, V.mt, V.tb, V.tt, V.n⟩) := by
      have : upV V h = ⟨2, V.mb, V.mt, V.tb, V.tt, V.n⟩ := if_pos tU
      exact this
    go_wp2_with fail
    go_end0
    exact ⟨⟨_, rfl⟩, by rw [HU.out]; exact HPn.out.setSt, HCn.out.set (by simp) 5 _⟩

set_option maxHeartbeats 8000000 in
set_option maxRecDepth 100000 in
theorem heedP {p : Nat} {a : Ad} {w : World} (hA : PA p a w) (h : Hl) (t0 : (h.n == a.node) = false) (tE : (h.n == a.v.n) = true) (tF : (h.n != a.v.n) = false) (tD : eldI h.mb h.mt a.v.tb a.v.tt = false) (tZ : sameTI a.v.tb a.v.tt 0 0 = false) (tM : sameTI h.mb h.mt a.v.tb a.v.tt = false) :
    Calls Try.prog 26 #[.pointer (some ⟨p, 0, none⟩), .agg #[.int .i64 h.n, .int .u64 h.mb, .int .u64 h.mt, .int .u64 h.hb, .int .u64 h.ht]] w (HeA p a (upV (setV a.v h) h) w) := by
  unfold HeA
  obtain ⟨V, hV⟩ : ∃ V, V = setV a.v h := ⟨_, rfl⟩
  rw [← hV]
  have HVV := Lib.hid hV
  clear hV
  obtain ⟨w1, hw1⟩ : ∃ W, W = w.alloc (.cells #[.int .i64 h.n, .int .u64 h.mb, .int .u64 h.mt, .int .u64 h.hb, .int .u64 h.ht] 35) := ⟨_, rfl⟩
  have hb : Below w.heap.size w w1 := by rw [hw1]; exact (Below.refl _ _).alloc (Nat.le_refl _) _
  have HP1 := Lib.hid (hA.later hb)
  have HH1 : Hid (HBk w.heap.size h w1) := by
    have : HBk w.heap.size h w1 := by rw [hw1]; exact BlkAt.new w _
    exact this
  have HC1 := Lib.hid (Chg.of_below [p] hb)
  have HNE : Hid (w.heap.size ∉ [p]) := by
    have : w.heap.size ∉ [p] := by have := hA.lt; simp; omega
    exact this
  have HW := Lib.hid hw1
  clear hA hb hw1
  go_enter Try.func26, Try.ntmps26
  go_wp2_with fail
  rw [← HW.out]
  (refine wp_region_held_drew (S := (fun w' => Below w1.heap.size w1 w')) (by kernel_rfl) ?_ (fun hHeld => ?_); (focus ((try dsimp only); (exact (Below.refl _ _).drew))))
  (try dsimp only at hHeld)
  (refine wpAnyH_take (i := 0) (v := ?_) rfl (by kernel_rfl) (by kernel_rfl) (by kernel_rfl) (fun _ _ _ h => h) (Or.inl ⟨by rfl, ?_⟩) hHeld ?_; rotate_left; (focus (intro w hSw; (try dsimp only at hSw); go_simp; try with_reducible rfl)); (try simp only [Act.put, List.setIfInBounds_toArray, List.set_cons_zero, List.set_cons_succ, List.getElem_toArray, List.getElem_cons_zero]))
  (refine wpAnyH_take (i := 1) (v := ?_) rfl (by kernel_rfl) (by kernel_rfl) (by kernel_rfl) (fun _ _ _ h => h) (Or.inl ⟨by rfl, ?_⟩) hHeld ?_; rotate_left; (focus (intro w hSw; (try dsimp only at hSw); go_simp; (have e0 := BlkAt.cell (BlkAt.later HH1.out hSw) (j := 0) rfl; have e1 := BlkAt.cell (BlkAt.later HH1.out hSw) (j := 1) rfl; have e2 := BlkAt.cell (BlkAt.later HH1.out hSw) (j := 2) rfl; have e3 := BlkAt.cell (BlkAt.later HH1.out hSw) (j := 3) rfl; have e4 := BlkAt.cell (BlkAt.later HH1.out hSw) (j := 4) rfl; go_simp; try with_reducible rfl))); (try simp only [Act.put, List.setIfInBounds_toArray, List.set_cons_zero, List.set_cons_succ, List.getElem_toArray, List.getElem_cons_zero, List.getElem_cons_succ]))
  (refine wpAnyH_take (i := 2) (v := ?_) rfl (by kernel_rfl) (by kernel_rfl) (by kernel_rfl) (fun _ _ _ h => h) (Or.inl ⟨by rfl, ?_⟩) hHeld ?_; rotate_left; (focus (intro w hSw; (try dsimp only at hSw); go_simp; try with_reducible rfl)); (try simp only [Act.put, List.setIfInBounds_toArray, List.set_cons_zero, List.set_cons_succ, List.getElem_toArray, List.getElem_cons_zero, List.getElem_cons_succ])); (refine wpAnyH_take (i := 3) (v := ?_) rfl (by kernel_rfl) (by kernel_rfl) (by kernel_rfl) (fun _ _ _ h => h) (Or.inl ⟨by rfl, ?_⟩) hHeld ?_; rotate_left; (focus (intro w hSw; (try dsimp only at hSw); go_simp; try with_reducible rfl)); (try simp only [Act.put, List.setIfInBounds_toArray, List.set_cons_zero, List.set_cons_succ, List.getElem_toArray, List.getElem_cons_zero, List.getElem_cons_succ])); (refine wpAnyH_take (i := 4) (v := ?_) rfl (by kernel_rfl) (by kernel_rfl) (by kernel_rfl) (fun _ _ _ h => h) (Or.inl ⟨by rfl, ?_⟩) hHeld ?_; rotate_left; (focus (intro w hSw; (try dsimp only at hSw); go_simp; try with_reducible rfl)); (try simp only [Act.put, List.setIfInBounds_toArray, List.set_cons_zero, List.set_cons_succ, List.getElem_toArray, List.getElem_cons_zero, List.getElem_cons_succ]))
  (refine wpAnyH_take (i := 5) (v := ?_) rfl (by kernel_rfl) (by kernel_rfl) (by kernel_rfl) (fun _ _ _ h => h) (Or.inl ⟨by rfl, ?_⟩) hHeld ?_; rotate_left; (focus (intro w hSw; (try dsimp only at hSw); go_simp; (have e0 := BlkAt.cell (BlkAt.later HP1.out hSw) (j := 0) rfl; have e1 := BlkAt.cell (BlkAt.later HP1.out hSw) (j := 1) rfl; have e2 := BlkAt.cell (BlkAt.later HP1.out hSw) (j := 2) rfl; have e3 := BlkAt.cell (BlkAt.later HP1.out hSw) (j := 3) rfl; have e4 := BlkAt.cell (BlkAt.later HP1.out hSw) (j := 4) rfl; have e5 := BlkAt.cell (BlkAt.later HP1.out hSw) (j := 5) rfl; have e6 := BlkAt.cell (BlkAt.later HP1.out hSw) (j := 6) rfl; have e7 := BlkAt.cell (BlkAt.later HP1.out hSw) (j := 7) rfl; have e8 := BlkAt.cell (BlkAt.later HP1.out hSw) (j := 8) rfl; have e9 := BlkAt.cell (BlkAt.later HP1.out hSw) (j := 9) rfl; have e10 := BlkAt.cell (BlkAt.later HP1.out hSw) (j := 10) rfl; go_simp; try with_reducible rfl))); (try simp only [Act.put, List.setIfInBounds_toArray, List.set_cons_zero, List.set_cons_succ, List.getElem_toArray, List.getElem_cons_zero, List.getElem_cons_succ]))
  (refine wpAnyH_take (i := 6) (v := ?_) rfl (by kernel_rfl) (by kernel_rfl) (by kernel_rfl) (fun _ _ _ h => h) (Or.inl ⟨by rfl, ?_⟩) hHeld ?_; rotate_left; (focus (intro w hSw; (try dsimp only at hSw); go_simp; try with_reducible rfl)); (try simp only [Act.put, List.setIfInBounds_toArray, List.set_cons_zero, List.set_cons_succ, List.getElem_toArray, List.getElem_cons_zero, List.getElem_cons_succ])); (refine wpAnyH_take (i := 7) (v := ?_) rfl (by kernel_rfl) (by kernel_rfl) (by kernel_rfl) (fun _ _ _ h => h) (Or.inl ⟨by rfl, ?_⟩) hHeld ?_; rotate_left; (focus (intro w hSw; (try dsimp only at hSw); go_simp; try with_reducible rfl)); (try simp only [Act.put, List.setIfInBounds_toArray, List.set_cons_zero, List.set_cons_succ, List.getElem_toArray, List.getElem_cons_zero, List.getElem_cons_succ])); (refine wpAnyH_take (i := 8) (v := ?_) rfl (by kernel_rfl) (by kernel_rfl) (by kernel_rfl) (fun _ _ _ h => h) (Or.inl ⟨by rfl, ?_⟩) hHeld ?_; rotate_left; (focus (intro w hSw; (try dsimp only at hSw); go_simp; try with_reducible rfl)); (try simp only [Act.put, List.setIfInBounds_toArray, List.set_cons_zero, List.set_cons_succ, List.getElem_toArray, List.getElem_cons_zero, List.getElem_cons_succ]))
  (refine wpAnyH_take (i := 9) (v := ?_) rfl (by kernel_rfl) (by kernel_rfl) (by kernel_rfl) (fun _ _ _ h => h) (Or.inl ⟨by rfl, ?_⟩) hHeld ?_; rotate_left; (focus (intro w hSw; (try dsimp only at hSw); go_simp; (have e0 := BlkAt.cell (BlkAt.later HH1.out hSw) (j := 0) rfl; have e1 := BlkAt.cell (BlkAt.later HH1.out hSw) (j := 1) rfl; have e2 := BlkAt.cell (BlkAt.later HH1.out hSw) (j := 2) rfl; have e3 := BlkAt.cell (BlkAt.later HH1.out hSw) (j := 3) rfl; have e4 := BlkAt.cell (BlkAt.later HH1.out hSw) (j := 4) rfl; go_simp; try with_reducible rfl))); (try simp only [Act.put, List.setIfInBounds_toArray, List.set_cons_zero, List.set_cons_succ, List.getElem_toArray, List.getElem_cons_zero, List.getElem_cons_succ]))
  (refine wpAnyH_take (i := 10) (v := ?_) rfl (by kernel_rfl) (by kernel_rfl) (by kernel_rfl) (fun _ _ _ h => h) (Or.inl ⟨by rfl, ?_⟩) hHeld ?_; rotate_left; (focus (intro w hSw; (try dsimp only at hSw); go_simp; try with_reducible rfl)); (try simp only [Act.put, List.setIfInBounds_toArray, List.set_cons_zero, List.set_cons_succ, List.getElem_toArray, List.getElem_cons_zero, List.getElem_cons_succ])); (refine wpAnyH_take (i := 11) (v := ?_) rfl (by kernel_rfl) (by kernel_rfl) (by kernel_rfl) (fun _ _ _ h => h) (Or.inl ⟨by rfl, ?_⟩) hHeld ?_; rotate_left; (focus (intro w hSw; (try dsimp only at hSw); go_simp; try with_reducible rfl)); (try simp only [Act.put, List.setIfInBounds_toArray, List.set_cons_zero, List.set_cons_succ, List.getElem_toArray, List.getElem_cons_zero, List.getElem_cons_succ])); (refine wpAnyH_take (i := 12) (v := ?_) rfl (by kernel_rfl) (by kernel_rfl) (by kernel_rfl) (fun _ _ _ h => h) (Or.inl ⟨by rfl, ?_⟩) hHeld ?_; rotate_left; (focus (intro w hSw; (try dsimp only at hSw); go_simp; try with_reducible rfl)); (try simp only [Act.put, List.setIfInBounds_toArray, List.set_cons_zero, List.set_cons_succ, List.getElem_toArray, List.getElem_cons_zero, List.getElem_cons_succ]))
  (refine wpAnyH_take (i := 13) (v := ?_) rfl (by kernel_rfl) (by kernel_rfl) (by kernel_rfl) (fun _ _ _ h => h) (Or.inl ⟨by rfl, ?_⟩) hHeld ?_; rotate_left; (focus (intro w hSw; (try dsimp only at hSw); go_simp; (have e0 := BlkAt.cell (BlkAt.later HP1.out hSw) (j := 0) rfl; have e1 := BlkAt.cell (BlkAt.later HP1.out hSw) (j := 1) rfl; have e2 := BlkAt.cell (BlkAt.later HP1.out hSw) (j := 2) rfl; have e3 := BlkAt.cell (BlkAt.later HP1.out hSw) (j := 3) rfl; have e4 := BlkAt.cell (BlkAt.later HP1.out hSw) (j := 4) rfl; have e5 := BlkAt.cell (BlkAt.later HP1.out hSw) (j := 5) rfl; have e6 := BlkAt.cell (BlkAt.later HP1.out hSw) (j := 6) rfl; have e7 := BlkAt.cell (BlkAt.later HP1.out hSw) (j := 7) rfl; have e8 := BlkAt.cell (BlkAt.later HP1.out hSw) (j := 8) rfl; have e9 := BlkAt.cell (BlkAt.later HP1.out hSw) (j := 9) rfl; have e10 := BlkAt.cell (BlkAt.later HP1.out hSw) (j := 10) rfl; go_simp; try with_reducible rfl))); (try simp only [Act.put, List.setIfInBounds_toArray, List.set_cons_zero, List.set_cons_succ, List.getElem_toArray, List.getElem_cons_zero, List.getElem_cons_succ]))
  (refine wpAnyH_take (i := 14) (v := ?_) rfl (by kernel_rfl) (by kernel_rfl) (by kernel_rfl) (fun _ _ _ h => h) (Or.inl ⟨by rfl, ?_⟩) hHeld ?_; rotate_left; (focus (intro w hSw; (try dsimp only at hSw); go_simp; try with_reducible rfl)); (try simp only [Act.put, List.setIfInBounds_toArray, List.set_cons_zero, List.set_cons_succ, List.getElem_toArray, List.getElem_cons_zero, List.getElem_cons_succ])); (refine wpAnyH_take (i := 15) (v := ?_) rfl (by kernel_rfl) (by kernel_rfl) (by kernel_rfl) (fun _ _ _ h => h) (Or.inl ⟨by rfl, ?_⟩) hHeld ?_; rotate_left; (focus (intro w hSw; (try dsimp only at hSw); go_simp; try with_reducible rfl)); (try simp only [Act.put, List.setIfInBounds_toArray, List.set_cons_zero, List.set_cons_succ, List.getElem_toArray, List.getElem_cons_zero, List.getElem_cons_succ])); (refine wpAnyH_take (i := 16) (v := ?_) rfl (by kernel_rfl) (by kernel_rfl) (by kernel_rfl) (fun _ _ _ h => h) (Or.inl ⟨by rfl, ?_⟩) hHeld ?_; rotate_left; (focus (intro w hSw; (try dsimp only at hSw); go_simp; try with_reducible rfl)); (try simp only [Act.put, List.setIfInBounds_toArray, List.set_cons_zero, List.set_cons_succ, List.getElem_toArray, List.getElem_cons_zero, List.getElem_cons_succ]))
  (refine wpAnyH_take (i := 17) (v := ?_) rfl (by kernel_rfl) (by kernel_rfl) (by kernel_rfl) (fun _ _ _ h => h) (Or.inl ⟨by rfl, ?_⟩) hHeld ?_; rotate_left; (focus (intro w hSw; (try dsimp only at hSw); go_simp; (have e0 := BlkAt.cell (BlkAt.later HH1.out hSw) (j := 0) rfl; have e1 := BlkAt.cell (BlkAt.later HH1.out hSw) (j := 1) rfl; have e2 := BlkAt.cell (BlkAt.later HH1.out hSw) (j := 2) rfl; have e3 := BlkAt.cell (BlkAt.later HH1.out hSw) (j := 3) rfl; have e4 := BlkAt.cell (BlkAt.later HH1.out hSw) (j := 4) rfl; go_simp; try with_reducible rfl))); (try simp only [Act.put, List.setIfInBounds_toArray, List.set_cons_zero, List.set_cons_succ, List.getElem_toArray, List.getElem_cons_zero, List.getElem_cons_succ]))
  (refine wpAnyH_take (i := 18) (v := ?_) rfl (by kernel_rfl) (by kernel_rfl) (by kernel_rfl) (fun _ _ _ h => h) (Or.inl ⟨by rfl, ?_⟩) hHeld ?_; rotate_left; (focus (intro w hSw; (try dsimp only at hSw); go_simp; try with_reducible rfl)); (try simp only [Act.put, List.setIfInBounds_toArray, List.set_cons_zero, List.set_cons_succ, List.getElem_toArray, List.getElem_cons_zero, List.getElem_cons_succ])); (refine wpAnyH_take (i := 19) (v := ?_) rfl (by kernel_rfl) (by kernel_rfl) (by kernel_rfl) (fun _ _ _ h => h) (Or.inl ⟨by rfl, ?_⟩) hHeld ?_; rotate_left; (focus (intro w hSw; (try dsimp only at hSw); go_simp; try with_reducible rfl)); (try simp only [Act.put, List.setIfInBounds_toArray, List.set_cons_zero, List.set_cons_succ, List.getElem_toArray, List.getElem_cons_zero, List.getElem_cons_succ])); (refine wpAnyH_take (i := 20) (v := ?_) rfl (by kernel_rfl) (by kernel_rfl) (by kernel_rfl) (fun _ _ _ h => h) (Or.inl ⟨by rfl, ?_⟩) hHeld ?_; rotate_left; (focus (intro w hSw; (try dsimp only at hSw); go_simp; try with_reducible rfl)); (try simp only [Act.put, List.setIfInBounds_toArray, List.set_cons_zero, List.set_cons_succ, List.getElem_toArray, List.getElem_cons_zero, List.getElem_cons_succ]))
  (refine wpAnyH_take (i := 21) (v := ?_) rfl (by kernel_rfl) (by kernel_rfl) (by kernel_rfl) (fun _ _ _ h => h) (Or.inl ⟨by rfl, ?_⟩) hHeld ?_; rotate_left; (focus (intro w hSw; (try dsimp only at hSw); go_simp; (have e0 := BlkAt.cell (BlkAt.later HP1.out hSw) (j := 0) rfl; have e1 := BlkAt.cell (BlkAt.later HP1.out hSw) (j := 1) rfl; have e2 := BlkAt.cell (BlkAt.later HP1.out hSw) (j := 2) rfl; have e3 := BlkAt.cell (BlkAt.later HP1.out hSw) (j := 3) rfl; have e4 := BlkAt.cell (BlkAt.later HP1.out hSw) (j := 4) rfl; have e5 := BlkAt.cell (BlkAt.later HP1.out hSw) (j := 5) rfl; have e6 := BlkAt.cell (BlkAt.later HP1.out hSw) (j := 6) rfl; have e7 := BlkAt.cell (BlkAt.later HP1.out hSw) (j := 7) rfl; have e8 := BlkAt.cell (BlkAt.later HP1.out hSw) (j := 8) rfl; have e9 := BlkAt.cell (BlkAt.later HP1.out hSw) (j := 9) rfl; have e10 := BlkAt.cell (BlkAt.later HP1.out hSw) (j := 10) rfl; go_simp; try with_reducible rfl))); (try simp only [Act.put, List.setIfInBounds_toArray, List.set_cons_zero, List.set_cons_succ, List.getElem_toArray, List.getElem_cons_zero, List.getElem_cons_succ]))
  (refine wpAnyH_ready (rs := [22]) (by kernel_rfl) (by simp) ?_; refine AllReadyH.cons rfl (fun K hK => ?_) AllReadyH.nil; go_simp; refine (elderW h.mb h.mt a.v.tb a.v.tt _).mono ?_; rintro e y22 ⟨rfl, hs⟩; rw [tD]; refine hK.out _ _ ?_ (fun hHeldN => ?_); (focus ((try dsimp only); (exact hHeld.trans (hs.mono hHeld.size)))); clear hK K hHeld; have hHeld := hHeldN; clear hHeldN; (try simp only [Act.put, List.setIfInBounds_toArray, List.set_cons_zero, List.set_cons_succ, List.getElem_toArray, List.getElem_cons_zero, List.getElem_cons_succ]))
  (refine wpAnyH_take (i := 23) (v := ?_) rfl (by kernel_rfl) (by kernel_rfl) (by kernel_rfl) (fun _ _ _ h => h) (Or.inl ⟨by rfl, ?_⟩) hHeld ?_; rotate_left; (focus (intro w hSw; (try dsimp only at hSw); go_simp; try with_reducible rfl)); (try simp only [Act.put, List.setIfInBounds_toArray, List.set_cons_zero, List.set_cons_succ, List.getElem_toArray, List.getElem_cons_zero, List.getElem_cons_succ])); (refine wpAnyH_take (i := 24) (v := ?_) rfl (by kernel_rfl) (by kernel_rfl) (by kernel_rfl) (fun _ _ _ h => h) (Or.inl ⟨by rfl, ?_⟩) hHeld ?_; rotate_left; (focus (intro w hSw; (try dsimp only at hSw); go_simp; try with_reducible rfl)); (try simp only [Act.put, List.setIfInBounds_toArray, List.set_cons_zero, List.set_cons_succ, List.getElem_toArray, List.getElem_cons_zero, List.getElem_cons_succ])); (refine wpAnyH_take (i := 25) (v := ?_) rfl (by kernel_rfl) (by kernel_rfl) (by kernel_rfl) (fun _ _ _ h => h) (Or.inl ⟨by rfl, ?_⟩) hHeld ?_; rotate_left; (focus (intro w hSw; (try dsimp only at hSw); go_simp; try with_reducible rfl)); (try simp only [Act.put, List.setIfInBounds_toArray, List.set_cons_zero, List.set_cons_succ, List.getElem_toArray, List.getElem_cons_zero, List.getElem_cons_succ]))
  refine wpAnyH_done (by kernel_rfl) ?_ _
  have HP2 : Hid (PA p a y22) := by
    have : PA p a y22 := HP1.out.later hHeld
    exact this
  have HH2 : Hid (HBk w.heap.size h y22) := by
    have : HBk w.heap.size h y22 := BlkAt.later HH1.out hHeld
    exact this
  have HC2 : Hid (Chg [p] w y22) := by
    have : Chg [p] w y22 := HC1.out.trans (Chg.of_below _ hHeld)
    exact this
  clear hHeld hs
  go_wp2_with fail
  (refine wp_region_held_drew (S := (fun w' => Below y22.heap.size y22 w')) (by kernel_rfl) ?_ (fun hHeld => ?_); (focus ((try dsimp only); (exact (Below.refl _ _).drew))))
  (try dsimp only at hHeld)
  (refine wpAnyH_take (i := 0) (v := ?_) rfl (by kernel_rfl) (by kernel_rfl) (by kernel_rfl) (fun _ _ _ h => h) (Or.inl ⟨by rfl, ?_⟩) hHeld ?_; rotate_left; (focus (intro w hSw; (try dsimp only at hSw); go_simp; try with_reducible rfl)); (try simp only [Act.put, List.setIfInBounds_toArray, List.set_cons_zero, List.set_cons_succ, List.getElem_toArray, List.getElem_cons_zero])); (refine wpAnyH_take (i := 1) (v := ?_) rfl (by kernel_rfl) (by kernel_rfl) (by kernel_rfl) (fun _ _ _ h => h) (Or.inl ⟨by rfl, ?_⟩) hHeld ?_; rotate_left; (focus (intro w hSw; (try dsimp only at hSw); go_simp; try with_reducible rfl)); (try simp only [Act.put, List.setIfInBounds_toArray, List.set_cons_zero, List.set_cons_succ, List.getElem_toArray, List.getElem_cons_zero, List.getElem_cons_succ])); (refine wpAnyH_take (i := 2) (v := ?_) rfl (by kernel_rfl) (by kernel_rfl) (by kernel_rfl) (fun _ _ _ h => h) (Or.inl ⟨by rfl, ?_⟩) hHeld ?_; rotate_left; (focus (intro w hSw; (try dsimp only at hSw); go_simp; try with_reducible rfl)); (try simp only [Act.put, List.setIfInBounds_toArray, List.set_cons_zero, List.set_cons_succ, List.getElem_toArray, List.getElem_cons_zero, List.getElem_cons_succ]))
  (refine wpAnyH_take (i := 3) (v := ?_) rfl (by kernel_rfl) (by kernel_rfl) (by kernel_rfl) (fun _ _ _ h => h) (Or.inl ⟨by rfl, ?_⟩) hHeld ?_; rotate_left; (focus (intro w hSw; (try dsimp only at hSw); go_simp; (have e0 := BlkAt.cell (BlkAt.later HP2.out hSw) (j := 0) rfl; have e1 := BlkAt.cell (BlkAt.later HP2.out hSw) (j := 1) rfl; have e2 := BlkAt.cell (BlkAt.later HP2.out hSw) (j := 2) rfl; have e3 := BlkAt.cell (BlkAt.later HP2.out hSw) (j := 3) rfl; have e4 := BlkAt.cell (BlkAt.later HP2.out hSw) (j := 4) rfl; have e5 := BlkAt.cell (BlkAt.later HP2.out hSw) (j := 5) rfl; have e6 := BlkAt.cell (BlkAt.later HP2.out hSw) (j := 6) rfl; have e7 := BlkAt.cell (BlkAt.later HP2.out hSw) (j := 7) rfl; have e8 := BlkAt.cell (BlkAt.later HP2.out hSw) (j := 8) rfl; have e9 := BlkAt.cell (BlkAt.later HP2.out hSw) (j := 9) rfl; have e10 := BlkAt.cell (BlkAt.later HP2.out hSw) (j := 10) rfl; go_simp; try with_reducible rfl))); (try simp only [Act.put, List.setIfInBounds_toArray, List.set_cons_zero, List.set_cons_succ, List.getElem_toArray, List.getElem_cons_zero, List.getElem_cons_succ]))
  (refine wpAnyH_ready (rs := [4]) (by kernel_rfl) (by simp) ?_; refine AllReadyH.cons rfl (fun K hK => ?_) AllReadyH.nil; go_simp; refine (zeroW a.v.tb a.v.tt _).mono ?_; rintro e y4 ⟨rfl, hs⟩; rw [tZ]; refine hK.out _ _ ?_ (fun hHeldN => ?_); (focus ((try dsimp only); (exact hHeld.trans (hs.mono hHeld.size)))); clear hK K hHeld; have hHeld := hHeldN; clear hHeldN; (try simp only [Act.put, List.setIfInBounds_toArray, List.set_cons_zero, List.set_cons_succ, List.getElem_toArray, List.getElem_cons_zero, List.getElem_cons_succ]))
  (refine wpAnyH_take (i := 5) (v := ?_) rfl (by kernel_rfl) (by kernel_rfl) (by kernel_rfl) (fun _ _ _ h => h) (Or.inl ⟨by rfl, ?_⟩) hHeld ?_; rotate_left; (focus (intro w hSw; (try dsimp only at hSw); go_simp; try with_reducible rfl)); (try simp only [Act.put, List.setIfInBounds_toArray, List.set_cons_zero, List.set_cons_succ, List.getElem_toArray, List.getElem_cons_zero, List.getElem_cons_succ])); (refine wpAnyH_take (i := 6) (v := ?_) rfl (by kernel_rfl) (by kernel_rfl) (by kernel_rfl) (fun _ _ _ h => h) (Or.inl ⟨by rfl, ?_⟩) hHeld ?_; rotate_left; (focus (intro w hSw; (try dsimp only at hSw); go_simp; try with_reducible rfl)); (try simp only [Act.put, List.setIfInBounds_toArray, List.set_cons_zero, List.set_cons_succ, List.getElem_toArray, List.getElem_cons_zero, List.getElem_cons_succ])); (refine wpAnyH_take (i := 7) (v := ?_) rfl (by kernel_rfl) (by kernel_rfl) (by kernel_rfl) (fun _ _ _ h => h) (Or.inl ⟨by rfl, ?_⟩) hHeld ?_; rotate_left; (focus (intro w hSw; (try dsimp only at hSw); go_simp; try with_reducible rfl)); (try simp only [Act.put, List.setIfInBounds_toArray, List.set_cons_zero, List.set_cons_succ, List.getElem_toArray, List.getElem_cons_zero, List.getElem_cons_succ]))
  (refine wpAnyH_take (i := 8) (v := ?_) rfl (by kernel_rfl) (by kernel_rfl) (by kernel_rfl) (fun _ _ _ h => h) (Or.inl ⟨by rfl, ?_⟩) hHeld ?_; rotate_left; (focus (intro w hSw; (try dsimp only at hSw); go_simp; (have e0 := BlkAt.cell (BlkAt.later HH2.out hSw) (j := 0) rfl; have e1 := BlkAt.cell (BlkAt.later HH2.out hSw) (j := 1) rfl; have e2 := BlkAt.cell (BlkAt.later HH2.out hSw) (j := 2) rfl; have e3 := BlkAt.cell (BlkAt.later HH2.out hSw) (j := 3) rfl; have e4 := BlkAt.cell (BlkAt.later HH2.out hSw) (j := 4) rfl; go_simp; try with_reducible rfl))); (try simp only [Act.put, List.setIfInBounds_toArray, List.set_cons_zero, List.set_cons_succ, List.getElem_toArray, List.getElem_cons_zero, List.getElem_cons_succ]))
  (refine wpAnyH_take (i := 9) (v := ?_) rfl (by kernel_rfl) (by kernel_rfl) (by kernel_rfl) (fun _ _ _ h => h) (Or.inl ⟨by rfl, ?_⟩) hHeld ?_; rotate_left; (focus (intro w hSw; (try dsimp only at hSw); go_simp; try with_reducible rfl)); (try simp only [Act.put, List.setIfInBounds_toArray, List.set_cons_zero, List.set_cons_succ, List.getElem_toArray, List.getElem_cons_zero, List.getElem_cons_succ])); (refine wpAnyH_take (i := 10) (v := ?_) rfl (by kernel_rfl) (by kernel_rfl) (by kernel_rfl) (fun _ _ _ h => h) (Or.inl ⟨by rfl, ?_⟩) hHeld ?_; rotate_left; (focus (intro w hSw; (try dsimp only at hSw); go_simp; try with_reducible rfl)); (try simp only [Act.put, List.setIfInBounds_toArray, List.set_cons_zero, List.set_cons_succ, List.getElem_toArray, List.getElem_cons_zero, List.getElem_cons_succ])); (refine wpAnyH_take (i := 11) (v := ?_) rfl (by kernel_rfl) (by kernel_rfl) (by kernel_rfl) (fun _ _ _ h => h) (Or.inl ⟨by rfl, ?_⟩) hHeld ?_; rotate_left; (focus (intro w hSw; (try dsimp only at hSw); go_simp; try with_reducible rfl)); (try simp only [Act.put, List.setIfInBounds_toArray, List.set_cons_zero, List.set_cons_succ, List.getElem_toArray, List.getElem_cons_zero, List.getElem_cons_succ]))
  (refine wpAnyH_take (i := 12) (v := ?_) rfl (by kernel_rfl) (by kernel_rfl) (by kernel_rfl) (fun _ _ _ h => h) (Or.inl ⟨by rfl, ?_⟩) hHeld ?_; rotate_left; (focus (intro w hSw; (try dsimp only at hSw); go_simp; (have e0 := BlkAt.cell (BlkAt.later HP2.out hSw) (j := 0) rfl; have e1 := BlkAt.cell (BlkAt.later HP2.out hSw) (j := 1) rfl; have e2 := BlkAt.cell (BlkAt.later HP2.out hSw) (j := 2) rfl; have e3 := BlkAt.cell (BlkAt.later HP2.out hSw) (j := 3) rfl; have e4 := BlkAt.cell (BlkAt.later HP2.out hSw) (j := 4) rfl; have e5 := BlkAt.cell (BlkAt.later HP2.out hSw) (j := 5) rfl; have e6 := BlkAt.cell (BlkAt.later HP2.out hSw) (j := 6) rfl; have e7 := BlkAt.cell (BlkAt.later HP2.out hSw) (j := 7) rfl; have e8 := BlkAt.cell (BlkAt.later HP2.out hSw) (j := 8) rfl; have e9 := BlkAt.cell (BlkAt.later HP2.out hSw) (j := 9) rfl; have e10 := BlkAt.cell (BlkAt.later HP2.out hSw) (j := 10) rfl; go_simp; try with_reducible rfl))); (try simp only [Act.put, List.setIfInBounds_toArray, List.set_cons_zero, List.set_cons_succ, List.getElem_toArray, List.getElem_cons_zero, List.getElem_cons_succ]))
  (refine wpAnyH_take (i := 13) (v := ?_) rfl (by kernel_rfl) (by kernel_rfl) (by kernel_rfl) (fun _ _ _ h => h) (Or.inl ⟨by rfl, ?_⟩) hHeld ?_; rotate_left; (focus (intro w hSw; (try dsimp only at hSw); go_simp; try with_reducible rfl)); (try simp only [Act.put, List.setIfInBounds_toArray, List.set_cons_zero, List.set_cons_succ, List.getElem_toArray, List.getElem_cons_zero, List.getElem_cons_succ])); (refine wpAnyH_take (i := 14) (v := ?_) rfl (by kernel_rfl) (by kernel_rfl) (by kernel_rfl) (fun _ _ _ h => h) (Or.inl ⟨by rfl, ?_⟩) hHeld ?_; rotate_left; (focus (intro w hSw; (try dsimp only at hSw); go_simp; try with_reducible rfl)); (try simp only [Act.put, List.setIfInBounds_toArray, List.set_cons_zero, List.set_cons_succ, List.getElem_toArray, List.getElem_cons_zero, List.getElem_cons_succ])); (refine wpAnyH_take (i := 15) (v := ?_) rfl (by kernel_rfl) (by kernel_rfl) (by kernel_rfl) (fun _ _ _ h => h) (Or.inl ⟨by rfl, ?_⟩) hHeld ?_; rotate_left; (focus (intro w hSw; (try dsimp only at hSw); go_simp; try with_reducible rfl)); (try simp only [Act.put, List.setIfInBounds_toArray, List.set_cons_zero, List.set_cons_succ, List.getElem_toArray, List.getElem_cons_zero, List.getElem_cons_succ]))
  refine wpAnyH_done (by kernel_rfl) ?_ _
  have HP3 : Hid (PA p a y4) := by
    have : PA p a y4 := HP2.out.later hHeld
    exact this
  have HH3 : Hid (HBk w.heap.size h y4) := by
    have : HBk w.heap.size h y4 := BlkAt.later HH2.out hHeld
    exact this
  have HC3 : Hid (Chg [p] w y4) := by
    have : Chg [p] w y4 := HC2.out.trans (Chg.of_below _ hHeld)
    exact this
  clear hHeld hs
  have hP := HP3.out
  have hH := HH3.out
  have c0 := BlkAt.cell hP (j := 0) rfl; have c1 := BlkAt.cell hP (j := 1) rfl; have c2 := BlkAt.cell hP (j := 2) rfl; have c3 := BlkAt.cell hP (j := 3) rfl; have c4 := BlkAt.cell hP (j := 4) rfl; have c5 := BlkAt.cell hP (j := 5) rfl; have c6 := BlkAt.cell hP (j := 6) rfl; have c7 := BlkAt.cell hP (j := 7) rfl; have c8 := BlkAt.cell hP (j := 8) rfl; have c9 := BlkAt.cell hP (j := 9) rfl; have c10 := BlkAt.cell hP (j := 10) rfl
  have g0 := BlkAt.cell hH (j := 0) rfl; have g1 := BlkAt.cell hH (j := 1) rfl; have g2 := BlkAt.cell hH (j := 2) rfl; have g3 := BlkAt.cell hH (j := 3) rfl; have g4 := BlkAt.cell hH (j := 4) rfl
  have hfz : ∀ j, (y4).frozen? ⟨p, j, none⟩ = false := fun j => BlkAt.frozen hP j
  clear hP hH
  go_wp2_with fail
  go_quiet (fail)
  obtain ⟨x4, hx4⟩ : ∃ W, W = World.drewN y4 nq := ⟨_, rfl⟩
  rw [← hx4]
  have HP4 : Hid (PA p a x4) := by
    have : PA p a x4 := by rw [hx4]; exact HP3.out
    exact this
  have HH4 : Hid (HBk w.heap.size h x4) := by
    have : HBk w.heap.size h x4 := by rw [hx4]; exact HH3.out
    exact this
  have HC4 : Hid (Chg [p] w x4) := by
    have : Chg [p] w x4 := by rw [hx4]; exact Chg.dr HC3.out _
    exact this
  clear hx4
  clear c0 c1 c2 c3 c4 c5 c6 c7 c8 c9 c10 g0 g1 g2 g3 g4 hfz
  go_wp2_with fail
  have HPx : Hid (PA p a (World.drew x4)) := by
    have : PA p a (World.drew x4) := HP4.out
    exact this
  (refine wp_region_held_drew (S := (fun w' => Chg [p] x4 w')) (by kernel_rfl) ?_ (fun hHeld => ?_); (focus ((try dsimp only); (exact (Chg.refl _ _).drew))))
  (try dsimp only at hHeld)
  obtain ⟨d0, hd0⟩ : ∃ W0, W0 = World.drew x4 := ⟨_, rfl⟩
  rw [← hd0]
  rw [← hd0] at hHeld HPx
  clear hd0
  have hP := HPx.out
  have c0 := BlkAt.cell hP (j := 0) rfl; have c1 := BlkAt.cell hP (j := 1) rfl; have c2 := BlkAt.cell hP (j := 2) rfl; have c3 := BlkAt.cell hP (j := 3) rfl; have c4 := BlkAt.cell hP (j := 4) rfl; have c5 := BlkAt.cell hP (j := 5) rfl; have c6 := BlkAt.cell hP (j := 6) rfl; have c7 := BlkAt.cell hP (j := 7) rfl; have c8 := BlkAt.cell hP (j := 8) rfl; have c9 := BlkAt.cell hP (j := 9) rfl; have c10 := BlkAt.cell hP (j := 10) rfl
  have hfz : ∀ j, d0.frozen? ⟨p, j, none⟩ = false := fun j => BlkAt.frozen hP j
  clear hP
  (refine wpAnyH_take (i := 0) (v := ?_) rfl (by kernel_rfl) (by kernel_rfl) (by kernel_rfl) (fun _ _ _ h => h) (Or.inl ⟨by rfl, ?_⟩) hHeld ?_; rotate_left; (focus (intro w hSw; (try dsimp only at hSw); go_simp; try with_reducible rfl)); (try simp only [Act.put, List.setIfInBounds_toArray, List.set_cons_zero, List.set_cons_succ, List.getElem_toArray, List.getElem_cons_zero])); (refine wpAnyH_take (i := 1) (v := ?_) rfl (by kernel_rfl) (by kernel_rfl) (by kernel_rfl) (fun _ _ _ h => h) (Or.inl ⟨by rfl, ?_⟩) hHeld ?_; rotate_left; (focus (intro w hSw; (try dsimp only at hSw); go_simp; try with_reducible rfl)); (try simp only [Act.put, List.setIfInBounds_toArray, List.set_cons_zero, List.set_cons_succ, List.getElem_toArray, List.getElem_cons_zero, List.getElem_cons_succ])); (refine wpAnyH_take (i := 2) (v := ?_) rfl (by kernel_rfl) (by kernel_rfl) (by kernel_rfl) (fun _ _ _ h => h) (Or.inl ⟨by rfl, ?_⟩) hHeld ?_; rotate_left; (focus (intro w hSw; (try dsimp only at hSw); go_simp; try with_reducible rfl)); (try simp only [Act.put, List.setIfInBounds_toArray, List.set_cons_zero, List.set_cons_succ, List.getElem_toArray, List.getElem_cons_zero, List.getElem_cons_succ])); (refine wpAnyH_take (i := 3) (v := ?_) rfl (by kernel_rfl) (by kernel_rfl) (by kernel_rfl) (fun _ _ _ h => h) (Or.inl ⟨by rfl, ?_⟩) hHeld ?_; rotate_left; (focus (intro w hSw; (try dsimp only at hSw); go_simp; try with_reducible rfl)); (try simp only [Act.put, List.setIfInBounds_toArray, List.set_cons_zero, List.set_cons_succ, List.getElem_toArray, List.getElem_cons_zero, List.getElem_cons_succ]))
  (refine wpAnyH_take (i := 4) (v := ?_) rfl (by kernel_rfl) (by kernel_rfl) (by kernel_rfl) (fun _ _ _ h => h) (Or.inl ⟨by rfl, ?_⟩) hHeld ?_; rotate_left; (focus (intro w hSw; (try dsimp only at hSw); go_simp; (have e0 := BlkAt.cell (Chg.blk hSw HH4.out HNE.out) (j := 0) rfl; have e1 := BlkAt.cell (Chg.blk hSw HH4.out HNE.out) (j := 1) rfl; have e2 := BlkAt.cell (Chg.blk hSw HH4.out HNE.out) (j := 2) rfl; have e3 := BlkAt.cell (Chg.blk hSw HH4.out HNE.out) (j := 3) rfl; have e4 := BlkAt.cell (Chg.blk hSw HH4.out HNE.out) (j := 4) rfl; go_simp; try with_reducible rfl))); (try simp only [Act.put, List.setIfInBounds_toArray, List.set_cons_zero, List.set_cons_succ, List.getElem_toArray, List.getElem_cons_zero, List.getElem_cons_succ]))
  (refine wpAnyH_take (i := 5) (v := ?_) rfl (by kernel_rfl) (by kernel_rfl) (by kernel_rfl) (fun _ _ _ h => h) (Or.inl ⟨by rfl, ?_⟩) hHeld ?_; rotate_left; (focus (intro w hSw; (try dsimp only at hSw); go_simp; try with_reducible rfl)); (try simp only [Act.put, List.setIfInBounds_toArray, List.set_cons_zero, List.set_cons_succ, List.getElem_toArray, List.getElem_cons_zero, List.getElem_cons_succ]))
  (refine wpAnyH_take (i := 6) (v := ?_) rfl (by kernel_rfl) (by kernel_rfl) (by kernel_rfl) (fun _ _ _ h => h) (Or.inl ⟨by rfl, ?_⟩) hHeld ?_; rotate_left; (focus (intro w hSw; (try dsimp only at hSw); go_simp; (have e0 := BlkAt.cell (Chg.blk hSw HH4.out HNE.out) (j := 0) rfl; have e1 := BlkAt.cell (Chg.blk hSw HH4.out HNE.out) (j := 1) rfl; have e2 := BlkAt.cell (Chg.blk hSw HH4.out HNE.out) (j := 2) rfl; have e3 := BlkAt.cell (Chg.blk hSw HH4.out HNE.out) (j := 3) rfl; have e4 := BlkAt.cell (Chg.blk hSw HH4.out HNE.out) (j := 4) rfl; go_simp; try with_reducible rfl))); (try simp only [Act.put, List.setIfInBounds_toArray, List.set_cons_zero, List.set_cons_succ, List.getElem_toArray, List.getElem_cons_zero, List.getElem_cons_succ]))
  (refine wpAnyH_take (i := 7) (v := ?_) rfl (by kernel_rfl) (by kernel_rfl) (by kernel_rfl) (fun _ _ _ h => h) (Or.inl ⟨by rfl, ?_⟩) hHeld ?_; rotate_left; (focus (intro w hSw; (try dsimp only at hSw); go_simp; try with_reducible rfl)); (try simp only [Act.put, List.setIfInBounds_toArray, List.set_cons_zero, List.set_cons_succ, List.getElem_toArray, List.getElem_cons_zero, List.getElem_cons_succ])); (refine wpAnyH_take (i := 8) (v := ?_) rfl (by kernel_rfl) (by kernel_rfl) (by kernel_rfl) (fun _ _ _ h => h) (Or.inl ⟨by rfl, ?_⟩) hHeld ?_; rotate_left; (focus (intro w hSw; (try dsimp only at hSw); go_simp; try with_reducible rfl)); (try simp only [Act.put, List.setIfInBounds_toArray, List.set_cons_zero, List.set_cons_succ, List.getElem_toArray, List.getElem_cons_zero, List.getElem_cons_succ]))
  (refine wpAnyH_ready (rs := [9]) (by kernel_rfl) (by simp) ?_; refine AllReadyH.cons rfl (fun K hK => ?_) AllReadyH.nil; go_simp; skip; refine hK.out _ _ ?_ (fun hHeldN => ?_); (focus ((try dsimp only); (exact Chg.set hHeld (by simp) 5 _))); clear hK K hHeld; have hHeld := hHeldN; clear hHeldN; (try simp only [Act.put, List.setIfInBounds_toArray, List.set_cons_zero, List.set_cons_succ, List.getElem_toArray, List.getElem_cons_zero, List.getElem_cons_succ]))
  (refine wpAnyH_take (i := 10) (v := ?_) rfl (by kernel_rfl) (by kernel_rfl) (by kernel_rfl) (fun _ _ _ h => h) (Or.inl ⟨by rfl, ?_⟩) hHeld ?_; rotate_left; (focus (intro w hSw; (try dsimp only at hSw); go_simp; try with_reducible rfl)); (try simp only [Act.put, List.setIfInBounds_toArray, List.set_cons_zero, List.set_cons_succ, List.getElem_toArray, List.getElem_cons_zero, List.getElem_cons_succ])); (refine wpAnyH_take (i := 11) (v := ?_) rfl (by kernel_rfl) (by kernel_rfl) (by kernel_rfl) (fun _ _ _ h => h) (Or.inl ⟨by rfl, ?_⟩) hHeld ?_; rotate_left; (focus (intro w hSw; (try dsimp only at hSw); go_simp; try with_reducible rfl)); (try simp only [Act.put, List.setIfInBounds_toArray, List.set_cons_zero, List.set_cons_succ, List.getElem_toArray, List.getElem_cons_zero, List.getElem_cons_succ]))
  (refine wpAnyH_ready (rs := [12]) (by kernel_rfl) (by simp) ?_; refine AllReadyH.cons rfl (fun K hK => ?_) AllReadyH.nil; go_simp; skip; refine hK.out _ _ ?_ (fun hHeldN => ?_); (focus ((try dsimp only); (exact Chg.set (Chg.set hHeld (by simp) 8 _) (by simp) 9 _))); clear hK K hHeld; have hHeld := hHeldN; clear hHeldN; (try simp only [Act.put, List.setIfInBounds_toArray, List.set_cons_zero, List.set_cons_succ, List.getElem_toArray, List.getElem_cons_zero, List.getElem_cons_succ]))
  (refine wpAnyH_take (i := 13) (v := ?_) rfl (by kernel_rfl) (by kernel_rfl) (by kernel_rfl) (fun _ _ _ h => h) (Or.inl ⟨by rfl, ?_⟩) hHeld ?_; rotate_left; (focus (intro w hSw; (try dsimp only at hSw); go_simp; try with_reducible rfl)); (try simp only [Act.put, List.setIfInBounds_toArray, List.set_cons_zero, List.set_cons_succ, List.getElem_toArray, List.getElem_cons_zero, List.getElem_cons_succ])); (refine wpAnyH_take (i := 14) (v := ?_) rfl (by kernel_rfl) (by kernel_rfl) (by kernel_rfl) (fun _ _ _ h => h) (Or.inl ⟨by rfl, ?_⟩) hHeld ?_; rotate_left; (focus (intro w hSw; (try dsimp only at hSw); go_simp; try with_reducible rfl)); (try simp only [Act.put, List.setIfInBounds_toArray, List.set_cons_zero, List.set_cons_succ, List.getElem_toArray, List.getElem_cons_zero, List.getElem_cons_succ]))
  (refine wpAnyH_ready (rs := [15]) (by kernel_rfl) (by simp) ?_; refine AllReadyH.cons rfl (fun K hK => ?_) AllReadyH.nil; go_simp; skip; refine hK.out _ _ ?_ (fun hHeldN => ?_); (focus ((try dsimp only); (exact Chg.set hHeld (by simp) 10 _))); clear hK K hHeld; have hHeld := hHeldN; clear hHeldN; (try simp only [Act.put, List.setIfInBounds_toArray, List.set_cons_zero, List.set_cons_succ, List.getElem_toArray, List.getElem_cons_zero, List.getElem_cons_succ]))
  refine wpAnyH_done (by kernel_rfl) ?_ _
  obtain ⟨z2, hz2⟩ : ∃ W, W = (((d0.setCell ⟨p, 5, none⟩ (.int .i64 1)).setCell ⟨p, 8, none⟩ (.int .u64 h.mb)).setCell ⟨p, 9, none⟩ (.int .u64 h.mt)).setCell ⟨p, 10, none⟩ (.int .i64 h.n) := ⟨_, rfl⟩
  rw [← hz2]
  rw [← hz2] at hHeld
  have HP5 : Hid (PA p ⟨a.node, a.every, a.dead, a.said, a.sil, setV a.v h⟩ z2) := by
    have : PA p ⟨a.node, a.every, a.dead, a.said, a.sil, setV a.v h⟩ z2 := by rw [hz2]; exact HPx.out.setHd h
    exact this
  have HH5 : Hid (HBk w.heap.size h z2) := by
    have : HBk w.heap.size h z2 := hHeld.blk HH4.out HNE.out
    exact this
  have HC5 : Hid (Chg [p] w z2) := by
    have : Chg [p] w z2 := HC4.out.trans hHeld
    exact this
  clear hHeld hz2 HPx c0 c1 c2 c3 c4 c5 c6 c7 c8 c9 c10 hfz
  have HPv : Hid (PA p ⟨a.node, a.every, a.dead, a.said, a.sil, V⟩ z2) := by
    have : PA p ⟨a.node, a.every, a.dead, a.said, a.sil, V⟩ z2 := by rw [HVV.out]; exact HP5.out
    exact this
  have hP := HPv.out
  have c4 := BlkAt.cell hP (j := 4) rfl
  have hfz : ∀ j, (z2).frozen? ⟨p, j, none⟩ = false := fun j => BlkAt.frozen hP j
  clear hP
  go_wp2_with fail
  obtain ⟨z3, hz3⟩ : ∃ W, W = z2.setCell ⟨p, 4, none⟩ (.int .i64 0) := ⟨_, rfl⟩
  rw [← hz3]
  have hCs : Chg [p] z2 z3 := by rw [hz3]; exact Chg.set (Chg.refl _ _) (by simp) 4 _
  have HP6 : Hid (PA p ⟨a.node, a.every, a.dead, a.said, 0, V⟩ z3) := by
    have : PA p ⟨a.node, a.every, a.dead, a.said, 0, V⟩ z3 := by rw [hz3]; exact HPv.out.setSil
    exact this
  have HH6 : Hid (HBk w.heap.size h z3) := by
    have : HBk w.heap.size h z3 := hCs.blk HH5.out HNE.out
    exact this
  have HC6 : Hid (Chg [p] w z3) := by
    have : Chg [p] w z3 := HC5.out.trans hCs
    exact this
  clear hz3 hCs HPv c4 hfz
  have hP := HP6.out
  have hH := HH6.out
  have c0 := BlkAt.cell hP (j := 0) rfl; have c1 := BlkAt.cell hP (j := 1) rfl; have c2 := BlkAt.cell hP (j := 2) rfl; have c3 := BlkAt.cell hP (j := 3) rfl; have c4 := BlkAt.cell hP (j := 4) rfl; have c5 := BlkAt.cell hP (j := 5) rfl; have c6 := BlkAt.cell hP (j := 6) rfl; have c7 := BlkAt.cell hP (j := 7) rfl; have c8 := BlkAt.cell hP (j := 8) rfl; have c9 := BlkAt.cell hP (j := 9) rfl; have c10 := BlkAt.cell hP (j := 10) rfl
  have g0 := BlkAt.cell hH (j := 0) rfl; have g1 := BlkAt.cell hH (j := 1) rfl; have g2 := BlkAt.cell hH (j := 2) rfl; have g3 := BlkAt.cell hH (j := 3) rfl; have g4 := BlkAt.cell hH (j := 4) rfl
  have hfz : ∀ j, (z3).frozen? ⟨p, j, none⟩ = false := fun j => BlkAt.frozen hP j
  clear hP hH
  go_quiet (fail)
  have HPn := Lib.hid (HP6.out.dr nq)
  have HCn := Lib.hid (HC6.out.dr nq)
  cases tU : sameTI h.hb h.ht V.mb V.mt with
  | false =>
    have HU : Hid (upV V h = V) := by
      have : upV V h = V := if_neg (by rw [tU]; simp)
      exact this
    go_wp2_with fail
    go_end0
    exact ⟨⟨_, rfl⟩, by rw [HU.out]; exact HPn.out, HCn.out⟩
  | true =>
    have HU : Hid (upV V h = ⟨2, V.mb, V.mt, V.tb, V.tt, V.n⟩) := by
      have : upV V h = ⟨2, V.mb, V.mt, V.tb, V.tt, V.n⟩ := if_pos tU
      exact this
    go_wp2_with fail
    go_end0
    exact ⟨⟨_, rfl⟩, by rw [HU.out]; exact HPn.out.setSt, HCn.out.set (by simp) 5 _⟩

set_option maxHeartbeats 8000000 in
set_option maxRecDepth 100000 in
theorem heedQ {p : Nat} {a : Ad} {w : World} (hA : PA p a w) (h : Hl) (t0 : (h.n == a.node) = false) (tE : (h.n == a.v.n) = true) (tF : (h.n != a.v.n) = false) (tD : eldI h.mb h.mt a.v.tb a.v.tt = false) (tZ : sameTI a.v.tb a.v.tt 0 0 = false) (tM : sameTI h.mb h.mt a.v.tb a.v.tt = true) :
    Calls Try.prog 26 #[.pointer (some ⟨p, 0, none⟩), .agg #[.int .i64 h.n, .int .u64 h.mb, .int .u64 h.mt, .int .u64 h.hb, .int .u64 h.ht]] w (HeA p a (upV (a.v) h) w) := by
  unfold HeA
  obtain ⟨V, hV⟩ : ∃ V, V = a.v := ⟨_, rfl⟩
  rw [← hV]
  have HVV := Lib.hid hV
  clear hV
  obtain ⟨w1, hw1⟩ : ∃ W, W = w.alloc (.cells #[.int .i64 h.n, .int .u64 h.mb, .int .u64 h.mt, .int .u64 h.hb, .int .u64 h.ht] 35) := ⟨_, rfl⟩
  have hb : Below w.heap.size w w1 := by rw [hw1]; exact (Below.refl _ _).alloc (Nat.le_refl _) _
  have HP1 := Lib.hid (hA.later hb)
  have HH1 : Hid (HBk w.heap.size h w1) := by
    have : HBk w.heap.size h w1 := by rw [hw1]; exact BlkAt.new w _
    exact this
  have HC1 := Lib.hid (Chg.of_below [p] hb)
  have HNE : Hid (w.heap.size ∉ [p]) := by
    have : w.heap.size ∉ [p] := by have := hA.lt; simp; omega
    exact this
  have HW := Lib.hid hw1
  clear hA hb hw1
  go_enter Try.func26, Try.ntmps26
  go_wp2_with fail
  rw [← HW.out]
  (refine wp_region_held_drew (S := (fun w' => Below w1.heap.size w1 w')) (by kernel_rfl) ?_ (fun hHeld => ?_); (focus ((try dsimp only); (exact (Below.refl _ _).drew))))
  (try dsimp only at hHeld)
  (refine wpAnyH_take (i := 0) (v := ?_) rfl (by kernel_rfl) (by kernel_rfl) (by kernel_rfl) (fun _ _ _ h => h) (Or.inl ⟨by rfl, ?_⟩) hHeld ?_; rotate_left; (focus (intro w hSw; (try dsimp only at hSw); go_simp; try with_reducible rfl)); (try simp only [Act.put, List.setIfInBounds_toArray, List.set_cons_zero, List.set_cons_succ, List.getElem_toArray, List.getElem_cons_zero]))
  (refine wpAnyH_take (i := 1) (v := ?_) rfl (by kernel_rfl) (by kernel_rfl) (by kernel_rfl) (fun _ _ _ h => h) (Or.inl ⟨by rfl, ?_⟩) hHeld ?_; rotate_left; (focus (intro w hSw; (try dsimp only at hSw); go_simp; (have e0 := BlkAt.cell (BlkAt.later HH1.out hSw) (j := 0) rfl; have e1 := BlkAt.cell (BlkAt.later HH1.out hSw) (j := 1) rfl; have e2 := BlkAt.cell (BlkAt.later HH1.out hSw) (j := 2) rfl; have e3 := BlkAt.cell (BlkAt.later HH1.out hSw) (j := 3) rfl; have e4 := BlkAt.cell (BlkAt.later HH1.out hSw) (j := 4) rfl; go_simp; try with_reducible rfl))); (try simp only [Act.put, List.setIfInBounds_toArray, List.set_cons_zero, List.set_cons_succ, List.getElem_toArray, List.getElem_cons_zero, List.getElem_cons_succ]))
  (refine wpAnyH_take (i := 2) (v := ?_) rfl (by kernel_rfl) (by kernel_rfl) (by kernel_rfl) (fun _ _ _ h => h) (Or.inl ⟨by rfl, ?_⟩) hHeld ?_; rotate_left; (focus (intro w hSw; (try dsimp only at hSw); go_simp; try with_reducible rfl)); (try simp only [Act.put, List.setIfInBounds_toArray, List.set_cons_zero, List.set_cons_succ, List.getElem_toArray, List.getElem_cons_zero, List.getElem_cons_succ])); (refine wpAnyH_take (i := 3) (v := ?_) rfl (by kernel_rfl) (by kernel_rfl) (by kernel_rfl) (fun _ _ _ h => h) (Or.inl ⟨by rfl, ?_⟩) hHeld ?_; rotate_left; (focus (intro w hSw; (try dsimp only at hSw); go_simp; try with_reducible rfl)); (try simp only [Act.put, List.setIfInBounds_toArray, List.set_cons_zero, List.set_cons_succ, List.getElem_toArray, List.getElem_cons_zero, List.getElem_cons_succ])); (refine wpAnyH_take (i := 4) (v := ?_) rfl (by kernel_rfl) (by kernel_rfl) (by kernel_rfl) (fun _ _ _ h => h) (Or.inl ⟨by rfl, ?_⟩) hHeld ?_; rotate_left; (focus (intro w hSw; (try dsimp only at hSw); go_simp; try with_reducible rfl)); (try simp only [Act.put, List.setIfInBounds_toArray, List.set_cons_zero, List.set_cons_succ, List.getElem_toArray, List.getElem_cons_zero, List.getElem_cons_succ]))
  (refine wpAnyH_take (i := 5) (v := ?_) rfl (by kernel_rfl) (by kernel_rfl) (by kernel_rfl) (fun _ _ _ h => h) (Or.inl ⟨by rfl, ?_⟩) hHeld ?_; rotate_left; (focus (intro w hSw; (try dsimp only at hSw); go_simp; (have e0 := BlkAt.cell (BlkAt.later HP1.out hSw) (j := 0) rfl; have e1 := BlkAt.cell (BlkAt.later HP1.out hSw) (j := 1) rfl; have e2 := BlkAt.cell (BlkAt.later HP1.out hSw) (j := 2) rfl; have e3 := BlkAt.cell (BlkAt.later HP1.out hSw) (j := 3) rfl; have e4 := BlkAt.cell (BlkAt.later HP1.out hSw) (j := 4) rfl; have e5 := BlkAt.cell (BlkAt.later HP1.out hSw) (j := 5) rfl; have e6 := BlkAt.cell (BlkAt.later HP1.out hSw) (j := 6) rfl; have e7 := BlkAt.cell (BlkAt.later HP1.out hSw) (j := 7) rfl; have e8 := BlkAt.cell (BlkAt.later HP1.out hSw) (j := 8) rfl; have e9 := BlkAt.cell (BlkAt.later HP1.out hSw) (j := 9) rfl; have e10 := BlkAt.cell (BlkAt.later HP1.out hSw) (j := 10) rfl; go_simp; try with_reducible rfl))); (try simp only [Act.put, List.setIfInBounds_toArray, List.set_cons_zero, List.set_cons_succ, List.getElem_toArray, List.getElem_cons_zero, List.getElem_cons_succ]))
  (refine wpAnyH_take (i := 6) (v := ?_) rfl (by kernel_rfl) (by kernel_rfl) (by kernel_rfl) (fun _ _ _ h => h) (Or.inl ⟨by rfl, ?_⟩) hHeld ?_; rotate_left; (focus (intro w hSw; (try dsimp only at hSw); go_simp; try with_reducible rfl)); (try simp only [Act.put, List.setIfInBounds_toArray, List.set_cons_zero, List.set_cons_succ, List.getElem_toArray, List.getElem_cons_zero, List.getElem_cons_succ])); (refine wpAnyH_take (i := 7) (v := ?_) rfl (by kernel_rfl) (by kernel_rfl) (by kernel_rfl) (fun _ _ _ h => h) (Or.inl ⟨by rfl, ?_⟩) hHeld ?_; rotate_left; (focus (intro w hSw; (try dsimp only at hSw); go_simp; try with_reducible rfl)); (try simp only [Act.put, List.setIfInBounds_toArray, List.set_cons_zero, List.set_cons_succ, List.getElem_toArray, List.getElem_cons_zero, List.getElem_cons_succ])); (refine wpAnyH_take (i := 8) (v := ?_) rfl (by kernel_rfl) (by kernel_rfl) (by kernel_rfl) (fun _ _ _ h => h) (Or.inl ⟨by rfl, ?_⟩) hHeld ?_; rotate_left; (focus (intro w hSw; (try dsimp only at hSw); go_simp; try with_reducible rfl)); (try simp only [Act.put, List.setIfInBounds_toArray, List.set_cons_zero, List.set_cons_succ, List.getElem_toArray, List.getElem_cons_zero, List.getElem_cons_succ]))
  (refine wpAnyH_take (i := 9) (v := ?_) rfl (by kernel_rfl) (by kernel_rfl) (by kernel_rfl) (fun _ _ _ h => h) (Or.inl ⟨by rfl, ?_⟩) hHeld ?_; rotate_left; (focus (intro w hSw; (try dsimp only at hSw); go_simp; (have e0 := BlkAt.cell (BlkAt.later HH1.out hSw) (j := 0) rfl; have e1 := BlkAt.cell (BlkAt.later HH1.out hSw) (j := 1) rfl; have e2 := BlkAt.cell (BlkAt.later HH1.out hSw) (j := 2) rfl; have e3 := BlkAt.cell (BlkAt.later HH1.out hSw) (j := 3) rfl; have e4 := BlkAt.cell (BlkAt.later HH1.out hSw) (j := 4) rfl; go_simp; try with_reducible rfl))); (try simp only [Act.put, List.setIfInBounds_toArray, List.set_cons_zero, List.set_cons_succ, List.getElem_toArray, List.getElem_cons_zero, List.getElem_cons_succ]))
  (refine wpAnyH_take (i := 10) (v := ?_) rfl (by kernel_rfl) (by kernel_rfl) (by kernel_rfl) (fun _ _ _ h => h) (Or.inl ⟨by rfl, ?_⟩) hHeld ?_; rotate_left; (focus (intro w hSw; (try dsimp only at hSw); go_simp; try with_reducible rfl)); (try simp only [Act.put, List.setIfInBounds_toArray, List.set_cons_zero, List.set_cons_succ, List.getElem_toArray, List.getElem_cons_zero, List.getElem_cons_succ])); (refine wpAnyH_take (i := 11) (v := ?_) rfl (by kernel_rfl) (by kernel_rfl) (by kernel_rfl) (fun _ _ _ h => h) (Or.inl ⟨by rfl, ?_⟩) hHeld ?_; rotate_left; (focus (intro w hSw; (try dsimp only at hSw); go_simp; try with_reducible rfl)); (try simp only [Act.put, List.setIfInBounds_toArray, List.set_cons_zero, List.set_cons_succ, List.getElem_toArray, List.getElem_cons_zero, List.getElem_cons_succ])); (refine wpAnyH_take (i := 12) (v := ?_) rfl (by kernel_rfl) (by kernel_rfl) (by kernel_rfl) (fun _ _ _ h => h) (Or.inl ⟨by rfl, ?_⟩) hHeld ?_; rotate_left; (focus (intro w hSw; (try dsimp only at hSw); go_simp; try with_reducible rfl)); (try simp only [Act.put, List.setIfInBounds_toArray, List.set_cons_zero, List.set_cons_succ, List.getElem_toArray, List.getElem_cons_zero, List.getElem_cons_succ]))
  (refine wpAnyH_take (i := 13) (v := ?_) rfl (by kernel_rfl) (by kernel_rfl) (by kernel_rfl) (fun _ _ _ h => h) (Or.inl ⟨by rfl, ?_⟩) hHeld ?_; rotate_left; (focus (intro w hSw; (try dsimp only at hSw); go_simp; (have e0 := BlkAt.cell (BlkAt.later HP1.out hSw) (j := 0) rfl; have e1 := BlkAt.cell (BlkAt.later HP1.out hSw) (j := 1) rfl; have e2 := BlkAt.cell (BlkAt.later HP1.out hSw) (j := 2) rfl; have e3 := BlkAt.cell (BlkAt.later HP1.out hSw) (j := 3) rfl; have e4 := BlkAt.cell (BlkAt.later HP1.out hSw) (j := 4) rfl; have e5 := BlkAt.cell (BlkAt.later HP1.out hSw) (j := 5) rfl; have e6 := BlkAt.cell (BlkAt.later HP1.out hSw) (j := 6) rfl; have e7 := BlkAt.cell (BlkAt.later HP1.out hSw) (j := 7) rfl; have e8 := BlkAt.cell (BlkAt.later HP1.out hSw) (j := 8) rfl; have e9 := BlkAt.cell (BlkAt.later HP1.out hSw) (j := 9) rfl; have e10 := BlkAt.cell (BlkAt.later HP1.out hSw) (j := 10) rfl; go_simp; try with_reducible rfl))); (try simp only [Act.put, List.setIfInBounds_toArray, List.set_cons_zero, List.set_cons_succ, List.getElem_toArray, List.getElem_cons_zero, List.getElem_cons_succ]))
  (refine wpAnyH_take (i := 14) (v := ?_) rfl (by kernel_rfl) (by kernel_rfl) (by kernel_rfl) (fun _ _ _ h => h) (Or.inl ⟨by rfl, ?_⟩) hHeld ?_; rotate_left; (focus (intro w hSw; (try dsimp only at hSw); go_simp; try with_reducible rfl)); (try simp only [Act.put, List.setIfInBounds_toArray, List.set_cons_zero, List.set_cons_succ, List.getElem_toArray, List.getElem_cons_zero, List.getElem_cons_succ])); (refine wpAnyH_take (i := 15) (v := ?_) rfl (by kernel_rfl) (by kernel_rfl) (by kernel_rfl) (fun _ _ _ h => h) (Or.inl ⟨by rfl, ?_⟩) hHeld ?_; rotate_left; (focus (intro w hSw; (try dsimp only at hSw); go_simp; try with_reducible rfl)); (try simp only [Act.put, List.setIfInBounds_toArray, List.set_cons_zero, List.set_cons_succ, List.getElem_toArray, List.getElem_cons_zero, List.getElem_cons_succ])); (refine wpAnyH_take (i := 16) (v := ?_) rfl (by kernel_rfl) (by kernel_rfl) (by kernel_rfl) (fun _ _ _ h => h) (Or.inl ⟨by rfl, ?_⟩) hHeld ?_; rotate_left; (focus (intro w hSw; (try dsimp only at hSw); go_simp; try with_reducible rfl)); (try simp only [Act.put, List.setIfInBounds_toArray, List.set_cons_zero, List.set_cons_succ, List.getElem_toArray, List.getElem_cons_zero, List.getElem_cons_succ]))
  (refine wpAnyH_take (i := 17) (v := ?_) rfl (by kernel_rfl) (by kernel_rfl) (by kernel_rfl) (fun _ _ _ h => h) (Or.inl ⟨by rfl, ?_⟩) hHeld ?_; rotate_left; (focus (intro w hSw; (try dsimp only at hSw); go_simp; (have e0 := BlkAt.cell (BlkAt.later HH1.out hSw) (j := 0) rfl; have e1 := BlkAt.cell (BlkAt.later HH1.out hSw) (j := 1) rfl; have e2 := BlkAt.cell (BlkAt.later HH1.out hSw) (j := 2) rfl; have e3 := BlkAt.cell (BlkAt.later HH1.out hSw) (j := 3) rfl; have e4 := BlkAt.cell (BlkAt.later HH1.out hSw) (j := 4) rfl; go_simp; try with_reducible rfl))); (try simp only [Act.put, List.setIfInBounds_toArray, List.set_cons_zero, List.set_cons_succ, List.getElem_toArray, List.getElem_cons_zero, List.getElem_cons_succ]))
  (refine wpAnyH_take (i := 18) (v := ?_) rfl (by kernel_rfl) (by kernel_rfl) (by kernel_rfl) (fun _ _ _ h => h) (Or.inl ⟨by rfl, ?_⟩) hHeld ?_; rotate_left; (focus (intro w hSw; (try dsimp only at hSw); go_simp; try with_reducible rfl)); (try simp only [Act.put, List.setIfInBounds_toArray, List.set_cons_zero, List.set_cons_succ, List.getElem_toArray, List.getElem_cons_zero, List.getElem_cons_succ])); (refine wpAnyH_take (i := 19) (v := ?_) rfl (by kernel_rfl) (by kernel_rfl) (by kernel_rfl) (fun _ _ _ h => h) (Or.inl ⟨by rfl, ?_⟩) hHeld ?_; rotate_left; (focus (intro w hSw; (try dsimp only at hSw); go_simp; try with_reducible rfl)); (try simp only [Act.put, List.setIfInBounds_toArray, List.set_cons_zero, List.set_cons_succ, List.getElem_toArray, List.getElem_cons_zero, List.getElem_cons_succ])); (refine wpAnyH_take (i := 20) (v := ?_) rfl (by kernel_rfl) (by kernel_rfl) (by kernel_rfl) (fun _ _ _ h => h) (Or.inl ⟨by rfl, ?_⟩) hHeld ?_; rotate_left; (focus (intro w hSw; (try dsimp only at hSw); go_simp; try with_reducible rfl)); (try simp only [Act.put, List.setIfInBounds_toArray, List.set_cons_zero, List.set_cons_succ, List.getElem_toArray, List.getElem_cons_zero, List.getElem_cons_succ]))
  (refine wpAnyH_take (i := 21) (v := ?_) rfl (by kernel_rfl) (by kernel_rfl) (by kernel_rfl) (fun _ _ _ h => h) (Or.inl ⟨by rfl, ?_⟩) hHeld ?_; rotate_left; (focus (intro w hSw; (try dsimp only at hSw); go_simp; (have e0 := BlkAt.cell (BlkAt.later HP1.out hSw) (j := 0) rfl; have e1 := BlkAt.cell (BlkAt.later HP1.out hSw) (j := 1) rfl; have e2 := BlkAt.cell (BlkAt.later HP1.out hSw) (j := 2) rfl; have e3 := BlkAt.cell (BlkAt.later HP1.out hSw) (j := 3) rfl; have e4 := BlkAt.cell (BlkAt.later HP1.out hSw) (j := 4) rfl; have e5 := BlkAt.cell (BlkAt.later HP1.out hSw) (j := 5) rfl; have e6 := BlkAt.cell (BlkAt.later HP1.out hSw) (j := 6) rfl; have e7 := BlkAt.cell (BlkAt.later HP1.out hSw) (j := 7) rfl; have e8 := BlkAt.cell (BlkAt.later HP1.out hSw) (j := 8) rfl; have e9 := BlkAt.cell (BlkAt.later HP1.out hSw) (j := 9) rfl; have e10 := BlkAt.cell (BlkAt.later HP1.out hSw) (j := 10) rfl; go_simp; try with_reducible rfl))); (try simp only [Act.put, List.setIfInBounds_toArray, List.set_cons_zero, List.set_cons_succ, List.getElem_toArray, List.getElem_cons_zero, List.getElem_cons_succ]))
  (refine wpAnyH_ready (rs := [22]) (by kernel_rfl) (by simp) ?_; refine AllReadyH.cons rfl (fun K hK => ?_) AllReadyH.nil; go_simp; refine (elderW h.mb h.mt a.v.tb a.v.tt _).mono ?_; rintro e y22 ⟨rfl, hs⟩; rw [tD]; refine hK.out _ _ ?_ (fun hHeldN => ?_); (focus ((try dsimp only); (exact hHeld.trans (hs.mono hHeld.size)))); clear hK K hHeld; have hHeld := hHeldN; clear hHeldN; (try simp only [Act.put, List.setIfInBounds_toArray, List.set_cons_zero, List.set_cons_succ, List.getElem_toArray, List.getElem_cons_zero, List.getElem_cons_succ]))
  (refine wpAnyH_take (i := 23) (v := ?_) rfl (by kernel_rfl) (by kernel_rfl) (by kernel_rfl) (fun _ _ _ h => h) (Or.inl ⟨by rfl, ?_⟩) hHeld ?_; rotate_left; (focus (intro w hSw; (try dsimp only at hSw); go_simp; try with_reducible rfl)); (try simp only [Act.put, List.setIfInBounds_toArray, List.set_cons_zero, List.set_cons_succ, List.getElem_toArray, List.getElem_cons_zero, List.getElem_cons_succ])); (refine wpAnyH_take (i := 24) (v := ?_) rfl (by kernel_rfl) (by kernel_rfl) (by kernel_rfl) (fun _ _ _ h => h) (Or.inl ⟨by rfl, ?_⟩) hHeld ?_; rotate_left; (focus (intro w hSw; (try dsimp only at hSw); go_simp; try with_reducible rfl)); (try simp only [Act.put, List.setIfInBounds_toArray, List.set_cons_zero, List.set_cons_succ, List.getElem_toArray, List.getElem_cons_zero, List.getElem_cons_succ])); (refine wpAnyH_take (i := 25) (v := ?_) rfl (by kernel_rfl) (by kernel_rfl) (by kernel_rfl) (fun _ _ _ h => h) (Or.inl ⟨by rfl, ?_⟩) hHeld ?_; rotate_left; (focus (intro w hSw; (try dsimp only at hSw); go_simp; try with_reducible rfl)); (try simp only [Act.put, List.setIfInBounds_toArray, List.set_cons_zero, List.set_cons_succ, List.getElem_toArray, List.getElem_cons_zero, List.getElem_cons_succ]))
  refine wpAnyH_done (by kernel_rfl) ?_ _
  have HP2 : Hid (PA p a y22) := by
    have : PA p a y22 := HP1.out.later hHeld
    exact this
  have HH2 : Hid (HBk w.heap.size h y22) := by
    have : HBk w.heap.size h y22 := BlkAt.later HH1.out hHeld
    exact this
  have HC2 : Hid (Chg [p] w y22) := by
    have : Chg [p] w y22 := HC1.out.trans (Chg.of_below _ hHeld)
    exact this
  clear hHeld hs
  go_wp2_with fail
  (refine wp_region_held_drew (S := (fun w' => Below y22.heap.size y22 w')) (by kernel_rfl) ?_ (fun hHeld => ?_); (focus ((try dsimp only); (exact (Below.refl _ _).drew))))
  (try dsimp only at hHeld)
  (refine wpAnyH_take (i := 0) (v := ?_) rfl (by kernel_rfl) (by kernel_rfl) (by kernel_rfl) (fun _ _ _ h => h) (Or.inl ⟨by rfl, ?_⟩) hHeld ?_; rotate_left; (focus (intro w hSw; (try dsimp only at hSw); go_simp; try with_reducible rfl)); (try simp only [Act.put, List.setIfInBounds_toArray, List.set_cons_zero, List.set_cons_succ, List.getElem_toArray, List.getElem_cons_zero])); (refine wpAnyH_take (i := 1) (v := ?_) rfl (by kernel_rfl) (by kernel_rfl) (by kernel_rfl) (fun _ _ _ h => h) (Or.inl ⟨by rfl, ?_⟩) hHeld ?_; rotate_left; (focus (intro w hSw; (try dsimp only at hSw); go_simp; try with_reducible rfl)); (try simp only [Act.put, List.setIfInBounds_toArray, List.set_cons_zero, List.set_cons_succ, List.getElem_toArray, List.getElem_cons_zero, List.getElem_cons_succ])); (refine wpAnyH_take (i := 2) (v := ?_) rfl (by kernel_rfl) (by kernel_rfl) (by kernel_rfl) (fun _ _ _ h => h) (Or.inl ⟨by rfl, ?_⟩) hHeld ?_; rotate_left; (focus (intro w hSw; (try dsimp only at hSw); go_simp; try with_reducible rfl)); (try simp only [Act.put, List.setIfInBounds_toArray, List.set_cons_zero, List.set_cons_succ, List.getElem_toArray, List.getElem_cons_zero, List.getElem_cons_succ]))
  (refine wpAnyH_take (i := 3) (v := ?_) rfl (by kernel_rfl) (by kernel_rfl) (by kernel_rfl) (fun _ _ _ h => h) (Or.inl ⟨by rfl, ?_⟩) hHeld ?_; rotate_left; (focus (intro w hSw; (try dsimp only at hSw); go_simp; (have e0 := BlkAt.cell (BlkAt.later HP2.out hSw) (j := 0) rfl; have e1 := BlkAt.cell (BlkAt.later HP2.out hSw) (j := 1) rfl; have e2 := BlkAt.cell (BlkAt.later HP2.out hSw) (j := 2) rfl; have e3 := BlkAt.cell (BlkAt.later HP2.out hSw) (j := 3) rfl; have e4 := BlkAt.cell (BlkAt.later HP2.out hSw) (j := 4) rfl; have e5 := BlkAt.cell (BlkAt.later HP2.out hSw) (j := 5) rfl; have e6 := BlkAt.cell (BlkAt.later HP2.out hSw) (j := 6) rfl; have e7 := BlkAt.cell (BlkAt.later HP2.out hSw) (j := 7) rfl; have e8 := BlkAt.cell (BlkAt.later HP2.out hSw) (j := 8) rfl; have e9 := BlkAt.cell (BlkAt.later HP2.out hSw) (j := 9) rfl; have e10 := BlkAt.cell (BlkAt.later HP2.out hSw) (j := 10) rfl; go_simp; try with_reducible rfl))); (try simp only [Act.put, List.setIfInBounds_toArray, List.set_cons_zero, List.set_cons_succ, List.getElem_toArray, List.getElem_cons_zero, List.getElem_cons_succ]))
  (refine wpAnyH_ready (rs := [4]) (by kernel_rfl) (by simp) ?_; refine AllReadyH.cons rfl (fun K hK => ?_) AllReadyH.nil; go_simp; refine (zeroW a.v.tb a.v.tt _).mono ?_; rintro e y4 ⟨rfl, hs⟩; rw [tZ]; refine hK.out _ _ ?_ (fun hHeldN => ?_); (focus ((try dsimp only); (exact hHeld.trans (hs.mono hHeld.size)))); clear hK K hHeld; have hHeld := hHeldN; clear hHeldN; (try simp only [Act.put, List.setIfInBounds_toArray, List.set_cons_zero, List.set_cons_succ, List.getElem_toArray, List.getElem_cons_zero, List.getElem_cons_succ]))
  (refine wpAnyH_take (i := 5) (v := ?_) rfl (by kernel_rfl) (by kernel_rfl) (by kernel_rfl) (fun _ _ _ h => h) (Or.inl ⟨by rfl, ?_⟩) hHeld ?_; rotate_left; (focus (intro w hSw; (try dsimp only at hSw); go_simp; try with_reducible rfl)); (try simp only [Act.put, List.setIfInBounds_toArray, List.set_cons_zero, List.set_cons_succ, List.getElem_toArray, List.getElem_cons_zero, List.getElem_cons_succ])); (refine wpAnyH_take (i := 6) (v := ?_) rfl (by kernel_rfl) (by kernel_rfl) (by kernel_rfl) (fun _ _ _ h => h) (Or.inl ⟨by rfl, ?_⟩) hHeld ?_; rotate_left; (focus (intro w hSw; (try dsimp only at hSw); go_simp; try with_reducible rfl)); (try simp only [Act.put, List.setIfInBounds_toArray, List.set_cons_zero, List.set_cons_succ, List.getElem_toArray, List.getElem_cons_zero, List.getElem_cons_succ])); (refine wpAnyH_take (i := 7) (v := ?_) rfl (by kernel_rfl) (by kernel_rfl) (by kernel_rfl) (fun _ _ _ h => h) (Or.inl ⟨by rfl, ?_⟩) hHeld ?_; rotate_left; (focus (intro w hSw; (try dsimp only at hSw); go_simp; try with_reducible rfl)); (try simp only [Act.put, List.setIfInBounds_toArray, List.set_cons_zero, List.set_cons_succ, List.getElem_toArray, List.getElem_cons_zero, List.getElem_cons_succ]))
  (refine wpAnyH_take (i := 8) (v := ?_) rfl (by kernel_rfl) (by kernel_rfl) (by kernel_rfl) (fun _ _ _ h => h) (Or.inl ⟨by rfl, ?_⟩) hHeld ?_; rotate_left; (focus (intro w hSw; (try dsimp only at hSw); go_simp; (have e0 := BlkAt.cell (BlkAt.later HH2.out hSw) (j := 0) rfl; have e1 := BlkAt.cell (BlkAt.later HH2.out hSw) (j := 1) rfl; have e2 := BlkAt.cell (BlkAt.later HH2.out hSw) (j := 2) rfl; have e3 := BlkAt.cell (BlkAt.later HH2.out hSw) (j := 3) rfl; have e4 := BlkAt.cell (BlkAt.later HH2.out hSw) (j := 4) rfl; go_simp; try with_reducible rfl))); (try simp only [Act.put, List.setIfInBounds_toArray, List.set_cons_zero, List.set_cons_succ, List.getElem_toArray, List.getElem_cons_zero, List.getElem_cons_succ]))
  (refine wpAnyH_take (i := 9) (v := ?_) rfl (by kernel_rfl) (by kernel_rfl) (by kernel_rfl) (fun _ _ _ h => h) (Or.inl ⟨by rfl, ?_⟩) hHeld ?_; rotate_left; (focus (intro w hSw; (try dsimp only at hSw); go_simp; try with_reducible rfl)); (try simp only [Act.put, List.setIfInBounds_toArray, List.set_cons_zero, List.set_cons_succ, List.getElem_toArray, List.getElem_cons_zero, List.getElem_cons_succ])); (refine wpAnyH_take (i := 10) (v := ?_) rfl (by kernel_rfl) (by kernel_rfl) (by kernel_rfl) (fun _ _ _ h => h) (Or.inl ⟨by rfl, ?_⟩) hHeld ?_; rotate_left; (focus (intro w hSw; (try dsimp only at hSw); go_simp; try with_reducible rfl)); (try simp only [Act.put, List.setIfInBounds_toArray, List.set_cons_zero, List.set_cons_succ, List.getElem_toArray, List.getElem_cons_zero, List.getElem_cons_succ])); (refine wpAnyH_take (i := 11) (v := ?_) rfl (by kernel_rfl) (by kernel_rfl) (by kernel_rfl) (fun _ _ _ h => h) (Or.inl ⟨by rfl, ?_⟩) hHeld ?_; rotate_left; (focus (intro w hSw; (try dsimp only at hSw); go_simp; try with_reducible rfl)); (try simp only [Act.put, List.setIfInBounds_toArray, List.set_cons_zero, List.set_cons_succ, List.getElem_toArray, List.getElem_cons_zero, List.getElem_cons_succ]))
  (refine wpAnyH_take (i := 12) (v := ?_) rfl (by kernel_rfl) (by kernel_rfl) (by kernel_rfl) (fun _ _ _ h => h) (Or.inl ⟨by rfl, ?_⟩) hHeld ?_; rotate_left; (focus (intro w hSw; (try dsimp only at hSw); go_simp; (have e0 := BlkAt.cell (BlkAt.later HP2.out hSw) (j := 0) rfl; have e1 := BlkAt.cell (BlkAt.later HP2.out hSw) (j := 1) rfl; have e2 := BlkAt.cell (BlkAt.later HP2.out hSw) (j := 2) rfl; have e3 := BlkAt.cell (BlkAt.later HP2.out hSw) (j := 3) rfl; have e4 := BlkAt.cell (BlkAt.later HP2.out hSw) (j := 4) rfl; have e5 := BlkAt.cell (BlkAt.later HP2.out hSw) (j := 5) rfl; have e6 := BlkAt.cell (BlkAt.later HP2.out hSw) (j := 6) rfl; have e7 := BlkAt.cell (BlkAt.later HP2.out hSw) (j := 7) rfl; have e8 := BlkAt.cell (BlkAt.later HP2.out hSw) (j := 8) rfl; have e9 := BlkAt.cell (BlkAt.later HP2.out hSw) (j := 9) rfl; have e10 := BlkAt.cell (BlkAt.later HP2.out hSw) (j := 10) rfl; go_simp; try with_reducible rfl))); (try simp only [Act.put, List.setIfInBounds_toArray, List.set_cons_zero, List.set_cons_succ, List.getElem_toArray, List.getElem_cons_zero, List.getElem_cons_succ]))
  (refine wpAnyH_take (i := 13) (v := ?_) rfl (by kernel_rfl) (by kernel_rfl) (by kernel_rfl) (fun _ _ _ h => h) (Or.inl ⟨by rfl, ?_⟩) hHeld ?_; rotate_left; (focus (intro w hSw; (try dsimp only at hSw); go_simp; try with_reducible rfl)); (try simp only [Act.put, List.setIfInBounds_toArray, List.set_cons_zero, List.set_cons_succ, List.getElem_toArray, List.getElem_cons_zero, List.getElem_cons_succ])); (refine wpAnyH_take (i := 14) (v := ?_) rfl (by kernel_rfl) (by kernel_rfl) (by kernel_rfl) (fun _ _ _ h => h) (Or.inl ⟨by rfl, ?_⟩) hHeld ?_; rotate_left; (focus (intro w hSw; (try dsimp only at hSw); go_simp; try with_reducible rfl)); (try simp only [Act.put, List.setIfInBounds_toArray, List.set_cons_zero, List.set_cons_succ, List.getElem_toArray, List.getElem_cons_zero, List.getElem_cons_succ])); (refine wpAnyH_take (i := 15) (v := ?_) rfl (by kernel_rfl) (by kernel_rfl) (by kernel_rfl) (fun _ _ _ h => h) (Or.inl ⟨by rfl, ?_⟩) hHeld ?_; rotate_left; (focus (intro w hSw; (try dsimp only at hSw); go_simp; try with_reducible rfl)); (try simp only [Act.put, List.setIfInBounds_toArray, List.set_cons_zero, List.set_cons_succ, List.getElem_toArray, List.getElem_cons_zero, List.getElem_cons_succ]))
  refine wpAnyH_done (by kernel_rfl) ?_ _
  have HP3 : Hid (PA p a y4) := by
    have : PA p a y4 := HP2.out.later hHeld
    exact this
  have HH3 : Hid (HBk w.heap.size h y4) := by
    have : HBk w.heap.size h y4 := BlkAt.later HH2.out hHeld
    exact this
  have HC3 : Hid (Chg [p] w y4) := by
    have : Chg [p] w y4 := HC2.out.trans (Chg.of_below _ hHeld)
    exact this
  clear hHeld hs
  have hP := HP3.out
  have hH := HH3.out
  have c0 := BlkAt.cell hP (j := 0) rfl; have c1 := BlkAt.cell hP (j := 1) rfl; have c2 := BlkAt.cell hP (j := 2) rfl; have c3 := BlkAt.cell hP (j := 3) rfl; have c4 := BlkAt.cell hP (j := 4) rfl; have c5 := BlkAt.cell hP (j := 5) rfl; have c6 := BlkAt.cell hP (j := 6) rfl; have c7 := BlkAt.cell hP (j := 7) rfl; have c8 := BlkAt.cell hP (j := 8) rfl; have c9 := BlkAt.cell hP (j := 9) rfl; have c10 := BlkAt.cell hP (j := 10) rfl
  have g0 := BlkAt.cell hH (j := 0) rfl; have g1 := BlkAt.cell hH (j := 1) rfl; have g2 := BlkAt.cell hH (j := 2) rfl; have g3 := BlkAt.cell hH (j := 3) rfl; have g4 := BlkAt.cell hH (j := 4) rfl
  have hfz : ∀ j, (y4).frozen? ⟨p, j, none⟩ = false := fun j => BlkAt.frozen hP j
  clear hP hH
  go_wp2_with fail
  go_quiet (fail)
  obtain ⟨x4, hx4⟩ : ∃ W, W = World.drewN y4 nq := ⟨_, rfl⟩
  rw [← hx4]
  have HP4 : Hid (PA p a x4) := by
    have : PA p a x4 := by rw [hx4]; exact HP3.out
    exact this
  have HH4 : Hid (HBk w.heap.size h x4) := by
    have : HBk w.heap.size h x4 := by rw [hx4]; exact HH3.out
    exact this
  have HC4 : Hid (Chg [p] w x4) := by
    have : Chg [p] w x4 := by rw [hx4]; exact Chg.dr HC3.out _
    exact this
  clear hx4
  clear c0 c1 c2 c3 c4 c5 c6 c7 c8 c9 c10 g0 g1 g2 g3 g4 hfz
  have HPv : Hid (PA p ⟨a.node, a.every, a.dead, a.said, a.sil, V⟩ x4) := by
    have : PA p ⟨a.node, a.every, a.dead, a.said, a.sil, V⟩ x4 := by rw [HVV.out]; exact HP4.out
    exact this
  have hP := HPv.out
  have c4 := BlkAt.cell hP (j := 4) rfl
  have hfz : ∀ j, (x4).frozen? ⟨p, j, none⟩ = false := fun j => BlkAt.frozen hP j
  clear hP
  go_wp2_with fail
  obtain ⟨z3, hz3⟩ : ∃ W, W = x4.setCell ⟨p, 4, none⟩ (.int .i64 0) := ⟨_, rfl⟩
  rw [← hz3]
  have hCs : Chg [p] x4 z3 := by rw [hz3]; exact Chg.set (Chg.refl _ _) (by simp) 4 _
  have HP5 : Hid (PA p ⟨a.node, a.every, a.dead, a.said, 0, V⟩ z3) := by
    have : PA p ⟨a.node, a.every, a.dead, a.said, 0, V⟩ z3 := by rw [hz3]; exact HPv.out.setSil
    exact this
  have HH5 : Hid (HBk w.heap.size h z3) := by
    have : HBk w.heap.size h z3 := hCs.blk HH4.out HNE.out
    exact this
  have HC5 : Hid (Chg [p] w z3) := by
    have : Chg [p] w z3 := HC4.out.trans hCs
    exact this
  clear hz3 hCs HPv c4 hfz
  have hP := HP5.out
  have hH := HH5.out
  have c0 := BlkAt.cell hP (j := 0) rfl; have c1 := BlkAt.cell hP (j := 1) rfl; have c2 := BlkAt.cell hP (j := 2) rfl; have c3 := BlkAt.cell hP (j := 3) rfl; have c4 := BlkAt.cell hP (j := 4) rfl; have c5 := BlkAt.cell hP (j := 5) rfl; have c6 := BlkAt.cell hP (j := 6) rfl; have c7 := BlkAt.cell hP (j := 7) rfl; have c8 := BlkAt.cell hP (j := 8) rfl; have c9 := BlkAt.cell hP (j := 9) rfl; have c10 := BlkAt.cell hP (j := 10) rfl
  have g0 := BlkAt.cell hH (j := 0) rfl; have g1 := BlkAt.cell hH (j := 1) rfl; have g2 := BlkAt.cell hH (j := 2) rfl; have g3 := BlkAt.cell hH (j := 3) rfl; have g4 := BlkAt.cell hH (j := 4) rfl
  have hfz : ∀ j, (z3).frozen? ⟨p, j, none⟩ = false := fun j => BlkAt.frozen hP j
  clear hP hH
  go_quiet (fail)
  have HPn := Lib.hid (HP5.out.dr nq)
  have HCn := Lib.hid (HC5.out.dr nq)
  cases tU : sameTI h.hb h.ht V.mb V.mt with
  | false =>
    have HU : Hid (upV V h = V) := by
      have : upV V h = V := if_neg (by rw [tU]; simp)
      exact this
    go_wp2_with fail
    go_end0
    exact ⟨⟨_, rfl⟩, by rw [HU.out]; exact HPn.out, HCn.out⟩
  | true =>
    have HU : Hid (upV V h = ⟨2, V.mb, V.mt, V.tb, V.tt, V.n⟩) := by
      have : upV V h = ⟨2, V.mb, V.mt, V.tb, V.tt, V.n⟩ := if_pos tU
      exact this
    go_wp2_with fail
    go_end0
    exact ⟨⟨_, rfl⟩, by rw [HU.out]; exact HPn.out.setSt, HCn.out.set (by simp) 5 _⟩

end Go.Proofs.Ytcedninipbafaaa
