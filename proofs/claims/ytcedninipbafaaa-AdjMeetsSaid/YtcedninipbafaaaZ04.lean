/- The reference's Hear: the walks, a way each.
   The reference's New, May, anew, Drop, Tick: the walks.
   adj.heed, any way; adj.Hear. -/
import Derived.Test.YtcedninipbafaaaZ03

set_option linter.unusedSimpArgs false
set_option linter.unusedVariables false
namespace Go.Proofs.Ytcedninipbafaaa
open Go.RowKit
attribute [local go_sem ↓] Go.wp_at_zero Go.wp_at_succ
attribute [local go_sem ↓ high] eqTI neTI eqVI neVI

/-- What is so of an adjacency, always. -/
structure Inv (a : Ad) : Prop where
  node : 1 ≤ a.node
  st : a.v.st = 0 ∨ a.v.st = 1 ∨ a.v.st = 2
  down : a.v.st = 0 → a.v.tb = 0 ∧ a.v.tt = 0 ∧ a.v.n = 0
  up : a.v.st ≠ 0 → a.v.tb ≠ 0 ∧ a.v.n ≠ a.node ∧ 1 ≤ a.v.n
theorem Inv.nz {a : Ad} (h : Inv a) : a.node ≠ 0 := by have := h.node; omega
/-- A hello that is its own, or late. -/
def stay (a : Ad) (h : Hl) : Bool := decide (h.n = a.node) || (decide (h.n = a.v.n) && eldI h.mb h.mt a.v.tb a.v.tt)
/-- What is known behind it, but for whether it is Up. -/
def nowV (v : Vw) (h : Hl) : Vw := if v.st ≠ 0 ∧ h.n ≠ v.n then setV (anV v) h else if v.st ≠ 0 ∧ h.mb = v.tb ∧ h.mt = v.tt then v else setV v h
def heedA (a : Ad) (h : Hl) : Ad := if stay a h = true then a else ⟨a.node, a.every, a.dead, a.said, 0, upV (nowV a.v h) h⟩
def hearA (a : Ad) (h : Hl) : Ad := if mayHl h = true then heedA a h else a
theorem mayHl_iff {h : Hl} : mayHl h = true ↔ 1 ≤ h.n ∧ h.n ≤ 16 ∧ h.mb ≠ 0 ∧ h.mt ≠ 0 := by
  unfold mayHl inI
  simp [and_assoc]
set_option maxHeartbeats 4000000 in
theorem heedS0 {p : Nat} {a : Ad} {w : World} (hA : PA p a w) (h : Hl) (t0 : (h.n == a.node) = true) :
    Calls Try.prog 26 #[.pointer (some ⟨p, 0, none⟩), .agg #[.int .i64 h.n, .int .u64 h.mb, .int .u64 h.mt, .int .u64 h.hb, .int .u64 h.ht]] w fun e w' => (∃ x, e = .returned x) ∧ PA p a w' ∧ Chg [p] w w' := by
  obtain ⟨w1, hw1⟩ : ∃ W, W = w.alloc (.cells #[.int .i64 h.n, .int .u64 h.mb, .int .u64 h.mt, .int .u64 h.hb, .int .u64 h.ht] 35) := ⟨_, rfl⟩
  have hb : Below w.heap.size w w1 := by rw [hw1]; exact (Below.refl _ _).alloc (Nat.le_refl _) _
  have hP := hA.later hb
  have HP := Lib.hid hP
  have HC1 := Lib.hid (Chg.of_below [p] hb)
  have hH : HBk w.heap.size h w1 := by rw [hw1]; exact BlkAt.new w _
  have c0 := BlkAt.cell hP (j := 0) rfl; have c1 := BlkAt.cell hP (j := 1) rfl; have c2 := BlkAt.cell hP (j := 2) rfl; have c3 := BlkAt.cell hP (j := 3) rfl; have c4 := BlkAt.cell hP (j := 4) rfl; have c5 := BlkAt.cell hP (j := 5) rfl; have c6 := BlkAt.cell hP (j := 6) rfl; have c7 := BlkAt.cell hP (j := 7) rfl; have c8 := BlkAt.cell hP (j := 8) rfl; have c9 := BlkAt.cell hP (j := 9) rfl; have c10 := BlkAt.cell hP (j := 10) rfl
  have g0 := BlkAt.cell hH (j := 0) rfl; have g1 := BlkAt.cell hH (j := 1) rfl; have g2 := BlkAt.cell hH (j := 2) rfl; have g3 := BlkAt.cell hH (j := 3) rfl; have g4 := BlkAt.cell hH (j := 4) rfl
  have HW := Lib.hid hw1
  clear hA hb hw1 hP hH
  go_enter Try.func26, Try.ntmps26
  go_wp2_with fail
  rw [← HW.out]
  go_quiet (fail)
  go_wp2_with fail
  go_end0
  exact ⟨⟨_, rfl⟩, HP.out.dr _, HC1.out.dr _⟩
set_option maxHeartbeats 8000000 in
set_option maxRecDepth 100000 in
theorem heedS1 {p : Nat} {a : Ad} {w : World} (hA : PA p a w) (h : Hl) (t0 : (h.n == a.node) = false) (tE : (h.n == a.v.n) = true) (tD : eldI h.mb h.mt a.v.tb a.v.tt = true) :
    Calls Try.prog 26 #[.pointer (some ⟨p, 0, none⟩), .agg #[.int .i64 h.n, .int .u64 h.mb, .int .u64 h.mt, .int .u64 h.hb, .int .u64 h.ht]] w fun e w' => (∃ x, e = .returned x) ∧ PA p a w' ∧ Chg [p] w w' := by
  obtain ⟨w1, hw1⟩ : ∃ W, W = w.alloc (.cells #[.int .i64 h.n, .int .u64 h.mb, .int .u64 h.mt, .int .u64 h.hb, .int .u64 h.ht] 35) := ⟨_, rfl⟩
  have hb : Below w.heap.size w w1 := by rw [hw1]; exact (Below.refl _ _).alloc (Nat.le_refl _) _
  have HP1 := Lib.hid (hA.later hb)
  have HC1 := Lib.hid (Chg.of_below [p] hb)
  have HH1 : Hid (HBk w.heap.size h w1) := by
    have : HBk w.heap.size h w1 := by rw [hw1]; exact BlkAt.new w _
    exact this
  have HW := Lib.hid hw1
  clear hA hb hw1
  go_enter Try.func26, Try.ntmps26
  go_wp2_with fail
  rw [← HW.out]
  (refine wp_region_held_drew (S := (fun w' => Below w1.heap.size w1 w')) (by kernel_rfl) ?_ (fun hHeld => ?_); (focus ((try dsimp only); (exact (Below.refl _ _).drew))))
  (try dsimp only at hHeld)
  (refine wpAnyH_take (i := 0) (v := ?_) rfl (by kernel_rfl) (by kernel_rfl) (by kernel_rfl) (fun _ _ _ h => h) (Or.inl ⟨by rfl, ?_⟩) hHeld ?_; rotate_left; (focus (intro w hSw; (try dsimp only at hSw); go_simp; try with_reducible rfl)); (try simp only [Act.put, List.setIfInBounds_toArray, List.set_cons_zero, List.set_cons_succ, List.getElem_toArray, List.getElem_cons_zero]))
  (refine wpAnyH_take (i := 1) (v := ?_) rfl (by kernel_rfl) (by kernel_rfl) (by kernel_rfl) (fun _ _ _ h => h) (Or.inl ⟨by rfl, ?_⟩) hHeld ?_; rotate_left; (focus (intro w hSw; (try dsimp only at hSw); go_simp; (have e0 := BlkAt.cell (BlkAt.later HH1.out hSw) (j := 0) rfl; have e1 := BlkAt.cell (BlkAt.later HH1.out hSw) (j := 1) rfl; have e2 := BlkAt.cell (BlkAt.later HH1.out hSw) (j := 2) rfl; have e3 := BlkAt.cell (BlkAt.later HH1.out hSw) (j := 3) rfl; have e4 := BlkAt.cell (BlkAt.later HH1.out hSw) (j := 4) rfl; go_simp; try with_reducible rfl))); (try simp only [Act.put, List.setIfInBounds_toArray, List.set_cons_zero, List.set_cons_succ, List.getElem_toArray, List.getElem_cons_zero, List.getElem_cons_succ]))
  (refine wpAnyH_take (i := 2) (v := ?_) rfl (by kernel_rfl) (by kernel_rfl) (by kernel_rfl) (fun _ _ _ h => h) (Or.inl ⟨by rfl, ?_⟩) hHeld ?_; rotate_left; (focus (intro w hSw; (try dsimp only at hSw); go_simp; try with_reducible rfl)); (try simp only [Act.put, List.setIfInBounds_toArray, List.set_cons_zero, List.set_cons_succ, List.getElem_toArray, List.getElem_cons_zero, List.getElem_cons_succ])); (refine wpAnyH_take (i := 3) (v := ?_) rfl (by kernel_rfl) (by kernel_rfl) (by kernel_rfl) (fun _ _ _ h => h) (Or.inl ⟨by rfl, ?_⟩) hHeld ?_; rotate_left; (focus (intro w hSw; (try dsimp only at hSw); go_simp; try with_reducible rfl)); (try simp only [Act.put, List.setIfInBounds_toArray, List.set_cons_zero, List.set_cons_succ, List.getElem_toArray, List.getElem_cons_zero, List.getElem_cons_succ])); (refine wpAnyH_take (i := 4) (v := ?_) rfl (by kernel_rfl) (by kernel_rfl) (by kernel_rfl) (fun _ _ _ h => h) (Or.inl ⟨by rfl, ?_⟩) hHeld ?_; rotate_left; (focus (intro w hSw; (try dsimp only at hSw); go_simp; try with_reducible rfl)); (try simp only [Act.put, List.setIfInBounds_toArray, List.set_cons_zero, List.set_cons_succ, List.getElem_toArray, List.getElem_cons_zero, List.getElem_cons_succ]))
  (refine wpAnyH_take (i := 5) (v := ?_) rfl (by kernel_rfl) (by kernel_rfl) (by kernel_rfl) (fun _ _ _ h => h) (Or.inl ⟨by rfl, ?_⟩) hHeld ?_; rotate_left; (focus (intro w hSw; (try dsimp only at hSw); go_simp; (have e0 := BlkAt.cell (BlkAt.later HP1.out hSw) (j := 0) rfl; have e1 := BlkAt.cell (BlkAt.later HP1.out hSw) (j := 1) rfl; have e2 := BlkAt.cell (BlkAt.later HP1.out hSw) (j := 2) rfl; have e3 := BlkAt.cell (BlkAt.later HP1.out hSw) (j := 3) rfl; have e4 := BlkAt.cell (BlkAt.later HP1.out hSw) (j := 4) rfl; have e5 := BlkAt.cell (BlkAt.later HP1.out hSw) (j := 5) rfl; have e6 := BlkAt.cell (BlkAt.later HP1.out hSw) (j := 6) rfl; have e7 := BlkAt.cell (BlkAt.later HP1.out hSw) (j := 7) rfl; have e8 := BlkAt.cell (BlkAt.later HP1.out hSw) (j := 8) rfl; have e9 := BlkAt.cell (BlkAt.later HP1.out hSw) (j := 9) rfl; have e10 := BlkAt.cell (BlkAt.later HP1.out hSw) (j := 10) rfl; go_simp; try with_reducible rfl))); (try simp only [Act.put, List.setIfInBounds_toArray, List.set_cons_zero, List.set_cons_succ, List.getElem_toArray, List.getElem_cons_zero, List.getElem_cons_succ]))
  (refine wpAnyH_take (i := 6) (v := ?_) rfl (by kernel_rfl) (by kernel_rfl) (by kernel_rfl) (fun _ _ _ h => h) (Or.inl ⟨by rfl, ?_⟩) hHeld ?_; rotate_left; (focus (intro w hSw; (try dsimp only at hSw); go_simp; try with_reducible rfl)); (try simp only [Act.put, List.setIfInBounds_toArray, List.set_cons_zero, List.set_cons_succ, List.getElem_toArray, List.getElem_cons_zero, List.getElem_cons_succ])); (refine wpAnyH_take (i := 7) (v := ?_) rfl (by kernel_rfl) (by kernel_rfl) (by kernel_rfl) (fun _ _ _ h => h) (Or.inl ⟨by rfl, ?_⟩) hHeld ?_; rotate_left; (focus (intro w hSw; (try dsimp only at hSw); go_simp; try with_reducible rfl)); (try simp only [Act.put, List.setIfInBounds_toArray, List.set_cons_zero, List.set_cons_succ, List.getElem_toArray, List.getElem_cons_zero, List.getElem_cons_succ])); (refine wpAnyH_take (i := 8) (v := ?_) rfl (by kernel_rfl) (by kernel_rfl) (by kernel_rfl) (fun _ _ _ h => h) (Or.inl ⟨by rfl, ?_⟩) hHeld ?_; rotate_left; (focus (intro w hSw; (try dsimp only at hSw); go_simp; try with_reducible rfl)); (try simp only [Act.put, List.setIfInBounds_toArray, List.set_cons_zero, List.set_cons_succ, List.getElem_toArray, List.getElem_cons_zero, List.getElem_cons_succ]))
  (refine wpAnyH_take (i := 9) (v := ?_) rfl (by kernel_rfl) (by kernel_rfl) (by kernel_rfl) (fun _ _ _ h => h) (Or.inl ⟨by rfl, ?_⟩) hHeld ?_; rotate_left; (focus (intro w hSw; (try dsimp only at hSw); go_simp; (have e0 := BlkAt.cell (BlkAt.later HH1.out hSw) (j := 0) rfl; have e1 := BlkAt.cell (BlkAt.later HH1.out hSw) (j := 1) rfl; have e2 := BlkAt.cell (BlkAt.later HH1.out hSw) (j := 2) rfl; have e3 := BlkAt.cell (BlkAt.later HH1.out hSw) (j := 3) rfl; have e4 := BlkAt.cell (BlkAt.later HH1.out hSw) (j := 4) rfl; go_simp; try with_reducible rfl))); (try simp only [Act.put, List.setIfInBounds_toArray, List.set_cons_zero, List.set_cons_succ, List.getElem_toArray, List.getElem_cons_zero, List.getElem_cons_succ]))
  (refine wpAnyH_take (i := 10) (v := ?_) rfl (by kernel_rfl) (by kernel_rfl) (by kernel_rfl) (fun _ _ _ h => h) (Or.inl ⟨by rfl, ?_⟩) hHeld ?_; rotate_left; (focus (intro w hSw; (try dsimp only at hSw); go_simp; try with_reducible rfl)); (try simp only [Act.put, List.setIfInBounds_toArray, List.set_cons_zero, List.set_cons_succ, List.getElem_toArray, List.getElem_cons_zero, List.getElem_cons_succ])); (refine wpAnyH_take (i := 11) (v := ?_) rfl (by kernel_rfl) (by kernel_rfl) (by kernel_rfl) (fun _ _ _ h => h) (Or.inl ⟨by rfl, ?_⟩) hHeld ?_; rotate_left; (focus (intro w hSw; (try dsimp only at hSw); go_simp; try with_reducible rfl)); (try simp only [Act.put, List.setIfInBounds_toArray, List.set_cons_zero, List.set_cons_succ, List.getElem_toArray, List.getElem_cons_zero, List.getElem_cons_succ])); (refine wpAnyH_take (i := 12) (v := ?_) rfl (by kernel_rfl) (by kernel_rfl) (by kernel_rfl) (fun _ _ _ h => h) (Or.inl ⟨by rfl, ?_⟩) hHeld ?_; rotate_left; (focus (intro w hSw; (try dsimp only at hSw); go_simp; try with_reducible rfl)); (try simp only [Act.put, List.setIfInBounds_toArray, List.set_cons_zero, List.set_cons_succ, List.getElem_toArray, List.getElem_cons_zero, List.getElem_cons_succ]))
  (refine wpAnyH_take (i := 13) (v := ?_) rfl (by kernel_rfl) (by kernel_rfl) (by kernel_rfl) (fun _ _ _ h => h) (Or.inl ⟨by rfl, ?_⟩) hHeld ?_; rotate_left; (focus (intro w hSw; (try dsimp only at hSw); go_simp; (have e0 := BlkAt.cell (BlkAt.later HP1.out hSw) (j := 0) rfl; have e1 := BlkAt.cell (BlkAt.later HP1.out hSw) (j := 1) rfl; have e2 := BlkAt.cell (BlkAt.later HP1.out hSw) (j := 2) rfl; have e3 := BlkAt.cell (BlkAt.later HP1.out hSw) (j := 3) rfl; have e4 := BlkAt.cell (BlkAt.later HP1.out hSw) (j := 4) rfl; have e5 := BlkAt.cell (BlkAt.later HP1.out hSw) (j := 5) rfl; have e6 := BlkAt.cell (BlkAt.later HP1.out hSw) (j := 6) rfl; have e7 := BlkAt.cell (BlkAt.later HP1.out hSw) (j := 7) rfl; have e8 := BlkAt.cell (BlkAt.later HP1.out hSw) (j := 8) rfl; have e9 := BlkAt.cell (BlkAt.later HP1.out hSw) (j := 9) rfl; have e10 := BlkAt.cell (BlkAt.later HP1.out hSw) (j := 10) rfl; go_simp; try with_reducible rfl))); (try simp only [Act.put, List.setIfInBounds_toArray, List.set_cons_zero, List.set_cons_succ, List.getElem_toArray, List.getElem_cons_zero, List.getElem_cons_succ]))
  (refine wpAnyH_take (i := 14) (v := ?_) rfl (by kernel_rfl) (by kernel_rfl) (by kernel_rfl) (fun _ _ _ h => h) (Or.inl ⟨by rfl, ?_⟩) hHeld ?_; rotate_left; (focus (intro w hSw; (try dsimp only at hSw); go_simp; try with_reducible rfl)); (try simp only [Act.put, List.setIfInBounds_toArray, List.set_cons_zero, List.set_cons_succ, List.getElem_toArray, List.getElem_cons_zero, List.getElem_cons_succ])); (refine wpAnyH_take (i := 15) (v := ?_) rfl (by kernel_rfl) (by kernel_rfl) (by kernel_rfl) (fun _ _ _ h => h) (Or.inl ⟨by rfl, ?_⟩) hHeld ?_; rotate_left; (focus (intro w hSw; (try dsimp only at hSw); go_simp; try with_reducible rfl)); (try simp only [Act.put, List.setIfInBounds_toArray, List.set_cons_zero, List.set_cons_succ, List.getElem_toArray, List.getElem_cons_zero, List.getElem_cons_succ])); (refine wpAnyH_take (i := 16) (v := ?_) rfl (by kernel_rfl) (by kernel_rfl) (by kernel_rfl) (fun _ _ _ h => h) (Or.inl ⟨by rfl, ?_⟩) hHeld ?_; rotate_left; (focus (intro w hSw; (try dsimp only at hSw); go_simp; try with_reducible rfl)); (try simp only [Act.put, List.setIfInBounds_toArray, List.set_cons_zero, List.set_cons_succ, List.getElem_toArray, List.getElem_cons_zero, List.getElem_cons_succ]))
  (refine wpAnyH_take (i := 17) (v := ?_) rfl (by kernel_rfl) (by kernel_rfl) (by kernel_rfl) (fun _ _ _ h => h) (Or.inl ⟨by rfl, ?_⟩) hHeld ?_; rotate_left; (focus (intro w hSw; (try dsimp only at hSw); go_simp; (have e0 := BlkAt.cell (BlkAt.later HH1.out hSw) (j := 0) rfl; have e1 := BlkAt.cell (BlkAt.later HH1.out hSw) (j := 1) rfl; have e2 := BlkAt.cell (BlkAt.later HH1.out hSw) (j := 2) rfl; have e3 := BlkAt.cell (BlkAt.later HH1.out hSw) (j := 3) rfl; have e4 := BlkAt.cell (BlkAt.later HH1.out hSw) (j := 4) rfl; go_simp; try with_reducible rfl))); (try simp only [Act.put, List.setIfInBounds_toArray, List.set_cons_zero, List.set_cons_succ, List.getElem_toArray, List.getElem_cons_zero, List.getElem_cons_succ]))
  (refine wpAnyH_take (i := 18) (v := ?_) rfl (by kernel_rfl) (by kernel_rfl) (by kernel_rfl) (fun _ _ _ h => h) (Or.inl ⟨by rfl, ?_⟩) hHeld ?_; rotate_left; (focus (intro w hSw; (try dsimp only at hSw); go_simp; try with_reducible rfl)); (try simp only [Act.put, List.setIfInBounds_toArray, List.set_cons_zero, List.set_cons_succ, List.getElem_toArray, List.getElem_cons_zero, List.getElem_cons_succ])); (refine wpAnyH_take (i := 19) (v := ?_) rfl (by kernel_rfl) (by kernel_rfl) (by kernel_rfl) (fun _ _ _ h => h) (Or.inl ⟨by rfl, ?_⟩) hHeld ?_; rotate_left; (focus (intro w hSw; (try dsimp only at hSw); go_simp; try with_reducible rfl)); (try simp only [Act.put, List.setIfInBounds_toArray, List.set_cons_zero, List.set_cons_succ, List.getElem_toArray, List.getElem_cons_zero, List.getElem_cons_succ])); (refine wpAnyH_take (i := 20) (v := ?_) rfl (by kernel_rfl) (by kernel_rfl) (by kernel_rfl) (fun _ _ _ h => h) (Or.inl ⟨by rfl, ?_⟩) hHeld ?_; rotate_left; (focus (intro w hSw; (try dsimp only at hSw); go_simp; try with_reducible rfl)); (try simp only [Act.put, List.setIfInBounds_toArray, List.set_cons_zero, List.set_cons_succ, List.getElem_toArray, List.getElem_cons_zero, List.getElem_cons_succ]))
  (refine wpAnyH_take (i := 21) (v := ?_) rfl (by kernel_rfl) (by kernel_rfl) (by kernel_rfl) (fun _ _ _ h => h) (Or.inl ⟨by rfl, ?_⟩) hHeld ?_; rotate_left; (focus (intro w hSw; (try dsimp only at hSw); go_simp; (have e0 := BlkAt.cell (BlkAt.later HP1.out hSw) (j := 0) rfl; have e1 := BlkAt.cell (BlkAt.later HP1.out hSw) (j := 1) rfl; have e2 := BlkAt.cell (BlkAt.later HP1.out hSw) (j := 2) rfl; have e3 := BlkAt.cell (BlkAt.later HP1.out hSw) (j := 3) rfl; have e4 := BlkAt.cell (BlkAt.later HP1.out hSw) (j := 4) rfl; have e5 := BlkAt.cell (BlkAt.later HP1.out hSw) (j := 5) rfl; have e6 := BlkAt.cell (BlkAt.later HP1.out hSw) (j := 6) rfl; have e7 := BlkAt.cell (BlkAt.later HP1.out hSw) (j := 7) rfl; have e8 := BlkAt.cell (BlkAt.later HP1.out hSw) (j := 8) rfl; have e9 := BlkAt.cell (BlkAt.later HP1.out hSw) (j := 9) rfl; have e10 := BlkAt.cell (BlkAt.later HP1.out hSw) (j := 10) rfl; go_simp; try with_reducible rfl))); (try simp only [Act.put, List.setIfInBounds_toArray, List.set_cons_zero, List.set_cons_succ, List.getElem_toArray, List.getElem_cons_zero, List.getElem_cons_succ]))
  (refine wpAnyH_ready (rs := [22]) (by kernel_rfl) (by simp) ?_; refine AllReadyH.cons rfl (fun K hK => ?_) AllReadyH.nil; go_simp; refine (elderW h.mb h.mt a.v.tb a.v.tt _).mono ?_; rintro e y22 ⟨rfl, hs⟩; rw [tD]; refine hK.out _ _ ?_ (fun hHeldN => ?_); (focus ((try dsimp only); (exact hHeld.trans (hs.mono hHeld.size)))); clear hK K hHeld; have hHeld := hHeldN; clear hHeldN; (try simp only [Act.put, List.setIfInBounds_toArray, List.set_cons_zero, List.set_cons_succ, List.getElem_toArray, List.getElem_cons_zero, List.getElem_cons_succ]))
  (refine wpAnyH_take (i := 23) (v := ?_) rfl (by kernel_rfl) (by kernel_rfl) (by kernel_rfl) (fun _ _ _ h => h) (Or.inl ⟨by rfl, ?_⟩) hHeld ?_; rotate_left; (focus (intro w hSw; (try dsimp only at hSw); go_simp; try with_reducible rfl)); (try simp only [Act.put, List.setIfInBounds_toArray, List.set_cons_zero, List.set_cons_succ, List.getElem_toArray, List.getElem_cons_zero, List.getElem_cons_succ])); (refine wpAnyH_take (i := 24) (v := ?_) rfl (by kernel_rfl) (by kernel_rfl) (by kernel_rfl) (fun _ _ _ h => h) (Or.inl ⟨by rfl, ?_⟩) hHeld ?_; rotate_left; (focus (intro w hSw; (try dsimp only at hSw); go_simp; try with_reducible rfl)); (try simp only [Act.put, List.setIfInBounds_toArray, List.set_cons_zero, List.set_cons_succ, List.getElem_toArray, List.getElem_cons_zero, List.getElem_cons_succ])); (refine wpAnyH_take (i := 25) (v := ?_) rfl (by kernel_rfl) (by kernel_rfl) (by kernel_rfl) (fun _ _ _ h => h) (Or.inl ⟨by rfl, ?_⟩) hHeld ?_; rotate_left; (focus (intro w hSw; (try dsimp only at hSw); go_simp; try with_reducible rfl)); (try simp only [Act.put, List.setIfInBounds_toArray, List.set_cons_zero, List.set_cons_succ, List.getElem_toArray, List.getElem_cons_zero, List.getElem_cons_succ]))
  refine wpAnyH_done (by kernel_rfl) ?_ _
  go_wp2_with fail
  go_end0
  exact ⟨⟨_, rfl⟩, HP1.out.later hHeld, HC1.out.trans (Chg.of_below _ hHeld)⟩
theorem heedW {p : Nat} {a : Ad} {w : World} (hA : PA p a w) (hI : Inv a) (h : Hl) (hm : mayHl h = true) :
    Calls Try.prog 26 #[.pointer (some ⟨p, 0, none⟩), .agg #[.int .i64 h.n, .int .u64 h.mb, .int .u64 h.mt, .int .u64 h.hb, .int .u64 h.ht]] w fun e w' => (∃ x, e = .returned x) ∧ PA p (heedA a h) w' ∧ Chg [p] w w' := by
  obtain ⟨m1, m2, m3, m4⟩ := mayHl_iff.1 hm
  by_cases h0 : h.n = a.node
  · have e : heedA a h = a := if_pos (by unfold stay; simp [h0])
    rw [e]
    exact heedS0 hA h (beq_iff_eq.2 h0)
  have t0 : (h.n == a.node) = false := beq_eq_false_iff_ne.2 h0
  by_cases h1 : h.n = a.v.n
  · have tE : (h.n == a.v.n) = true := beq_iff_eq.2 h1
    have tF : (h.n != a.v.n) = false := by rw [bne, tE]; rfl
    have hs : a.v.st ≠ 0 := fun q => by have := (hI.down q).2.2; omega
    have hu := hI.up hs
    have tZ : sameTI a.v.tb a.v.tt 0 0 = false := sameTI_no (by omega)
    cases tD : eldI h.mb h.mt a.v.tb a.v.tt with
    | true =>
      have e : heedA a h = a := if_pos (by unfold stay; rw [tD]; simp [h1])
      rw [e]
      exact heedS1 hA h t0 tE tD
    | false =>
      have e : heedA a h = ⟨a.node, a.every, a.dead, a.said, 0, upV (nowV a.v h) h⟩ := if_neg (by unfold stay; rw [tD]; simp [h0])
      rw [e]
      cases tM : sameTI h.mb h.mt a.v.tb a.v.tt with
      | true =>
        have e2 : nowV a.v h = a.v := by unfold nowV; rw [if_neg (fun q => q.2 h1), if_pos ⟨hs, sameTI_iff.1 tM⟩]
        rw [e2]
        exact heedQ hA h t0 tE tF tD tZ tM
      | false =>
        have e2 : nowV a.v h = setV a.v h := by
          unfold nowV; rw [if_neg (fun q => q.2 h1), if_neg (fun q => by rw [sameTI_iff.2 q.2] at tM; cases tM)]
        rw [e2]
        exact heedP hA h t0 tE tF tD tZ tM
  · have tE : (h.n == a.v.n) = false := beq_eq_false_iff_ne.2 h1
    have tF : (h.n != a.v.n) = true := by rw [bne, tE]; rfl
    have e : heedA a h = ⟨a.node, a.every, a.dead, a.said, 0, upV (nowV a.v h) h⟩ := if_neg (by unfold stay; simp [h0, h1])
    rw [e]
    by_cases hs : a.v.st = 0
    · have hd := hI.down hs
      have tZ : sameTI a.v.tb a.v.tt 0 0 = true := sameTI_iff.2 ⟨hd.1, hd.2.1⟩
      have tM : sameTI h.mb h.mt a.v.tb a.v.tt = false := sameTI_no (by omega)
      have e2 : nowV a.v h = setV a.v h := by unfold nowV; rw [if_neg (fun q => q.1 hs), if_neg (fun q => q.1 hs)]
      rw [e2]
      exact heedN hA h t0 tE tZ tM
    · have hu := hI.up hs
      have tZ : sameTI a.v.tb a.v.tt 0 0 = false := sameTI_no (by omega)
      have e2 : nowV a.v h = setV (anV a.v) h := by unfold nowV; rw [if_pos ⟨hs, h1⟩]
      rw [e2]
      exact heedO hA h t0 tE tF tZ
/-- What Hear answers. -/
def HrA (p : Nat) (a : Ad) (h : Hl) (w : World) (e : Ending) (w' : World) : Prop :=
  e = .returned (.tuple #[.int .i64 (if mayHl h = true then cameI a.v (hearA a h).v else 0), .int .i64 (if mayHl h = true then 0 else 2)]) ∧ PA p (hearA a h) w' ∧ Chg [p] w w'
set_option maxHeartbeats 8000000 in
set_option maxRecDepth 100000 in
theorem hearW {p : Nat} {a : Ad} {w : World} (hA : PA p a w) (hI : Inv a) (h : Hl) :
    Calls Try.prog 13 #[.pointer (some ⟨p, 0, none⟩), .agg #[.int .i64 h.n, .int .u64 h.mb, .int .u64 h.mt, .int .u64 h.hb, .int .u64 h.ht]] w (HrA p a h w) := by
  obtain ⟨w1, hw1⟩ : ∃ W, W = w.alloc (.cells #[.int .i64 h.n, .int .u64 h.mb, .int .u64 h.mt, .int .u64 h.hb, .int .u64 h.ht] 35) := ⟨_, rfl⟩
  have hb : Below w.heap.size w w1 := by rw [hw1]; exact (Below.refl _ _).alloc (Nat.le_refl _) _
  have hP := hA.later hb
  have HN := Lib.hid (noneA hP hI.nz)
  have HP1 := Lib.hid hP
  have HC1 := Lib.hid (Chg.of_below [p] hb)
  have hH : HBk w.heap.size h w1 := by rw [hw1]; exact BlkAt.new w _
  have HH1 := Lib.hid hH
  have HL := Lib.hid hA.lt
  have c0 := BlkAt.cell hP (j := 0) rfl; have c1 := BlkAt.cell hP (j := 1) rfl; have c2 := BlkAt.cell hP (j := 2) rfl; have c3 := BlkAt.cell hP (j := 3) rfl; have c4 := BlkAt.cell hP (j := 4) rfl; have c5 := BlkAt.cell hP (j := 5) rfl; have c6 := BlkAt.cell hP (j := 6) rfl; have c7 := BlkAt.cell hP (j := 7) rfl; have c8 := BlkAt.cell hP (j := 8) rfl; have c9 := BlkAt.cell hP (j := 9) rfl; have c10 := BlkAt.cell hP (j := 10) rfl
  have g0 := BlkAt.cell hH (j := 0) rfl; have g1 := BlkAt.cell hH (j := 1) rfl; have g2 := BlkAt.cell hH (j := 2) rfl; have g3 := BlkAt.cell hH (j := 3) rfl; have g4 := BlkAt.cell hH (j := 4) rfl
  have HW := Lib.hid hw1
  have HM := fun W => helloW h W
  have HI := Lib.hid hI
  unfold HrA
  cases tm : mayHl h with
  | false =>
    rw [tm] at HM
    have HM := Lib.hid HM
    have e : hearA a h = a := if_neg (by rw [tm]; simp)
    rw [e]
    clear hA hI hb hw1 hP hH e tm
    go_enter Try.func13, Try.ntmps13
    go_wp2_with fail
    rw [← HW.out]
    refine HN.out.mono ?_
    rintro e w2 ⟨rfl, rfl⟩
    go_wp2_with fail
    refine (HM.out _).mono ?_
    rintro e w2 ⟨rfl, hs⟩
    have HP2 := Lib.hid (HP1.out.later hs)
    have HC2 := Lib.hid (HC1.out.trans (Chg.of_below _ hs))
    clear hs
    go_wp2_with fail
    go_ret2
    exact ⟨rfl, HP2.out, HC2.out⟩
  | true =>
    rw [tm] at HM
    have HM := Lib.hid HM
    have e : hearA a h = heedA a h := if_pos tm
    rw [e]
    have HTM := Lib.hid tm
    clear hA hI hb hw1 hP hH e tm c0 c1 c2 c3 c4 c5 c6 c7 c8 c9 c10
    go_enter Try.func13, Try.ntmps13
    go_wp2_with fail
    rw [← HW.out]
    refine HN.out.mono ?_
    rintro e w2 ⟨rfl, rfl⟩
    go_wp2_with fail
    refine (HM.out _).mono ?_
    rintro e w2 ⟨rfl, hs⟩
    have HP2 := Lib.hid (HP1.out.later hs)
    have HH2 := Lib.hid (BlkAt.later HH1.out hs)
    have HC2 := Lib.hid (HC1.out.trans (Chg.of_below _ hs))
    clear hs g0 g1 g2 g3 g4
    have hP := HP2.out
    have c0 := BlkAt.cell hP (j := 0) rfl; have c1 := BlkAt.cell hP (j := 1) rfl; have c2 := BlkAt.cell hP (j := 2) rfl; have c3 := BlkAt.cell hP (j := 3) rfl; have c4 := BlkAt.cell hP (j := 4) rfl; have c5 := BlkAt.cell hP (j := 5) rfl; have c6 := BlkAt.cell hP (j := 6) rfl; have c7 := BlkAt.cell hP (j := 7) rfl; have c8 := BlkAt.cell hP (j := 8) rfl; have c9 := BlkAt.cell hP (j := 9) rfl; have c10 := BlkAt.cell hP (j := 10) rfl
    obtain ⟨w3, hw3⟩ : ∃ W, W = w2.alloc (.cells #[.int .i64 a.v.st, .int .u64 a.v.mb, .int .u64 a.v.mt, .int .u64 a.v.tb, .int .u64 a.v.tt, .int .i64 a.v.n] 40) := ⟨_, rfl⟩
    have hb : Below w2.heap.size w2 w3 := by rw [hw3]; exact (Below.refl _ _).alloc (Nat.le_refl _) _
    have hB : BlkAt 40 w2.heap.size [.int .i64 a.v.st, .int .u64 a.v.mb, .int .u64 a.v.mt, .int .u64 a.v.tb, .int .u64 a.v.tt, .int .i64 a.v.n] w3 := by rw [hw3]; exact BlkAt.new w2 _
    have hH := BlkAt.later HH2.out hb
    have HL2 := Lib.hid HP2.out.lt
    rw [hw3] at hH
    have g0 := BlkAt.cell hH (j := 0) rfl; have g1 := BlkAt.cell hH (j := 1) rfl; have g2 := BlkAt.cell hH (j := 2) rfl; have g3 := BlkAt.cell hH (j := 3) rfl; have g4 := BlkAt.cell hH (j := 4) rfl
    have HHE := Lib.hid (heedW (HP2.out.later hb) HI.out h HTM.out)
    have HB := Lib.hid hB
    have HC3 := Lib.hid (HC2.out.trans (Chg.of_below _ hb))
    have HW3 := Lib.hid hw3
    clear hb hB hH hw3 hP
    go_wp2_with fail
    rw [← HW3.out]
    refine HHE.out.mono ?_
    rintro e w4 ⟨⟨_, rfl⟩, hP, hC⟩
    have HP4 := Lib.hid hP
    have HB4 := Lib.hid (hC.blk HB.out (by have := HL2.out; simp; omega))
    have HC4 := Lib.hid (HC3.out.trans hC)
    clear hP hC c0 c1 c2 c3 c4 c5 c6 c7 c8 c9 c10 g0 g1 g2 g3 g4
    go_wp2_with fail
    (refine wp_region_held_drew (S := (fun w' => Below w4.heap.size w4 w')) (by kernel_rfl) ?_ (fun hHeld => ?_); (focus ((try dsimp only); (exact (Below.refl _ _).drew))))
    (try dsimp only at hHeld)
    (refine wpAnyH_take (i := 0) (v := ?_) rfl (by kernel_rfl) (by kernel_rfl) (by kernel_rfl) (fun _ _ _ h => h) (Or.inl ⟨by rfl, ?_⟩) hHeld ?_; rotate_left; (focus (intro w hSw; (try dsimp only at hSw); go_simp; (have e0 := BlkAt.cell (BlkAt.later HB4.out hSw) (j := 0) rfl; have e1 := BlkAt.cell (BlkAt.later HB4.out hSw) (j := 1) rfl; have e2 := BlkAt.cell (BlkAt.later HB4.out hSw) (j := 2) rfl; have e3 := BlkAt.cell (BlkAt.later HB4.out hSw) (j := 3) rfl; have e4 := BlkAt.cell (BlkAt.later HB4.out hSw) (j := 4) rfl; have e5 := BlkAt.cell (BlkAt.later HB4.out hSw) (j := 5) rfl; go_simp; try with_reducible rfl))); (try simp only [Act.put, List.setIfInBounds_toArray, List.set_cons_zero, List.set_cons_succ, List.getElem_toArray, List.getElem_cons_zero]))
    (refine wpAnyH_take (i := 1) (v := ?_) rfl (by kernel_rfl) (by kernel_rfl) (by kernel_rfl) (fun _ _ _ h => h) (Or.inl ⟨by rfl, ?_⟩) hHeld ?_; rotate_left; (focus (intro w hSw; (try dsimp only at hSw); go_simp; try with_reducible rfl)); (try simp only [Act.put, List.setIfInBounds_toArray, List.set_cons_zero, List.set_cons_succ, List.getElem_toArray, List.getElem_cons_zero, List.getElem_cons_succ])); (refine wpAnyH_take (i := 2) (v := ?_) rfl (by kernel_rfl) (by kernel_rfl) (by kernel_rfl) (fun _ _ _ h => h) (Or.inl ⟨by rfl, ?_⟩) hHeld ?_; rotate_left; (focus (intro w hSw; (try dsimp only at hSw); go_simp; try with_reducible rfl)); (try simp only [Act.put, List.setIfInBounds_toArray, List.set_cons_zero, List.set_cons_succ, List.getElem_toArray, List.getElem_cons_zero, List.getElem_cons_succ])); (refine wpAnyH_take (i := 3) (v := ?_) rfl (by kernel_rfl) (by kernel_rfl) (by kernel_rfl) (fun _ _ _ h => h) (Or.inl ⟨by rfl, ?_⟩) hHeld ?_; rotate_left; (focus (intro w hSw; (try dsimp only at hSw); go_simp; try with_reducible rfl)); (try simp only [Act.put, List.setIfInBounds_toArray, List.set_cons_zero, List.set_cons_succ, List.getElem_toArray, List.getElem_cons_zero, List.getElem_cons_succ]))
    (refine wpAnyH_take (i := 4) (v := ?_) rfl (by kernel_rfl) (by kernel_rfl) (by kernel_rfl) (fun _ _ _ h => h) (Or.inl ⟨by rfl, ?_⟩) hHeld ?_; rotate_left; (focus (intro w hSw; (try dsimp only at hSw); go_simp; (have e0 := BlkAt.cell (BlkAt.later HP4.out hSw) (j := 0) rfl; have e1 := BlkAt.cell (BlkAt.later HP4.out hSw) (j := 1) rfl; have e2 := BlkAt.cell (BlkAt.later HP4.out hSw) (j := 2) rfl; have e3 := BlkAt.cell (BlkAt.later HP4.out hSw) (j := 3) rfl; have e4 := BlkAt.cell (BlkAt.later HP4.out hSw) (j := 4) rfl; have e5 := BlkAt.cell (BlkAt.later HP4.out hSw) (j := 5) rfl; have e6 := BlkAt.cell (BlkAt.later HP4.out hSw) (j := 6) rfl; have e7 := BlkAt.cell (BlkAt.later HP4.out hSw) (j := 7) rfl; have e8 := BlkAt.cell (BlkAt.later HP4.out hSw) (j := 8) rfl; have e9 := BlkAt.cell (BlkAt.later HP4.out hSw) (j := 9) rfl; have e10 := BlkAt.cell (BlkAt.later HP4.out hSw) (j := 10) rfl; go_simp; try with_reducible rfl))); (try simp only [Act.put, List.setIfInBounds_toArray, List.set_cons_zero, List.set_cons_succ, List.getElem_toArray, List.getElem_cons_zero, List.getElem_cons_succ]))
    (refine wpAnyH_ready (rs := [5]) (by kernel_rfl) (by simp) ?_; refine AllReadyH.cons rfl (fun K hK => ?_) AllReadyH.nil; go_simp; refine (cameW a.v (heedA a h).v _).mono ?_; rintro e y5 ⟨rfl, hs⟩; refine hK.out _ _ ?_ (fun hHeldN => ?_); (focus ((try dsimp only); (exact hHeld.trans (hs.mono hHeld.size)))); clear hK K hHeld; have hHeld := hHeldN; clear hHeldN; (try simp only [Act.put, List.setIfInBounds_toArray, List.set_cons_zero, List.set_cons_succ, List.getElem_toArray, List.getElem_cons_zero, List.getElem_cons_succ]))
    (refine wpAnyH_take (i := 6) (v := ?_) rfl (by kernel_rfl) (by kernel_rfl) (by kernel_rfl) (fun _ _ _ h => h) (Or.inl ⟨by rfl, ?_⟩) hHeld ?_; rotate_left; (focus (intro w hSw; (try dsimp only at hSw); go_simp; try with_reducible rfl)); (try simp only [Act.put, List.setIfInBounds_toArray, List.set_cons_zero, List.set_cons_succ, List.getElem_toArray, List.getElem_cons_zero, List.getElem_cons_succ])); (refine wpAnyH_take (i := 7) (v := ?_) rfl (by kernel_rfl) (by kernel_rfl) (by kernel_rfl) (fun _ _ _ h => h) (Or.inl ⟨by rfl, ?_⟩) hHeld ?_; rotate_left; (focus (intro w hSw; (try dsimp only at hSw); go_simp; try with_reducible rfl)); (try simp only [Act.put, List.setIfInBounds_toArray, List.set_cons_zero, List.set_cons_succ, List.getElem_toArray, List.getElem_cons_zero, List.getElem_cons_succ]))
    refine wpAnyH_done (by kernel_rfl) ?_ _
    go_wp2_with fail
    go_ret2
    exact ⟨rfl, HP4.out.later hHeld, HC4.out.trans (Chg.of_below _ hHeld)⟩
end Go.Proofs.Ytcedninipbafaaa

namespace Go.Proofs.Ytcedninipbafaaa
open Go.RowKit
attribute [local go_sem ↓] Go.wp_at_zero Go.wp_at_succ
attribute [local go_sem ↓ high] eqTI neTI eqVI neVI

def newR (n b : Int) : Rf := ⟨n, 3, 9, ⟨0, b, 1, 0, 0, 0⟩, 0, false, 0⟩
theorem newRW (n b : Int) (w : World) : Calls Try.prog 9 #[.int .i64 n, .int .u64 b, .int .i64 3, .int .i64 9] w fun e w' => e = .returned (.pointer (some ⟨w.heap.size, 0, none⟩)) ∧ RA w.heap.size (newR n b) w' ∧ Below w.heap.size w w' := by
  go_enter Try.func9, Try.ntmps9
  go_wp2_with fail
  go_ret
  exact ⟨rfl, BlkAt.new w _, (Below.refl _ _).alloc (Nat.le_refl _) _⟩
set_option maxHeartbeats 1000000 in
theorem mayRW (h : Hl) (w : World) : Calls Try.prog 20 #[.agg #[.int .i64 h.n, .int .u64 h.mb, .int .u64 h.mt, .int .u64 h.hb, .int .u64 h.ht]] w fun e w' => e = .returned (.bool (mayHl h)) ∧ Below w.heap.size w w' := by
  have HB : Hid (Below w.heap.size w (w.alloc (.cells #[.int .i64 h.n, .int .u64 h.mb, .int .u64 h.mt, .int .u64 h.hb, .int .u64 h.ht] 35))) := (Below.refl _ _).alloc (Nat.le_refl _) _
  by_cases h1 : 1 ≤ h.n
  · have t1 : decide (1 ≤ h.n) = true := decide_eq_true h1
    by_cases h2 : h.n ≤ 16
    · have t2 : decide (h.n ≤ 16) = true := decide_eq_true h2
      have HI : Hid (inI 1 h.n 16 = true) := by
        have : inI 1 h.n 16 = true := decide_eq_true ⟨h1, h2⟩
        exact this
      by_cases h3 : h.mb = 0
      · have t3 : (h.mb != 0) = false := by simp [h3]
        have e : mayHl h = false := by unfold mayHl; rw [decide_eq_true h3]; simp
        rw [e]
        clear h1 h2 h3 HI e
        go_enter Try.func20, Try.ntmps20
        go_wp2_with fail
        go_ret
        exact ⟨rfl, HB.out⟩
      · have t3 : (h.mb != 0) = true := by simp [h3]
        have e : mayHl h = !decide (h.mt = 0) := by unfold mayHl; rw [HI.out, decide_eq_false h3]; rfl
        rw [e]
        clear h1 h2 h3 HI e
        go_enter Try.func20, Try.ntmps20
        go_wp2_with fail
        go_ret
        exact ⟨ret_b (by by_cases q : h.mt = 0 <;> simp [q]), HB.out⟩
    · have t2 : decide (h.n ≤ 16) = false := decide_eq_false h2
      have e : mayHl h = false := by unfold mayHl; rw [show inI 1 h.n 16 = false from decide_eq_false (fun q => h2 q.2)]; rfl
      rw [e]
      clear h1 h2 e
      go_enter Try.func20, Try.ntmps20
      go_wp2_with fail
      go_ret
      exact ⟨rfl, HB.out⟩
  · have t1 : decide (1 ≤ h.n) = false := decide_eq_false h1
    have e : mayHl h = false := by unfold mayHl; rw [show inI 1 h.n 16 = false from decide_eq_false (fun q => h1 q.1)]; rfl
    rw [e]
    clear h1 e
    go_enter Try.func20, Try.ntmps20
    go_wp2_with fail
    go_ret
    exact ⟨rfl, HB.out⟩
def anR (r : Rf) : Rf := ⟨r.node, r.every, r.dead, anV r.v, r.ss, r.said, 0⟩
set_option maxHeartbeats 2000000 in
theorem anewRW {q : Nat} {r : Rf} {w : World} (h : RA q r w) : Calls Try.prog 30 #[.pointer (some ⟨q, 0, none⟩)] w fun e w' => e = .returned (.bool (r.v.st == 2)) ∧ RA q (anR r) w' ∧ Chg [q] w w' := by
  have hfz : ∀ j, w.frozen? ⟨q, j, none⟩ = false := fun j => BlkAt.frozen h j
  have HR := Lib.hid h
  have c0 := BlkAt.cell h (j := 0) rfl; have c1 := BlkAt.cell h (j := 1) rfl; have c2 := BlkAt.cell h (j := 2) rfl; have c3 := BlkAt.cell h (j := 3) rfl; have c4 := BlkAt.cell h (j := 4) rfl; have c5 := BlkAt.cell h (j := 5) rfl; have c6 := BlkAt.cell h (j := 6) rfl; have c7 := BlkAt.cell h (j := 7) rfl; have c8 := BlkAt.cell h (j := 8) rfl; have c9 := BlkAt.cell h (j := 9) rfl; have c10 := BlkAt.cell h (j := 10) rfl; have c11 := BlkAt.cell h (j := 11) rfl
  clear h
  go_enter Try.func30, Try.ntmps30
  go_wp2_with fail
  go_ret
  refine ⟨rfl, ?_, ?_⟩
  · exact (((((BlkAt.set HR.out 5 _).set 6 _).set 7 _).set 8 _).set 3 _).set 11 _
  · exact (((((((Chg.refl [q] w).set (by simp) 5 _).set (by simp) 6 _).set (by simp) 7 _).set (by simp) 8 _).set (by simp) 3 _).set (by simp) 11 _)
theorem dropRW {q : Nat} {r : Rf} {w : World} (h : RA q r w) : Calls Try.prog 23 #[.pointer (some ⟨q, 0, none⟩)] w fun e w' => (∃ x, e = .returned (.int .i64 x)) ∧ RA q (anR r) w' ∧ Chg [q] w w' := by
  have H := Lib.hid (anewRW h)
  clear h
  go_enter Try.func23, Try.ntmps23
  go_wp2_with fail
  refine H.out.mono ?_
  rintro e w1 ⟨rfl, hR, hC⟩
  have HR := Lib.hid hR
  have HC := Lib.hid hC
  clear hR hC H
  cases hu : r.v.st == 2 with
  | false =>
    go_wp2_with fail
    go_ret
    exact ⟨⟨_, rfl⟩, HR.out, HC.out⟩
  | true =>
    go_wp2_with fail
    go_ret
    exact ⟨⟨_, rfl⟩, HR.out, HC.out⟩
end Go.Proofs.Ytcedninipbafaaa

namespace Go.Proofs.Ytcedninipbafaaa
open Go.RowKit
attribute [local go_sem ↓] Go.wp_at_zero Go.wp_at_succ
attribute [local go_sem ↓ high] eqTI neTI eqVI neVI

def RhA (q : Nat) (r : Rf) (v : Vw) (w : World) (e : Ending) (w' : World) : Prop := (∃ x, e = .returned (.int .i64 x)) ∧ RA q ⟨r.node, r.every, r.dead, v, r.ss, r.said, 0⟩ w' ∧ Chg [q] w w'
def RhS (q : Nat) (r : Rf) (w : World) (e : Ending) (w' : World) : Prop := (∃ x, e = .returned (.int .i64 x)) ∧ RA q r w' ∧ Chg [q] w w'
def midR (r : Rf) (v : Vw) (s : Int) : Rf := ⟨r.node, r.every, r.dead, v, r.ss, r.said, s⟩
theorem RA.setSt {q : Nat} {r : Rf} {w : World} (h : RA q r w) {s : Int} : RA q (midR r ⟨s, r.v.mb, r.v.mt, r.v.tb, r.v.tt, r.v.n⟩ r.sil) (w.setCell ⟨q, 3, none⟩ (.int .i64 s)) := BlkAt.set h 3 _
theorem RA.setSil {q : Nat} {r : Rf} {w : World} (h : RA q r w) {s : Int} : RA q (midR r r.v s) (w.setCell ⟨q, 11, none⟩ (.int .i64 s)) := BlkAt.set h 11 _
/-- Behind what is heard: State, Theirs, Other, Silent; State, Theirs, Silent. -/
theorem RA.setHd {q : Nat} {r : Rf} {w : World} (h : RA q r w) (g : Hl) : RA q (midR r (setV r.v g) 0) (((((w.setCell ⟨q, 3, none⟩ (.int .i64 1)).setCell ⟨q, 6, none⟩ (.int .u64 g.mb)).setCell ⟨q, 7, none⟩ (.int .u64 g.mt)).setCell ⟨q, 8, none⟩ (.int .i64 g.n)).setCell ⟨q, 11, none⟩ (.int .i64 0)) :=
  ((((BlkAt.set h 3 (.int .i64 1)).set 6 (.int .u64 g.mb)).set 7 (.int .u64 g.mt)).set 8 (.int .i64 g.n)).set 11 (.int .i64 0)
theorem RA.setTg {q : Nat} {r : Rf} {w : World} (h : RA q r w) (g : Hl) : RA q (midR r ⟨1, r.v.mb, r.v.mt, g.mb, g.mt, r.v.n⟩ 0) ((((w.setCell ⟨q, 3, none⟩ (.int .i64 1)).setCell ⟨q, 6, none⟩ (.int .u64 g.mb)).setCell ⟨q, 7, none⟩ (.int .u64 g.mt)).setCell ⟨q, 11, none⟩ (.int .i64 0)) :=
  (((BlkAt.set h 3 (.int .i64 1)).set 6 (.int .u64 g.mb)).set 7 (.int .u64 g.mt)).set 11 (.int .i64 0)
end Go.Proofs.Ytcedninipbafaaa
