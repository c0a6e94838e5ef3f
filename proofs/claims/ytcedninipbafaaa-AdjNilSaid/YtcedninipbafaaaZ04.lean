/- The chapter's rows: the walk of the law's 'known'.
   adj.Accepts, New: the walks.
   adj.heed, any way; adj.Hear. -/
import Derived.Test.YtcedninipbafaaaZ01
import Derived.Test.YtcedninipbafaaaZ03

set_option linter.unusedSimpArgs false
set_option linter.unusedVariables false
namespace Go.Proofs.Ytcedninipbafaaa
open Go.RowKit
attribute [local go_sem ↓] Go.wp_at_zero Go.wp_at_succ
attribute [local go_sem ↓ high] eqTI neTI eqVI neVI

/-- What is so of an adjacency, always. -/
structure Inv (a : Ad) : Prop where
  node : 1 ≤ a.node
  st : a.v.st = 0 ∨ a.v.st = 1 ∨ a.v.st = 2
  down : a.v.st = 0 → a.v.tb = 0 ∧ a.v.tt = 0 ∧ a.v.n = 0
  up : a.v.st ≠ 0 → a.v.tb ≠ 0 ∧ a.v.n ≠ a.node ∧ 1 ≤ a.v.n
theorem Inv.nz {a : Ad} (h : Inv a) : a.node ≠ 0 := by have := h.node; omega
/-- A hello that is its own, or late. -/
def stay (a : Ad) (h : Hl) : Bool := decide (h.n = a.node) || (decide (h.n = a.v.n) && eldI h.mb h.mt a.v.tb a.v.tt)
/-- What is known behind it, but for whether it is Up. -/
def nowV (v : Vw) (h : Hl) : Vw := if v.st ≠ 0 ∧ h.n ≠ v.n then setV (anV v) h else if v.st ≠ 0 ∧ h.mb = v.tb ∧ h.mt = v.tt then v else setV v h
def heedA (a : Ad) (h : Hl) : Ad := if stay a h = true then a else ⟨a.node, a.every, a.dead, a.said, 0, upV (nowV a.v h) h⟩
def hearA (a : Ad) (h : Hl) : Ad := if mayHl h = true then heedA a h else a
theorem mayHl_iff {h : Hl} : mayHl h = true ↔ 1 ≤ h.n ∧ h.n ≤ 16 ∧ h.mb ≠ 0 ∧ h.mt ≠ 0 := by
  unfold mayHl inI
  simp [and_assoc]
set_option maxHeartbeats 4000000 in
theorem heedS0 {p : Nat} {a : Ad} {w : World} (hA : PA p a w) (h : Hl) (t0 : (h.n == a.node) = true) :
    Calls Try.prog 26 #[.pointer (some ⟨p, 0, none⟩), .agg #[.int .i64 h.n, .int .u64 h.mb, .int .u64 h.mt, .int .u64 h.hb, .int .u64 h.ht]] w fun e w' => (∃ x, e = .returned x) ∧ PA p a w' ∧ Chg [p] w w' := by
  obtain ⟨w1, hw1⟩ : ∃ W, W = w.alloc (.cells #[.int .i64 h.n, .int .u64 h.mb, .int .u64 h.mt, .int .u64 h.hb, .int .u64 h.ht] 35) := ⟨_, rfl⟩
  have hb : Below w.heap.size w w1 := by rw [hw1]; exact (Below.refl _ _).alloc (Nat.le_refl _) _
  have hP := hA.later hb
  have HP := Lib.hid hP
  have HC1 := Lib.hid (Chg.of_below [p] hb)
  have hH : HBk w.heap.size h w1 := by rw [hw1]; exact BlkAt.new w _
  have c0 := BlkAt.cell hP (j := 0) rfl; have c1 := BlkAt.cell hP (j := 1) rfl; have c2 := BlkAt.cell hP (j := 2) rfl; have c3 := BlkAt.cell hP (j := 3) rfl; have c4 := BlkAt.cell hP (j := 4) rfl; have c5 := BlkAt.cell hP (j := 5) rfl; have c6 := BlkAt.cell hP (j := 6) rfl; have c7 := BlkAt.cell hP (j := 7) rfl; have c8 := BlkAt.cell hP (j := 8) rfl; have c9 := BlkAt.cell hP (j := 9) rfl; have c10 := BlkAt.cell hP (j := 10) rfl
  have g0 := BlkAt.cell hH (j := 0) rfl; have g1 := BlkAt.cell hH (j := 1) rfl; have g2 := BlkAt.cell hH (j := 2) rfl; have g3 := BlkAt.cell hH (j := 3) rfl; have g4 := BlkAt.cell hH (j := 4) rfl
  have HW := Lib.hid hw1
  clear hA hb hw1 hP hH
  go_enter Try.func26, Try.ntmps26
  go_wp2_with fail
  rw [← HW.out]
  go_quiet (fail)
  go_wp2_with fail
  go_end0
  exact ⟨⟨_, rfl⟩, HP.out.dr _, HC1.out.dr _⟩
set_option maxHeartbeats 8000000 in
set_option maxRecDepth 100000 in
theorem heedS1 {p : Nat} {a : Ad} {w : World} (hA : PA p a w) (h : Hl) (t0 : (h.n == a.node) = false) (tE : (h.n == a.v.n) = true) (tD : eldI h.mb h.mt a.v.tb a.v.tt = true) :
    Calls Try.prog 26 #[.pointer (some ⟨p, 0, none⟩), .agg #[.int .i64 h.n, .int .u64 h.mb, .int .u64 h.mt, .int .u64 h.hb, .int .u64 h.ht]] w fun e w' => (∃ x, e = .returned x) ∧ PA p a w' ∧ Chg [p] w w' := by
  obtain ⟨w1, hw1⟩ : ∃ W, W = w.alloc (.cells #[.int .i64 h.n, .int .u64 h.mb, .int .u64 h.mt, .int .u64 h.hb, .int .u64 h.ht] 35) := ⟨_, rfl⟩
  have hb : Below w.heap.size w w1 := by rw [hw1]; exact (Below.refl _ _).alloc (Nat.le_refl _) _
  have HP1 := Lib.hid (hA.later hb)
  have HC1 := Lib.hid (Chg.of_below [p] hb)
  have HH1 : Hid (HBk w.heap.size h w1) := by
    have : HBk w.heap.size h w1 := by rw [hw1]; exact BlkAt.new w _
    exact this
  have HW := Lib.hid hw1
  clear hA hb hw1
  go_enter Try.func26, Try.ntmps26
  go_wp2_with fail
  rw [← HW.out]
  (refine wp_region_held_drew (S := (fun w' => Below w1.heap.size w1 w')) (by kernel_rfl) ?_ (fun hHeld => ?_); (focus ((try dsimp only); (exact (Below.refl _ _).drew))))
  (try dsimp only at hHeld)
  (refine wpAnyH_take (i := 0) (v := ?_) rfl (by kernel_rfl) (by kernel_rfl) (by kernel_rfl) (fun _ _ _ h => h) (Or.inl ⟨by rfl, ?_⟩) hHeld ?_; rotate_left; (focus (intro w hSw; (try dsimp only at hSw); go_simp; try with_reducible rfl)); (try simp only [Act.put, List.setIfInBounds_toArray, List.set_cons_zero, List.set_cons_succ, List.getElem_toArray, List.getElem_cons_zero]))
  (refine wpAnyH_take (i := 1) (v := ?_) rfl (by kernel_rfl) (by kernel_rfl) (by kernel_rfl) (fun _ _ _ h => h) (Or.inl ⟨by rfl, ?_⟩) hHeld ?_; rotate_left; (focus (intro w hSw; (try dsimp only at hSw); go_simp; (have e0 := BlkAt.cell (BlkAt.later HH1.out hSw) (j := 0) rfl; have e1 := BlkAt.cell (BlkAt.later HH1.out hSw) (j := 1) rfl; have e2 := BlkAt.cell (BlkAt.later HH1.out hSw) (j := 2) rfl; have e3 := BlkAt.cell (BlkAt.later HH1.out hSw) (j := 3) rfl; have e4 := BlkAt.cell (BlkAt.later HH1.out hSw) (j := 4) rfl; go_simp; try with_reducible rfl))); (try simp only [Act.put, List.setIfInBounds_toArray, List.set_cons_zero, List.set_cons_succ, List.getElem_toArray, List.getElem_cons_zero, List.getElem_cons_succ]))
  (refine wpAnyH_take (i := 2) (v := ?_) rfl (by kernel_rfl) (by kernel_rfl) (by kernel_rfl) (fun _ _ _ h => h) (Or.inl ⟨by rfl, ?_⟩) hHeld ?_; rotate_left; (focus (intro w hSw; (try dsimp only at hSw); go_simp; try with_reducible rfl)); (try simp only [Act.put, List.setIfInBounds_toArray, List.set_cons_zero, List.set_cons_succ, List.getElem_toArray, List.getElem_cons_zero, List.getElem_cons_succ])); (refine wpAnyH_take (i := 3) (v := ?_) rfl (by kernel_rfl) (by kernel_rfl) (by kernel_rfl) (fun _ _ _ h => h) (Or.inl ⟨by rfl, ?_⟩) hHeld ?_; rotate_left; (focus (intro w hSw; (try dsimp only at hSw); go_simp; try with_reducible rfl)); (try simp only [Act.put, List.setIfInBounds_toArray, List.set_cons_zero, List.set_cons_succ, List.getElem_toArray, List.getElem_cons_zero, List.getElem_cons_succ])); (refine wpAnyH_take (i := 4) (v := ?_) rfl (by kernel_rfl) (by kernel_rfl) (by kernel_rfl) (fun _ _ _ h => h) (Or.inl ⟨by rfl, ?_⟩) hHeld ?_; rotate_left; (focus (intro w hSw; (try dsimp only at hSw); go_simp; try with_reducible rfl)); (try simp only [Act.put, List.setIfInBounds_toArray, List.set_cons_zero, List.set_cons_succ, List.getElem_toArray, List.getElem_cons_zero, List.getElem_cons_succ]))
  (refine wpAnyH_take (i := 5) (v := ?_) rfl (by kernel_rfl) (by kernel_rfl) (by kernel_rfl) (fun _ _ _ h => h) (Or.inl ⟨by rfl, ?_⟩) hHeld ?_; rotate_left; (focus (intro w hSw; (try dsimp only at hSw); go_simp; (have e0 := BlkAt.cell (BlkAt.later HP1.out hSw) (j := 0) rfl; have e1 := BlkAt.cell (BlkAt.later HP1.out hSw) (j := 1) rfl; have e2 := BlkAt.cell (BlkAt.later HP1.out hSw) (j := 2) rfl; have e3 := BlkAt.cell (BlkAt.later HP1.out hSw) (j := 3) rfl; have e4 := BlkAt.cell (BlkAt.later HP1.out hSw) (j := 4) rfl; have e5 := BlkAt.cell (BlkAt.later HP1.out hSw) (j := 5) rfl; have e6 := BlkAt.cell (BlkAt.later HP1.out hSw) (j := 6) rfl; have e7 := BlkAt.cell (BlkAt.later HP1.out hSw) (j := 7) rfl; have e8 := BlkAt.cell (BlkAt.later HP1.out hSw) (j := 8) rfl; have e9 := BlkAt.cell (BlkAt.later HP1.out hSw) (j := 9) rfl; have e10 := BlkAt.cell (BlkAt.later HP1.out hSw) (j := 10) rfl; go_simp; try with_reducible rfl))); (try simp only [Act.put, List.setIfInBounds_toArray, List.set_cons_zero, List.set_cons_succ, List.getElem_toArray, List.getElem_cons_zero, List.getElem_cons_succ]))
  (refine wpAnyH_take (i := 6) (v := ?_) rfl (by kernel_rfl) (by kernel_rfl) (by kernel_rfl) (fun _ _ _ h => h) (Or.inl ⟨by rfl, ?_⟩) hHeld ?_; rotate_left; (focus (intro w hSw; (try dsimp only at hSw); go_simp; try with_reducible rfl)); (try simp only [Act.put, List.setIfInBounds_toArray, List.set_cons_zero, List.set_cons_succ, List.getElem_toArray, List.getElem_cons_zero, List.getElem_cons_succ])); (refine wpAnyH_take (i := 7) (v := ?_) rfl (by kernel_rfl) (by kernel_rfl) (by kernel_rfl) (fun _ _ _ h => h) (Or.inl ⟨by rfl, ?_⟩) hHeld ?_; rotate_left; (focus (intro w hSw; (try dsimp only at hSw); go_simp; try with_reducible rfl)); (try simp only [Act.put, List.setIfInBounds_toArray, List.set_cons_zero, List.set_cons_succ, List.getElem_toArray, List.getElem_cons_zero, List.getElem_cons_succ])); (refine wpAnyH_take (i := 8) (v := ?_) rfl (by kernel_rfl) (by kernel_rfl) (by kernel_rfl) (fun _ _ _ h => h) (Or.inl ⟨by rfl, ?_⟩) hHeld ?_; rotate_left; (focus (intro w hSw; (try dsimp only at hSw); go_simp; try with_reducible rfl)); (try simp only [Act.put, List.setIfInBounds_toArray, List.set_cons_zero, List.set_cons_succ, List.getElem_toArray, List.getElem_cons_zero, List.getElem_cons_succ]))
  (refine wpAnyH_take (i := 9) (v := ?_) rfl (by kernel_rfl) (by kernel_rfl) (by kernel_rfl) (fun _ _ _ h => h) (Or.inl ⟨by rfl, ?_⟩) hHeld ?_; rotate_left; (focus (intro w hSw; (try dsimp only at hSw); go_simp; (have e0 := BlkAt.cell (BlkAt.later HH1.out hSw) (j := 0) rfl; have e1 := BlkAt.cell (BlkAt.later HH1.out hSw) (j := 1) rfl; have e2 := BlkAt.cell (BlkAt.later HH1.out hSw) (j := 2) rfl; have e3 := BlkAt.cell (BlkAt.later HH1.out hSw) (j := 3) rfl; have e4 := BlkAt.cell (BlkAt.later HH1.out hSw) (j := 4) rfl; go_simp; try with_reducible rfl))); (try simp only [Act.put, List.setIfInBounds_toArray, List.set_cons_zero, List.set_cons_succ, List.getElem_toArray, List.getElem_cons_zero, List.getElem_cons_succ]))
  (refine wpAnyH_take (i := 10) (v := ?_) rfl (by kernel_rfl) (by kernel_rfl) (by kernel_rfl) (fun _ _ _ h => h) (Or.inl ⟨by rfl, ?_⟩) hHeld ?_; rotate_left; (focus (intro w hSw; (try dsimp only at hSw); go_simp; try with_reducible rfl)); (try simp only [Act.put, List.setIfInBounds_toArray, List.set_cons_zero, List.set_cons_succ, List.getElem_toArray, List.getElem_cons_zero, List.getElem_cons_succ])); (refine wpAnyH_take (i := 11) (v := ?_) rfl (by kernel_rfl) (by kernel_rfl) (by kernel_rfl) (fun _ _ _ h => h) (Or.inl ⟨by rfl, ?_⟩) hHeld ?_; rotate_left; (focus (intro w hSw; (try dsimp only at hSw); go_simp; try with_reducible rfl)); (try simp only [Act.put, List.setIfInBounds_toArray, List.set_cons_zero, List.set_cons_succ, List.getElem_toArray, List.getElem_cons_zero, List.getElem_cons_succ])); (refine wpAnyH_take (i := 12) (v := ?_) rfl (by kernel_rfl) (by kernel_rfl) (by kernel_rfl) (fun _ _ _ h => h) (Or.inl ⟨by rfl, ?_⟩) hHeld ?_; rotate_left; (focus (intro w hSw; (try dsimp only at hSw); go_simp; try with_reducible rfl)); (try simp only [Act.put, List.setIfInBounds_toArray, List.set_cons_zero, List.set_cons_succ, List.getElem_toArray, List.getElem_cons_zero, List.getElem_cons_succ]))
  (refine wpAnyH_take (i := 13) (v := ?_) rfl (by kernel_rfl) (by kernel_rfl) (by kernel_rfl) (fun _ _ _ h => h) (Or.inl ⟨by rfl, ?_⟩) hHeld ?_; rotate_left; (focus (intro w hSw; (try dsimp only at hSw); go_simp; (have e0 := BlkAt.cell (BlkAt.later HP1.out hSw) (j := 0) rfl; have e1 := BlkAt.cell (BlkAt.later HP1.out hSw) (j := 1) rfl; have e2 := BlkAt.cell (BlkAt.later HP1.out hSw) (j := 2) rfl; have e3 := BlkAt.cell (BlkAt.later HP1.out hSw) (j := 3) rfl; have e4 := BlkAt.cell (BlkAt.later HP1.out hSw) (j := 4) rfl; have e5 := BlkAt.cell (BlkAt.later HP1.out hSw) (j := 5) rfl; have e6 := BlkAt.cell (BlkAt.later HP1.out hSw) (j := 6) rfl; have e7 := BlkAt.cell (BlkAt.later HP1.out hSw) (j := 7) rfl; have e8 := BlkAt.cell (BlkAt.later HP1.out hSw) (j := 8) rfl; have e9 := BlkAt.cell (BlkAt.later HP1.out hSw) (j := 9) rfl; have e10 := BlkAt.cell (BlkAt.later HP1.out hSw) (j := 10) rfl; go_simp; try with_reducible rfl))); (try simp only [Act.put, List.setIfInBounds_toArray, List.set_cons_zero, List.set_cons_succ, List.getElem_toArray, List.getElem_cons_zero, List.getElem_cons_succ]))
  (refine wpAnyH_take (i := 14) (v := ?_) rfl (by kernel_rfl) (by kernel_rfl) (by kernel_rfl) (fun _ _ _ h => h) (Or.inl ⟨by rfl, ?_⟩) hHeld ?_; rotate_left; (focus (intro w hSw; (try dsimp only at hSw); go_simp; try with_reducible rfl)); (try simp only [Act.put, List.setIfInBounds_toArray, List.set_cons_zero, List.set_cons_succ, List.getElem_toArray, List.getElem_cons_zero, List.getElem_cons_succ])); (refine wpAnyH_take (i := 15) (v := ?_) rfl (by kernel_rfl) (by kernel_rfl) (by kernel_rfl) (fun _ _ _ h => h) (Or.inl ⟨by rfl, ?_⟩) hHeld ?_; rotate_left; (focus (intro w hSw; (try dsimp only at hSw); go_simp; try with_reducible rfl)); (try simp only [Act.put, List.setIfInBounds_toArray, List.set_cons_zero, List.set_cons_succ, List.getElem_toArray, List.getElem_cons_zero, List.getElem_cons_succ])); (refine wpAnyH_take (i := 16) (v := ?_) rfl (by kernel_rfl) (by kernel_rfl) (by kernel_rfl) (fun _ _ _ h => h) (Or.inl ⟨by rfl, ?_⟩) hHeld ?_; rotate_left; (focus (intro w hSw; (try dsimp only at hSw); go_simp; try with_reducible rfl)); (try simp only [Act.put, List.setIfInBounds_toArray, List.set_cons_zero, List.set_cons_succ, List.getElem_toArray, List.getElem_cons_zero, List.getElem_cons_succ]))
  (refine wpAnyH_take (i := 17) (v := ?_) rfl (by kernel_rfl) (by kernel_rfl) (by kernel_rfl) (fun _ _ _ h => h) (Or.inl ⟨by rfl, ?_⟩) hHeld ?_; rotate_left; (focus (intro w hSw; (try dsimp only at hSw); go_simp; (have e0 := BlkAt.cell (BlkAt.later HH1.out hSw) (j := 0) rfl; have e1 := BlkAt.cell (BlkAt.later HH1.out hSw) (j := 1) rfl; have e2 := BlkAt.cell (BlkAt.later HH1.out hSw) (j := 2) rfl; have e3 := BlkAt.cell (BlkAt.later HH1.out hSw) (j := 3) rfl; have e4 := BlkAt.cell (BlkAt.later HH1.out hSw) (j := 4) rfl; go_simp; try with_reducible rfl))); (try simp only [Act.put, List.setIfInBounds_toArray, List.set_cons_zero, List.set_cons_succ, List.getElem_toArray, List.getElem_cons_zero, List.getElem_cons_succ]))
  (refine wpAnyH_take (i := 18) (v := ?_) rfl (by kernel_rfl) (by kernel_rfl) (by kernel_rfl) (fun _ _ _ h => h) (Or.inl ⟨by rfl, ?_⟩) hHeld ?_; rotate_left; (focus (intro w hSw; (try dsimp only at hSw); go_simp; try with_reducible rfl)); (try simp only [Act.put, List.setIfInBounds_toArray, List.set_cons_zero, List.set_cons_succ, List.getElem_toArray, List.getElem_cons_zero, List.getElem_cons_succ])); (refine wpAnyH_take (i := 19) (v := ?_) rfl (by kernel_rfl) (by kernel_rfl) (by kernel_rfl) (fun _ _ _ h => h) (Or.inl ⟨by rfl, ?_⟩) hHeld ?_; rotate_left; (focus (intro w hSw; (try dsimp only at hSw); go_simp; try with_reducible rfl)); (try simp only [Act.put, List.setIfInBounds_toArray, List.set_cons_zero, List.set_cons_succ, List.getElem_toArray, List.getElem_cons_zero, List.getElem_cons_succ])); (refine wpAnyH_take (i := 20) (v := ?_) rfl (by kernel_rfl) (by kernel_rfl) (by kernel_rfl) (fun _ _ _ h => h) (Or.inl ⟨by rfl, ?_⟩) hHeld ?_; rotate_left; (focus (intro w hSw; (try dsimp only at hSw); go_simp; try with_reducible rfl)); (try simp only [Act.put, List.setIfInBounds_toArray, List.set_cons_zero, List.set_cons_succ, List.getElem_toArray, List.getElem_cons_zero, List.getElem_cons_succ]))
  (refine wpAnyH_take (i := 21) (v := ?_) rfl (by kernel_rfl) (by kernel_rfl) (by kernel_rfl) (fun _ _ _ h => h) (Or.inl ⟨by rfl, ?_⟩) hHeld ?_; rotate_left; (focus (intro w hSw; (try dsimp only at hSw); go_simp; (have e0 := BlkAt.cell (BlkAt.later HP1.out hSw) (j := 0) rfl; have e1 := BlkAt.cell (BlkAt.later HP1.out hSw) (j := 1) rfl; have e2 := BlkAt.cell (BlkAt.later HP1.out hSw) (j := 2) rfl; have e3 := BlkAt.cell (BlkAt.later HP1.out hSw) (j := 3) rfl; have e4 := BlkAt.cell (BlkAt.later HP1.out hSw) (j := 4) rfl; have e5 := BlkAt.cell (BlkAt.later HP1.out hSw) (j := 5) rfl; have e6 := BlkAt.cell (BlkAt.later HP1.out hSw) (j := 6) rfl; have e7 := BlkAt.cell (BlkAt.later HP1.out hSw) (j := 7) rfl; have e8 := BlkAt.cell (BlkAt.later HP1.out hSw) (j := 8) rfl; have e9 := BlkAt.cell (BlkAt.later HP1.out hSw) (j := 9) rfl; have e10 := BlkAt.cell (BlkAt.later HP1.out hSw) (j := 10) rfl; go_simp; try with_reducible rfl))); (try simp only [Act.put, List.setIfInBounds_toArray, List.set_cons_zero, List.set_cons_succ, List.getElem_toArray, List.getElem_cons_zero, List.getElem_cons_succ]))
  (refine wpAnyH_ready (rs := [22]) (by kernel_rfl) (by simp) ?_; refine AllReadyH.cons rfl (fun K hK => ?_) AllReadyH.nil; go_simp; refine (elderW h.mb h.mt a.v.tb a.v.tt _).mono ?_; rintro e y22 ⟨rfl, hs⟩; rw [tD]; refine hK.out _ _ ?_ (fun hHeldN => ?_); (focus ((try dsimp only); (exact hHeld.trans (hs.mono hHeld.size)))); clear hK K hHeld; have hHeld := hHeldN; clear hHeldN; (try simp only [Act.put, List.setIfInBounds_toArray, List.set_cons_zero, List.set_cons_succ, List.getElem_toArray, List.getElem_cons_zero, List.getElem_cons_succ]))
  (refine wpAnyH_take (i := 23) (v := ?_) rfl (by kernel_rfl) (by kernel_rfl) (by kernel_rfl) (fun _ _ _ h => h) (Or.inl ⟨by rfl, ?_⟩) hHeld ?_; rotate_left; (focus (intro w hSw; (try dsimp only at hSw); go_simp; try with_reducible rfl)); (try simp only [Act.put, List.setIfInBounds_toArray, List.set_cons_zero, List.set_cons_succ, List.getElem_toArray, List.getElem_cons_zero, List.getElem_cons_succ])); (refine wpAnyH_take (i := 24) (v := ?_) rfl (by kernel_rfl) (by kernel_rfl) (by kernel_rfl) (fun _ _ _ h => h) (Or.inl ⟨by rfl, ?_⟩) hHeld ?_; rotate_left; (focus (intro w hSw; (try dsimp only at hSw); go_simp; try with_reducible rfl)); (try simp only [Act.put, List.setIfInBounds_toArray, List.set_cons_zero, List.set_cons_succ, List.getElem_toArray, List.getElem_cons_zero, List.getElem_cons_succ])); (refine wpAnyH_take (i := 25) (v := ?_) rfl (by kernel_rfl) (by kernel_rfl) (by kernel_rfl) (fun _ _ _ h => h) (Or.inl ⟨by rfl, ?_⟩) hHeld ?_; rotate_left; (focus (intro w hSw; (try dsimp only at hSw); go_simp; try with_reducible rfl)); (try simp only [Act.put, List.setIfInBounds_toArray, List.set_cons_zero, List.set_cons_succ, List.getElem_toArray, List.getElem_cons_zero, List.getElem_cons_succ]))
  refine wpAnyH_done (by kernel_rfl) ?_ _
  go_wp2_with fail
  go_end0
  exact ⟨⟨_, rfl⟩, HP1.out.later hHeld, HC1.out.trans (Chg.of_below _ hHeld)⟩
theorem heedW {p : Nat} {a : Ad} {w : World} (hA : PA p a w) (hI : Inv a) (h : Hl) (hm : mayHl h = true) :
    Calls Try.prog 26 #[.pointer (some ⟨p, 0, none⟩), .agg #[.int .i64 h.n, .int .u64 h.mb, .int .u64 h.mt, .int .u64 h.hb, .int .u64 h.ht]] w fun e w' => (∃ x, e = .returned x) ∧ PA p (heedA a h) w' ∧ Chg [p] w w' := by
  obtain ⟨m1, m2, m3, m4⟩ := mayHl_iff.1 hm
  by_cases h0 : h.n = a.node
  · have e : heedA a h = a := if_pos (by unfold stay; simp [h0])
    rw [e]
    exact heedS0 hA h (beq_iff_eq.2 h0)
  have t0 : (h.n == a.node) = false := beq_eq_false_iff_ne.2 h0
  by_cases h1 : h.n = a.v.n
  · have tE : (h.n == a.v.n) = true := beq_iff_eq.2 h1
    have tF : (h.n != a.v.n) = false := by rw [bne, tE]; rfl
    have hs : a.v.st ≠ 0 := fun q => by have := (hI.down q).2.2; omega
    have hu := hI.up hs
    have tZ : sameTI a.v.tb a.v.tt 0 0 = false := sameTI_no (by omega)
    cases tD : eldI h.mb h.mt a.v.tb a.v.tt with
    | true =>
      have e : heedA a h = a := if_pos (by unfold stay; rw [tD]; simp [h1])
      rw [e]
      exact heedS1 hA h t0 tE tD
    | false =>
      have e : heedA a h = ⟨a.node, a.every, a.dead, a.said, 0, upV (nowV a.v h) h⟩ := if_neg (by unfold stay; rw [tD]; simp [h0])
      rw [e]
      cases tM : sameTI h.mb h.mt a.v.tb a.v.tt with
      | true =>
        have e2 : nowV a.v h = a.v := by unfold nowV; rw [if_neg (fun q => q.2 h1), if_pos ⟨hs, sameTI_iff.1 tM⟩]
        rw [e2]
        exact heedQ hA h t0 tE tF tD tZ tM
      | false =>
        have e2 : nowV a.v h = setV a.v h := by
          unfold nowV; rw [if_neg (fun q => q.2 h1), if_neg (fun q => by rw [sameTI_iff.2 q.2] at tM; cases tM)]
        rw [e2]
        exact heedP hA h t0 tE tF tD tZ tM
  · have tE : (h.n == a.v.n) = false := beq_eq_false_iff_ne.2 h1
    have tF : (h.n != a.v.n) = true := by rw [bne, tE]; rfl
    have e : heedA a h = ⟨a.node, a.every, a.dead, a.said, 0, upV (nowV a.v h) h⟩ := if_neg (by unfold stay; simp [h0, h1])
    rw [e]
    by_cases hs : a.v.st = 0
    · have hd := hI.down hs
      have tZ : sameTI a.v.tb a.v.tt 0 0 = true := sameTI_iff.2 ⟨hd.1, hd.2.1⟩
      have tM : sameTI h.mb h.mt a.v.tb a.v.tt = false := sameTI_no (by omega)
      have e2 : nowV a.v h = setV a.v h := by unfold nowV; rw [if_neg (fun q => q.1 hs), if_neg (fun q => q.1 hs)]
      rw [e2]
      exact heedN hA h t0 tE tZ tM
    · have hu := hI.up hs
      have tZ : sameTI a.v.tb a.v.tt 0 0 = false := sameTI_no (by omega)
      have e2 : nowV a.v h = setV (anV a.v) h := by unfold nowV; rw [if_pos ⟨hs, h1⟩]
      rw [e2]
      exact heedO hA h t0 tE tF tZ
/-- What Hear answers. -/
def HrA (p : Nat) (a : Ad) (h : Hl) (w : World) (e : Ending) (w' : World) : Prop :=
  e = .returned (.tuple #[.int .i64 (if mayHl h = true then cameI a.v (hearA a h).v else 0), .int .i64 (if mayHl h = true then 0 else 2)]) ∧ PA p (hearA a h) w' ∧ Chg [p] w w'
set_option maxHeartbeats 8000000 in
set_option maxRecDepth 100000 in
theorem hearW {p : Nat} {a : Ad} {w : World} (hA : PA p a w) (hI : Inv a) (h : Hl) :
    Calls Try.prog 13 #[.pointer (some ⟨p, 0, none⟩), .agg #[.int .i64 h.n, .int .u64 h.mb, .int .u64 h.mt, .int .u64 h.hb, .int .u64 h.ht]] w (HrA p a h w) := by
  obtain ⟨w1, hw1⟩ : ∃ W, W = w.alloc (.cells #[.int .i64 h.n, .int .u64 h.mb, .int .u64 h.mt, .int .u64 h.hb, .int .u64 h.ht] 35) := ⟨_, rfl⟩
  have hb : Below w.heap.size w w1 := by rw [hw1]; exact (Below.refl _ _).alloc (Nat.le_refl _) _
  have hP := hA.later hb
  have HN := Lib.hid (noneA hP hI.nz)
  have HP1 := Lib.hid hP
  have HC1 := Lib.hid (Chg.of_below [p] hb)
  have hH : HBk w.heap.size h w1 := by rw [hw1]; exact BlkAt.new w _
  have HH1 := Lib.hid hH
  have HL := Lib.hid hA.lt
  have c0 := BlkAt.cell hP (j := 0) rfl; have c1 := BlkAt.cell hP (j := 1) rfl; have c2 := BlkAt.cell hP (j := 2) rfl; have c3 := BlkAt.cell hP (j := 3) rfl; have c4 := BlkAt.cell hP (j := 4) rfl; have c5 := BlkAt.cell hP (j := 5) rfl; have c6 := BlkAt.cell hP (j := 6) rfl; have c7 := BlkAt.cell hP (j := 7) rfl; have c8 := BlkAt.cell hP (j := 8) rfl; have c9 := BlkAt.cell hP (j := 9) rfl; have c10 := BlkAt.cell hP (j := 10) rfl
  have g0 := BlkAt.cell hH (j := 0) rfl; have g1 := BlkAt.cell hH (j := 1) rfl; have g2 := BlkAt.cell hH (j := 2) rfl; have g3 := BlkAt.cell hH (j := 3) rfl; have g4 := BlkAt.cell hH (j := 4) rfl
  have HW := Lib.hid hw1
  have HM := fun W => helloW h W
  have HI := Lib.hid hI
  unfold HrA
  cases tm : mayHl h with
  | false =>
    rw [tm] at HM
    have HM := Lib.hid HM
    have e : hearA a h = a := if_neg (by rw [tm]; simp)
    rw [e]
    clear hA hI hb hw1 hP hH e tm
    go_enter Try.func13, Try.ntmps13
    go_wp2_with fail
    rw [← HW.out]
    refine HN.out.mono ?_
    rintro e w2 ⟨rfl, rfl⟩
    go_wp2_with fail
    refine (HM.out _).mono ?_
    rintro e w2 ⟨rfl, hs⟩
    have HP2 := Lib.hid (HP1.out.later hs)
    have HC2 := Lib.hid (HC1.out.trans (Chg.of_below _ hs))
    clear hs
    go_wp2_with fail
    go_ret2
    exact ⟨rfl, HP2.out, HC2.out⟩
  | true =>
    rw [tm] at HM
    have HM := Lib.hid HM
    have e : hearA a h = heedA a h := if_pos tm
    rw [e]
    have HTM := Lib.hid tm
    clear hA hI hb hw1 hP hH e tm c0 c1 c2 c3 c4 c5 c6 c7 c8 c9 c10
    go_enter Try.func13, Try.ntmps13
    go_wp2_with fail
    rw [← HW.out]
    refine HN.out.mono ?_
    rintro e w2 ⟨rfl, rfl⟩
    go_wp2_with fail
    refine (HM.out _).mono ?_
    rintro e w2 ⟨rfl, hs⟩
    have HP2 := Lib.hid (HP1.out.later hs)
    have HH2 := Lib.hid (BlkAt.later HH1.out hs)
    have HC2 := Lib.hid (HC1.out.trans (Chg.of_below _ hs))
    clear hs g0 g1 g2 g3 g4
    have hP := HP2.out
    have c0 := BlkAt.cell hP (j := 0) rfl; have c1 := BlkAt.cell hP (j := 1) rfl; have c2 := BlkAt.cell hP (j := 2) rfl; have c3 := BlkAt.cell hP (j := 3) rfl; have c4 := BlkAt.cell hP (j := 4) rfl; have c5 := BlkAt.cell hP (j := 5) rfl; have c6 := BlkAt.cell hP (j := 6) rfl; have c7 := BlkAt.cell hP (j := 7) rfl; have c8 := BlkAt.cell hP (j := 8) rfl; have c9 := BlkAt.cell hP (j := 9) rfl; have c10 := BlkAt.cell hP (j := 10) rfl
    obtain ⟨w3, hw3⟩ : ∃ W, W = w2.alloc (.cells #[.int .i64 a.v.st, .int .u64 a.v.mb, .int .u64 a.v.mt, .int .u64 a.v.tb, .int .u64 a.v.tt, .int .i64 a.v.n] 40) := ⟨_, rfl⟩
    have hb : Below w2.heap.size w2 w3 := by rw [hw3]; exact (Below.refl _ _).alloc (Nat.le_refl _) _
    have hB : BlkAt 40 w2.heap.size [.int .i64 a.v.st, .int .u64 a.v.mb, .int .u64 a.v.mt, .int .u64 a.v.tb, .int .u64 a.v.tt, .int .i64 a.v.n] w3 := by rw [hw3]; exact BlkAt.new w2 _
    have hH := BlkAt.later HH2.out hb
    have HL2 := Lib.hid HP2.out.lt
    rw [hw3] at hH
    have g0 := BlkAt.cell hH (j := 0) rfl; have g1 := BlkAt.cell hH (j := 1) rfl; have g2 := BlkAt.cell hH (j := 2) rfl; have g3 := BlkAt.cell hH (j := 3) rfl; have g4 := BlkAt.cell hH (j := 4) rfl
    have HHE := Lib.hid (heedW (HP2.out.later hb) HI.out h HTM.out)
    have HB := Lib.hid hB
    have HC3 := Lib.hid (HC2.out.trans (Chg.of_below _ hb))
    have HW3 := Lib.hid hw3
    clear hb hB hH hw3 hP
    go_wp2_with fail
    rw [← HW3.out]
    refine HHE.out.mono ?_
    rintro e w4 ⟨⟨_, rfl⟩, hP, hC⟩
    have HP4 := Lib.hid hP
    have HB4 := Lib.hid (hC.blk HB.out (by have := HL2.out; simp; omega))
    have HC4 := Lib.hid (HC3.out.trans hC)
    clear hP hC c0 c1 c2 c3 c4 c5 c6 c7 c8 c9 c10 g0 g1 g2 g3 g4
    go_wp2_with fail
    (refine wp_region_held_drew (S := (fun w' => Below w4.heap.size w4 w')) (by kernel_rfl) ?_ (fun hHeld => ?_); (focus ((try dsimp only); (exact (Below.refl _ _).drew))))
    (try dsimp only at hHeld)
    (refine wpAnyH_take (i := 0) (v := ?_) rfl (by kernel_rfl) (by kernel_rfl) (by kernel_rfl) (fun _ _ _ h => h) (Or.inl ⟨by rfl, ?_⟩) hHeld ?_; rotate_left; (focus (intro w hSw; (try dsimp only at hSw); go_simp; (have e0 := BlkAt.cell (BlkAt.later HB4.out hSw) (j := 0) rfl; have e1 := BlkAt.cell (BlkAt.later HB4.out hSw) (j := 1) rfl; have e2 := BlkAt.cell (BlkAt.later HB4.out hSw) (j := 2) rfl; have e3 := BlkAt.cell (BlkAt.later HB4.out hSw) (j := 3) rfl; have e4 := BlkAt.cell (BlkAt.later HB4.out hSw) (j := 4) rfl; have e5 := BlkAt.cell (BlkAt.later HB4.out hSw) (j := 5) rfl; go_simp; try with_reducible rfl))); (try simp only [Act.put, List.setIfInBounds_toArray, List.set_cons_zero, List.set_cons_succ, List.getElem_toArray, List.getElem_cons_zero]))
    (refine wpAnyH_take (i := 1) (v := ?_) rfl (by kernel_rfl) (by kernel_rfl) (by kernel_rfl) (fun _ _ _ h => h) (Or.inl ⟨by rfl, ?_⟩) hHeld ?_; rotate_left; (focus (intro w hSw; (try dsimp only at hSw); go_simp; try with_reducible rfl)); (try simp only [Act.put, List.setIfInBounds_toArray, List.set_cons_zero, List.set_cons_succ, List.getElem_toArray, List.getElem_cons_zero, List.getElem_cons_succ])); (refine wpAnyH_take (i := 2) (v := ?_) rfl (by kernel_rfl) (by kernel_rfl) (by kernel_rfl) (fun _ _ _ h => h) (Or.inl ⟨by rfl, ?_⟩) hHeld ?_; rotate_left; (focus (intro w hSw; (try dsimp only at hSw); go_simp; try with_reducible rfl)); (try simp only [Act.put, List.setIfInBounds_toArray, List.set_cons_zero, List.set_cons_succ, List.getElem_toArray, List.getElem_cons_zero, List.getElem_cons_succ])); (refine wpAnyH_take (i := 3) (v := ?_) rfl (by kernel_rfl) (by kernel_rfl) (by kernel_rfl) (fun _ _ _ h => h) (Or.inl ⟨by rfl, ?_⟩) hHeld ?_; rotate_left; (focus (intro w hSw; (try dsimp only at hSw); go_simp; try with_reducible rfl)); (try simp only [Act.put, List.setIfInBounds_toArray, List.set_cons_zero, List.set_cons_succ, List.getElem_toArray, List.getElem_cons_zero, List.getElem_cons_succ]))
    (refine wpAnyH_take (i := 4) (v := ?_) rfl (by kernel_rfl) (by kernel_rfl) (by kernel_rfl) (fun _ _ _ h => h) (Or.inl ⟨by rfl, ?_⟩) hHeld ?_; rotate_left; (focus (intro w hSw; (try dsimp only at hSw); go_simp; (have e0 := BlkAt.cell (BlkAt.later HP4.out hSw) (j := 0) rfl; have e1 := BlkAt.cell (BlkAt.later HP4.out hSw) (j := 1) rfl; have e2 := BlkAt.cell (BlkAt.later HP4.out hSw) (j := 2) rfl; have e3 := BlkAt.cell (BlkAt.later HP4.out hSw) (j := 3) rfl; have e4 := BlkAt.cell (BlkAt.later HP4.out hSw) (j := 4) rfl; have e5 := BlkAt.cell (BlkAt.later HP4.out hSw) (j := 5) rfl; have e6 := BlkAt.cell (BlkAt.later HP4.out hSw) (j := 6) rfl; have e7 := BlkAt.cell (BlkAt.later HP4.out hSw) (j := 7) rfl; have e8 := BlkAt.cell (BlkAt.later HP4.out hSw) (j := 8) rfl; have e9 := BlkAt.cell (BlkAt.later HP4.out hSw) (j := 9) rfl; have e10 := BlkAt.cell (BlkAt.later HP4.out hSw) (j := 10) rfl; go_simp; try with_reducible rfl))); (try simp only [Act.put, List.setIfInBounds_toArray, List.set_cons_zero, List.set_cons_succ, List.getElem_toArray, List.getElem_cons_zero, List.getElem_cons_succ]))
    (refine wpAnyH_ready (rs := [5]) (by kernel_rfl) (by simp) ?_; refine AllReadyH.cons rfl (fun K hK => ?_) AllReadyH.nil; go_simp; refine (cameW a.v (heedA a h).v _).mono ?_; rintro e y5 ⟨rfl, hs⟩; refine hK.out _ _ ?_ (fun hHeldN => ?_); (focus ((try dsimp only); (exact hHeld.trans (hs.mono hHeld.size)))); clear hK K hHeld; have hHeld := hHeldN; clear hHeldN; (try simp only [Act.put, List.setIfInBounds_toArray, List.set_cons_zero, List.set_cons_succ, List.getElem_toArray, List.getElem_cons_zero, List.getElem_cons_succ]))
    (refine wpAnyH_take (i := 6) (v := ?_) rfl (by kernel_rfl) (by kernel_rfl) (by kernel_rfl) (fun _ _ _ h => h) (Or.inl ⟨by rfl, ?_⟩) hHeld ?_; rotate_left; (focus (intro w hSw; (try dsimp only at hSw); go_simp; try with_reducible rfl)); (try simp only [Act.put, List.setIfInBounds_toArray, List.set_cons_zero, List.set_cons_succ, List.getElem_toArray, List.getElem_cons_zero, List.getElem_cons_succ])); (refine wpAnyH_take (i := 7) (v := ?_) rfl (by kernel_rfl) (by kernel_rfl) (by kernel_rfl) (fun _ _ _ h => h) (Or.inl ⟨by rfl, ?_⟩) hHeld ?_; rotate_left; (focus (intro w hSw; (try dsimp only at hSw); go_simp; try with_reducible rfl)); (try simp only [Act.put, List.setIfInBounds_toArray, List.set_cons_zero, List.set_cons_succ, List.getElem_toArray, List.getElem_cons_zero, List.getElem_cons_succ]))
    refine wpAnyH_done (by kernel_rfl) ?_ _
    go_wp2_with fail
    go_ret2
    exact ⟨rfl, HP4.out.later hHeld, HC4.out.trans (Chg.of_below _ hHeld)⟩
end Go.Proofs.Ytcedninipbafaaa

namespace Go.Proofs.Ytcedninipbafaaa
open Go.RowKit
attribute [local go_sem ↓] Go.wp_at_zero Go.wp_at_succ
attribute [local go_sem ↓ high] eqTI neTI eqVI neVI

/-- Is a frame of this node, with these tags, one of the session? -/
def accB (v : Vw) (n ob ot tb tt : Int) : Bool := sameVI v.st v.mb v.mt v.tb v.tt v.n 2 ob ot tb tt n
set_option maxHeartbeats 2000000 in
theorem acceptsW {p : Nat} {a : Ad} {w : World} (h : PA p a w) (hn : a.node ≠ 0) (n ob ot tb tt : Int) : Calls Try.prog 12 #[.pointer (some ⟨p, 0, none⟩), .int .i64 n, .agg #[.int .u64 ob, .int .u64 ot], .agg #[.int .u64 tb, .int .u64 tt]] w fun e w' => e = .returned (.bool (accB a.v n ob ot tb tt)) ∧ Below w.heap.size w w' := by
  obtain ⟨W1, hW1⟩ : ∃ W1, W1 = (w.alloc (.cells #[.int .u64 ob, .int .u64 ot] 25)).alloc (.cells #[.int .u64 tb, .int .u64 tt] 25) := ⟨_, rfl⟩
  have hb : Below w.heap.size w W1 := by rw [hW1]; exact ((Below.refl _ _).alloc (Nat.le_refl _) _).alloc (by simp) _
  have h1 : BlkAt 25 w.heap.size [.int .u64 ob, .int .u64 ot] W1 := by rw [hW1]; exact (BlkAt.new w _).later (ba1 _ _)
  have h2 : BlkAt 25 (w.heap.size + 1) [.int .u64 tb, .int .u64 tt] W1 := by
    rw [hW1]
    have := BlkAt.new (t := 25) (w.alloc (.cells #[.int .u64 ob, .int .u64 ot] 25)) [.int .u64 tb, .int .u64 tt]
    simpa using this
  have H1 := Lib.hid h1
  have H2 := Lib.hid h2
  have HB := Lib.hid hb
  have HV := Lib.hid (fun (W : World) (q : Below W1.heap.size W1 W) => viewW ((h.later hb).later q) hn)
  have HW := Lib.hid hW1
  clear h hn hb h1 h2 hW1
  go_enter Try.func12, Try.ntmps12
  go_wp2_with fail
  rw [← HW.out]
  (refine wp_region_held_drew (S := (fun w' => Below W1.heap.size W1 w')) (by kernel_rfl) ?_ (fun hHeld => ?_); (focus ((try dsimp only); (exact (Below.refl _ _).drew))))
  (try dsimp only at hHeld)
  (refine wpAnyH_take (i := 0) (v := ?_) rfl (by kernel_rfl) (by kernel_rfl) (by kernel_rfl) (fun _ _ _ h => h) (Or.inl ⟨by rfl, ?_⟩) hHeld ?_; rotate_left; (focus (intro w hSw; (try dsimp only at hSw); go_simp; try with_reducible rfl)); (try simp only [Act.put, List.setIfInBounds_toArray, List.set_cons_zero, List.set_cons_succ, List.getElem_toArray, List.getElem_cons_zero]))
  (refine wpAnyH_take (i := 2) (v := ?_) rfl (by kernel_rfl) (by kernel_rfl) (by kernel_rfl) (fun _ _ _ h => h) (Or.inl ⟨by rfl, ?_⟩) hHeld ?_; rotate_left; (focus (intro w hSw; (try dsimp only at hSw); go_simp; (have e0 := BlkAt.cell (BlkAt.later H1.out hSw) (j := 0) rfl; have e1 := BlkAt.cell (BlkAt.later H1.out hSw) (j := 1) rfl; go_simp; try with_reducible rfl))); (try simp only [Act.put, List.setIfInBounds_toArray, List.set_cons_zero, List.set_cons_succ, List.getElem_toArray, List.getElem_cons_zero, List.getElem_cons_succ]))
  (refine wpAnyH_take (i := 3) (v := ?_) rfl (by kernel_rfl) (by kernel_rfl) (by kernel_rfl) (fun _ _ _ h => h) (Or.inl ⟨by rfl, ?_⟩) hHeld ?_; rotate_left; (focus (intro w hSw; (try dsimp only at hSw); go_simp; (have e0 := BlkAt.cell (BlkAt.later H2.out hSw) (j := 0) rfl; have e1 := BlkAt.cell (BlkAt.later H2.out hSw) (j := 1) rfl; go_simp; try with_reducible rfl))); (try simp only [Act.put, List.setIfInBounds_toArray, List.set_cons_zero, List.set_cons_succ, List.getElem_toArray, List.getElem_cons_zero, List.getElem_cons_succ]))
  (refine wpAnyH_take (i := 4) (v := ?_) rfl (by kernel_rfl) (by kernel_rfl) (by kernel_rfl) (fun _ _ _ h => h) (Or.inl ⟨by rfl, ?_⟩) hHeld ?_; rotate_left; (focus (intro w hSw; (try dsimp only at hSw); go_simp; try with_reducible rfl)); (try simp only [Act.put, List.setIfInBounds_toArray, List.set_cons_zero, List.set_cons_succ, List.getElem_toArray, List.getElem_cons_zero, List.getElem_cons_succ])); (refine wpAnyH_take (i := 5) (v := ?_) rfl (by kernel_rfl) (by kernel_rfl) (by kernel_rfl) (fun _ _ _ h => h) (Or.inl ⟨by rfl, ?_⟩) hHeld ?_; rotate_left; (focus (intro w hSw; (try dsimp only at hSw); go_simp; try with_reducible rfl)); (try simp only [Act.put, List.setIfInBounds_toArray, List.set_cons_zero, List.set_cons_succ, List.getElem_toArray, List.getElem_cons_zero, List.getElem_cons_succ]))
  (refine wpAnyH_ready (rs := [1]) (by kernel_rfl) (by simp) ?_; refine AllReadyH.cons rfl (fun K hK => ?_) AllReadyH.nil; go_simp; refine (HV.out _ hHeld).mono ?_; rintro e y5 ⟨rfl, hs⟩; refine hK.out _ _ ?_ (fun hHeldN => ?_); (focus ((try dsimp only); (exact hHeld.trans (hs.mono hHeld.size)))); clear hK K hHeld; have hHeld := hHeldN; clear hHeldN; (try simp only [Act.put, List.setIfInBounds_toArray, List.set_cons_zero, List.set_cons_succ, List.getElem_toArray, List.getElem_cons_zero, List.getElem_cons_succ]))
  (refine wpAnyH_take (i := 6) (v := ?_) rfl (by kernel_rfl) (by kernel_rfl) (by kernel_rfl) (fun _ _ _ h => h) (Or.inl ⟨by rfl, ?_⟩) hHeld ?_; rotate_left; (focus (intro w hSw; (try dsimp only at hSw); go_simp; try with_reducible rfl)); (try simp only [Act.put, List.setIfInBounds_toArray, List.set_cons_zero, List.set_cons_succ, List.getElem_toArray, List.getElem_cons_zero, List.getElem_cons_succ])); (refine wpAnyH_take (i := 7) (v := ?_) rfl (by kernel_rfl) (by kernel_rfl) (by kernel_rfl) (fun _ _ _ h => h) (Or.inl ⟨by rfl, ?_⟩) hHeld ?_; rotate_left; (focus (intro w hSw; (try dsimp only at hSw); go_simp; try with_reducible rfl)); (try simp only [Act.put, List.setIfInBounds_toArray, List.set_cons_zero, List.set_cons_succ, List.getElem_toArray, List.getElem_cons_zero, List.getElem_cons_succ]))
  refine wpAnyH_done (by kernel_rfl) ?_ _
  go_wp2_with fail
  go_ret
  exact ⟨rfl, below_of HB.out hHeld⟩
def newA (n b : Int) : Ad := ⟨n, 3, 9, 2, 0, ⟨0, b, 1, 0, 0, 0⟩⟩
theorem newW (n b : Int) (w : World) (h1 : 1 ≤ n) (h2 : n ≤ 16) (hb : b ≠ 0) : Calls Try.prog 8 #[.int .i64 n, .int .u64 b, .int .i64 3, .int .i64 9] w fun e w' => e = .returned (.tuple #[.pointer (some ⟨w.heap.size, 0, none⟩), .int .i64 0]) ∧ PA w.heap.size (newA n b) w' ∧ Below w.heap.size w w' := by
  have HN := nodeW n w
  rw [show inI 1 n 16 = true from decide_eq_true ⟨h1, h2⟩] at HN
  have HN := Lib.hid HN
  have t : (b == 0) = false := beq_eq_false_iff_ne.2 hb
  clear h1 h2 hb
  go_enter Try.func8, Try.ntmps8
  go_wp2_with fail
  refine HN.out.mono ?_
  rintro e w1 ⟨rfl, rfl⟩
  go_wp2_with fail
  refine (ticksW 3 w (by omega) (by omega)).mono ?_
  rintro e w1 ⟨rfl, rfl⟩
  go_wp2_with fail
  refine (ticksW 9 w (by omega) (by omega)).mono ?_
  rintro e w1 ⟨rfl, rfl⟩
  go_wp2_with fail
  go_ret2
  exact ⟨rfl, BlkAt.new w _, (Below.refl _ _).alloc (Nat.le_refl _) _⟩
end Go.Proofs.Ytcedninipbafaaa

namespace Go.Proofs.Ytcedninipbafaaa
open Go.RowKit
attribute [local go_sem ↓] Go.wp_at_zero Go.wp_at_succ
attribute [local go_sem ↓ high] eqTI neTI eqVI neVI

def ka0 : Ad := ⟨1, 3, 9, 2, 0, 0, 5, 1, 0, 0, 0⟩
def kb0 : Ad := ⟨2, 3, 9, 2, 0, 0, 7, 1, 0, 0, 0⟩
def ka1 : Ad := ⟨1, 3, 9, 2, 0, 2, 5, 1, 7, 1, 2⟩
def kb1 : Ad := ⟨2, 3, 9, 2, 0, 1, 7, 1, 5, 1, 1⟩
def kb2 : Ad := ⟨2, 3, 9, 2, 0, 2, 7, 1, 5, 1, 1⟩
theorem inv_k {a : Ad} (h1 : 1 ≤ a.node) (h2 : a.v.st = 0 ∨ a.v.st = 1 ∨ a.v.st = 2) (h3 : a.v.st = 0 → a.v.tb = 0 ∧ a.v.tt = 0 ∧ a.v.n = 0) (h4 : a.v.st ≠ 0 → a.v.tb ≠ 0 ∧ a.v.n ≠ a.node ∧ 1 ≤ a.v.n) : Inv a := ⟨h1, h2, h3, h4⟩
theorem ika0 : Inv ka0 := ⟨by decide, by decide, by decide, by decide⟩
theorem ikb0 : Inv kb0 := ⟨by decide, by decide, by decide, by decide⟩
theorem ikb1 : Inv kb1 := ⟨by decide, by decide, by decide, by decide⟩
theorem k_1 : hearA kb0 ⟨1, 5, 1, 0, 0⟩ = kb1 := by kernel_rfl
theorem k_2 : hearA ka0 ⟨2, 7, 1, 5, 1⟩ = ka1 := by kernel_rfl
theorem k_3 : hearA kb1 ⟨1, 5, 1, 7, 1⟩ = kb2 := by kernel_rfl
theorem k_1e : (if mayHl ⟨1, 5, 1, 0, 0⟩ = true then cameI kb0.v (hearA kb0 ⟨1, 5, 1, 0, 0⟩).v else 0) = 0 ∧ (if mayHl ⟨1, 5, 1, 0, 0⟩ = true then 0 else 2 : Int) = 0 := ⟨by kernel_rfl, by kernel_rfl⟩
theorem k_2e : (if mayHl ⟨2, 7, 1, 5, 1⟩ = true then cameI ka0.v (hearA ka0 ⟨2, 7, 1, 5, 1⟩).v else 0) = 1 ∧ (if mayHl ⟨2, 7, 1, 5, 1⟩ = true then 0 else 2 : Int) = 0 := ⟨by kernel_rfl, by kernel_rfl⟩
theorem k_3e : (if mayHl ⟨1, 5, 1, 7, 1⟩ = true then cameI kb1.v (hearA kb1 ⟨1, 5, 1, 7, 1⟩).v else 0) = 1 ∧ (if mayHl ⟨1, 5, 1, 7, 1⟩ = true then 0 else 2 : Int) = 0 := ⟨by kernel_rfl, by kernel_rfl⟩
theorem k_acc : accB ka1.v 2 5 1 7 1 = true ∧ accB kb2.v 1 7 1 5 1 = true := ⟨by kernel_rfl, by kernel_rfl⟩
theorem sayK {p : Nat} {a : Ad} {w : World} (h : PA p a w) (hn : a.node ≠ 0) {n ob ot tb tt : Int} (h1 : a.node = n) (h2 : a.v.mb = ob) (h3 : a.v.mt = ot) (h4 : a.v.tb = tb) (h5 : a.v.tt = tt) :
    Calls Try.prog 16 #[.pointer (some ⟨p, 0, none⟩)] w fun e w' => e = .returned (.tuple #[.agg #[.int .i64 n, .int .u64 ob, .int .u64 ot, .int .u64 tb, .int .u64 tt], .int .i64 0]) ∧ Below w.heap.size w w' := by
  subst h1 h2 h3 h4 h5
  exact sayW h hn
theorem viewK {p : Nat} {a : Ad} {w : World} (h : PA p a w) (hn : a.node ≠ 0) {s n ob ot tb tt : Int} (h0 : a.v.st = s) (h1 : a.v.n = n) (h2 : a.v.mb = ob) (h3 : a.v.mt = ot) (h4 : a.v.tb = tb) (h5 : a.v.tt = tt) :
    Calls Try.prog 11 #[.pointer (some ⟨p, 0, none⟩)] w fun e w' => e = .returned (.agg #[.int .i64 s, .int .u64 ob, .int .u64 ot, .int .u64 tb, .int .u64 tt, .int .i64 n]) ∧ Below w.heap.size w w' := by
  subst h0 h1 h2 h3 h4 h5
  exact viewW h hn
theorem field_V (s a b c d n : Int) (W : World) : (Instr.field 40 (.agg #[.int .i64 s, .int .u64 a, .int .u64 b, .int .u64 c, .int .u64 d, .int .i64 n]) 0).run Try.prog W = .ok (.int .i64 s) W := rfl
attribute [local go_sem ↓ high] field_V
/-- Hear, of one that is known. -/
theorem hearK {p : Nat} {a b : Ad} {w : World} (hA : PA p a w) (hI : Inv a) (h : Hl) {ev er : Int} (e1 : hearA a h = b) (e2 : (if mayHl h = true then cameI a.v (hearA a h).v else 0) = ev ∧ (if mayHl h = true then 0 else 2 : Int) = er) :
    Calls Try.prog 13 #[.pointer (some ⟨p, 0, none⟩), .agg #[.int .i64 h.n, .int .u64 h.mb, .int .u64 h.mt, .int .u64 h.hb, .int .u64 h.ht]] w fun e w' => e = .returned (.tuple #[.int .i64 ev, .int .i64 er]) ∧ PA p b w' ∧ Chg [p] w w' := by
  have := hearW hA hI h
  unfold HrA at this
  rw [e2.1, e2.2, e1] at this
  exact this
set_option maxHeartbeats 8000000 in
set_option maxRecDepth 100000 in
theorem knownA (w : World) : Calls Try.prog 7 #[] w fun e w' => e = .returned (.bool true) ∧ Below w.heap.size w w' := by
  go_enter Try.func7, Try.ntmps7
  go_wp2_with fail
  refine (newW 1 5 w (by omega) (by omega) (by omega)).mono ?_
  rintro e w1 ⟨rfl, hP, hb⟩
  have HA1 := Lib.hid (show PA w.heap.size ka0 w1 from hP)
  have HB1 := Lib.hid hb
  clear hP hb
  go_wp2_with fail
  refine (newW 2 7 w1 (by omega) (by omega) (by omega)).mono ?_
  rintro e w2 ⟨rfl, hP, hb⟩
  have HA2 := Lib.hid (HA1.out.later hb)
  have HQ2 := Lib.hid (show PA w1.heap.size kb0 w2 from hP)
  have HB2 := Lib.hid (below_of HB1.out hb)
  have HL : Hid (w.heap.size < w1.heap.size) := by
    have : w.heap.size < w1.heap.size := HA1.out.lt
    exact this
  clear hP hb
  go_wp2_with fail
  refine (sayK HA2.out (by decide) (n := 1) (ob := 5) (ot := 1) (tb := 0) (tt := 0) rfl rfl rfl rfl rfl).mono ?_
  rintro e w3 ⟨rfl, hb⟩
  obtain ⟨w4, hw4⟩ : ∃ W, W = w3.alloc (.cells #[.int .i64 1, .int .u64 5, .int .u64 1, .int .u64 0, .int .u64 0] 35) := ⟨_, rfl⟩
  have hb4 : Below w2.heap.size w2 w4 := by rw [hw4]; exact hb.alloc hb.size _
  have hX : BlkAt 35 w3.heap.size [.int .i64 1, .int .u64 5, .int .u64 1, .int .u64 0, .int .u64 0] w4 := by rw [hw4]; exact BlkAt.new w3 _
  have HA4 := Lib.hid (HA2.out.later hb4)
  have HQ4 := Lib.hid (HQ2.out.later hb4)
  have HB4 := Lib.hid (below_of HB2.out hb4)
  have HX4 := Lib.hid hX
  have HLX : Hid (w1.heap.size < w3.heap.size) := by
    have : w1.heap.size < w3.heap.size := by have := HQ2.out.lt; have := hb.size; omega
    exact this
  have HH := Lib.hid (hearK HQ4.out ikb0 ⟨1, 5, 1, 0, 0⟩ k_1 k_1e)
  have HW := Lib.hid hw4
  rw [hw4] at hX
  have x0 := BlkAt.cell hX (j := 0) rfl; have x1 := BlkAt.cell hX (j := 1) rfl; have x2 := BlkAt.cell hX (j := 2) rfl; have x3 := BlkAt.cell hX (j := 3) rfl; have x4 := BlkAt.cell hX (j := 4) rfl
  clear hb hb4 hw4 hX
  go_wp2_with fail
  rw [← HW.out]
  refine HH.out.mono ?_
  rintro e w5 ⟨rfl, hP, hC⟩
  have HA5 := Lib.hid (HA4.out.chg hC (by have := HL.out; simp; omega))
  have HQ5 := Lib.hid hP
  have HX5 := Lib.hid (hC.blk HX4.out (by have := HLX.out; simp; omega))
  have HB5 := Lib.hid (hC.onA HB4.out (by have := HL.out; simp; omega))
  clear hP hC x0 x1 x2 x3 x4
  go_wp2_with fail
  refine (viewK HQ5.out (by decide) (s := 1) (n := 1) (ob := 7) (ot := 1) (tb := 5) (tt := 1) rfl rfl rfl rfl rfl rfl).mono ?_
  rintro e w6 ⟨rfl, hb⟩
  have HA6 := Lib.hid (HA5.out.later hb)
  have HQ6 := Lib.hid (HQ5.out.later hb)
  have HX6 := Lib.hid (BlkAt.later HX5.out hb)
  have HB6 := Lib.hid (below_of HB5.out hb)
  clear hb
  go_wp2_with fail
  refine (sayK HQ6.out (by decide) (n := 2) (ob := 7) (ot := 1) (tb := 5) (tt := 1) rfl rfl rfl rfl rfl).mono ?_
  rintro e w7 ⟨rfl, hb⟩
  obtain ⟨w8, hw8⟩ : ∃ W, W = w7.alloc (.cells #[.int .i64 2, .int .u64 7, .int .u64 1, .int .u64 5, .int .u64 1] 35) := ⟨_, rfl⟩
  have hb8 : Below w6.heap.size w6 w8 := by rw [hw8]; exact hb.alloc hb.size _
  have hY : BlkAt 35 w7.heap.size [.int .i64 2, .int .u64 7, .int .u64 1, .int .u64 5, .int .u64 1] w8 := by rw [hw8]; exact BlkAt.new w7 _
  have HA8 := Lib.hid (HA6.out.later hb8)
  have HQ8 := Lib.hid (HQ6.out.later hb8)
  have HX8 := Lib.hid (BlkAt.later HX6.out hb8)
  have HB8 := Lib.hid (below_of HB6.out hb8)
  have HH := Lib.hid (hearK HA8.out ika0 ⟨2, 7, 1, 5, 1⟩ k_2 k_2e)
  have HW8 := Lib.hid hw8
  rw [hw8] at hY
  have y0 := BlkAt.cell hY (j := 0) rfl; have y1 := BlkAt.cell hY (j := 1) rfl; have y2 := BlkAt.cell hY (j := 2) rfl; have y3 := BlkAt.cell hY (j := 3) rfl; have y4 := BlkAt.cell hY (j := 4) rfl
  clear hb hb8 hw8 hY
  go_wp2_with fail
  rw [← HW8.out]
  refine HH.out.mono ?_
  rintro e w9 ⟨rfl, hP, hC⟩
  have HA9 := Lib.hid hP
  have HQ9 := Lib.hid (HQ8.out.chg hC (by have := HL.out; simp; omega))
  have HX9 := Lib.hid (hC.blk HX8.out (by have := HLX.out; have := HL.out; simp; omega))
  have HB9 := Lib.hid (hC.onA HB8.out (by simp))
  clear hP hC y0 y1 y2 y3 y4
  go_wp2_with fail
  refine (sayK HA9.out (by decide) (n := 1) (ob := 5) (ot := 1) (tb := 7) (tt := 1) rfl rfl rfl rfl rfl).mono ?_
  rintro e wa ⟨rfl, hb⟩
  have hXa := BlkAt.later HX9.out hb
  have x0 := BlkAt.cell hXa (j := 0) rfl; have x1 := BlkAt.cell hXa (j := 1) rfl; have x2 := BlkAt.cell hXa (j := 2) rfl; have x3 := BlkAt.cell hXa (j := 3) rfl; have x4 := BlkAt.cell hXa (j := 4) rfl
  have hfz : ∀ j, wa.frozen? ⟨w3.heap.size, j, none⟩ = false := fun j => BlkAt.frozen hXa j
  obtain ⟨wb, hwb⟩ : ∃ W, W = ((((wa.setCell ⟨w3.heap.size, 0, none⟩ (.int .i64 1)).setCell ⟨w3.heap.size, 1, none⟩ (.int .u64 5)).setCell ⟨w3.heap.size, 2, none⟩ (.int .u64 1)).setCell ⟨w3.heap.size, 3, none⟩ (.int .u64 7)).setCell ⟨w3.heap.size, 4, none⟩ (.int .u64 1) := ⟨_, rfl⟩
  have hC : Chg [w3.heap.size] wa wb := by rw [hwb]; exact (((((Chg.refl [w3.heap.size] wa).set (by simp) 0 _).set (by simp) 1 _).set (by simp) 2 _).set (by simp) 3 _).set (by simp) 4 _
  have HQb := Lib.hid ((HQ9.out.later hb).chg hC (by have := HLX.out; simp; omega))
  have HAb := Lib.hid ((HA9.out.later hb).chg hC (by have := HLX.out; have := HL.out; simp; omega))
  have HBb := Lib.hid (hC.onA (below_of HB9.out hb) (by have := HLX.out; have := HL.out; simp; omega))
  have HH := Lib.hid (hearK HQb.out ikb1 ⟨1, 5, 1, 7, 1⟩ k_3 k_3e)
  have HWb := Lib.hid hwb
  clear hb hXa hwb hC
  go_wp2_with fail
  rw [← HWb.out]
  refine HH.out.mono ?_
  rintro e wc ⟨rfl, hP, hC⟩
  have HAc := Lib.hid (HAb.out.chg hC (by have := HL.out; simp; omega))
  have HQc := Lib.hid hP
  have HBc := Lib.hid (hC.onA HBb.out (by have := HL.out; simp; omega))
  clear hP hC x0 x1 x2 x3 x4 hfz
  go_wp2_with fail
  have HK := Lib.hid (acceptsW HAc.out (by decide) 2 5 1 7 1)
  rw [k_acc.1] at HK
  refine HK.out.mono ?_
  rintro e wd ⟨rfl, hb⟩
  have HQd := Lib.hid (HQc.out.later hb)
  have HBd := Lib.hid (below_of HBc.out hb)
  clear hb HK
  go_wp2_with fail
  have HK := Lib.hid (acceptsW HQd.out (by decide) 1 7 1 5 1)
  rw [k_acc.2] at HK
  refine HK.out.mono ?_
  rintro e we ⟨rfl, hb⟩
  have HBe := Lib.hid (below_of HBd.out hb)
  clear hb HK
  go_wp2_with fail
  go_ret
  exact ⟨rfl, HBe.out⟩
end Go.Proofs.Ytcedninipbafaaa
