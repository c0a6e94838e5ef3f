/- Acts, and what stands always; plainly.
   A tag by value, and a slice of acts, opened.
   A slice that reads as a list of things of k cells each.
   Arguments that are bytes, and lists of bytes, opened.
   A row of one-cell elements in memory: a slice value that reads as a list of values.
   adj.Accepts, New: the walks.
   adj.heed, any way; adj.Hear. -/
import Derived.ProofKit
import Derived.OpenShut
import Derived.Deep.Matrix
import Derived.Deep.Slices
import Derived.Lib.SmallJoins
import Derived.Test.YtcedninipbafaaaZ01
import Derived.Test.YtcedninipbafaaaZ03

set_option linter.unusedSimpArgs false
set_option linter.unusedVariables false
namespace Go.Proofs.Ytcedninipbafaaa
open Go.RowKit
attribute [local go_sem ↓] Go.wp_at_zero Go.wp_at_succ
attribute [local go_sem ↓ high] eqTI neTI eqVI neVI

/-- What is so of an adjacency, always. -/
structure Inv (a : Ad) : Prop where
  node : 1 ≤ a.node
  st : a.v.st = 0 ∨ a.v.st = 1 ∨ a.v.st = 2
  down : a.v.st = 0 → a.v.tb = 0 ∧ a.v.tt = 0 ∧ a.v.n = 0
  up : a.v.st ≠ 0 → a.v.tb ≠ 0 ∧ a.v.n ≠ a.node ∧ 1 ≤ a.v.n
theorem Inv.nz {a : Ad} (h : Inv a) : a.node ≠ 0 := by have := h.node; omega
/-- A hello that is its own, or late. -/
def stay (a : Ad) (h : Hl) : Bool := decide (h.n = a.node) || (decide (h.n = a.v.n) && eldI h.mb h.mt a.v.tb a.v.tt)
/-- What is known behind it, but for whether it is Up. -/
def nowV (v : Vw) (h : Hl) : Vw := if v.st ≠ 0 ∧ h.n ≠ v.n then setV (anV v) h else if v.st ≠ 0 ∧ h.mb = v.tb ∧ h.mt = v.tt then v else setV v h
def heedA (a : Ad) (h : Hl) : Ad := if stay a h = true then a else ⟨a.node, a.every, a.dead, a.said, 0, upV (nowV a.v h) h⟩
def hearA (a : Ad) (h : Hl) : Ad := if mayHl h = true then heedA a h else a
theorem mayHl_iff {h : Hl} : mayHl h = true ↔ 1 ≤ h.n ∧ h.n ≤ 16 ∧ h.mb ≠ 0 ∧ h.mt ≠ 0 := by
  unfold mayHl inI
  simp [and_assoc]
set_option maxHeartbeats 4000000 in
theorem heedS0 {p : Nat} {a : Ad} {w : World} (hA : PA p a w) (h : Hl) (t0 : (h.n == a.node) = true) :
    Calls Try.prog 26 #[.pointer (some ⟨p, 0, none⟩), .agg #[.int .i64 h.n, .int .u64 h.mb, .int .u64 h.mt, .int .u64 h.hb, .int .u64 h.ht]] w fun e w' => (∃ x, e = .returned x) ∧ PA p a w' ∧ Chg [p] w w' := by
  obtain ⟨w1, hw1⟩ : ∃ W, W = w.alloc (.cells #[.int .i64 h.n, .int .u64 h.mb, .int .u64 h.mt, .int .u64 h.hb, .int .u64 h.ht] 35) := ⟨_, rfl⟩
  have hb : Below w.heap.size w w1 := by rw [hw1]; exact (Below.refl _ _).alloc (Nat.le_refl _) _
  have hP := hA.later hb
  have HP := Lib.hid hP
  have HC1 := Lib.hid (Chg.of_below [p] hb)
  have hH : HBk w.heap.size h w1 := by rw [hw1]; exact BlkAt.new w _
  have c0 := BlkAt.cell hP (j := 0) rfl; have c1 := BlkAt.cell hP (j := 1) rfl; have c2 := BlkAt.cell hP (j := 2) rfl; have c3 := BlkAt.cell hP (j := 3) rfl; have c4 := BlkAt.cell hP (j := 4) rfl; have c5 := BlkAt.cell hP (j := 5) rfl; have c6 := BlkAt.cell hP (j := 6) rfl; have c7 := BlkAt.cell hP (j := 7) rfl; have c8 := BlkAt.cell hP (j := 8) rfl; have c9 := BlkAt.cell hP (j := 9) rfl; have c10 := BlkAt.cell hP (j := 10) rfl
  have g0 := BlkAt.cell hH (j := 0) rfl; have g1 := BlkAt.cell hH (j := 1) rfl; have g2 := BlkAt.cell hH (j := 2) rfl; have g3 := BlkAt.cell hH (j := 3) rfl; have g4 := BlkAt.cell hH (j := 4) rfl
  have HW := Lib.hid hw1
  clear hA hb hw1 hP hH
  go_enter Try.func26, Try.ntmps26
  go_wp2_with fail
  rw [← HW.out]
  go_quiet (fail)
  go_wp2_with fail
  go_end0
  exact ⟨⟨_, rfl⟩, HP.out.dr _, HC1.out.dr _⟩
set_option maxHeartbeats 8000000 in
set_option maxRecDepth 100000 in
theorem heedS1 {p : Nat} {a : Ad} {w : World} (hA : PA p a w) (h : Hl) (t0 : (h.n == a.node) = false) (tE : (h.n == a.v.n) = true) (tD : eldI h.mb h.mt a.v.tb a.v.tt = true) :
    Calls Try.prog 26 #[.pointer (some ⟨p, 0, none⟩), .agg #[.int .i64 h.n, .int .u64 h.mb, .int .u64 h.mt, .int .u64 h.hb, .int .u64 h.ht]] w fun e w' => (∃ x, e = .returned x) ∧ PA p a w' ∧ Chg [p] w w' := by
  obtain ⟨w1, hw1⟩ : ∃ W, W = w.alloc (.cells #[.int .i64 h.n, .int .u64 h.mb, .int .u64 h.mt, .int .u64 h.hb, .int .u64 h.ht] 35) := ⟨_, rfl⟩
  have hb : Below w.heap.size w w1 := by rw [hw1]; exact (Below.refl _ _).alloc (Nat.le_refl _) _
  have HP1 := Lib.hid (hA.later hb)
  have HC1 := Lib.hid (Chg.of_below [p] hb)
  have HH1 : Hid (HBk w.heap.size h w1) := by
    have : HBk w.heap.size h w1 := by rw [hw1]; exact BlkAt.new w _
    exact this
  have HW := Lib.hid hw1
  clear hA hb hw1
  go_enter Try.func26, Try.ntmps26
  go_wp2_with fail
  rw [← HW.out]
  (refine wp_region_held_drew (S := (fun w' => Below w1.heap.size w1 w')) (by kernel_rfl) ?_ (fun hHeld => ?_); (focus ((try dsimp only); (exact (Below.refl _ _).drew))))
  (try dsimp only at hHeld)
  (refine wpAnyH_take (i := 0) (v := ?_) rfl (by kernel_rfl) (by kernel_rfl) (by kernel_rfl) (fun _ _ _ h => h) (Or.inl ⟨by rfl, ?_⟩) hHeld ?_; rotate_left; (focus (intro w hSw; (try dsimp only at hSw); go_simp; try with_reducible rfl)); (try simp only [Act.put, List.setIfInBounds_toArray, List.set_cons_zero, List.set_cons_succ, List.getElem_toArray, List.getElem_cons_zero]))
  (refine wpAnyH_take (i := 1) (v := ?_) rfl (by kernel_rfl) (by kernel_rfl) (by kernel_rfl) (fun _ _ _ h => h) (Or.inl ⟨by rfl, ?_⟩) hHeld ?_; rotate_left; (focus (intro w hSw; (try dsimp only at hSw); go_simp; (have e0 := BlkAt.cell (BlkAt.later HH1.out hSw) (j := 0) rfl; have e1 := BlkAt.cell (BlkAt.later HH1.out hSw) (j := 1) rfl; have e2 := BlkAt.cell (BlkAt.later HH1.out hSw) (j := 2) rfl; have e3 := BlkAt.cell (BlkAt.later HH1.out hSw) (j := 3) rfl; have e4 := BlkAt.cell (BlkAt.later HH1.out hSw) (j := 4) rfl; go_simp; try with_reducible rfl))); (try simp only [Act.put, List.setIfInBounds_toArray, List.set_cons_zero, List.set_cons_succ, List.getElem_toArray, List.getElem_cons_zero, List.getElem_cons_succ]))
  (refine wpAnyH_take (i := 2) (v := ?_) rfl (by kernel_rfl) (by kernel_rfl) (by kernel_rfl) (fun _ _ _ h => h) (Or.inl ⟨by rfl, ?_⟩) hHeld ?_; rotate_left; (focus (intro w hSw; (try dsimp only at hSw); go_simp; try with_reducible rfl)); (try simp only [Act.put, List.setIfInBounds_toArray, List.set_cons_zero, List.set_cons_succ, List.getElem_toArray, List.getElem_cons_zero, List.getElem_cons_succ])); (refine wpAnyH_take (i := 3) (v := ?_) rfl (by kernel_rfl) (by kernel_rfl) (by kernel_rfl) (fun _ _ _ h => h) (Or.inl ⟨by rfl, ?_⟩) hHeld ?_; rotate_left; (focus (intro w hSw; (try dsimp only at hSw); go_simp; try with_reducible rfl)); (try simp only [Act.put, List.setIfInBounds_toArray, List.set_cons_zero, List.set_cons_succ, List.getElem_toArray, List.getElem_cons_zero, List.getElem_cons_succ])); (refine wpAnyH_take (i := 4) (v := ?_) rfl (by kernel_rfl) (by kernel_rfl) (by kernel_rfl) (fun _ _ _ h => h) (Or.inl ⟨by rfl, ?_⟩) hHeld ?_; rotate_left; (focus (intro w hSw; (try dsimp only at hSw); go_simp; try with_reducible rfl)); (try simp only [Act.put, List.setIfInBounds_toArray, List.set_cons_zero, List.set_cons_succ, List.getElem_toArray, List.getElem_cons_zero, List.getElem_cons_succ]))
  (refine wpAnyH_take (i := 5) (v := ?_) rfl (by kernel_rfl) (by kernel_rfl) (by kernel_rfl) (fun _ _ _ h => h) (Or.inl ⟨by rfl, ?_⟩) hHeld ?_; rotate_left; (focus (intro w hSw; (try dsimp only at hSw); go_simp; (have e0 := BlkAt.cell (BlkAt.later HP1.out hSw) (j := 0) rfl; have e1 := BlkAt.cell (BlkAt.later HP1.out hSw) (j := 1) rfl; have e2 := BlkAt.cell (BlkAt.later HP1.out hSw) (j := 2) rfl; have e3 := BlkAt.cell (BlkAt.later HP1.out hSw) (j := 3) rfl; have e4 := BlkAt.cell (BlkAt.later HP1.out hSw) (j := 4) rfl; have e5 := BlkAt.cell (BlkAt.later HP1.out hSw) (j := 5) rfl; have e6 := BlkAt.cell (BlkAt.later HP1.out hSw) (j := 6) rfl; have e7 := BlkAt.cell (BlkAt.later HP1.out hSw) (j := 7) rfl; have e8 := BlkAt.cell (BlkAt.later HP1.out hSw) (j := 8) rfl; have e9 := BlkAt.cell (BlkAt.later HP1.out hSw) (j := 9) rfl; have e10 := BlkAt.cell (BlkAt.later HP1.out hSw) (j := 10) rfl; go_simp; try with_reducible rfl))); (try simp only [Act.put, List.setIfInBounds_toArray, List.set_cons_zero, List.set_cons_succ, List.getElem_toArray, List.getElem_cons_zero, List.getElem_cons_succ]))
  (refine wpAnyH_take (i := 6) (v := ?_) rfl (by kernel_rfl) (by kernel_rfl) (by kernel_rfl) (fun _ _ _ h => h) (Or.inl ⟨by rfl, ?_⟩) hHeld ?_; rotate_left; (focus (intro w hSw; (try dsimp only at hSw); go_simp; try with_reducible rfl)); (try simp only [Act.put, List.setIfInBounds_toArray, List.set_cons_zero, List.set_cons_succ, List.getElem_toArray, List.getElem_cons_zero, List.getElem_cons_succ])); (refine wpAnyH_take (i := 7) (v := ?_) rfl (by kernel_rfl) (by kernel_rfl) (by kernel_rfl) (fun _ _ _ h => h) (Or.inl ⟨by rfl, ?_⟩) hHeld ?_; rotate_left; (focus (intro w hSw; (try dsimp only at hSw); go_simp; try with_reducible rfl)); (try simp only [Act.put, List.setIfInBounds_toArray, List.set_cons_zero, List.set_cons_succ, List.getElem_toArray, List.getElem_cons_zero, List.getElem_cons_succ])); (refine wpAnyH_take (i := 8) (v := ?_) rfl (by kernel_rfl) (by kernel_rfl) (by kernel_rfl) (fun _ _ _ h => h) (Or.inl ⟨by rfl, ?_⟩) hHeld ?_; rotate_left; (focus (intro w hSw; (try dsimp only at hSw); go_simp; try with_reducible rfl)); (try simp only [Act.put, List.setIfInBounds_toArray, List.set_cons_zero, List.set_cons_succ, List.getElem_toArray, List.getElem_cons_zero, List.getElem_cons_succ]))
  (refine wpAnyH_take (i := 9) (v := ?_) rfl (by kernel_rfl) (by kernel_rfl) (by kernel_rfl) (fun _ _ _ h => h) (Or.inl ⟨by rfl, ?_⟩) hHeld ?_; rotate_left; (focus (intro w hSw; (try dsimp only at hSw); go_simp; (have e0 := BlkAt.cell (BlkAt.later HH1.out hSw) (j := 0) rfl; have e1 := BlkAt.cell (BlkAt.later HH1.out hSw) (j := 1) rfl; have e2 := BlkAt.cell (BlkAt.later HH1.out hSw) (j := 2) rfl; have e3 := BlkAt.cell (BlkAt.later HH1.out hSw) (j := 3) rfl; have e4 := BlkAt.cell (BlkAt.later HH1.out hSw) (j := 4) rfl; go_simp; try with_reducible rfl))); (try simp only [Act.put, List.setIfInBounds_toArray, List.set_cons_zero, List.set_cons_succ, List.getElem_toArray, List.getElem_cons_zero, List.getElem_cons_succ]))
  (refine wpAnyH_take (i := 10) (v := ?_) rfl (by kernel_rfl) (by kernel_rfl) (by kernel_rfl) (fun _ _ _ h => h) (Or.inl ⟨by rfl, ?_⟩) hHeld ?_; rotate_left; (focus (intro w hSw; (try dsimp only at hSw); go_simp; try with_reducible rfl)); (try simp only [Act.put, List.setIfInBounds_toArray, List.set_cons_zero, List.set_cons_succ, List.getElem_toArray, List.getElem_cons_zero, List.getElem_cons_succ])); (refine wpAnyH_take (i := 11) (v := ?_) rfl (by kernel_rfl) (by kernel_rfl) (by kernel_rfl) (fun _ _ _ h => h) (Or.inl ⟨by rfl, ?_⟩) hHeld ?_; rotate_left; (focus (intro w hSw; (try dsimp only at hSw); go_simp; try with_reducible rfl)); (try simp only [Act.put, List.setIfInBounds_toArray, List.set_cons_zero, List.set_cons_succ, List.getElem_toArray, List.getElem_cons_zero, List.getElem_cons_succ])); (refine wpAnyH_take (i := 12) (v := ?_) rfl (by kernel_rfl) (by kernel_rfl) (by kernel_rfl) (fun _ _ _ h => h) (Or.inl ⟨by rfl, ?_⟩) hHeld ?_; rotate_left; (focus (intro w hSw; (try dsimp only at hSw); go_simp; try with_reducible rfl)); (try simp only [Act.put, List.setIfInBounds_toArray, List.set_cons_zero, List.set_cons_succ, List.getElem_toArray, List.getElem_cons_zero, List.getElem_cons_succ]))
  (refine wpAnyH_take (i := 13) (v := ?_) rfl (by kernel_rfl) (by kernel_rfl) (by kernel_rfl) (fun _ _ _ h => h) (Or.inl ⟨by rfl, ?_⟩) hHeld ?_; rotate_left; (focus (intro w hSw; (try dsimp only at hSw); go_simp; (have e0 := BlkAt.cell (BlkAt.later HP1.out hSw) (j := 0) rfl; have e1 := BlkAt.cell (BlkAt.later HP1.out hSw) (j := 1) rfl; have e2 := BlkAt.cell (BlkAt.later HP1.out hSw) (j := 2) rfl; have e3 := BlkAt.cell (BlkAt.later HP1.out hSw) (j := 3) rfl; have e4 := BlkAt.cell (BlkAt.later HP1.out hSw) (j := 4) rfl; have e5 := BlkAt.cell (BlkAt.later HP1.out hSw) (j := 5) rfl; have e6 := BlkAt.cell (BlkAt.later HP1.out hSw) (j := 6) rfl; have e7 := BlkAt.cell (BlkAt.later HP1.out hSw) (j := 7) rfl; have e8 := BlkAt.cell (BlkAt.later HP1.out hSw) (j := 8) rfl; have e9 := BlkAt.cell (BlkAt.later HP1.out hSw) (j := 9) rfl; have e10 := BlkAt.cell (BlkAt.later HP1.out hSw) (j := 10) rfl; go_simp; try with_reducible rfl))); (try simp only [Act.put, List.setIfInBounds_toArray, List.set_cons_zero, List.set_cons_succ, List.getElem_toArray, List.getElem_cons_zero, List.getElem_cons_succ]))
  (refine wpAnyH_take (i := 14) (v := ?_) rfl (by kernel_rfl) (by kernel_rfl) (by kernel_rfl) (fun _ _ _ h => h) (Or.inl ⟨by rfl, ?_⟩) hHeld ?_; rotate_left; (focus (intro w hSw; (try dsimp only at hSw); go_simp; try with_reducible rfl)); (try simp only [Act.put, List.setIfInBounds_toArray, List.set_cons_zero, List.set_cons_succ, List.getElem_toArray, List.getElem_cons_zero, List.getElem_cons_succ])); (refine wpAnyH_take (i := 15) (v := ?_) rfl (by kernel_rfl) (by kernel_rfl) (by kernel_rfl) (fun _ _ _ h => h) (Or.inl ⟨by rfl, ?_⟩) hHeld ?_; rotate_left; (focus (intro w hSw; (try dsimp only at hSw); go_simp; try with_reducible rfl)); (try simp only [Act.put, List.setIfInBounds_toArray, List.set_cons_zero, List.set_cons_succ, List.getElem_toArray, List.getElem_cons_zero, List.getElem_cons_succ])); (refine wpAnyH_take (i := 16) (v := ?_) rfl (by kernel_rfl) (by kernel_rfl) (by kernel_rfl) (fun _ _ _ h => h) (Or.inl ⟨by rfl, ?_⟩) hHeld ?_; rotate_left; (focus (intro w hSw; (try dsimp only at hSw); go_simp; try with_reducible rfl)); (try simp only [Act.put, List.setIfInBounds_toArray, List.set_cons_zero, List.set_cons_succ, List.getElem_toArray, List.getElem_cons_zero, List.getElem_cons_succ]))
  (refine wpAnyH_take (i := 17) (v := ?_) rfl (by kernel_rfl) (by kernel_rfl) (by kernel_rfl) (fun _ _ _ h => h) (Or.inl ⟨by rfl, ?_⟩) hHeld ?_; rotate_left; (focus (intro w hSw; (try dsimp only at hSw); go_simp; (have e0 := BlkAt.cell (BlkAt.later HH1.out hSw) (j := 0) rfl; have e1 := BlkAt.cell (BlkAt.later HH1.out hSw) (j := 1) rfl; have e2 := BlkAt.cell (BlkAt.later HH1.out hSw) (j := 2) rfl; have e3 := BlkAt.cell (BlkAt.later HH1.out hSw) (j := 3) rfl; have e4 := BlkAt.cell (BlkAt.later HH1.out hSw) (j := 4) rfl; go_simp; try with_reducible rfl))); (try simp only [Act.put, List.setIfInBounds_toArray, List.set_cons_zero, List.set_cons_succ, List.getElem_toArray, List.getElem_cons_zero, List.getElem_cons_succ]))
  (refine wpAnyH_take (i := 18) (v := ?_) rfl (by kernel_rfl) (by kernel_rfl) (by kernel_rfl) (fun _ _ _ h => h) (Or.inl ⟨by rfl, ?_⟩) hHeld ?_; rotate_left; (focus (intro w hSw; (try dsimp only at hSw); go_simp; try with_reducible rfl)); (try simp only [Act.put, List.setIfInBounds_toArray, List.set_cons_zero, List.set_cons_succ, List.getElem_toArray, List.getElem_cons_zero, List.getElem_cons_succ])); (refine wpAnyH_take (i := 19) (v := ?_) rfl (by kernel_rfl) (by kernel_rfl) (by kernel_rfl) (fun _ _ _ h => h) (Or.inl ⟨by rfl, ?_⟩) hHeld ?_; rotate_left; (focus (intro w hSw; (try dsimp only at hSw); go_simp; try with_reducible rfl)); (try simp only [Act.put, List.setIfInBounds_toArray, List.set_cons_zero, List.set_cons_succ, List.getElem_toArray, List.getElem_cons_zero, List.getElem_cons_succ])); (refine wpAnyH_take (i := 20) (v := ?_) rfl (by kernel_rfl) (by kernel_rfl) (by kernel_rfl) (fun _ _ _ h => h) (Or.inl ⟨by rfl, ?_⟩) hHeld ?_; rotate_left; (focus (intro w hSw; (try dsimp only at hSw); go_simp; try with_reducible rfl)); (try simp only [Act.put, List.setIfInBounds_toArray, List.set_cons_zero, List.set_cons_succ, List.getElem_toArray, List.getElem_cons_zero, List.getElem_cons_succ]))
  (refine wpAnyH_take (i := 21) (v := ?_) rfl (by kernel_rfl) (by kernel_rfl) (by kernel_rfl) (fun _ _ _ h => h) (Or.inl ⟨by rfl, ?_⟩) hHeld ?_; rotate_left; (focus (intro w hSw; (try dsimp only at hSw); go_simp; (have e0 := BlkAt.cell (BlkAt.later HP1.out hSw) (j := 0) rfl; have e1 := BlkAt.cell (BlkAt.later HP1.out hSw) (j := 1) rfl; have e2 := BlkAt.cell (BlkAt.later HP1.out hSw) (j := 2) rfl; have e3 := BlkAt.cell (BlkAt.later HP1.out hSw) (j := 3) rfl; have e4 := BlkAt.cell (BlkAt.later HP1.out hSw) (j := 4) rfl; have e5 := BlkAt.cell (BlkAt.later HP1.out hSw) (j := 5) rfl; have e6 := BlkAt.cell (BlkAt.later HP1.out hSw) (j := 6) rfl; have e7 := BlkAt.cell (BlkAt.later HP1.out hSw) (j := 7) rfl; have e8 := BlkAt.cell (BlkAt.later HP1.out hSw) (j := 8) rfl; have e9 := BlkAt.cell (BlkAt.later HP1.out hSw) (j := 9) rfl; have e10 := BlkAt.cell (BlkAt.later HP1.out hSw) (j := 10) rfl; go_simp; try with_reducible rfl))); (try simp only [Act.put, List.setIfInBounds_toArray, List.set_cons_zero, List.set_cons_succ, List.getElem_toArray, List.getElem_cons_zero, List.getElem_cons_succ]))
  (refine wpAnyH_ready (rs := [22]) (by kernel_rfl) (by simp) ?_; refine AllReadyH.cons rfl (fun K hK => ?_) AllReadyH.nil; go_simp; refine (elderW h.mb h.mt a.v.tb a.v.tt _).mono ?_; rintro e y22 ⟨rfl, hs⟩; rw [tD]; refine hK.out _ _ ?_ (fun hHeldN => ?_); (focus ((try dsimp only); (exact hHeld.trans (hs.mono hHeld.size)))); clear hK K hHeld; have hHeld := hHeldN; clear hHeldN; (try simp only [Act.put, List.setIfInBounds_toArray, List.set_cons_zero, List.set_cons_succ, List.getElem_toArray, List.getElem_cons_zero, List.getElem_cons_succ]))
  (refine wpAnyH_take (i := 23) (v := ?_) rfl (by kernel_rfl) (by kernel_rfl) (by kernel_rfl) (fun _ _ _ h => h) (Or.inl ⟨by rfl, ?_⟩) hHeld ?_; rotate_left; (focus (intro w hSw; (try dsimp only at hSw); go_simp; try with_reducible rfl)); (try simp only [Act.put, List.setIfInBounds_toArray, List.set_cons_zero, List.set_cons_succ, List.getElem_toArray, List.getElem_cons_zero, List.getElem_cons_succ])); (refine wpAnyH_take (i := 24) (v := ?_) rfl (by kernel_rfl) (by kernel_rfl) (by kernel_rfl) (fun _ _ _ h => h) (Or.inl ⟨by rfl, ?_⟩) hHeld ?_; rotate_left; (focus (intro w hSw; (try dsimp only at hSw); go_simp; try with_reducible rfl)); (try simp only [Act.put, List.setIfInBounds_toArray, List.set_cons_zero, List.set_cons_succ, List.getElem_toArray, List.getElem_cons_zero, List.getElem_cons_succ])); (refine wpAnyH_take (i := 25) (v := ?_) rfl (by kernel_rfl) (by kernel_rfl) (by kernel_rfl) (fun _ _ _ h => h) (Or.inl ⟨by rfl, ?_⟩) hHeld ?_; rotate_left; (focus (intro w hSw; (try dsimp only at hSw); go_simp; try with_reducible rfl)); (try simp only [Act.put, List.setIfInBounds_toArray, List.set_cons_zero, List.set_cons_succ, List.getElem_toArray, List.getElem_cons_zero, List.getElem_cons_succ]))
  refine wpAnyH_done (by kernel_rfl) ?_ _
  go_wp2_with fail
  go_end0
  exact ⟨⟨_, rfl⟩, HP1.out.later hHeld, HC1.out.trans (Chg.of_below _ hHeld)⟩
theorem heedW {p : Nat} {a : Ad} {w : World} (hA : PA p a w) (hI : Inv a) (h : Hl) (hm : mayHl h = true) :
    Calls Try.prog 26 #[.pointer (some ⟨p, 0, none⟩), .agg #[.int .i64 h.n, .int .u64 h.mb, .int .u64 h.mt, .int .u64 h.hb, .int .u64 h.ht]] w fun e w' => (∃ x, e = .returned x) ∧ PA p (heedA a h) w' ∧ Chg [p] w w' := by
  obtain ⟨m1, m2, m3, m4⟩ := mayHl_iff.1 hm
  by_cases h0 : h.n = a.node
  · have e : heedA a h = a := if_pos (by unfold stay; simp [h0])
    rw [e]
    exact heedS0 hA h (beq_iff_eq.2 h0)
  have t0 : (h.n == a.node) = false := beq_eq_false_iff_ne.2 h0
  by_cases h1 : h.n = a.v.n
  · have tE : (h.n == a.v.n) = true := beq_iff_eq.2 h1
    have tF : (h.n != a.v.n) = false := by rw [bne, tE]; rfl
    have hs : a.v.st ≠ 0 := fun q => by have := (hI.down q).2.2; omega
    have hu := hI.up hs
    have tZ : sameTI a.v.tb a.v.tt 0 0 = false := sameTI_no (by omega)
    cases tD : eldI h.mb h.mt a.v.tb a.v.tt with
    | true =>
      have e : heedA a h = a := if_pos (by unfold stay; rw [tD]; simp [h1])
      rw [e]
      exact heedS1 hA h t0 tE tD
    | false =>
      have e : heedA a h = ⟨a.node, a.every, a.dead, a.said, 0, upV (nowV a.v h) h⟩ := if_neg (by unfold stay; rw [tD]; simp [h0])
      rw [e]
      cases tM : sameTI h.mb h.mt a.v.tb a.v.tt with
      | true =>
        have e2 : nowV a.v h = a.v := by unfold nowV; rw [if_neg (fun q => q.2 h1), if_pos ⟨hs, sameTI_iff.1 tM⟩]
        rw [e2]
        exact heedQ hA h t0 tE tF tD tZ tM
      | false =>
        have e2 : nowV a.v h = setV a.v h := by
          unfold nowV; rw [if_neg (fun q => q.2 h1), if_neg (fun q => by rw [sameTI_iff.2 q.2] at tM; cases tM)]
        rw [e2]
        exact heedP hA h t0 tE tF tD tZ tM
  · have tE : (h.n == a.v.n) = false := beq_eq_false_iff_ne.2 h1
    have tF : (h.n != a.v.n) = true := by rw [bne, tE]; rfl
    have e : heedA a h = ⟨a.node, a.every, a.dead, a.said, 0, upV (nowV a.v h) h⟩ := if_neg (by unfold stay; simp [h0, h1])
    rw [e]
    by_cases hs : a.v.st = 0
    · have hd := hI.down hs
      have tZ : sameTI a.v.tb a.v.tt 0 0 = true := sameTI_iff.2 ⟨hd.1, hd.2.1⟩
      have tM : sameTI h.mb h.mt a.v.tb a.v.tt = false := sameTI_no (by omega)
      have e2 : nowV a.v h = setV a.v h := by unfold nowV; rw [if_neg (fun q => q.1 hs), if_neg (fun q => q.1 hs)]
      rw [e2]
      exact heedN hA h t0 tE tZ tM
    · have hu := hI.up hs
      have tZ : sameTI a.v.tb a.v.tt 0 0 = false := sameTI_no (by omega)
      have e2 : nowV a.v h = setV (anV a.v) h := by unfold nowV; rw [if_pos ⟨hs, h1⟩]
      rw [e2]
      exact heedO hA h t0 tE tF tZ
/-- What Hear answers. -/
def HrA (p : Nat) (a : Ad) (h : Hl) (w : World) (e : Ending) (w' : World) : Prop :=
  e = .returned (.tuple #[.int .i64 (if mayHl h = true then cameI a.v (hearA a h).v else 0), .int .i64 (if mayHl h = true then 0 else 2)]) ∧ PA p (hearA a h) w' ∧ Chg [p] w w'
set_option maxHeartbeats 8000000 in
set_option maxRecDepth 100000 in
theorem hearW {p : Nat} {a : Ad} {w : World} (hA : PA p a w) (hI : Inv a) (h : Hl) :
    Calls Try.prog 13 #[.pointer (some ⟨p, 0, none⟩), .agg #[.int .i64 h.n, .int .u64 h.mb, .int .u64 h.mt, .int .u64 h.hb, .int .u64 h.ht]] w (HrA p a h w) := by
  obtain ⟨w1, hw1⟩ : ∃ W, W = w.alloc (.cells #[.int .i64 h.n, .int .u64 h.mb, .int .u64 h.mt, .int .u64 h.hb, .int .u64 h.ht] 35) := ⟨_, rfl⟩
  have hb : Below w.heap.size w w1 := by rw [hw1]; exact (Below.refl _ _).alloc (Nat.le_refl _) _
  have hP := hA.later hb
  have HN := Lib.hid (noneA hP hI.nz)
  have HP1 := Lib.hid hP
  have HC1 := Lib.hid (Chg.of_below [p] hb)
  have hH : HBk w.heap.size h w1 := by rw [hw1]; exact BlkAt.new w _
  have HH1 := Lib.hid hH
  have HL := Lib.hid hA.lt
  have c0 := BlkAt.cell hP (j := 0) rfl; have c1 := BlkAt.cell hP (j := 1) rfl; have c2 := BlkAt.cell hP (j := 2) rfl; have c3 := BlkAt.cell hP (j := 3) rfl; have c4 := BlkAt.cell hP (j := 4) rfl; have c5 := BlkAt.cell hP (j := 5) rfl; have c6 := BlkAt.cell hP (j := 6) rfl; have c7 := BlkAt.cell hP (j := 7) rfl; have c8 := BlkAt.cell hP (j := 8) rfl; have c9 := BlkAt.cell hP (j := 9) rfl; have c10 := BlkAt.cell hP (j := 10) rfl
  have g0 := BlkAt.cell hH (j := 0) rfl; have g1 := BlkAt.cell hH (j := 1) rfl; have g2 := BlkAt.cell hH (j := 2) rfl; have g3 := BlkAt.cell hH (j := 3) rfl; have g4 := BlkAt.cell hH (j := 4) rfl
  have HW := Lib.hid hw1
  have HM := fun W => helloW h W
  have HI := Lib.hid hI
  unfold HrA
  cases tm : mayHl h with
  | false =>
    rw [tm] at HM
    have HM := Lib.hid HM
    have e : hearA a h = a := if_neg (by rw [tm]; simp)
    rw [e]
    clear hA hI hb hw1 hP hH e tm
    go_enter Try.func13, Try.ntmps13
    go_wp2_with fail
    rw [← HW.out]
    refine HN.out.mono ?_
    rintro e w2 ⟨rfl, rfl⟩
    go_wp2_with fail
    refine (HM.out _).mono ?_
    rintro e w2 ⟨rfl, hs⟩
    have HP2 := Lib.hid (HP1.out.later hs)
    have HC2 := Lib.hid (HC1.out.trans (Chg.of_below _ hs))
    clear hs
    go_wp2_with fail
    go_ret2
    exact ⟨rfl, HP2.out, HC2.out⟩
  | true =>
    rw [tm] at HM
    have HM := Lib.hid HM
    have e : hearA a h = heedA a h := if_pos tm
    rw [e]
    have HTM := Lib.hid tm
    clear hA hI hb hw1 hP hH e tm c0 c1 c2 c3 c4 c5 c6 c7 c8 c9 c10
    go_enter Try.func13, Try.ntmps13
    go_wp2_with fail
    rw [← HW.out]
    refine HN.out.mono ?_
    rintro e w2 ⟨rfl, rfl⟩
    go_wp2_with fail
    refine (HM.out _).mono ?_
    rintro e w2 ⟨rfl, hs⟩
    have HP2 := Lib.hid (HP1.out.later hs)
    have HH2 := Lib.hid (BlkAt.later HH1.out hs)
    have HC2 := Lib.hid (HC1.out.trans (Chg.of_below _ hs))
    clear hs g0 g1 g2 g3 g4
    have hP := HP2.out
    have c0 := BlkAt.cell hP (j := 0) rfl; have c1 := BlkAt.cell hP (j := 1) rfl; have c2 := BlkAt.cell hP (j := 2) rfl; have c3 := BlkAt.cell hP (j := 3) rfl; have c4 := BlkAt.cell hP (j := 4) rfl; have c5 := BlkAt.cell hP (j := 5) rfl; have c6 := BlkAt.cell hP (j := 6) rfl; have c7 := BlkAt.cell hP (j := 7) rfl; have c8 := BlkAt.cell hP (j := 8) rfl; have c9 := BlkAt.cell hP (j := 9) rfl; have c10 := BlkAt.cell hP (j := 10) rfl
    obtain ⟨w3, hw3⟩ : ∃ W, W = w2.alloc (.cells #[.int .i64 a.v.st, .int .u64 a.v.mb, .int .u64 a.v.mt, .int .u64 a.v.tb, .int .u64 a.v.tt, .int .i64 a.v.n] 40) := ⟨_, rfl⟩
    have hb : Below w2.heap.size w2 w3 := by rw [hw3]; exact (Below.refl _ _).alloc (Nat.le_refl _) _
    have hB : BlkAt 40 w2.heap.size [.int .i64 a.v.st, .int .u64 a.v.mb, .int .u64 a.v.mt, .int .u64 a.v.tb, .int .u64 a.v.tt, .int .i64 a.v.n] w3 := by rw [hw3]; exact BlkAt.new w2 _
    have hH := BlkAt.later HH2.out hb
    have HL2 := Lib.hid HP2.out.lt
    rw [hw3] at hH
    have g0 := BlkAt.cell hH (j := 0) rfl; have g1 := BlkAt.cell hH (j := 1) rfl; have g2 := BlkAt.cell hH (j := 2) rfl; have g3 := BlkAt.cell hH (j := 3) rfl; have g4 := BlkAt.cell hH (j := 4) rfl
    have HHE := Lib.hid (heedW (HP2.out.later hb) HI.out h HTM.out)
    have HB := Lib.hid hB
    have HC3 := Lib.hid (HC2.out.trans (Chg.of_below _ hb))
    have HW3 := Lib.hid hw3
    clear hb hB hH hw3 hP
    go_wp2_with fail
    rw [← HW3.out]
    refine HHE.out.mono ?_
    rintro e w4 ⟨⟨_, rfl⟩, hP, hC⟩
    have HP4 := Lib.hid hP
    have HB4 := Lib.hid (hC.blk HB.out (by have := HL2.out; simp; omega))
    have HC4 := Lib.hid (HC3.out.trans hC)
    clear hP hC c0 c1 c2 c3 c4 c5 c6 c7 c8 c9 c10 g0 g1 g2 g3 g4
    go_wp2_with fail
    (refine wp_region_held_drew (S := (fun w' => Below w4.heap.size w4 w')) (by kernel_rfl) ?_ (fun hHeld => ?_); (focus ((try dsimp only); (exact (Below.refl _ _).drew))))
    (try dsimp only at hHeld)
    (refine wpAnyH_take (i := 0) (v := ?_) rfl (by kernel_rfl) (by kernel_rfl) (by kernel_rfl) (fun _ _ _ h => h) (Or.inl ⟨by rfl, ?_⟩) hHeld ?_; rotate_left; (focus (intro w hSw; (try dsimp only at hSw); go_simp; (have e0 := BlkAt.cell (BlkAt.later HB4.out hSw) (j := 0) rfl; have e1 := BlkAt.cell (BlkAt.later HB4.out hSw) (j := 1) rfl; have e2 := BlkAt.cell (BlkAt.later HB4.out hSw) (j := 2) rfl; have e3 := BlkAt.cell (BlkAt.later HB4.out hSw) (j := 3) rfl; have e4 := BlkAt.cell (BlkAt.later HB4.out hSw) (j := 4) rfl; have e5 := BlkAt.cell (BlkAt.later HB4.out hSw) (j := 5) rfl; go_simp; try with_reducible rfl))); (try simp only [Act.put, List.setIfInBounds_toArray, List.set_cons_zero, List.set_cons_succ, List.getElem_toArray, List.getElem_cons_zero]))
    (refine wpAnyH_take (i := 1) (v := ?_) rfl (by kernel_rfl) (by kernel_rfl) (by kernel_rfl) (fun _ _ _ h => h) (Or.inl ⟨by rfl, ?_⟩) hHeld ?_; rotate_left; (focus (intro w hSw; (try dsimp only at hSw); go_simp; try with_reducible rfl)); (try simp only [Act.put, List.setIfInBounds_toArray, List.set_cons_zero, List.set_cons_succ, List.getElem_toArray, List.getElem_cons_zero, List.getElem_cons_succ])); (refine wpAnyH_take (i := 2) (v := ?_) rfl (by kernel_rfl) (by kernel_rfl) (by kernel_rfl) (fun _ _ _ h => h) (Or.inl ⟨by rfl, ?_⟩) hHeld ?_; rotate_left; (focus (intro w hSw; (try dsimp only at hSw); go_simp; try with_reducible rfl)); (try simp only [Act.put, List.setIfInBounds_toArray, List.set_cons_zero, List.set_cons_succ, List.getElem_toArray, List.getElem_cons_zero, List.getElem_cons_succ])); (refine wpAnyH_take (i := 3) (v := ?_) rfl (by kernel_rfl) (by kernel_rfl) (by kernel_rfl) (fun _ _ _ h => h) (Or.inl ⟨by rfl, ?_⟩) hHeld ?_; rotate_left; (focus (intro w hSw; (try dsimp only at hSw); go_simp; try with_reducible rfl)); (try simp only [Act.put, List.setIfInBounds_toArray, List.set_cons_zero, List.set_cons_succ, List.getElem_toArray, List.getElem_cons_zero, List.getElem_cons_succ]))
    (refine wpAnyH_take (i := 4) (v := ?_) rfl (by kernel_rfl) (by kernel_rfl) (by kernel_rfl) (fun _ _ _ h => h) (Or.inl ⟨by rfl, ?_⟩) hHeld ?_; rotate_left; (focus (intro w hSw; (try dsimp only at hSw); go_simp; (have e0 := BlkAt.cell (BlkAt.later HP4.out hSw) (j := 0) rfl; have e1 := BlkAt.cell (BlkAt.later HP4.out hSw) (j := 1) rfl; have e2 := BlkAt.cell (BlkAt.later HP4.out hSw) (j := 2) rfl; have e3 := BlkAt.cell (BlkAt.later HP4.out hSw) (j := 3) rfl; have e4 := BlkAt.cell (BlkAt.later HP4.out hSw) (j := 4) rfl; have e5 := BlkAt.cell (BlkAt.later HP4.out hSw) (j := 5) rfl; have e6 := BlkAt.cell (BlkAt.later HP4.out hSw) (j := 6) rfl; have e7 := BlkAt.cell (BlkAt.later HP4.out hSw) (j := 7) rfl; have e8 := BlkAt.cell (BlkAt.later HP4.out hSw) (j := 8) rfl; have e9 := BlkAt.cell (BlkAt.later HP4.out hSw) (j := 9) rfl; have e10 := BlkAt.cell (BlkAt.later HP4.out hSw) (j := 10) rfl; go_simp; try with_reducible rfl))); (try simp only [Act.put, List.setIfInBounds_toArray, List.set_cons_zero, List.set_cons_succ, List.getElem_toArray, List.getElem_cons_zero, List.getElem_cons_succ]))
    (refine wpAnyH_ready (rs := [5]) (by kernel_rfl) (by simp) ?_; refine AllReadyH.cons rfl (fun K hK => ?_) AllReadyH.nil; go_simp; refine (cameW a.v (heedA a h).v _).mono ?_; rintro e y5 ⟨rfl, hs⟩; refine hK.out _ _ ?_ (fun hHeldN => ?_); (focus ((try dsimp only); (exact hHeld.trans (hs.mono hHeld.size)))); clear hK K hHeld; have hHeld := hHeldN; clear hHeldN; (try simp only [Act.put, List.setIfInBounds_toArray, List.set_cons_zero, List.set_cons_succ, List.getElem_toArray, List.getElem_cons_zero, List.getElem_cons_succ]))
    (refine wpAnyH_take (i := 6) (v := ?_) rfl (by kernel_rfl) (by kernel_rfl) (by kernel_rfl) (fun _ _ _ h => h) (Or.inl ⟨by rfl, ?_⟩) hHeld ?_; rotate_left; (focus (intro w hSw; (try dsimp only at hSw); go_simp; try with_reducible rfl)); (try simp only [Act.put, List.setIfInBounds_toArray, List.set_cons_zero, List.set_cons_succ, List.getElem_toArray, List.getElem_cons_zero, List.getElem_cons_succ])); (refine wpAnyH_take (i := 7) (v := ?_) rfl (by kernel_rfl) (by kernel_rfl) (by kernel_rfl) (fun _ _ _ h => h) (Or.inl ⟨by rfl, ?_⟩) hHeld ?_; rotate_left; (focus (intro w hSw; (try dsimp only at hSw); go_simp; try with_reducible rfl)); (try simp only [Act.put, List.setIfInBounds_toArray, List.set_cons_zero, List.set_cons_succ, List.getElem_toArray, List.getElem_cons_zero, List.getElem_cons_succ]))
    refine wpAnyH_done (by kernel_rfl) ?_ _
    go_wp2_with fail
    go_ret2
    exact ⟨rfl, HP4.out.later hHeld, HC4.out.trans (Chg.of_below _ hHeld)⟩
end Go.Proofs.Ytcedninipbafaaa

namespace Go.Proofs.Ytcedninipbafaaa
open Go.RowKit
attribute [local go_sem ↓] Go.wp_at_zero Go.wp_at_succ
attribute [local go_sem ↓ high] eqTI neTI eqVI neVI

/-- Is a frame of this node, with these tags, one of the session? -/
def accB (v : Vw) (n ob ot tb tt : Int) : Bool := sameVI v.st v.mb v.mt v.tb v.tt v.n 2 ob ot tb tt n
set_option maxHeartbeats 2000000 in
theorem acceptsW {p : Nat} {a : Ad} {w : World} (h : PA p a w) (hn : a.node ≠ 0) (n ob ot tb tt : Int) : Calls Try.prog 12 #[.pointer (some ⟨p, 0, none⟩), .int .i64 n, .agg #[.int .u64 ob, .int .u64 ot], .agg #[.int .u64 tb, .int .u64 tt]] w fun e w' => e = .returned (.bool (accB a.v n ob ot tb tt)) ∧ Below w.heap.size w w' := by
  obtain ⟨W1, hW1⟩ : ∃ W1, W1 = (w.alloc (.cells #[.int .u64 ob, .int .u64 ot] 25)).alloc (.cells #[.int .u64 tb, .int .u64 tt] 25) := ⟨_, rfl⟩
  have hb : Below w.heap.size w W1 := by rw [hW1]; exact ((Below.refl _ _).alloc (Nat.le_refl _) _).alloc (by simp) _
  have h1 : BlkAt 25 w.heap.size [.int .u64 ob, .int .u64 ot] W1 := by rw [hW1]; exact (BlkAt.new w _).later (ba1 _ _)
  have h2 : BlkAt 25 (w.heap.size + 1) [.int .u64 tb, .int .u64 tt] W1 := by
    rw [hW1]
    have := BlkAt.new (t := 25) (w.alloc (.cells #[.int .u64 ob, .int .u64 ot] 25)) [.int .u64 tb, .int .u64 tt]
    simpa using this
  have H1 := Lib.hid h1
  have H2 := Lib.hid h2
  have HB := Lib.hid hb
  have HV := Lib.hid (fun (W : World) (q : Below W1.heap.size W1 W) => viewW ((h.later hb).later q) hn)
  have HW := Lib.hid hW1
  clear h hn hb h1 h2 hW1
  go_enter Try.func12, Try.ntmps12
  go_wp2_with fail
  rw [← HW.out]
  (refine wp_region_held_drew (S := (fun w' => Below W1.heap.size W1 w')) (by kernel_rfl) ?_ (fun hHeld => ?_); (focus ((try dsimp only); (exact (Below.refl _ _).drew))))
  (try dsimp only at hHeld)
  (refine wpAnyH_take (i := 0) (v := ?_) rfl (by kernel_rfl) (by kernel_rfl) (by kernel_rfl) (fun _ _ _ h => h) (Or.inl ⟨by rfl, ?_⟩) hHeld ?_; rotate_left; (focus (intro w hSw; (try dsimp only at hSw); go_simp; try with_reducible rfl)); (try simp only [Act.put, List.setIfInBounds_toArray, List.set_cons_zero, List.set_cons_succ, List.getElem_toArray, List.getElem_cons_zero]))
  (refine wpAnyH_take (i := 2) (v := ?_) rfl (by kernel_rfl) (by kernel_rfl) (by kernel_rfl) (fun _ _ _ h => h) (Or.inl ⟨by rfl, ?_⟩) hHeld ?_; rotate_left; (focus (intro w hSw; (try dsimp only at hSw); go_simp; (have e0 := BlkAt.cell (BlkAt.later H1.out hSw) (j := 0) rfl; have e1 := BlkAt.cell (BlkAt.later H1.out hSw) (j := 1) rfl; go_simp; try with_reducible rfl))); (try simp only [Act.put, List.setIfInBounds_toArray, List.set_cons_zero, List.set_cons_succ, List.getElem_toArray, List.getElem_cons_zero, List.getElem_cons_succ]))
  (refine wpAnyH_take (i := 3) (v := ?_) rfl (by kernel_rfl) (by kernel_rfl) (by kernel_rfl) (fun _ _ _ h => h) (Or.inl ⟨by rfl, ?_⟩) hHeld ?_; rotate_left; (focus (intro w hSw; (try dsimp only at hSw); go_simp; (have e0 := BlkAt.cell (BlkAt.later H2.out hSw) (j := 0) rfl; have e1 := BlkAt.cell (BlkAt.later H2.out hSw) (j := 1) rfl; go_simp; try with_reducible rfl))); (try simp only [Act.put, List.setIfInBounds_toArray, List.set_cons_zero, List.set_cons_succ, List.getElem_toArray, List.getElem_cons_zero, List.getElem_cons_succ]))
  (refine wpAnyH_take (i := 4) (v := ?_) rfl (by kernel_rfl) (by kernel_rfl) (by kernel_rfl) (fun _ _ _ h => h) (Or.inl ⟨by rfl, ?_⟩) hHeld ?_; rotate_left; (focus (intro w hSw; (try dsimp only at hSw); go_simp; try with_reducible rfl)); (try simp only [Act.put, List.setIfInBounds_toArray, List.set_cons_zero, List.set_cons_succ, List.getElem_toArray, List.getElem_cons_zero, List.getElem_cons_succ])); (refine wpAnyH_take (i := 5) (v := ?_) rfl (by kernel_rfl) (by kernel_rfl) (by kernel_rfl) (fun _ _ _ h => h) (Or.inl ⟨by rfl, ?_⟩) hHeld ?_; rotate_left; (focus (intro w hSw; (try dsimp only at hSw); go_simp; try with_reducible rfl)); (try simp only [Act.put, List.setIfInBounds_toArray, List.set_cons_zero, List.set_cons_succ, List.getElem_toArray, List.getElem_cons_zero, List.getElem_cons_succ]))
  (refine wpAnyH_ready (rs := [1]) (by kernel_rfl) (by simp) ?_; refine AllReadyH.cons rfl (fun K hK => ?_) AllReadyH.nil; go_simp; refine (HV.out _ hHeld).mono ?_; rintro e y5 ⟨rfl, hs⟩; refine hK.out _ _ ?_ (fun hHeldN => ?_); (focus ((try dsimp only); (exact hHeld.trans (hs.mono hHeld.size)))); clear hK K hHeld; have hHeld := hHeldN; clear hHeldN; (try simp only [Act.put, List.setIfInBounds_toArray, List.set_cons_zero, List.set_cons_succ, List.getElem_toArray, List.getElem_cons_zero, List.getElem_cons_succ]))
  (refine wpAnyH_take (i := 6) (v := ?_) rfl (by kernel_rfl) (by kernel_rfl) (by kernel_rfl) (fun _ _ _ h => h) (Or.inl ⟨by rfl, ?_⟩) hHeld ?_; rotate_left; (focus (intro w hSw; (try dsimp only at hSw); go_simp; try with_reducible rfl)); (try simp only [Act.put, List.setIfInBounds_toArray, List.set_cons_zero, List.set_cons_succ, List.getElem_toArray, List.getElem_cons_zero, List.getElem_cons_succ])); (refine wpAnyH_take (i := 7) (v := ?_) rfl (by kernel_rfl) (by kernel_rfl) (by kernel_rfl) (fun _ _ _ h => h) (Or.inl ⟨by rfl, ?_⟩) hHeld ?_; rotate_left; (focus (intro w hSw; (try dsimp only at hSw); go_simp; try with_reducible rfl)); (try simp only [Act.put, List.setIfInBounds_toArray, List.set_cons_zero, List.set_cons_succ, List.getElem_toArray, List.getElem_cons_zero, List.getElem_cons_succ]))
  refine wpAnyH_done (by kernel_rfl) ?_ _
  go_wp2_with fail
  go_ret
  exact ⟨rfl, below_of HB.out hHeld⟩
def newA (n b : Int) : Ad := ⟨n, 3, 9, 2, 0, ⟨0, b, 1, 0, 0, 0⟩⟩
theorem newW (n b : Int) (w : World) (h1 : 1 ≤ n) (h2 : n ≤ 16) (hb : b ≠ 0) : Calls Try.prog 8 #[.int .i64 n, .int .u64 b, .int .i64 3, .int .i64 9] w fun e w' => e = .returned (.tuple #[.pointer (some ⟨w.heap.size, 0, none⟩), .int .i64 0]) ∧ PA w.heap.size (newA n b) w' ∧ Below w.heap.size w w' := by
  have HN := nodeW n w
  rw [show inI 1 n 16 = true from decide_eq_true ⟨h1, h2⟩] at HN
  have HN := Lib.hid HN
  have t : (b == 0) = false := beq_eq_false_iff_ne.2 hb
  clear h1 h2 hb
  go_enter Try.func8, Try.ntmps8
  go_wp2_with fail
  refine HN.out.mono ?_
  rintro e w1 ⟨rfl, rfl⟩
  go_wp2_with fail
  refine (ticksW 3 w (by omega) (by omega)).mono ?_
  rintro e w1 ⟨rfl, rfl⟩
  go_wp2_with fail
  refine (ticksW 9 w (by omega) (by omega)).mono ?_
  rintro e w1 ⟨rfl, rfl⟩
  go_wp2_with fail
  go_ret2
  exact ⟨rfl, BlkAt.new w _, (Below.refl _ _).alloc (Nat.le_refl _) _⟩
end Go.Proofs.Ytcedninipbafaaa

namespace Go.Proofs.Ytcedninipbafaaa
open Go.RowKit

def Row (w : World) (v : Value) (xs : List Value) : Prop :=
  (xs = [] ∧ ∃ a c, v = .slice a 0 c ∧ (a = none → c = 0)) ∨
  ∃ b o c, v = .slice (some ⟨b, o, none⟩) xs.length c ∧ b < w.heap.size ∧ xs.length ≤ c ∧ ∀ j x, xs[j]? = some x → w.cell? ⟨b, o + j, none⟩ = some x
theorem Row.later {w w' : World} {v : Value} {l : List Value} (h : Row w v l) (hb : Below w.heap.size w w') : Row w' v l := by
  rcases h with h | ⟨b, o, c, h1, h2, hp, h3⟩
  · exact .inl h
  · exact .inr ⟨b, o, c, h1, Nat.lt_of_lt_of_le h2 hb.size, hp, fun j x hx => cell_later hb (h3 j x hx)⟩
theorem Row.form {w : World} {v : Value} {l : List Value} (h : Row w v l) : ∃ a c, v = .slice a l.length c := by
  rcases h with ⟨rfl, a, c, rfl, _⟩ | ⟨b, o, c, rfl, _, _⟩
  · exact ⟨a, c, rfl⟩
  · exact ⟨_, c, rfl⟩
theorem Row.at {w : World} {a : Option Addr} {n c : Nat} {l : List Value} (h : Row w (.slice a n c) l) {i : Nat} {x : Value} (hi : l[i]? = some x) :
    ∃ b o, a = some ⟨b, o, none⟩ ∧ b < w.heap.size ∧ w.cell? ⟨b, o + i, none⟩ = some x := by
  rcases h with ⟨rfl, _⟩ | ⟨b, o, c', h1, h2, _, h3⟩
  · simp at hi
  · simp only [Value.slice.injEq] at h1
    exact ⟨b, o, h1.1, h2, h3 i _ hi⟩
theorem Row.of_own {w : World} {base : Nat} {e : TypeId} {v : Value} {n : Nat} {l : List Value} (h : w.ownsRow base e 1 v n l) : Row w v l := by
  obtain ⟨hl, h0 | ⟨g, cap, cur, rfl, hb, hg, hn, hm, hc, ht⟩⟩ := h
  · obtain ⟨rfl, rfl⟩ := h0
    simp at hl
    subst hl
    exact .inl ⟨rfl, _, _, rfl, fun _ => rfl⟩
  · have hln : l.length = n := by simpa using hl
    subst hln
    refine .inr ⟨g, 0, cap, rfl, ?_, hn, fun j x hx => ?_⟩
    · rcases Nat.lt_or_ge g w.heap.size with h1 | h1
      · exact h1
      · rw [Array.getElem?_eq_none h1] at hg; cases hg
    · rw [Nat.zero_add, cell_of_row w g j cur e (0, 0) hg]
      have hj : j < l.length := (List.getElem?_eq_some_iff.1 hx).1
      have : l[j]? = some x := hx
      rw [← ht, List.getElem?_take, if_pos (by omega)] at this
      simpa using this
theorem Row.of_bytes {w : World} {v : Value} {l : List UInt8} (h : Bytes w v l) : Row w v (bv l) := by
  rcases h with ⟨rfl, a, c, rfl, h1⟩ | ⟨b, o, c, rfl, h2, hp, h3⟩
  · exact .inl ⟨rfl, a, c, rfl, h1⟩
  · refine .inr ⟨b, o, c, by simp [bv], h2, by simpa [bv] using hp, fun j x hx => ?_⟩
    simp only [bv, List.getElem?_map, Option.map_eq_some_iff] at hx
    obtain ⟨y, hy, rfl⟩ := hx
    exact h3 j y hy
theorem ownsRow_later {w w' : World} {B : Nat} {e : TypeId} {s n : Nat} {v : Value} {xs : List Value} (h : w.ownsRow B e s v n xs) (hb : Below w.heap.size w w') : w'.ownsRow B e s v n xs := by
  obtain ⟨hl, h0 | ⟨g, cap, cur, rfl, hb1, hg, hn, hm, hc, ht⟩⟩ := h
  · exact ⟨hl, .inl h0⟩
  · refine ⟨hl, .inr ⟨g, cap, cur, rfl, hb1, ?_, hn, hm, hc, ht⟩⟩
    rw [hb.block g ?_]
    · exact hg
    · rcases Nat.lt_or_ge g w.heap.size with h1 | h1
      · exact h1
      · rw [Array.getElem?_eq_none h1] at hg; cases hg
def iv (l : List Int) : List Value := l.map fun z => .int .i64 z
theorem iv_at {zs : List Int} {k : Nat} (h : k < zs.length) : (iv zs)[k]? = some (.int .i64 zs[k]) := by simp [iv, h]
end Go.Proofs.Ytcedninipbafaaa

namespace Go.Proofs.Ytcedninipbafaaa
open Go.ChangeShapes Go.WideShapes Go.ChangeAt Go.RowKit

theorem lt_u8 {a : Int} (h : 0 ≤ a ∧ a ≤ 255) : a < 256 := by omega
theorem lt_u16 {a : Int} (h : 0 ≤ a ∧ a ≤ 65535) : a < 65536 := by omega
theorem lt_u32 {a : Int} (h : 0 ≤ a ∧ a ≤ 4294967295) : a < 4294967296 := by omega
theorem lt_u64 {a : Int} (h : 0 ≤ a ∧ a ≤ 18446744073709551615) : a < 18446744073709551616 := by omega

theorem own : ownKnob Try.prog.godebug = none := by kernel_rfl
theorem laidOut : laidOutB Try.prog = true := by kernel_rfl


theorem spot_none {W : World} {a : Addr} {v : Value} (h : W.cell? (a.add 0) = some v) : a.spot = none := by
  obtain ⟨b, o, sp⟩ := a
  cases sp with
  | none => rfl
  | some s =>
    simp [World.cell?, Addr.add] at h
    split at h <;> cases h
theorem bytes_of_ints {W : World} {A : Option Addr} {len cap : Nat} {zs : List Int} (hl : len ≤ cap) (hz : zs.length = cap) (hwz : ∀ n ∈ zs, (Lit.int .u8 n).wf = true) (h0 : A = none → cap = 0)
    (hc : ∀ a, A = some a → ∀ c, c < cap → W.cell? (a.add c) = some (.int .u8 (zs.getD c 0))) : Bytes W (.slice A len cap) ((zs.take len).map fun z => UInt8.ofNat z.toNat) := by
  have hlen : ((zs.take len).map fun z => UInt8.ofNat z.toNat).length = len := by simp; omega
  rcases Nat.eq_zero_or_pos len with hp | hp
  · subst hp
    exact .inl ⟨by simp, A, cap, rfl, h0⟩
  · cases A with
    | none => have := h0 rfl; omega
    | some x =>
      have hcell := hc x rfl
      have hc0 := hcell 0 (by omega)
      have hsp := spot_none hc0
      obtain ⟨b, o, sp⟩ := x
      simp only at hsp
      subst hsp
      refine .inr ⟨b, o, cap, by rw [hlen], ?_, by rw [hlen]; exact hl, ?_⟩
      · have := World.block_lt_of_cell? _ _ hc0
        simpa [Addr.add] using this
      · intro j y hy
        simp only [List.getElem?_map, Option.map_eq_some_iff] at hy
        obtain ⟨z, hz1, rfl⟩ := hy
        have hj : j < len := by
          have := (List.getElem?_eq_some_iff.1 hz1).1
          simp at this; omega
        have hz2 : zs[j]? = some z := by rw [List.getElem?_take, if_pos hj] at hz1; exact hz1
        have hb := bounds_u8 (hwz z (List.mem_of_getElem? hz2))
        have hcj := hcell j (by omega)
        have he : zs.getD j 0 = z := by simp [List.getD, hz2]
        rw [he] at hcj
        have hn : ((UInt8.ofNat z.toNat).toNat : Int) = z := by rw [UInt8.toNat_ofNat']; omega
        rw [hn]
        cases j with
        | zero => simpa [Addr.add] using hcj
        | succ j => simpa [Addr.add] using hcj

end Go.Proofs.Ytcedninipbafaaa

namespace Go.Proofs.Ytcedninipbafaaa
open Go.ChangeShapes Go.WideShapes Go.ChangeAt Go.RowKit Go.Joins Go.Deep

/-- The value reads as these, each of k cells. -/
def Rds {α : Type} (k : Nat) (f : α → List Value) (w : World) (v : Value) (L : List α) : Prop :=
  (L = [] ∧ ∃ a c, v = .slice a 0 c ∧ (a = none → c = 0)) ∨
  ∃ b o c, v = .slice (some ⟨b, o, none⟩) L.length c ∧ b < w.heap.size ∧ L.length ≤ c ∧ ∀ j x, L[j]? = some x → ∀ i u, (f x)[i]? = some u → w.cell? ⟨b, o + j * k + i, none⟩ = some u
section
variable {α : Type} {k : Nat} {f : α → List Value}
theorem Rds.later {w w' : World} {v : Value} {L : List α} (h : Rds k f w v L) (hb : Below w.heap.size w w') : Rds k f w' v L := by
  rcases h with h | ⟨b, o, c, h1, h2, hp, h3⟩
  · exact .inl h
  · exact .inr ⟨b, o, c, h1, Nat.lt_of_lt_of_le h2 hb.size, hp, fun j x hx i u hu => cell_later hb (h3 j x hx i u hu)⟩
theorem Rds.form {w : World} {v : Value} {L : List α} (h : Rds k f w v L) : ∃ a c, v = .slice a L.length c := by
  rcases h with ⟨rfl, a, c, rfl, _⟩ | ⟨b, o, c, rfl, _, _⟩
  · exact ⟨a, c, rfl⟩
  · exact ⟨_, c, rfl⟩
theorem Rds.at {w : World} {a : Option Addr} {n c : Nat} {L : List α} (h : Rds k f w (.slice a n c) L) {i : Nat} {x : α} (hx : L[i]? = some x) :
    ∃ b o, a = some ⟨b, o, none⟩ ∧ b < w.heap.size ∧ ∀ j u, (f x)[j]? = some u → w.cell? ⟨b, o + i * k + j, none⟩ = some u := by
  rcases h with ⟨rfl, _⟩ | ⟨b, o, c', h1, h2, _, h3⟩
  · simp at hx
  · simp only [Value.slice.injEq] at h1
    exact ⟨b, o, h1.1, h2, fun j u hu => h3 i x hx j u hu⟩
theorem open_rds [Inhabited α] {H : Type} {enc : TypeId × Value → H} {W : World} {base : Nat} {v : Value} {d : DataW H} {p : List MemPlace} {t : TypeId} (hu : Try.prog.underlying t = some (.slice (Try.prog.elem t))) (hC : Try.prog.cellsOf (Try.prog.elem t) = k) (hk : 0 < k) (Pr : α → Prop)
    (one : ∀ {n : Nat} {cs : List Value} {y : DataW H × List MemPlace}, DataW.trod enc Try.prog W 0 (fun _ => true) true n (Try.prog.elem t) cs = some y → cs.length = k → ∃ x : α, cs = f x ∧ Pr x)
    (hv : Value.okWide Try.prog W .any base t v) (h : DataW.Trod enc Try.prog W 0 (fun _ => true) true t v d p) :
    ∃ L : List α, Rds k f W v L ∧ L.length ≤ 9223372036854775807 ∧ ∀ x ∈ L, Pr x := by
  obtain ⟨a, len, cap, rfl⟩ := okWide_slice hu hv
  obtain ⟨fuel, hf⟩ := h
  rcases open_slice hu hf with ⟨hcs, _⟩ | ⟨x, l, c, m, n, D, Pl, hcs, _, hl, hm, hmm, _, hx⟩
  · simp [Value.cells] at hcs
    obtain ⟨rfl, rfl, rfl⟩ := hcs
    exact ⟨[], .inl ⟨rfl, _, _, rfl, fun _ => rfl⟩, by simp, by simp⟩
  · simp [Value.cells] at hcs
    obtain ⟨rfl, rfl, rfl⟩ := hcs
    unfold maxLen at hm
    have hm2 : m = cap := by simpa using hmm
    subst hm2
    rw [hC] at hx
    have each : ∀ i, i < m → ∃ u : α, ((f u).length = k ∧ ∀ j z, (f u)[j]? = some z → W.cell? ((x.add (i * k)).add j) = some z) ∧ Pr u := by
      intro i hi
      obtain ⟨cs', h1, h2⟩ := hx i hi
      obtain ⟨_, hlen, hcell⟩ := World.cells?_some h1
      obtain ⟨u, rfl, hu⟩ := one h2 hlen
      refine ⟨u, ⟨hlen, fun j z hz => ?_⟩, hu⟩
      have hj := (List.getElem?_eq_some_iff.1 hz).1
      exact (hcell j (by omega)).trans hz
    obtain ⟨F, hF⟩ := choose_lt each
    have hlen : ((List.range len).map F).length = len := by simp
    refine ⟨(List.range len).map F, ?_, by rw [hlen]; omega, ?_⟩
    · rcases Nat.eq_zero_or_pos len with hp | hp
      · subst hp
        exact .inl ⟨by simp, _, _, rfl, fun h => by cases h⟩
      · obtain ⟨⟨hl0, hc⟩, _⟩ := hF 0 (by omega)
        have hc0 := hc 0 _ (List.getElem?_eq_getElem (by omega))
        rw [Nat.zero_mul] at hc0
        have hsp := spot_none (a := x) (by simpa [Addr.add] using hc0)
        obtain ⟨b, o, sp⟩ := x
        simp only at hsp
        subst hsp
        refine .inr ⟨b, o, m, by rw [hlen], ?_, by rw [hlen]; exact hl, ?_⟩
        · have := World.block_lt_of_cell? _ _ hc0
          simpa [Addr.add] using this
        · intro j u hju i z hz
          simp only [List.getElem?_map, Option.map_eq_some_iff] at hju
          obtain ⟨r, hr1, rfl⟩ := hju
          have hj : j < len := by
            have := (List.getElem?_eq_some_iff.1 hr1).1
            simpa using this
          have hr : r = j := by
            rw [List.getElem?_range hj] at hr1
            exact (Option.some.inj hr1).symm
          subst hr
          have := (hF r (by omega)).1.2 i z hz
          have ad : ∀ b o k, (⟨b, o, none⟩ : Addr).add k = ⟨b, o + k, none⟩ := fun b o k => by cases k <;> simp [Addr.add]
          rw [ad, ad] at this
          exact this
    · intro u hu
      obtain ⟨r, hr, rfl⟩ := List.mem_map.1 hu
      have := List.mem_range.1 hr
      exact (hF r (by omega)).2
end
end Go.Proofs.Ytcedninipbafaaa

namespace Go.Proofs.Ytcedninipbafaaa
open Go.ChangeShapes Go.WideShapes Go.ChangeAt Go.RowKit Go.Joins Go.Deep

/-- An act. -/
structure AcA where
  k : Int
  h : Hl
instance : Inhabited AcA := ⟨⟨0, ⟨0, 0, 0, 0, 0⟩⟩⟩
def AcA.cs (x : AcA) : List Value := [.int .i64 x.k, .int .i64 x.h.n, .int .u64 x.h.mb, .int .u64 x.h.mt, .int .u64 x.h.hb, .int .u64 x.h.ht]
structure TgOk (b t : Int) : Prop where
  b0 : 0 ≤ b
  b1 : b ≤ 18446744073709551615
  t0 : 0 ≤ t
  t1 : t ≤ 18446744073709551615
structure AcA.Ok (x : AcA) : Prop where
  k0 : -9223372036854775808 ≤ x.k
  k1 : x.k ≤ 9223372036854775807
  n0 : -9223372036854775808 ≤ x.h.n
  n1 : x.h.n ≤ 9223372036854775807
  m : TgOk x.h.mb x.h.mt
  h : TgOk x.h.hb x.h.ht
section
variable {H : Type} {enc : TypeId × Value → H} {W : World} {base : Nat} {sp : Nat → Bool} {held : Bool}
theorem tagI_cells {n : Nat} {cs : List Value} {y : DataW H × List MemPlace} (h : DataW.trod enc Try.prog W base sp held n 25 cs = some y) (hl : cs.length = 2) :
    ∃ b t : Int, cs = [.int .u64 b, .int .u64 t] ∧ TgOk b t := by
  have k1 : Try.prog.cellsOf 23 = 1 := by kernel_rfl
  match cs, hl with
  | [c0, c1], _ =>
    obtain ⟨zs, m, _, hz, _, hzl, hgz⟩ := DataW.trod_struct Try.underlying25 h
    match zs, hzl with
    | [z0, z1], _ =>
      have g0 : DataW.trod enc Try.prog W base sp held m 23 [c0] = some z0 := by simpa [k1] using hgz 0 _ rfl
      have g1 : DataW.trod enc Try.prog W base sp held m 23 [c1] = some z1 := by simpa [k1] using hgz 1 _ rfl
      obtain ⟨a0, e0, _, w0⟩ := DataW.trod_int Try.underlying23 g0
      obtain ⟨a1, e1, _, w1⟩ := DataW.trod_int Try.underlying23 g1
      simp only [List.cons.injEq, and_true] at e0 e1
      subst e0 e1
      have b0 := bounds_u64 w0
      have b1 := bounds_u64 w1
      exact ⟨a0, a1, rfl, ⟨b0.1, b0.2, b1.1, b1.2⟩⟩
theorem hel_cells {n : Nat} {cs : List Value} {y : DataW H × List MemPlace} (h : DataW.trod enc Try.prog W base sp held n 35 cs = some y) (hl : cs.length = 5) :
    ∃ a : Hl, cs = [.int .i64 a.n, .int .u64 a.mb, .int .u64 a.mt, .int .u64 a.hb, .int .u64 a.ht] ∧ (-9223372036854775808 ≤ a.n ∧ a.n ≤ 9223372036854775807) ∧ TgOk a.mb a.mt ∧ TgOk a.hb a.ht := by
  have k1 : Try.prog.cellsOf 3 = 1 := by kernel_rfl
  have k2 : Try.prog.cellsOf 25 = 2 := by kernel_rfl
  match cs, hl with
  | [c0, c1, c2, c3, c4], _ =>
    obtain ⟨zs, m, _, hz, _, hzl, hgz⟩ := DataW.trod_struct Try.underlying35 h
    match zs, hzl with
    | [z0, z1, z2], _ =>
      have g0 : DataW.trod enc Try.prog W base sp held m 3 [c0] = some z0 := by simpa [k1] using hgz 0 _ rfl
      have g1 : DataW.trod enc Try.prog W base sp held m 25 [c1, c2] = some z1 := by simpa [k1, k2] using hgz 1 _ rfl
      have g2 : DataW.trod enc Try.prog W base sp held m 25 [c3, c4] = some z2 := by simpa [k1, k2] using hgz 2 _ rfl
      obtain ⟨a0, e0, _, w0⟩ := DataW.trod_int Try.underlying3 g0
      obtain ⟨b1, t1, e1, o1⟩ := tagI_cells g1 rfl
      obtain ⟨b2, t2, e2, o2⟩ := tagI_cells g2 rfl
      simp only [List.cons.injEq, and_true] at e0 e1 e2
      obtain ⟨e1, e1'⟩ := e1
      obtain ⟨e2, e2'⟩ := e2
      subst e0 e1 e1' e2 e2'
      have b0 := bounds_i64 w0
      exact ⟨⟨a0, b1, t1, b2, t2⟩, rfl, ⟨b0.1, b0.2⟩, o1, o2⟩
theorem actA_cells {n : Nat} {cs : List Value} {y : DataW H × List MemPlace} (h : DataW.trod enc Try.prog W base sp held n 37 cs = some y) (hl : cs.length = 6) :
    ∃ a : AcA, cs = a.cs ∧ a.Ok := by
  have k1 : Try.prog.cellsOf 3 = 1 := by kernel_rfl
  have k5 : Try.prog.cellsOf 35 = 5 := by kernel_rfl
  match cs, hl with
  | [c0, c1, c2, c3, c4, c5], _ =>
    obtain ⟨zs, m, _, hz, _, hzl, hgz⟩ := DataW.trod_struct Try.underlying37 h
    match zs, hzl with
    | [z0, z1], _ =>
      have g0 : DataW.trod enc Try.prog W base sp held m 3 [c0] = some z0 := by simpa [k1] using hgz 0 _ rfl
      have g1 : DataW.trod enc Try.prog W base sp held m 35 [c1, c2, c3, c4, c5] = some z1 := by simpa [k1, k5] using hgz 1 _ rfl
      obtain ⟨a0, e0, _, w0⟩ := DataW.trod_int Try.underlying3 g0
      obtain ⟨a, e1, hn, o1, o2⟩ := hel_cells g1 rfl
      simp only [List.cons.injEq, and_true] at e0 e1
      obtain ⟨e1, e2, e3, e4, e5⟩ := e1
      subst e0 e1 e2 e3 e4 e5
      have b0 := bounds_i64 w0
      exact ⟨⟨a0, a⟩, rfl, ⟨b0.1, b0.2, hn.1, hn.2, o1, o2⟩⟩
end
section
variable {H : Type} {enc : TypeId × Value → H} {W : World} {base : Nat} {v : Value} {d : DataW H} {p : List MemPlace}
set_option maxRecDepth 100000 in
theorem open_actsA (hv : Value.okWide Try.prog W .any base 22 v) (h : DataW.Trod enc Try.prog W 0 (fun _ => true) true 22 v d p) :
    ∃ L : List AcA, Rds 6 AcA.cs W v L ∧ L.length ≤ 9223372036854775807 ∧ ∀ x ∈ L, x.Ok :=
  open_rds Try.underlying22 (by kernel_rfl) (by decide) AcA.Ok (fun h hl => actA_cells h hl) hv h
set_option maxRecDepth 100000 in
theorem open_tagA (hv : Value.okWide Try.prog W .any base 25 v) (h : DataW.Trod enc Try.prog W 0 (fun _ => true) true 25 v d p) :
    ∃ b t : Int, v = .agg #[.int .u64 b, .int .u64 t] ∧ TgOk b t := by
  obtain ⟨cs, rfl, hsz⟩ := okWide_struct Try.underlying25 hv
  obtain ⟨l⟩ := cs
  have hC : Try.prog.cellsOf 25 = 2 := by kernel_rfl
  obtain ⟨fuel, hf⟩ := h
  obtain ⟨b, t, e, h1⟩ := tagI_cells (cs := l) (by simpa [Value.cells] using hf) (by simpa using hsz.trans hC)
  subst e
  exact ⟨b, t, rfl, h1⟩
end
end Go.Proofs.Ytcedninipbafaaa

namespace Go.Proofs.Ytcedninipbafaaa
open Go.RowKit

/-- What an act leaves of the program's. -/
def actA (a : Ad) (x : AcA) (s : Int) : Ad := if x.k = 1 then hearA a x.h else if x.k = 2 then tickA a s else if x.k = 3 then dropA a else a
theorem upV_eq (v : Vw) (h : Hl) : (upV v h).st = 2 ∧ sameTI h.hb h.ht v.mb v.mt = true ∨ (upV v h) = v := by
  unfold upV
  split
  · rename_i q; exact .inl ⟨rfl, q⟩
  · exact .inr rfl
theorem upV_rest (v : Vw) (h : Hl) : (upV v h).mb = v.mb ∧ (upV v h).mt = v.mt ∧ (upV v h).tb = v.tb ∧ (upV v h).tt = v.tt ∧ (upV v h).n = v.n ∧ ((upV v h).st = 2 ∨ (upV v h).st = v.st) := by
  unfold upV
  split
  · exact ⟨rfl, rfl, rfl, rfl, rfl, .inl rfl⟩
  · exact ⟨rfl, rfl, rfl, rfl, rfl, .inr rfl⟩
theorem nowV_st (v : Vw) (h : Hl) : (nowV v h).st = 1 ∨ v.st ≠ 0 ∧ (nowV v h) = v := by
  unfold nowV
  split
  · exact .inl rfl
  · split
    · rename_i q; exact .inr ⟨q.1, rfl⟩
    · exact .inl rfl
theorem nowV_n (v : Vw) (h : Hl) : ((nowV v h).n = h.n ∧ (nowV v h).tb = h.mb ∧ (nowV v h).tt = h.mt) ∨ v.st ≠ 0 ∧ (nowV v h) = v := by
  unfold nowV
  split
  · exact .inl ⟨rfl, rfl, rfl⟩
  · split
    · rename_i q; exact .inr ⟨q.1, rfl⟩
    · exact .inl ⟨rfl, rfl, rfl⟩
theorem Inv.hear {a : Ad} (hI : Inv a) (h : Hl) : Inv (hearA a h) := by
  unfold hearA
  split
  · rename_i hm
    obtain ⟨m1, m2, m3, m4⟩ := mayHl_iff.1 hm
    unfold heedA
    split
    · exact hI
    · rename_i hs
      have h0 : h.n ≠ a.node := fun e => hs (by unfold stay; simp [e])
      obtain ⟨_, _, u3, _, u5, u6⟩ := upV_rest (nowV a.v h) h
      have hst : (upV (nowV a.v h) h).st = 1 ∨ (upV (nowV a.v h) h).st = 2 := by
        rcases u6 with u6 | u6
        · exact .inr u6
        · rcases nowV_st a.v h with e | ⟨e1, e2⟩
          · rw [u6]; exact .inl e
          · rw [u6, e2]; rcases hI.st with q | q | q
            · exact absurd q e1
            · exact .inl q
            · exact .inr q
      refine ⟨hI.node, by rcases hst with q | q <;> simp [q], fun q => by rcases hst with r | r <;> (simp only at q; omega), fun _ => ?_⟩
      simp only
      rw [u3, u5]
      rcases nowV_n a.v h with ⟨e1, e2, _⟩ | ⟨e1, e2⟩
      · rw [e1, e2]; exact ⟨m3, h0, m1⟩
      · rw [e2]; exact hI.up e1
  · exact hI
theorem Inv.drop {a : Ad} (hI : Inv a) : Inv (dropA a) := ⟨hI.node, .inl rfl, fun _ => ⟨rfl, rfl, rfl⟩, fun q => absurd rfl q⟩
theorem Inv.tick {a : Ad} (hI : Inv a) (s : Int) : Inv (tickA a s) := by
  unfold tickA
  split
  · exact ⟨hI.node, .inl rfl, fun _ => ⟨rfl, rfl, rfl⟩, fun q => absurd rfl q⟩
  · exact ⟨hI.node, hI.st, hI.down, hI.up⟩
theorem Inv.act {a : Ad} (hI : Inv a) (x : AcA) (s : Int) : Inv (actA a x s) := by
  unfold actA
  split
  · exact hI.hear _
  · split
    · exact hI.tick s
    · split
      · exact hI.drop
      · exact hI
theorem inv_new (n b : Int) (hn : 1 ≤ n) : Inv (newA n b) := ⟨hn, .inl rfl, fun _ => ⟨rfl, rfl, rfl⟩, fun q => absurd rfl q⟩
end Go.Proofs.Ytcedninipbafaaa
