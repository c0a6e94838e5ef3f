/- The reference's Hear: the walks, a way each.
   The reference's Hear: the walks, a way each. -/
import Derived.Test.YtcedninipbafaaaZ04

set_option linter.unusedSimpArgs false
set_option linter.unusedVariables false
namespace Go.Proofs.Ytcedninipbafaaa
open Go.RowKit
attribute [local go_sem ↓] Go.wp_at_zero Go.wp_at_succ
attribute [local go_sem ↓ high] eqTI neTI eqVI neVI

set_option maxHeartbeats 8000000 in
set_option maxRecDepth 100000 in
theorem rhearW {q : Nat} {r : Rf} {w : World} (hA : RA q r w) (h : Hl) (t0 : (h.n == r.node) = true) :
    Calls Try.prog 21 #[.pointer (some ⟨q, 0, none⟩), .agg #[.int .i64 h.n, .int .u64 h.mb, .int .u64 h.mt, .int .u64 h.hb, .int .u64 h.ht]] w (RhS q r w) := by
  unfold RhS
  obtain ⟨w1, hw1⟩ : ∃ W, W = w.alloc (.cells #[.int .i64 h.n, .int .u64 h.mb, .int .u64 h.mt, .int .u64 h.hb, .int .u64 h.ht] 35) := ⟨_, rfl⟩
  have hb : Below w.heap.size w w1 := by rw [hw1]; exact (Below.refl _ _).alloc (Nat.le_refl _) _
  have HP1 := Lib.hid (hA.later hb)
  have HH1 : Hid (HBk w.heap.size h w1) := by
      have : HBk w.heap.size h w1 := by rw [hw1]; exact BlkAt.new w _
      exact this
  have HC1 := Lib.hid (Chg.of_below [q] hb)
  have HNE : Hid (w.heap.size ∉ [q]) := by
      have : w.heap.size ∉ [q] := by have := hA.lt; simp; omega
      exact this
  have hn1 : ¬ w.heap.size = q := by have := hA.lt; omega
  have hn2 : ¬ q = w.heap.size := by have := hA.lt; omega
  have HW := Lib.hid hw1
  clear hA hb hw1
  go_enter Try.func21, Try.ntmps21
  go_wp2_with fail
  rw [← HW.out]
  have hP := HP1.out
  have hH := HH1.out
  have c0 := BlkAt.cell hP (j := 0) rfl; have c1 := BlkAt.cell hP (j := 1) rfl; have c2 := BlkAt.cell hP (j := 2) rfl; have c3 := BlkAt.cell hP (j := 3) rfl; have c4 := BlkAt.cell hP (j := 4) rfl; have c5 := BlkAt.cell hP (j := 5) rfl; have c6 := BlkAt.cell hP (j := 6) rfl; have c7 := BlkAt.cell hP (j := 7) rfl; have c8 := BlkAt.cell hP (j := 8) rfl; have c9 := BlkAt.cell hP (j := 9) rfl; have c10 := BlkAt.cell hP (j := 10) rfl; have c11 := BlkAt.cell hP (j := 11) rfl
  have g0 := BlkAt.cell hH (j := 0) rfl; have g1 := BlkAt.cell hH (j := 1) rfl; have g2 := BlkAt.cell hH (j := 2) rfl; have g3 := BlkAt.cell hH (j := 3) rfl; have g4 := BlkAt.cell hH (j := 4) rfl
  have hfz : ∀ j, (w1).frozen? ⟨q, j, none⟩ = false := fun j => BlkAt.frozen hP j
  clear hP hH
  go_quiet (fail)
  obtain ⟨x2, hx2⟩ : ∃ W, W = World.drewN w1 nq := ⟨_, rfl⟩
  rw [← hx2]
  have HP2 : Hid (RA q r x2) := by
    have : RA q r x2 := by rw [hx2]; exact HP1.out
    exact this
  have HH2 : Hid (HBk w.heap.size h x2) := by
    have : HBk w.heap.size h x2 := by rw [hx2]; exact HH1.out
    exact this
  have HC2 : Hid (Chg [q] w x2) := by
    have : Chg [q] w x2 := by rw [hx2]; exact Chg.dr HC1.out _
    exact this
  clear hx2
  clear c0 c1 c2 c3 c4 c5 c6 c7 c8 c9 c10 c11 g0 g1 g2 g3 g4 hfz
  go_wp2_with fail
  go_ret
  exact ⟨⟨_, rfl⟩, HP2.out, HC2.out⟩

set_option maxHeartbeats 8000000 in
set_option maxRecDepth 100000 in
theorem rhearN {q : Nat} {r : Rf} {w : World} (hA : RA q r w) (h : Hl) (t0 : (h.n == r.node) = false) (tS : decide (0 < r.v.st) = false) (tT : (r.v.st == 0) = true) :
    Calls Try.prog 21 #[.pointer (some ⟨q, 0, none⟩), .agg #[.int .i64 h.n, .int .u64 h.mb, .int .u64 h.mt, .int .u64 h.hb, .int .u64 h.ht]] w (RhA q r (upV (setV r.v h) h) w) := by
  unfold RhA
  obtain ⟨V, hV⟩ : ∃ V, V = setV r.v h := ⟨_, rfl⟩
  rw [← hV]
  have HVV := Lib.hid hV
  clear hV
  obtain ⟨w1, hw1⟩ : ∃ W, W = w.alloc (.cells #[.int .i64 h.n, .int .u64 h.mb, .int .u64 h.mt, .int .u64 h.hb, .int .u64 h.ht] 35) := ⟨_, rfl⟩
  have hb : Below w.heap.size w w1 := by rw [hw1]; exact (Below.refl _ _).alloc (Nat.le_refl _) _
  have HP1 := Lib.hid (hA.later hb)
  have HH1 : Hid (HBk w.heap.size h w1) := by
      have : HBk w.heap.size h w1 := by rw [hw1]; exact BlkAt.new w _
      exact this
  have HC1 := Lib.hid (Chg.of_below [q] hb)
  have HNE : Hid (w.heap.size ∉ [q]) := by
      have : w.heap.size ∉ [q] := by have := hA.lt; simp; omega
      exact this
  have hn1 : ¬ w.heap.size = q := by have := hA.lt; omega
  have hn2 : ¬ q = w.heap.size := by have := hA.lt; omega
  have HW := Lib.hid hw1
  clear hA hb hw1
  go_enter Try.func21, Try.ntmps21
  go_wp2_with fail
  rw [← HW.out]
  have hP := HP1.out
  have hH := HH1.out
  have c0 := BlkAt.cell hP (j := 0) rfl; have c1 := BlkAt.cell hP (j := 1) rfl; have c2 := BlkAt.cell hP (j := 2) rfl; have c3 := BlkAt.cell hP (j := 3) rfl; have c4 := BlkAt.cell hP (j := 4) rfl; have c5 := BlkAt.cell hP (j := 5) rfl; have c6 := BlkAt.cell hP (j := 6) rfl; have c7 := BlkAt.cell hP (j := 7) rfl; have c8 := BlkAt.cell hP (j := 8) rfl; have c9 := BlkAt.cell hP (j := 9) rfl; have c10 := BlkAt.cell hP (j := 10) rfl; have c11 := BlkAt.cell hP (j := 11) rfl
  have g0 := BlkAt.cell hH (j := 0) rfl; have g1 := BlkAt.cell hH (j := 1) rfl; have g2 := BlkAt.cell hH (j := 2) rfl; have g3 := BlkAt.cell hH (j := 3) rfl; have g4 := BlkAt.cell hH (j := 4) rfl
  have hfz : ∀ j, (w1).frozen? ⟨q, j, none⟩ = false := fun j => BlkAt.frozen hP j
  clear hP hH
  go_quiet (fail)
  obtain ⟨x2, hx2⟩ : ∃ W, W = World.drewN w1 nq := ⟨_, rfl⟩
  rw [← hx2]
  have HP2 : Hid (RA q r x2) := by
    have : RA q r x2 := by rw [hx2]; exact HP1.out
    exact this
  have HH2 : Hid (HBk w.heap.size h x2) := by
    have : HBk w.heap.size h x2 := by rw [hx2]; exact HH1.out
    exact this
  have HC2 : Hid (Chg [q] w x2) := by
    have : Chg [q] w x2 := by rw [hx2]; exact Chg.dr HC1.out _
    exact this
  clear hx2
  clear c0 c1 c2 c3 c4 c5 c6 c7 c8 c9 c10 c11 g0 g1 g2 g3 g4 hfz
  have hP := HP2.out
  have hH := HH2.out
  have c0 := BlkAt.cell hP (j := 0) rfl; have c1 := BlkAt.cell hP (j := 1) rfl; have c2 := BlkAt.cell hP (j := 2) rfl; have c3 := BlkAt.cell hP (j := 3) rfl; have c4 := BlkAt.cell hP (j := 4) rfl; have c5 := BlkAt.cell hP (j := 5) rfl; have c6 := BlkAt.cell hP (j := 6) rfl; have c7 := BlkAt.cell hP (j := 7) rfl; have c8 := BlkAt.cell hP (j := 8) rfl; have c9 := BlkAt.cell hP (j := 9) rfl; have c10 := BlkAt.cell hP (j := 10) rfl; have c11 := BlkAt.cell hP (j := 11) rfl
  have g0 := BlkAt.cell hH (j := 0) rfl; have g1 := BlkAt.cell hH (j := 1) rfl; have g2 := BlkAt.cell hH (j := 2) rfl; have g3 := BlkAt.cell hH (j := 3) rfl; have g4 := BlkAt.cell hH (j := 4) rfl
  have hfz : ∀ j, (x2).frozen? ⟨q, j, none⟩ = false := fun j => BlkAt.frozen hP j
  clear hP hH
  go_wp2_with fail
  go_quiet (fail)
  obtain ⟨x3, hx3⟩ : ∃ W, W = World.drewN x2 nq := ⟨_, rfl⟩
  rw [← hx3]
  have HP3 : Hid (RA q r x3) := by
    have : RA q r x3 := by rw [hx3]; exact HP2.out
    exact this
  have HH3 : Hid (HBk w.heap.size h x3) := by
    have : HBk w.heap.size h x3 := by rw [hx3]; exact HH2.out
    exact this
  have HC3 : Hid (Chg [q] w x3) := by
    have : Chg [q] w x3 := by rw [hx3]; exact Chg.dr HC2.out _
    exact this
  clear hx3
  clear c0 c1 c2 c3 c4 c5 c6 c7 c8 c9 c10 c11 g0 g1 g2 g3 g4 hfz
  have hP := HP3.out
  have hH := HH3.out
  have c0 := BlkAt.cell hP (j := 0) rfl; have c1 := BlkAt.cell hP (j := 1) rfl; have c2 := BlkAt.cell hP (j := 2) rfl; have c3 := BlkAt.cell hP (j := 3) rfl; have c4 := BlkAt.cell hP (j := 4) rfl; have c5 := BlkAt.cell hP (j := 5) rfl; have c6 := BlkAt.cell hP (j := 6) rfl; have c7 := BlkAt.cell hP (j := 7) rfl; have c8 := BlkAt.cell hP (j := 8) rfl; have c9 := BlkAt.cell hP (j := 9) rfl; have c10 := BlkAt.cell hP (j := 10) rfl; have c11 := BlkAt.cell hP (j := 11) rfl
  have g0 := BlkAt.cell hH (j := 0) rfl; have g1 := BlkAt.cell hH (j := 1) rfl; have g2 := BlkAt.cell hH (j := 2) rfl; have g3 := BlkAt.cell hH (j := 3) rfl; have g4 := BlkAt.cell hH (j := 4) rfl
  have hfz : ∀ j, (x3).frozen? ⟨q, j, none⟩ = false := fun j => BlkAt.frozen hP j
  clear hP hH
  go_wp2_with fail
  go_quiet (fail)
  obtain ⟨x4, hx4⟩ : ∃ W, W = World.drewN x3 nq := ⟨_, rfl⟩
  rw [← hx4]
  have HP4 : Hid (RA q r x4) := by
    have : RA q r x4 := by rw [hx4]; exact HP3.out
    exact this
  have HH4 : Hid (HBk w.heap.size h x4) := by
    have : HBk w.heap.size h x4 := by rw [hx4]; exact HH3.out
    exact this
  have HC4 : Hid (Chg [q] w x4) := by
    have : Chg [q] w x4 := by rw [hx4]; exact Chg.dr HC3.out _
    exact this
  clear hx4
  clear c0 c1 c2 c3 c4 c5 c6 c7 c8 c9 c10 c11 g0 g1 g2 g3 g4 hfz
  have hP := HP4.out
  have hH := HH4.out
  have c0 := BlkAt.cell hP (j := 0) rfl; have c1 := BlkAt.cell hP (j := 1) rfl; have c2 := BlkAt.cell hP (j := 2) rfl; have c3 := BlkAt.cell hP (j := 3) rfl; have c4 := BlkAt.cell hP (j := 4) rfl; have c5 := BlkAt.cell hP (j := 5) rfl; have c6 := BlkAt.cell hP (j := 6) rfl; have c7 := BlkAt.cell hP (j := 7) rfl; have c8 := BlkAt.cell hP (j := 8) rfl; have c9 := BlkAt.cell hP (j := 9) rfl; have c10 := BlkAt.cell hP (j := 10) rfl; have c11 := BlkAt.cell hP (j := 11) rfl
  have g0 := BlkAt.cell hH (j := 0) rfl; have g1 := BlkAt.cell hH (j := 1) rfl; have g2 := BlkAt.cell hH (j := 2) rfl; have g3 := BlkAt.cell hH (j := 3) rfl; have g4 := BlkAt.cell hH (j := 4) rfl
  have hfz : ∀ j, (x4).frozen? ⟨q, j, none⟩ = false := fun j => BlkAt.frozen hP j
  clear hP hH
  go_wp2_with fail
  obtain ⟨z3, hz3⟩ : ∃ W, W = ((((x4.setCell ⟨q, 3, none⟩ (.int .i64 1)).setCell ⟨q, 6, none⟩ (.int .u64 h.mb)).setCell ⟨q, 7, none⟩ (.int .u64 h.mt)).setCell ⟨q, 8, none⟩ (.int .i64 h.n)).setCell ⟨q, 11, none⟩ (.int .i64 0) := ⟨_, rfl⟩
  rw [← hz3]
  have hCs : Chg [q] x4 z3 := by rw [hz3]; exact (((((Chg.refl _ _).set (by simp) 3 _).set (by simp) 6 _).set (by simp) 7 _).set (by simp) 8 _).set (by simp) 11 _
  have HP5 : Hid (RA q (midR r V 0) z3) := by
      have : RA q (midR r V 0) z3 := by rw [hz3, HVV.out]; exact HP4.out.setHd h
      exact this
  have HH5 : Hid (HBk w.heap.size h z3) := by
      have : HBk w.heap.size h z3 := hCs.blk HH4.out HNE.out
      exact this
  have HC5 : Hid (Chg [q] w z3) := by
      have : Chg [q] w z3 := HC4.out.trans hCs
      exact this
  clear hz3 hCs
  clear c0 c1 c2 c3 c4 c5 c6 c7 c8 c9 c10 c11 g0 g1 g2 g3 g4 hfz
  have hP := HP5.out
  have hH := HH5.out
  have c0 := BlkAt.cell hP (j := 0) rfl; have c1 := BlkAt.cell hP (j := 1) rfl; have c2 := BlkAt.cell hP (j := 2) rfl; have c3 := BlkAt.cell hP (j := 3) rfl; have c4 := BlkAt.cell hP (j := 4) rfl; have c5 := BlkAt.cell hP (j := 5) rfl; have c6 := BlkAt.cell hP (j := 6) rfl; have c7 := BlkAt.cell hP (j := 7) rfl; have c8 := BlkAt.cell hP (j := 8) rfl; have c9 := BlkAt.cell hP (j := 9) rfl; have c10 := BlkAt.cell hP (j := 10) rfl; have c11 := BlkAt.cell hP (j := 11) rfl
  have g0 := BlkAt.cell hH (j := 0) rfl; have g1 := BlkAt.cell hH (j := 1) rfl; have g2 := BlkAt.cell hH (j := 2) rfl; have g3 := BlkAt.cell hH (j := 3) rfl; have g4 := BlkAt.cell hH (j := 4) rfl
  have hfz : ∀ j, (z3).frozen? ⟨q, j, none⟩ = false := fun j => BlkAt.frozen hP j
  clear hP hH
  rw [show (midR r V 0).v.mb = V.mb from rfl] at c4
  rw [show (midR r V 0).v.mt = V.mt from rfl] at c5
  rw [show (midR r V 0).v.st = V.st from rfl] at c3
  have hs : V.st = 1 := by rw [HVV.out] <;> rfl
  rw [hs] at c3
  cases tU : sameTI h.hb h.ht V.mb V.mt
  · have HU : Hid (upV V h = V) := by
      have : upV V h = V := if_neg (by rw [tU]; simp)
      exact this
    go_quiet (fail)
    go_wp2_with fail
    go_ret
    exact ⟨⟨_, rfl⟩, by rw [HU.out]; exact HP5.out, HC5.out.dr _⟩
  · have HU : Hid (upV V h = ⟨2, V.mb, V.mt, V.tb, V.tt, V.n⟩) := by
      have : upV V h = ⟨2, V.mb, V.mt, V.tb, V.tt, V.n⟩ := if_pos tU
      exact this
    go_quiet (fail)
    go_wp2_with fail
    go_ret
    exact ⟨⟨_, rfl⟩, by rw [HU.out]; exact (RA.dr HP5.out _).setSt, (HC5.out.dr _).set (by simp) 3 _⟩

set_option maxHeartbeats 8000000 in
set_option maxRecDepth 100000 in
theorem rhearO {q : Nat} {r : Rf} {w : World} (hA : RA q r w) (h : Hl) (t0 : (h.n == r.node) = false) (tS : decide (0 < r.v.st) = true) (tF : (h.n != r.v.n) = true) :
    Calls Try.prog 21 #[.pointer (some ⟨q, 0, none⟩), .agg #[.int .i64 h.n, .int .u64 h.mb, .int .u64 h.mt, .int .u64 h.hb, .int .u64 h.ht]] w (RhA q r (upV (setV (anV r.v) h) h) w) := by
  unfold RhA
  obtain ⟨V, hV⟩ : ∃ V, V = setV (anV r.v) h := ⟨_, rfl⟩
  rw [← hV]
  have HVV := Lib.hid hV
  clear hV
  obtain ⟨w1, hw1⟩ : ∃ W, W = w.alloc (.cells #[.int .i64 h.n, .int .u64 h.mb, .int .u64 h.mt, .int .u64 h.hb, .int .u64 h.ht] 35) := ⟨_, rfl⟩
  have hb : Below w.heap.size w w1 := by rw [hw1]; exact (Below.refl _ _).alloc (Nat.le_refl _) _
  have HP1 := Lib.hid (hA.later hb)
  have HH1 : Hid (HBk w.heap.size h w1) := by
      have : HBk w.heap.size h w1 := by rw [hw1]; exact BlkAt.new w _
      exact this
  have HC1 := Lib.hid (Chg.of_below [q] hb)
  have HNE : Hid (w.heap.size ∉ [q]) := by
      have : w.heap.size ∉ [q] := by have := hA.lt; simp; omega
      exact this
  have hn1 : ¬ w.heap.size = q := by have := hA.lt; omega
  have hn2 : ¬ q = w.heap.size := by have := hA.lt; omega
  have HW := Lib.hid hw1
  clear hA hb hw1
  go_enter Try.func21, Try.ntmps21
  go_wp2_with fail
  rw [← HW.out]
  have hP := HP1.out
  have hH := HH1.out
  have c0 := BlkAt.cell hP (j := 0) rfl; have c1 := BlkAt.cell hP (j := 1) rfl; have c2 := BlkAt.cell hP (j := 2) rfl; have c3 := BlkAt.cell hP (j := 3) rfl; have c4 := BlkAt.cell hP (j := 4) rfl; have c5 := BlkAt.cell hP (j := 5) rfl; have c6 := BlkAt.cell hP (j := 6) rfl; have c7 := BlkAt.cell hP (j := 7) rfl; have c8 := BlkAt.cell hP (j := 8) rfl; have c9 := BlkAt.cell hP (j := 9) rfl; have c10 := BlkAt.cell hP (j := 10) rfl; have c11 := BlkAt.cell hP (j := 11) rfl
  have g0 := BlkAt.cell hH (j := 0) rfl; have g1 := BlkAt.cell hH (j := 1) rfl; have g2 := BlkAt.cell hH (j := 2) rfl; have g3 := BlkAt.cell hH (j := 3) rfl; have g4 := BlkAt.cell hH (j := 4) rfl
  have hfz : ∀ j, (w1).frozen? ⟨q, j, none⟩ = false := fun j => BlkAt.frozen hP j
  clear hP hH
  go_quiet (fail)
  obtain ⟨x2, hx2⟩ : ∃ W, W = World.drewN w1 nq := ⟨_, rfl⟩
  rw [← hx2]
  have HP2 : Hid (RA q r x2) := by
    have : RA q r x2 := by rw [hx2]; exact HP1.out
    exact this
  have HH2 : Hid (HBk w.heap.size h x2) := by
    have : HBk w.heap.size h x2 := by rw [hx2]; exact HH1.out
    exact this
  have HC2 : Hid (Chg [q] w x2) := by
    have : Chg [q] w x2 := by rw [hx2]; exact Chg.dr HC1.out _
    exact this
  clear hx2
  clear c0 c1 c2 c3 c4 c5 c6 c7 c8 c9 c10 c11 g0 g1 g2 g3 g4 hfz
  have hP := HP2.out
  have hH := HH2.out
  have c0 := BlkAt.cell hP (j := 0) rfl; have c1 := BlkAt.cell hP (j := 1) rfl; have c2 := BlkAt.cell hP (j := 2) rfl; have c3 := BlkAt.cell hP (j := 3) rfl; have c4 := BlkAt.cell hP (j := 4) rfl; have c5 := BlkAt.cell hP (j := 5) rfl; have c6 := BlkAt.cell hP (j := 6) rfl; have c7 := BlkAt.cell hP (j := 7) rfl; have c8 := BlkAt.cell hP (j := 8) rfl; have c9 := BlkAt.cell hP (j := 9) rfl; have c10 := BlkAt.cell hP (j := 10) rfl; have c11 := BlkAt.cell hP (j := 11) rfl
  have g0 := BlkAt.cell hH (j := 0) rfl; have g1 := BlkAt.cell hH (j := 1) rfl; have g2 := BlkAt.cell hH (j := 2) rfl; have g3 := BlkAt.cell hH (j := 3) rfl; have g4 := BlkAt.cell hH (j := 4) rfl
  have hfz : ∀ j, (x2).frozen? ⟨q, j, none⟩ = false := fun j => BlkAt.frozen hP j
  clear hP hH
  go_wp2_with fail
  go_quiet (fail)
  obtain ⟨x3, hx3⟩ : ∃ W, W = World.drewN x2 nq := ⟨_, rfl⟩
  rw [← hx3]
  have HP3 : Hid (RA q r x3) := by
    have : RA q r x3 := by rw [hx3]; exact HP2.out
    exact this
  have HH3 : Hid (HBk w.heap.size h x3) := by
    have : HBk w.heap.size h x3 := by rw [hx3]; exact HH2.out
    exact this
  have HC3 : Hid (Chg [q] w x3) := by
    have : Chg [q] w x3 := by rw [hx3]; exact Chg.dr HC2.out _
    exact this
  clear hx3
  clear c0 c1 c2 c3 c4 c5 c6 c7 c8 c9 c10 c11 g0 g1 g2 g3 g4 hfz
  have HA := Lib.hid (anewRW HP3.out)
  go_wp2_with fail
  refine HA.out.mono ?_
  rintro e z1 ⟨rfl, hP, hC⟩
  have HP4 : Hid (RA q (anR r) z1) := by
    have : RA q (anR r) z1 := hP
    exact this
  have HH4 : Hid (HBk w.heap.size h z1) := by
    have : HBk w.heap.size h z1 := hC.blk HH3.out HNE.out
    exact this
  have HC4 : Hid (Chg [q] w z1) := by
    have : Chg [q] w z1 := HC3.out.trans hC
    exact this
  clear hP hC HA
  have hP := HP4.out
  have hH := HH4.out
  have c0 := BlkAt.cell hP (j := 0) rfl; have c1 := BlkAt.cell hP (j := 1) rfl; have c2 := BlkAt.cell hP (j := 2) rfl; have c3 := BlkAt.cell hP (j := 3) rfl; have c4 := BlkAt.cell hP (j := 4) rfl; have c5 := BlkAt.cell hP (j := 5) rfl; have c6 := BlkAt.cell hP (j := 6) rfl; have c7 := BlkAt.cell hP (j := 7) rfl; have c8 := BlkAt.cell hP (j := 8) rfl; have c9 := BlkAt.cell hP (j := 9) rfl; have c10 := BlkAt.cell hP (j := 10) rfl; have c11 := BlkAt.cell hP (j := 11) rfl
  have g0 := BlkAt.cell hH (j := 0) rfl; have g1 := BlkAt.cell hH (j := 1) rfl; have g2 := BlkAt.cell hH (j := 2) rfl; have g3 := BlkAt.cell hH (j := 3) rfl; have g4 := BlkAt.cell hH (j := 4) rfl
  have hfz : ∀ j, (z1).frozen? ⟨q, j, none⟩ = false := fun j => BlkAt.frozen hP j
  clear hP hH
  rw [show (anR r).v.st = 0 from rfl] at c3
  cases hu : r.v.st == 2
  all_goals
    go_wp2_with fail
    obtain ⟨z3, hz3⟩ : ∃ W, W = ((((z1.setCell ⟨q, 3, none⟩ (.int .i64 1)).setCell ⟨q, 6, none⟩ (.int .u64 h.mb)).setCell ⟨q, 7, none⟩ (.int .u64 h.mt)).setCell ⟨q, 8, none⟩ (.int .i64 h.n)).setCell ⟨q, 11, none⟩ (.int .i64 0) := ⟨_, rfl⟩
    rw [← hz3]
    have hCs : Chg [q] z1 z3 := by rw [hz3]; exact (((((Chg.refl _ _).set (by simp) 3 _).set (by simp) 6 _).set (by simp) 7 _).set (by simp) 8 _).set (by simp) 11 _
    have HP5 : Hid (RA q (midR r V 0) z3) := by
        have : RA q (midR r V 0) z3 := by rw [hz3, HVV.out]; exact HP4.out.setHd h
        exact this
    have HH5 : Hid (HBk w.heap.size h z3) := by
        have : HBk w.heap.size h z3 := hCs.blk HH4.out HNE.out
        exact this
    have HC5 : Hid (Chg [q] w z3) := by
        have : Chg [q] w z3 := HC4.out.trans hCs
        exact this
    clear hz3 hCs
    clear c0 c1 c2 c3 c4 c5 c6 c7 c8 c9 c10 c11 g0 g1 g2 g3 g4 hfz
    have hP := HP5.out
    have hH := HH5.out
    have c0 := BlkAt.cell hP (j := 0) rfl; have c1 := BlkAt.cell hP (j := 1) rfl; have c2 := BlkAt.cell hP (j := 2) rfl; have c3 := BlkAt.cell hP (j := 3) rfl; have c4 := BlkAt.cell hP (j := 4) rfl; have c5 := BlkAt.cell hP (j := 5) rfl; have c6 := BlkAt.cell hP (j := 6) rfl; have c7 := BlkAt.cell hP (j := 7) rfl; have c8 := BlkAt.cell hP (j := 8) rfl; have c9 := BlkAt.cell hP (j := 9) rfl; have c10 := BlkAt.cell hP (j := 10) rfl; have c11 := BlkAt.cell hP (j := 11) rfl
    have g0 := BlkAt.cell hH (j := 0) rfl; have g1 := BlkAt.cell hH (j := 1) rfl; have g2 := BlkAt.cell hH (j := 2) rfl; have g3 := BlkAt.cell hH (j := 3) rfl; have g4 := BlkAt.cell hH (j := 4) rfl
    have hfz : ∀ j, (z3).frozen? ⟨q, j, none⟩ = false := fun j => BlkAt.frozen hP j
    clear hP hH
    rw [show (midR r V 0).v.mb = V.mb from rfl] at c4
    rw [show (midR r V 0).v.mt = V.mt from rfl] at c5
    rw [show (midR r V 0).v.st = V.st from rfl] at c3
    have hs : V.st = 1 := by rw [HVV.out] <;> rfl
    rw [hs] at c3
    cases tU : sameTI h.hb h.ht V.mb V.mt
    · have HU : Hid (upV V h = V) := by
        have : upV V h = V := if_neg (by rw [tU]; simp)
        exact this
      go_quiet (fail)
      go_wp2_with fail
      go_ret
      exact ⟨⟨_, rfl⟩, by rw [HU.out]; exact HP5.out, HC5.out.dr _⟩
    · have HU : Hid (upV V h = ⟨2, V.mb, V.mt, V.tb, V.tt, V.n⟩) := by
        have : upV V h = ⟨2, V.mb, V.mt, V.tb, V.tt, V.n⟩ := if_pos tU
        exact this
      go_quiet (fail)
      go_wp2_with fail
      go_ret
      exact ⟨⟨_, rfl⟩, by rw [HU.out]; exact (RA.dr HP5.out _).setSt, (HC5.out.dr _).set (by simp) 3 _⟩

set_option maxHeartbeats 8000000 in
set_option maxRecDepth 100000 in
theorem rhearQ {q : Nat} {r : Rf} {w : World} (hA : RA q r w) (h : Hl) (t0 : (h.n == r.node) = false) (tS : decide (0 < r.v.st) = true) (tT : (r.v.st == 0) = false) (HST : Hid (r.v.st = 1 ∨ r.v.st = 2)) (tF : (h.n != r.v.n) = false) (tM : sameTI h.mb h.mt r.v.tb r.v.tt = true) :
    Calls Try.prog 21 #[.pointer (some ⟨q, 0, none⟩), .agg #[.int .i64 h.n, .int .u64 h.mb, .int .u64 h.mt, .int .u64 h.hb, .int .u64 h.ht]] w (RhA q r (upV (r.v) h) w) := by
  unfold RhA
  obtain ⟨V, hV⟩ : ∃ V, V = r.v := ⟨_, rfl⟩
  rw [← hV]
  have HVV := Lib.hid hV
  clear hV
  obtain ⟨w1, hw1⟩ : ∃ W, W = w.alloc (.cells #[.int .i64 h.n, .int .u64 h.mb, .int .u64 h.mt, .int .u64 h.hb, .int .u64 h.ht] 35) := ⟨_, rfl⟩
  have hb : Below w.heap.size w w1 := by rw [hw1]; exact (Below.refl _ _).alloc (Nat.le_refl _) _
  have HP1 := Lib.hid (hA.later hb)
  have HH1 : Hid (HBk w.heap.size h w1) := by
      have : HBk w.heap.size h w1 := by rw [hw1]; exact BlkAt.new w _
      exact this
  have HC1 := Lib.hid (Chg.of_below [q] hb)
  have HNE : Hid (w.heap.size ∉ [q]) := by
      have : w.heap.size ∉ [q] := by have := hA.lt; simp; omega
      exact this
  have hn1 : ¬ w.heap.size = q := by have := hA.lt; omega
  have hn2 : ¬ q = w.heap.size := by have := hA.lt; omega
  have HW := Lib.hid hw1
  clear hA hb hw1
  go_enter Try.func21, Try.ntmps21
  go_wp2_with fail
  rw [← HW.out]
  have hP := HP1.out
  have hH := HH1.out
  have c0 := BlkAt.cell hP (j := 0) rfl; have c1 := BlkAt.cell hP (j := 1) rfl; have c2 := BlkAt.cell hP (j := 2) rfl; have c3 := BlkAt.cell hP (j := 3) rfl; have c4 := BlkAt.cell hP (j := 4) rfl; have c5 := BlkAt.cell hP (j := 5) rfl; have c6 := BlkAt.cell hP (j := 6) rfl; have c7 := BlkAt.cell hP (j := 7) rfl; have c8 := BlkAt.cell hP (j := 8) rfl; have c9 := BlkAt.cell hP (j := 9) rfl; have c10 := BlkAt.cell hP (j := 10) rfl; have c11 := BlkAt.cell hP (j := 11) rfl
  have g0 := BlkAt.cell hH (j := 0) rfl; have g1 := BlkAt.cell hH (j := 1) rfl; have g2 := BlkAt.cell hH (j := 2) rfl; have g3 := BlkAt.cell hH (j := 3) rfl; have g4 := BlkAt.cell hH (j := 4) rfl
  have hfz : ∀ j, (w1).frozen? ⟨q, j, none⟩ = false := fun j => BlkAt.frozen hP j
  clear hP hH
  go_quiet (fail)
  obtain ⟨x2, hx2⟩ : ∃ W, W = World.drewN w1 nq := ⟨_, rfl⟩
  rw [← hx2]
  have HP2 : Hid (RA q r x2) := by
    have : RA q r x2 := by rw [hx2]; exact HP1.out
    exact this
  have HH2 : Hid (HBk w.heap.size h x2) := by
    have : HBk w.heap.size h x2 := by rw [hx2]; exact HH1.out
    exact this
  have HC2 : Hid (Chg [q] w x2) := by
    have : Chg [q] w x2 := by rw [hx2]; exact Chg.dr HC1.out _
    exact this
  clear hx2
  clear c0 c1 c2 c3 c4 c5 c6 c7 c8 c9 c10 c11 g0 g1 g2 g3 g4 hfz
  have hP := HP2.out
  have hH := HH2.out
  have c0 := BlkAt.cell hP (j := 0) rfl; have c1 := BlkAt.cell hP (j := 1) rfl; have c2 := BlkAt.cell hP (j := 2) rfl; have c3 := BlkAt.cell hP (j := 3) rfl; have c4 := BlkAt.cell hP (j := 4) rfl; have c5 := BlkAt.cell hP (j := 5) rfl; have c6 := BlkAt.cell hP (j := 6) rfl; have c7 := BlkAt.cell hP (j := 7) rfl; have c8 := BlkAt.cell hP (j := 8) rfl; have c9 := BlkAt.cell hP (j := 9) rfl; have c10 := BlkAt.cell hP (j := 10) rfl; have c11 := BlkAt.cell hP (j := 11) rfl
  have g0 := BlkAt.cell hH (j := 0) rfl; have g1 := BlkAt.cell hH (j := 1) rfl; have g2 := BlkAt.cell hH (j := 2) rfl; have g3 := BlkAt.cell hH (j := 3) rfl; have g4 := BlkAt.cell hH (j := 4) rfl
  have hfz : ∀ j, (x2).frozen? ⟨q, j, none⟩ = false := fun j => BlkAt.frozen hP j
  clear hP hH
  go_wp2_with fail
  go_quiet (fail)
  obtain ⟨x3, hx3⟩ : ∃ W, W = World.drewN x2 nq := ⟨_, rfl⟩
  rw [← hx3]
  have HP3 : Hid (RA q r x3) := by
    have : RA q r x3 := by rw [hx3]; exact HP2.out
    exact this
  have HH3 : Hid (HBk w.heap.size h x3) := by
    have : HBk w.heap.size h x3 := by rw [hx3]; exact HH2.out
    exact this
  have HC3 : Hid (Chg [q] w x3) := by
    have : Chg [q] w x3 := by rw [hx3]; exact Chg.dr HC2.out _
    exact this
  clear hx3
  clear c0 c1 c2 c3 c4 c5 c6 c7 c8 c9 c10 c11 g0 g1 g2 g3 g4 hfz
  have hP := HP3.out
  have hH := HH3.out
  have c0 := BlkAt.cell hP (j := 0) rfl; have c1 := BlkAt.cell hP (j := 1) rfl; have c2 := BlkAt.cell hP (j := 2) rfl; have c3 := BlkAt.cell hP (j := 3) rfl; have c4 := BlkAt.cell hP (j := 4) rfl; have c5 := BlkAt.cell hP (j := 5) rfl; have c6 := BlkAt.cell hP (j := 6) rfl; have c7 := BlkAt.cell hP (j := 7) rfl; have c8 := BlkAt.cell hP (j := 8) rfl; have c9 := BlkAt.cell hP (j := 9) rfl; have c10 := BlkAt.cell hP (j := 10) rfl; have c11 := BlkAt.cell hP (j := 11) rfl
  have g0 := BlkAt.cell hH (j := 0) rfl; have g1 := BlkAt.cell hH (j := 1) rfl; have g2 := BlkAt.cell hH (j := 2) rfl; have g3 := BlkAt.cell hH (j := 3) rfl; have g4 := BlkAt.cell hH (j := 4) rfl
  have hfz : ∀ j, (x3).frozen? ⟨q, j, none⟩ = false := fun j => BlkAt.frozen hP j
  clear hP hH
  go_wp2_with fail
  go_quiet (fail)
  obtain ⟨x4, hx4⟩ : ∃ W, W = World.drewN x3 nq := ⟨_, rfl⟩
  rw [← hx4]
  have HP4 : Hid (RA q r x4) := by
    have : RA q r x4 := by rw [hx4]; exact HP3.out
    exact this
  have HH4 : Hid (HBk w.heap.size h x4) := by
    have : HBk w.heap.size h x4 := by rw [hx4]; exact HH3.out
    exact this
  have HC4 : Hid (Chg [q] w x4) := by
    have : Chg [q] w x4 := by rw [hx4]; exact Chg.dr HC3.out _
    exact this
  clear hx4
  clear c0 c1 c2 c3 c4 c5 c6 c7 c8 c9 c10 c11 g0 g1 g2 g3 g4 hfz
  have hP := HP4.out
  have hH := HH4.out
  have c0 := BlkAt.cell hP (j := 0) rfl; have c1 := BlkAt.cell hP (j := 1) rfl; have c2 := BlkAt.cell hP (j := 2) rfl; have c3 := BlkAt.cell hP (j := 3) rfl; have c4 := BlkAt.cell hP (j := 4) rfl; have c5 := BlkAt.cell hP (j := 5) rfl; have c6 := BlkAt.cell hP (j := 6) rfl; have c7 := BlkAt.cell hP (j := 7) rfl; have c8 := BlkAt.cell hP (j := 8) rfl; have c9 := BlkAt.cell hP (j := 9) rfl; have c10 := BlkAt.cell hP (j := 10) rfl; have c11 := BlkAt.cell hP (j := 11) rfl
  have g0 := BlkAt.cell hH (j := 0) rfl; have g1 := BlkAt.cell hH (j := 1) rfl; have g2 := BlkAt.cell hH (j := 2) rfl; have g3 := BlkAt.cell hH (j := 3) rfl; have g4 := BlkAt.cell hH (j := 4) rfl
  have hfz : ∀ j, (x4).frozen? ⟨q, j, none⟩ = false := fun j => BlkAt.frozen hP j
  clear hP hH
  go_wp2_with fail
  obtain ⟨z3, hz3⟩ : ∃ W, W = x4.setCell ⟨q, 11, none⟩ (.int .i64 0) := ⟨_, rfl⟩
  rw [← hz3]
  have hCs : Chg [q] x4 z3 := by rw [hz3]; exact (Chg.refl _ _).set (by simp) 11 _
  have HP5 : Hid (RA q (midR r V 0) z3) := by
      have : RA q (midR r V 0) z3 := by rw [hz3, HVV.out]; exact HP4.out.setSil
      exact this
  have HH5 : Hid (HBk w.heap.size h z3) := by
      have : HBk w.heap.size h z3 := hCs.blk HH4.out HNE.out
      exact this
  have HC5 : Hid (Chg [q] w z3) := by
      have : Chg [q] w z3 := HC4.out.trans hCs
      exact this
  clear hz3 hCs
  clear c0 c1 c2 c3 c4 c5 c6 c7 c8 c9 c10 c11 g0 g1 g2 g3 g4 hfz
  have hP := HP5.out
  have hH := HH5.out
  have c0 := BlkAt.cell hP (j := 0) rfl; have c1 := BlkAt.cell hP (j := 1) rfl; have c2 := BlkAt.cell hP (j := 2) rfl; have c3 := BlkAt.cell hP (j := 3) rfl; have c4 := BlkAt.cell hP (j := 4) rfl; have c5 := BlkAt.cell hP (j := 5) rfl; have c6 := BlkAt.cell hP (j := 6) rfl; have c7 := BlkAt.cell hP (j := 7) rfl; have c8 := BlkAt.cell hP (j := 8) rfl; have c9 := BlkAt.cell hP (j := 9) rfl; have c10 := BlkAt.cell hP (j := 10) rfl; have c11 := BlkAt.cell hP (j := 11) rfl
  have g0 := BlkAt.cell hH (j := 0) rfl; have g1 := BlkAt.cell hH (j := 1) rfl; have g2 := BlkAt.cell hH (j := 2) rfl; have g3 := BlkAt.cell hH (j := 3) rfl; have g4 := BlkAt.cell hH (j := 4) rfl
  have hfz : ∀ j, (z3).frozen? ⟨q, j, none⟩ = false := fun j => BlkAt.frozen hP j
  clear hP hH
  rw [show (midR r V 0).v.mb = V.mb from rfl] at c4
  rw [show (midR r V 0).v.mt = V.mt from rfl] at c5
  rw [show (midR r V 0).v.st = V.st from rfl] at c3
  cases tU : sameTI h.hb h.ht V.mb V.mt
  · have HU : Hid (upV V h = V) := by
      have : upV V h = V := if_neg (by rw [tU]; simp)
      exact this
    go_quiet (fail)
    go_wp2_with fail
    go_ret
    exact ⟨⟨_, rfl⟩, by rw [HU.out]; exact HP5.out, HC5.out.dr _⟩
  · have HU : Hid (upV V h = ⟨2, V.mb, V.mt, V.tb, V.tt, V.n⟩) := by
      have : upV V h = ⟨2, V.mb, V.mt, V.tb, V.tt, V.n⟩ := if_pos tU
      exact this
    cases t1 : V.st == 1
    · have HV2 : Hid (upV V h = V) := by
        have : V.st = 2 := by have := (HST.out : r.v.st = 1 ∨ r.v.st = 2); rw [← HVV.out] at this; have := beq_eq_false_iff_ne.1 t1; omega
        have : upV V h = V := by rw [HU.out, ← this]
        exact this
      go_quiet (fail)
      go_wp2_with fail
      go_ret
      exact ⟨⟨_, rfl⟩, by rw [HV2.out]; exact HP5.out, HC5.out.dr _⟩
    · go_quiet (fail)
      go_wp2_with fail
      go_ret
      exact ⟨⟨_, rfl⟩, by rw [HU.out]; exact (RA.dr HP5.out _).setSt, (HC5.out.dr _).set (by simp) 3 _⟩

end Go.Proofs.Ytcedninipbafaaa

namespace Go.Proofs.Ytcedninipbafaaa
open Go.RowKit
attribute [local go_sem ↓] Go.wp_at_zero Go.wp_at_succ
attribute [local go_sem ↓ high] eqTI neTI eqVI neVI

set_option maxHeartbeats 8000000 in
set_option maxRecDepth 100000 in
theorem rhearP1 {q : Nat} {r : Rf} {w : World} (hA : RA q r w) (h : Hl) (t0 : (h.n == r.node) = false) (tS : decide (0 < r.v.st) = true) (tF : (h.n != r.v.n) = false) (tM : sameTI h.mb h.mt r.v.tb r.v.tt = false) (tT : (r.v.st == 0) = false) (tL : decide (h.mb < r.v.tb) = false) (tB : (h.mb == r.v.tb) = false) :
    Calls Try.prog 21 #[.pointer (some ⟨q, 0, none⟩), .agg #[.int .i64 h.n, .int .u64 h.mb, .int .u64 h.mt, .int .u64 h.hb, .int .u64 h.ht]] w (RhA q r (upV ((⟨1, r.v.mb, r.v.mt, h.mb, h.mt, r.v.n⟩ : Vw)) h) w) := by
  unfold RhA
  obtain ⟨V, hV⟩ : ∃ V, V = (⟨1, r.v.mb, r.v.mt, h.mb, h.mt, r.v.n⟩ : Vw) := ⟨_, rfl⟩
  rw [← hV]
  have HVV := Lib.hid hV
  clear hV
  obtain ⟨w1, hw1⟩ : ∃ W, W = w.alloc (.cells #[.int .i64 h.n, .int .u64 h.mb, .int .u64 h.mt, .int .u64 h.hb, .int .u64 h.ht] 35) := ⟨_, rfl⟩
  have hb : Below w.heap.size w w1 := by rw [hw1]; exact (Below.refl _ _).alloc (Nat.le_refl _) _
  have HP1 := Lib.hid (hA.later hb)
  have HH1 : Hid (HBk w.heap.size h w1) := by
      have : HBk w.heap.size h w1 := by rw [hw1]; exact BlkAt.new w _
      exact this
  have HC1 := Lib.hid (Chg.of_below [q] hb)
  have HNE : Hid (w.heap.size ∉ [q]) := by
      have : w.heap.size ∉ [q] := by have := hA.lt; simp; omega
      exact this
  have hn1 : ¬ w.heap.size = q := by have := hA.lt; omega
  have hn2 : ¬ q = w.heap.size := by have := hA.lt; omega
  have HW := Lib.hid hw1
  clear hA hb hw1
  go_enter Try.func21, Try.ntmps21
  go_wp2_with fail
  rw [← HW.out]
  have hP := HP1.out
  have hH := HH1.out
  have c0 := BlkAt.cell hP (j := 0) rfl; have c1 := BlkAt.cell hP (j := 1) rfl; have c2 := BlkAt.cell hP (j := 2) rfl; have c3 := BlkAt.cell hP (j := 3) rfl; have c4 := BlkAt.cell hP (j := 4) rfl; have c5 := BlkAt.cell hP (j := 5) rfl; have c6 := BlkAt.cell hP (j := 6) rfl; have c7 := BlkAt.cell hP (j := 7) rfl; have c8 := BlkAt.cell hP (j := 8) rfl; have c9 := BlkAt.cell hP (j := 9) rfl; have c10 := BlkAt.cell hP (j := 10) rfl; have c11 := BlkAt.cell hP (j := 11) rfl
  have g0 := BlkAt.cell hH (j := 0) rfl; have g1 := BlkAt.cell hH (j := 1) rfl; have g2 := BlkAt.cell hH (j := 2) rfl; have g3 := BlkAt.cell hH (j := 3) rfl; have g4 := BlkAt.cell hH (j := 4) rfl
  have hfz : ∀ j, (w1).frozen? ⟨q, j, none⟩ = false := fun j => BlkAt.frozen hP j
  clear hP hH
  go_quiet (fail)
  obtain ⟨x2, hx2⟩ : ∃ W, W = World.drewN w1 nq := ⟨_, rfl⟩
  rw [← hx2]
  have HP2 : Hid (RA q r x2) := by
    have : RA q r x2 := by rw [hx2]; exact HP1.out
    exact this
  have HH2 : Hid (HBk w.heap.size h x2) := by
    have : HBk w.heap.size h x2 := by rw [hx2]; exact HH1.out
    exact this
  have HC2 : Hid (Chg [q] w x2) := by
    have : Chg [q] w x2 := by rw [hx2]; exact Chg.dr HC1.out _
    exact this
  clear hx2
  clear c0 c1 c2 c3 c4 c5 c6 c7 c8 c9 c10 c11 g0 g1 g2 g3 g4 hfz
  have hP := HP2.out
  have hH := HH2.out
  have c0 := BlkAt.cell hP (j := 0) rfl; have c1 := BlkAt.cell hP (j := 1) rfl; have c2 := BlkAt.cell hP (j := 2) rfl; have c3 := BlkAt.cell hP (j := 3) rfl; have c4 := BlkAt.cell hP (j := 4) rfl; have c5 := BlkAt.cell hP (j := 5) rfl; have c6 := BlkAt.cell hP (j := 6) rfl; have c7 := BlkAt.cell hP (j := 7) rfl; have c8 := BlkAt.cell hP (j := 8) rfl; have c9 := BlkAt.cell hP (j := 9) rfl; have c10 := BlkAt.cell hP (j := 10) rfl; have c11 := BlkAt.cell hP (j := 11) rfl
  have g0 := BlkAt.cell hH (j := 0) rfl; have g1 := BlkAt.cell hH (j := 1) rfl; have g2 := BlkAt.cell hH (j := 2) rfl; have g3 := BlkAt.cell hH (j := 3) rfl; have g4 := BlkAt.cell hH (j := 4) rfl
  have hfz : ∀ j, (x2).frozen? ⟨q, j, none⟩ = false := fun j => BlkAt.frozen hP j
  clear hP hH
  go_wp2_with fail
  go_quiet (fail)
  obtain ⟨x3, hx3⟩ : ∃ W, W = World.drewN x2 nq := ⟨_, rfl⟩
  rw [← hx3]
  have HP3 : Hid (RA q r x3) := by
    have : RA q r x3 := by rw [hx3]; exact HP2.out
    exact this
  have HH3 : Hid (HBk w.heap.size h x3) := by
    have : HBk w.heap.size h x3 := by rw [hx3]; exact HH2.out
    exact this
  have HC3 : Hid (Chg [q] w x3) := by
    have : Chg [q] w x3 := by rw [hx3]; exact Chg.dr HC2.out _
    exact this
  clear hx3
  clear c0 c1 c2 c3 c4 c5 c6 c7 c8 c9 c10 c11 g0 g1 g2 g3 g4 hfz
  have hP := HP3.out
  have hH := HH3.out
  have c0 := BlkAt.cell hP (j := 0) rfl; have c1 := BlkAt.cell hP (j := 1) rfl; have c2 := BlkAt.cell hP (j := 2) rfl; have c3 := BlkAt.cell hP (j := 3) rfl; have c4 := BlkAt.cell hP (j := 4) rfl; have c5 := BlkAt.cell hP (j := 5) rfl; have c6 := BlkAt.cell hP (j := 6) rfl; have c7 := BlkAt.cell hP (j := 7) rfl; have c8 := BlkAt.cell hP (j := 8) rfl; have c9 := BlkAt.cell hP (j := 9) rfl; have c10 := BlkAt.cell hP (j := 10) rfl; have c11 := BlkAt.cell hP (j := 11) rfl
  have g0 := BlkAt.cell hH (j := 0) rfl; have g1 := BlkAt.cell hH (j := 1) rfl; have g2 := BlkAt.cell hH (j := 2) rfl; have g3 := BlkAt.cell hH (j := 3) rfl; have g4 := BlkAt.cell hH (j := 4) rfl
  have hfz : ∀ j, (x3).frozen? ⟨q, j, none⟩ = false := fun j => BlkAt.frozen hP j
  clear hP hH
  go_wp2_with fail
  go_quiet (fail)
  obtain ⟨x4, hx4⟩ : ∃ W, W = World.drewN x3 nq := ⟨_, rfl⟩
  rw [← hx4]
  have HP4 : Hid (RA q r x4) := by
    have : RA q r x4 := by rw [hx4]; exact HP3.out
    exact this
  have HH4 : Hid (HBk w.heap.size h x4) := by
    have : HBk w.heap.size h x4 := by rw [hx4]; exact HH3.out
    exact this
  have HC4 : Hid (Chg [q] w x4) := by
    have : Chg [q] w x4 := by rw [hx4]; exact Chg.dr HC3.out _
    exact this
  clear hx4
  clear c0 c1 c2 c3 c4 c5 c6 c7 c8 c9 c10 c11 g0 g1 g2 g3 g4 hfz
  have hP := HP4.out
  have hH := HH4.out
  have c0 := BlkAt.cell hP (j := 0) rfl; have c1 := BlkAt.cell hP (j := 1) rfl; have c2 := BlkAt.cell hP (j := 2) rfl; have c3 := BlkAt.cell hP (j := 3) rfl; have c4 := BlkAt.cell hP (j := 4) rfl; have c5 := BlkAt.cell hP (j := 5) rfl; have c6 := BlkAt.cell hP (j := 6) rfl; have c7 := BlkAt.cell hP (j := 7) rfl; have c8 := BlkAt.cell hP (j := 8) rfl; have c9 := BlkAt.cell hP (j := 9) rfl; have c10 := BlkAt.cell hP (j := 10) rfl; have c11 := BlkAt.cell hP (j := 11) rfl
  have g0 := BlkAt.cell hH (j := 0) rfl; have g1 := BlkAt.cell hH (j := 1) rfl; have g2 := BlkAt.cell hH (j := 2) rfl; have g3 := BlkAt.cell hH (j := 3) rfl; have g4 := BlkAt.cell hH (j := 4) rfl
  have hfz : ∀ j, (x4).frozen? ⟨q, j, none⟩ = false := fun j => BlkAt.frozen hP j
  clear hP hH
  go_wp2_with fail
  go_quiet (fail)
  obtain ⟨x5, hx5⟩ : ∃ W, W = World.drewN x4 nq := ⟨_, rfl⟩
  rw [← hx5]
  have HP5 : Hid (RA q r x5) := by
    have : RA q r x5 := by rw [hx5]; exact HP4.out
    exact this
  have HH5 : Hid (HBk w.heap.size h x5) := by
    have : HBk w.heap.size h x5 := by rw [hx5]; exact HH4.out
    exact this
  have HC5 : Hid (Chg [q] w x5) := by
    have : Chg [q] w x5 := by rw [hx5]; exact Chg.dr HC4.out _
    exact this
  clear hx5
  clear c0 c1 c2 c3 c4 c5 c6 c7 c8 c9 c10 c11 g0 g1 g2 g3 g4 hfz
  have hP := HP5.out
  have hH := HH5.out
  have c0 := BlkAt.cell hP (j := 0) rfl; have c1 := BlkAt.cell hP (j := 1) rfl; have c2 := BlkAt.cell hP (j := 2) rfl; have c3 := BlkAt.cell hP (j := 3) rfl; have c4 := BlkAt.cell hP (j := 4) rfl; have c5 := BlkAt.cell hP (j := 5) rfl; have c6 := BlkAt.cell hP (j := 6) rfl; have c7 := BlkAt.cell hP (j := 7) rfl; have c8 := BlkAt.cell hP (j := 8) rfl; have c9 := BlkAt.cell hP (j := 9) rfl; have c10 := BlkAt.cell hP (j := 10) rfl; have c11 := BlkAt.cell hP (j := 11) rfl
  have g0 := BlkAt.cell hH (j := 0) rfl; have g1 := BlkAt.cell hH (j := 1) rfl; have g2 := BlkAt.cell hH (j := 2) rfl; have g3 := BlkAt.cell hH (j := 3) rfl; have g4 := BlkAt.cell hH (j := 4) rfl
  have hfz : ∀ j, (x5).frozen? ⟨q, j, none⟩ = false := fun j => BlkAt.frozen hP j
  clear hP hH
  cases hu : r.v.st == 2
  all_goals
    go_wp2_with fail
    obtain ⟨z3, hz3⟩ : ∃ W, W = (((x5.setCell ⟨q, 3, none⟩ (.int .i64 1)).setCell ⟨q, 6, none⟩ (.int .u64 h.mb)).setCell ⟨q, 7, none⟩ (.int .u64 h.mt)).setCell ⟨q, 11, none⟩ (.int .i64 0) := ⟨_, rfl⟩
    rw [← hz3]
    have hCs : Chg [q] x5 z3 := by rw [hz3]; exact ((((Chg.refl _ _).set (by simp) 3 _).set (by simp) 6 _).set (by simp) 7 _).set (by simp) 11 _
    have HP6 : Hid (RA q (midR r V 0) z3) := by
        have : RA q (midR r V 0) z3 := by rw [hz3, HVV.out]; exact HP5.out.setTg h
        exact this
    have HH6 : Hid (HBk w.heap.size h z3) := by
        have : HBk w.heap.size h z3 := hCs.blk HH5.out HNE.out
        exact this
    have HC6 : Hid (Chg [q] w z3) := by
        have : Chg [q] w z3 := HC5.out.trans hCs
        exact this
    clear hz3 hCs
    clear c0 c1 c2 c3 c4 c5 c6 c7 c8 c9 c10 c11 g0 g1 g2 g3 g4 hfz
    have hP := HP6.out
    have hH := HH6.out
    have c0 := BlkAt.cell hP (j := 0) rfl; have c1 := BlkAt.cell hP (j := 1) rfl; have c2 := BlkAt.cell hP (j := 2) rfl; have c3 := BlkAt.cell hP (j := 3) rfl; have c4 := BlkAt.cell hP (j := 4) rfl; have c5 := BlkAt.cell hP (j := 5) rfl; have c6 := BlkAt.cell hP (j := 6) rfl; have c7 := BlkAt.cell hP (j := 7) rfl; have c8 := BlkAt.cell hP (j := 8) rfl; have c9 := BlkAt.cell hP (j := 9) rfl; have c10 := BlkAt.cell hP (j := 10) rfl; have c11 := BlkAt.cell hP (j := 11) rfl
    have g0 := BlkAt.cell hH (j := 0) rfl; have g1 := BlkAt.cell hH (j := 1) rfl; have g2 := BlkAt.cell hH (j := 2) rfl; have g3 := BlkAt.cell hH (j := 3) rfl; have g4 := BlkAt.cell hH (j := 4) rfl
    have hfz : ∀ j, (z3).frozen? ⟨q, j, none⟩ = false := fun j => BlkAt.frozen hP j
    clear hP hH
    rw [show (midR r V 0).v.mb = V.mb from rfl] at c4
    rw [show (midR r V 0).v.mt = V.mt from rfl] at c5
    rw [show (midR r V 0).v.st = V.st from rfl] at c3
    have hs : V.st = 1 := by rw [HVV.out] <;> rfl
    rw [hs] at c3
    cases tU : sameTI h.hb h.ht V.mb V.mt
    · have HU : Hid (upV V h = V) := by
        have : upV V h = V := if_neg (by rw [tU]; simp)
        exact this
      go_quiet (fail)
      go_wp2_with fail
      go_ret
      exact ⟨⟨_, rfl⟩, by rw [HU.out]; exact HP6.out, HC6.out.dr _⟩
    · have HU : Hid (upV V h = ⟨2, V.mb, V.mt, V.tb, V.tt, V.n⟩) := by
        have : upV V h = ⟨2, V.mb, V.mt, V.tb, V.tt, V.n⟩ := if_pos tU
        exact this
      go_quiet (fail)
      go_wp2_with fail
      go_ret
      exact ⟨⟨_, rfl⟩, by rw [HU.out]; exact (RA.dr HP6.out _).setSt, (HC6.out.dr _).set (by simp) 3 _⟩

set_option maxHeartbeats 8000000 in
set_option maxRecDepth 100000 in
theorem rhearS1 {q : Nat} {r : Rf} {w : World} (hA : RA q r w) (h : Hl) (t0 : (h.n == r.node) = false) (tS : decide (0 < r.v.st) = true) (tF : (h.n != r.v.n) = false) (tM : sameTI h.mb h.mt r.v.tb r.v.tt = false) (tL : decide (h.mb < r.v.tb) = true) :
    Calls Try.prog 21 #[.pointer (some ⟨q, 0, none⟩), .agg #[.int .i64 h.n, .int .u64 h.mb, .int .u64 h.mt, .int .u64 h.hb, .int .u64 h.ht]] w (RhS q r w) := by
  unfold RhS
  obtain ⟨w1, hw1⟩ : ∃ W, W = w.alloc (.cells #[.int .i64 h.n, .int .u64 h.mb, .int .u64 h.mt, .int .u64 h.hb, .int .u64 h.ht] 35) := ⟨_, rfl⟩
  have hb : Below w.heap.size w w1 := by rw [hw1]; exact (Below.refl _ _).alloc (Nat.le_refl _) _
  have HP1 := Lib.hid (hA.later hb)
  have HH1 : Hid (HBk w.heap.size h w1) := by
      have : HBk w.heap.size h w1 := by rw [hw1]; exact BlkAt.new w _
      exact this
  have HC1 := Lib.hid (Chg.of_below [q] hb)
  have HNE : Hid (w.heap.size ∉ [q]) := by
      have : w.heap.size ∉ [q] := by have := hA.lt; simp; omega
      exact this
  have hn1 : ¬ w.heap.size = q := by have := hA.lt; omega
  have hn2 : ¬ q = w.heap.size := by have := hA.lt; omega
  have HW := Lib.hid hw1
  clear hA hb hw1
  go_enter Try.func21, Try.ntmps21
  go_wp2_with fail
  rw [← HW.out]
  have hP := HP1.out
  have hH := HH1.out
  have c0 := BlkAt.cell hP (j := 0) rfl; have c1 := BlkAt.cell hP (j := 1) rfl; have c2 := BlkAt.cell hP (j := 2) rfl; have c3 := BlkAt.cell hP (j := 3) rfl; have c4 := BlkAt.cell hP (j := 4) rfl; have c5 := BlkAt.cell hP (j := 5) rfl; have c6 := BlkAt.cell hP (j := 6) rfl; have c7 := BlkAt.cell hP (j := 7) rfl; have c8 := BlkAt.cell hP (j := 8) rfl; have c9 := BlkAt.cell hP (j := 9) rfl; have c10 := BlkAt.cell hP (j := 10) rfl; have c11 := BlkAt.cell hP (j := 11) rfl
  have g0 := BlkAt.cell hH (j := 0) rfl; have g1 := BlkAt.cell hH (j := 1) rfl; have g2 := BlkAt.cell hH (j := 2) rfl; have g3 := BlkAt.cell hH (j := 3) rfl; have g4 := BlkAt.cell hH (j := 4) rfl
  have hfz : ∀ j, (w1).frozen? ⟨q, j, none⟩ = false := fun j => BlkAt.frozen hP j
  clear hP hH
  go_quiet (fail)
  obtain ⟨x2, hx2⟩ : ∃ W, W = World.drewN w1 nq := ⟨_, rfl⟩
  rw [← hx2]
  have HP2 : Hid (RA q r x2) := by
    have : RA q r x2 := by rw [hx2]; exact HP1.out
    exact this
  have HH2 : Hid (HBk w.heap.size h x2) := by
    have : HBk w.heap.size h x2 := by rw [hx2]; exact HH1.out
    exact this
  have HC2 : Hid (Chg [q] w x2) := by
    have : Chg [q] w x2 := by rw [hx2]; exact Chg.dr HC1.out _
    exact this
  clear hx2
  clear c0 c1 c2 c3 c4 c5 c6 c7 c8 c9 c10 c11 g0 g1 g2 g3 g4 hfz
  have hP := HP2.out
  have hH := HH2.out
  have c0 := BlkAt.cell hP (j := 0) rfl; have c1 := BlkAt.cell hP (j := 1) rfl; have c2 := BlkAt.cell hP (j := 2) rfl; have c3 := BlkAt.cell hP (j := 3) rfl; have c4 := BlkAt.cell hP (j := 4) rfl; have c5 := BlkAt.cell hP (j := 5) rfl; have c6 := BlkAt.cell hP (j := 6) rfl; have c7 := BlkAt.cell hP (j := 7) rfl; have c8 := BlkAt.cell hP (j := 8) rfl; have c9 := BlkAt.cell hP (j := 9) rfl; have c10 := BlkAt.cell hP (j := 10) rfl; have c11 := BlkAt.cell hP (j := 11) rfl
  have g0 := BlkAt.cell hH (j := 0) rfl; have g1 := BlkAt.cell hH (j := 1) rfl; have g2 := BlkAt.cell hH (j := 2) rfl; have g3 := BlkAt.cell hH (j := 3) rfl; have g4 := BlkAt.cell hH (j := 4) rfl
  have hfz : ∀ j, (x2).frozen? ⟨q, j, none⟩ = false := fun j => BlkAt.frozen hP j
  clear hP hH
  go_wp2_with fail
  go_quiet (fail)
  obtain ⟨x3, hx3⟩ : ∃ W, W = World.drewN x2 nq := ⟨_, rfl⟩
  rw [← hx3]
  have HP3 : Hid (RA q r x3) := by
    have : RA q r x3 := by rw [hx3]; exact HP2.out
    exact this
  have HH3 : Hid (HBk w.heap.size h x3) := by
    have : HBk w.heap.size h x3 := by rw [hx3]; exact HH2.out
    exact this
  have HC3 : Hid (Chg [q] w x3) := by
    have : Chg [q] w x3 := by rw [hx3]; exact Chg.dr HC2.out _
    exact this
  clear hx3
  clear c0 c1 c2 c3 c4 c5 c6 c7 c8 c9 c10 c11 g0 g1 g2 g3 g4 hfz
  have hP := HP3.out
  have hH := HH3.out
  have c0 := BlkAt.cell hP (j := 0) rfl; have c1 := BlkAt.cell hP (j := 1) rfl; have c2 := BlkAt.cell hP (j := 2) rfl; have c3 := BlkAt.cell hP (j := 3) rfl; have c4 := BlkAt.cell hP (j := 4) rfl; have c5 := BlkAt.cell hP (j := 5) rfl; have c6 := BlkAt.cell hP (j := 6) rfl; have c7 := BlkAt.cell hP (j := 7) rfl; have c8 := BlkAt.cell hP (j := 8) rfl; have c9 := BlkAt.cell hP (j := 9) rfl; have c10 := BlkAt.cell hP (j := 10) rfl; have c11 := BlkAt.cell hP (j := 11) rfl
  have g0 := BlkAt.cell hH (j := 0) rfl; have g1 := BlkAt.cell hH (j := 1) rfl; have g2 := BlkAt.cell hH (j := 2) rfl; have g3 := BlkAt.cell hH (j := 3) rfl; have g4 := BlkAt.cell hH (j := 4) rfl
  have hfz : ∀ j, (x3).frozen? ⟨q, j, none⟩ = false := fun j => BlkAt.frozen hP j
  clear hP hH
  go_wp2_with fail
  go_quiet (fail)
  obtain ⟨x4, hx4⟩ : ∃ W, W = World.drewN x3 nq := ⟨_, rfl⟩
  rw [← hx4]
  have HP4 : Hid (RA q r x4) := by
    have : RA q r x4 := by rw [hx4]; exact HP3.out
    exact this
  have HH4 : Hid (HBk w.heap.size h x4) := by
    have : HBk w.heap.size h x4 := by rw [hx4]; exact HH3.out
    exact this
  have HC4 : Hid (Chg [q] w x4) := by
    have : Chg [q] w x4 := by rw [hx4]; exact Chg.dr HC3.out _
    exact this
  clear hx4
  clear c0 c1 c2 c3 c4 c5 c6 c7 c8 c9 c10 c11 g0 g1 g2 g3 g4 hfz
  have hP := HP4.out
  have hH := HH4.out
  have c0 := BlkAt.cell hP (j := 0) rfl; have c1 := BlkAt.cell hP (j := 1) rfl; have c2 := BlkAt.cell hP (j := 2) rfl; have c3 := BlkAt.cell hP (j := 3) rfl; have c4 := BlkAt.cell hP (j := 4) rfl; have c5 := BlkAt.cell hP (j := 5) rfl; have c6 := BlkAt.cell hP (j := 6) rfl; have c7 := BlkAt.cell hP (j := 7) rfl; have c8 := BlkAt.cell hP (j := 8) rfl; have c9 := BlkAt.cell hP (j := 9) rfl; have c10 := BlkAt.cell hP (j := 10) rfl; have c11 := BlkAt.cell hP (j := 11) rfl
  have g0 := BlkAt.cell hH (j := 0) rfl; have g1 := BlkAt.cell hH (j := 1) rfl; have g2 := BlkAt.cell hH (j := 2) rfl; have g3 := BlkAt.cell hH (j := 3) rfl; have g4 := BlkAt.cell hH (j := 4) rfl
  have hfz : ∀ j, (x4).frozen? ⟨q, j, none⟩ = false := fun j => BlkAt.frozen hP j
  clear hP hH
  go_wp2_with fail
  go_quiet (fail)
  obtain ⟨x5, hx5⟩ : ∃ W, W = World.drewN x4 nq := ⟨_, rfl⟩
  rw [← hx5]
  have HP5 : Hid (RA q r x5) := by
    have : RA q r x5 := by rw [hx5]; exact HP4.out
    exact this
  have HH5 : Hid (HBk w.heap.size h x5) := by
    have : HBk w.heap.size h x5 := by rw [hx5]; exact HH4.out
    exact this
  have HC5 : Hid (Chg [q] w x5) := by
    have : Chg [q] w x5 := by rw [hx5]; exact Chg.dr HC4.out _
    exact this
  clear hx5
  clear c0 c1 c2 c3 c4 c5 c6 c7 c8 c9 c10 c11 g0 g1 g2 g3 g4 hfz
  go_wp2_with fail
  go_ret
  exact ⟨⟨_, rfl⟩, HP5.out, HC5.out⟩

end Go.Proofs.Ytcedninipbafaaa
