/- A row of one-cell elements in memory: a slice value that reads as a list of values.
   The reference's Tick: the walk.
   The reference's Hear, any way.
   The reference's Hear: the walks, a way each. -/
import Derived.Test.YtcedninipbafaaaZ01
import Derived.Test.YtcedninipbafaaaZ04
import Derived.Test.YtcedninipbafaaaZ05

set_option linter.unusedSimpArgs false
set_option linter.unusedVariables false
namespace Go.Proofs.Ytcedninipbafaaa
open Go.RowKit
attribute [local go_sem ↓] Go.wp_at_zero Go.wp_at_succ
attribute [local go_sem ↓ high] eqTI neTI eqVI neVI

set_option maxHeartbeats 8000000 in
set_option maxRecDepth 100000 in
theorem rhearP2 {q : Nat} {r : Rf} {w : World} (hA : RA q r w) (h : Hl) (t0 : (h.n == r.node) = false) (tS : decide (0 < r.v.st) = true) (tF : (h.n != r.v.n) = false) (tM : sameTI h.mb h.mt r.v.tb r.v.tt = false) (tT : (r.v.st == 0) = false) (tL : decide (h.mb < r.v.tb) = false) (tB : (h.mb == r.v.tb) = true) (tC : decide (h.mt < r.v.tt) = false) :
    Calls Try.prog 21 #[.pointer (some ⟨q, 0, none⟩), .agg #[.int .i64 h.n, .int .u64 h.mb, .int .u64 h.mt, .int .u64 h.hb, .int .u64 h.ht]] w (RhA q r (upV ((⟨1, r.v.mb, r.v.mt, h.mb, h.mt, r.v.n⟩ : Vw)) h) w) := by
  unfold RhA
  obtain ⟨V, hV⟩ : ∃ V, V = (⟨1, r.v.mb, r.v.mt, h.mb, h.mt, r.v.n⟩ : Vw) := ⟨_, rfl⟩
  rw [← hV]
  have HVV := Lib.hid hV
  clear hV
  obtain ⟨w1, hw1⟩ : ∃ W, W = w.alloc (.cells #[.int .i64 h.n, .int .u64 h.mb, .int .u64 h.mt, .int .u64 h.hb, .int .u64 h.ht] 35) := ⟨_, rfl⟩
  have hb : Below w.heap.size w w1 := by rw [hw1]; exact (Below.refl _ _).alloc (Nat.le_refl _) _
  have HP1 := Lib.hid (hA.later hb)
  have HH1 : Hid (HBk w.heap.size h w1) := by
      have : HBk w.heap.size h w1 := by rw [hw1]; exact BlkAt.new w _
      exact this
  have HC1 := Lib.hid (Chg.of_below [q] hb)
  have HNE : Hid (w.heap.size ∉ [q]) := by
      have : w.heap.size ∉ [q] := by have := hA.lt; simp; omega
      exact this
  have hn1 : ¬ w.heap.size = q := by have := hA.lt; omega
  have hn2 : ¬ q = w.heap.size := by have := hA.lt; omega
  have HW := Lib.hid hw1
  clear hA hb hw1
  go_enter Try.func21, Try.ntmps21
  go_wp2_with fail
  rw [← HW.out]
  have hP := HP1.out
  have hH := HH1.out
  have c0 := BlkAt.cell hP (j := 0) rfl; have c1 := BlkAt.cell hP (j := 1) rfl; have c2 := BlkAt.cell hP (j := 2) rfl; have c3 := BlkAt.cell hP (j := 3) rfl; have c4 := BlkAt.cell hP (j := 4) rfl; have c5 := BlkAt.cell hP (j := 5) rfl; have c6 := BlkAt.cell hP (j := 6) rfl; have c7 := BlkAt.cell hP (j := 7) rfl; have c8 := BlkAt.cell hP (j := 8) rfl; have c9 := BlkAt.cell hP (j := 9) rfl; have c10 := BlkAt.cell hP (j := 10) rfl; have c11 := BlkAt.cell hP (j := 11) rfl
  have g0 := BlkAt.cell hH (j := 0) rfl; have g1 := BlkAt.cell hH (j := 1) rfl; have g2 := BlkAt.cell hH (j := 2) rfl; have g3 := BlkAt.cell hH (j := 3) rfl; have g4 := BlkAt.cell hH (j := 4) rfl
  have hfz : ∀ j, (w1).frozen? ⟨q, j, none⟩ = false := fun j => BlkAt.frozen hP j
  clear hP hH
  go_quiet (fail)
  obtain ⟨x2, hx2⟩ : ∃ W, W = World.drewN w1 nq := ⟨_, rfl⟩
  rw [← hx2]
  have HP2 : Hid (RA q r x2) := by
    have : RA q r x2 := by rw [hx2]; exact HP1.out
    exact this
  have HH2 : Hid (HBk w.heap.size h x2) := by
    have : HBk w.heap.size h x2 := by rw [hx2]; exact HH1.out
    exact this
  have HC2 : Hid (Chg [q] w x2) := by
    have : Chg [q] w x2 := by rw [hx2]; exact Chg.dr HC1.out _
    exact this
  clear hx2
  clear c0 c1 c2 c3 c4 c5 c6 c7 c8 c9 c10 c11 g0 g1 g2 g3 g4 hfz
  have hP := HP2.out
  have hH := HH2.out
  have c0 := BlkAt.cell hP (j := 0) rfl; have c1 := BlkAt.cell hP (j := 1) rfl; have c2 := BlkAt.cell hP (j := 2) rfl; have c3 := BlkAt.cell hP (j := 3) rfl; have c4 := BlkAt.cell hP (j := 4) rfl; have c5 := BlkAt.cell hP (j := 5) rfl; have c6 := BlkAt.cell hP (j := 6) rfl; have c7 := BlkAt.cell hP (j := 7) rfl; have c8 := BlkAt.cell hP (j := 8) rfl; have c9 := BlkAt.cell hP (j := 9) rfl; have c10 := BlkAt.cell hP (j := 10) rfl; have c11 := BlkAt.cell hP (j := 11) rfl
  have g0 := BlkAt.cell hH (j := 0) rfl; have g1 := BlkAt.cell hH (j := 1) rfl; have g2 := BlkAt.cell hH (j := 2) rfl; have g3 := BlkAt.cell hH (j := 3) rfl; have g4 := BlkAt.cell hH (j := 4) rfl
  have hfz : ∀ j, (x2).frozen? ⟨q, j, none⟩ = false := fun j => BlkAt.frozen hP j
  clear hP hH
  go_wp2_with fail
  go_quiet (fail)
  obtain ⟨x3, hx3⟩ : ∃ W, W = World.drewN x2 nq := ⟨_, rfl⟩
  rw [← hx3]
  have HP3 : Hid (RA q r x3) := by
    have : RA q r x3 := by rw [hx3]; exact HP2.out
    exact this
  have HH3 : Hid (HBk w.heap.size h x3) := by
    have : HBk w.heap.size h x3 := by rw [hx3]; exact HH2.out
    exact this
  have HC3 : Hid (Chg [q] w x3) := by
    have : Chg [q] w x3 := by rw [hx3]; exact Chg.dr HC2.out _
    exact this
  clear hx3
  clear c0 c1 c2 c3 c4 c5 c6 c7 c8 c9 c10 c11 g0 g1 g2 g3 g4 hfz
  have hP := HP3.out
  have hH := HH3.out
  have c0 := BlkAt.cell hP (j := 0) rfl; have c1 := BlkAt.cell hP (j := 1) rfl; have c2 := BlkAt.cell hP (j := 2) rfl; have c3 := BlkAt.cell hP (j := 3) rfl; have c4 := BlkAt.cell hP (j := 4) rfl; have c5 := BlkAt.cell hP (j := 5) rfl; have c6 := BlkAt.cell hP (j := 6) rfl; have c7 := BlkAt.cell hP (j := 7) rfl; have c8 := BlkAt.cell hP (j := 8) rfl; have c9 := BlkAt.cell hP (j := 9) rfl; have c10 := BlkAt.cell hP (j := 10) rfl; have c11 := BlkAt.cell hP (j := 11) rfl
  have g0 := BlkAt.cell hH (j := 0) rfl; have g1 := BlkAt.cell hH (j := 1) rfl; have g2 := BlkAt.cell hH (j := 2) rfl; have g3 := BlkAt.cell hH (j := 3) rfl; have g4 := BlkAt.cell hH (j := 4) rfl
  have hfz : ∀ j, (x3).frozen? ⟨q, j, none⟩ = false := fun j => BlkAt.frozen hP j
  clear hP hH
  go_wp2_with fail
  go_quiet (fail)
  obtain ⟨x4, hx4⟩ : ∃ W, W = World.drewN x3 nq := ⟨_, rfl⟩
  rw [← hx4]
  have HP4 : Hid (RA q r x4) := by
    have : RA q r x4 := by rw [hx4]; exact HP3.out
    exact this
  have HH4 : Hid (HBk w.heap.size h x4) := by
    have : HBk w.heap.size h x4 := by rw [hx4]; exact HH3.out
    exact this
  have HC4 : Hid (Chg [q] w x4) := by
    have : Chg [q] w x4 := by rw [hx4]; exact Chg.dr HC3.out _
    exact this
  clear hx4
  clear c0 c1 c2 c3 c4 c5 c6 c7 c8 c9 c10 c11 g0 g1 g2 g3 g4 hfz
  have hP := HP4.out
  have hH := HH4.out
  have c0 := BlkAt.cell hP (j := 0) rfl; have c1 := BlkAt.cell hP (j := 1) rfl; have c2 := BlkAt.cell hP (j := 2) rfl; have c3 := BlkAt.cell hP (j := 3) rfl; have c4 := BlkAt.cell hP (j := 4) rfl; have c5 := BlkAt.cell hP (j := 5) rfl; have c6 := BlkAt.cell hP (j := 6) rfl; have c7 := BlkAt.cell hP (j := 7) rfl; have c8 := BlkAt.cell hP (j := 8) rfl; have c9 := BlkAt.cell hP (j := 9) rfl; have c10 := BlkAt.cell hP (j := 10) rfl; have c11 := BlkAt.cell hP (j := 11) rfl
  have g0 := BlkAt.cell hH (j := 0) rfl; have g1 := BlkAt.cell hH (j := 1) rfl; have g2 := BlkAt.cell hH (j := 2) rfl; have g3 := BlkAt.cell hH (j := 3) rfl; have g4 := BlkAt.cell hH (j := 4) rfl
  have hfz : ∀ j, (x4).frozen? ⟨q, j, none⟩ = false := fun j => BlkAt.frozen hP j
  clear hP hH
  go_wp2_with fail
  go_quiet (fail)
  obtain ⟨x5, hx5⟩ : ∃ W, W = World.drewN x4 nq := ⟨_, rfl⟩
  rw [← hx5]
  have HP5 : Hid (RA q r x5) := by
    have : RA q r x5 := by rw [hx5]; exact HP4.out
    exact this
  have HH5 : Hid (HBk w.heap.size h x5) := by
    have : HBk w.heap.size h x5 := by rw [hx5]; exact HH4.out
    exact this
  have HC5 : Hid (Chg [q] w x5) := by
    have : Chg [q] w x5 := by rw [hx5]; exact Chg.dr HC4.out _
    exact this
  clear hx5
  clear c0 c1 c2 c3 c4 c5 c6 c7 c8 c9 c10 c11 g0 g1 g2 g3 g4 hfz
  have hP := HP5.out
  have hH := HH5.out
  have c0 := BlkAt.cell hP (j := 0) rfl; have c1 := BlkAt.cell hP (j := 1) rfl; have c2 := BlkAt.cell hP (j := 2) rfl; have c3 := BlkAt.cell hP (j := 3) rfl; have c4 := BlkAt.cell hP (j := 4) rfl; have c5 := BlkAt.cell hP (j := 5) rfl; have c6 := BlkAt.cell hP (j := 6) rfl; have c7 := BlkAt.cell hP (j := 7) rfl; have c8 := BlkAt.cell hP (j := 8) rfl; have c9 := BlkAt.cell hP (j := 9) rfl; have c10 := BlkAt.cell hP (j := 10) rfl; have c11 := BlkAt.cell hP (j := 11) rfl
  have g0 := BlkAt.cell hH (j := 0) rfl; have g1 := BlkAt.cell hH (j := 1) rfl; have g2 := BlkAt.cell hH (j := 2) rfl; have g3 := BlkAt.cell hH (j := 3) rfl; have g4 := BlkAt.cell hH (j := 4) rfl
  have hfz : ∀ j, (x5).frozen? ⟨q, j, none⟩ = false := fun j => BlkAt.frozen hP j
  clear hP hH
  cases hu : r.v.st == 2
  all_goals
    go_wp2_with fail
    obtain ⟨z3, hz3⟩ : ∃ W, W = (((x5.setCell ⟨q, 3, none⟩ (.int .i64 1)).setCell ⟨q, 6, none⟩ (.int .u64 h.mb)).setCell ⟨q, 7, none⟩ (.int .u64 h.mt)).setCell ⟨q, 11, none⟩ (.int .i64 0) := ⟨_, rfl⟩
    rw [← hz3]
    have hCs : Chg [q] x5 z3 := by rw [hz3]; exact ((((Chg.refl _ _).set (by simp) 3 _).set (by simp) 6 _).set (by simp) 7 _).set (by simp) 11 _
    have HP6 : Hid (RA q (midR r V 0) z3) := by
        have : RA q (midR r V 0) z3 := by rw [hz3, HVV.out]; exact HP5.out.setTg h
        exact this
    have HH6 : Hid (HBk w.heap.size h z3) := by
        have : HBk w.heap.size h z3 := hCs.blk HH5.out HNE.out
        exact this
    have HC6 : Hid (Chg [q] w z3) := by
        have : Chg [q] w z3 := HC5.out.trans hCs
        exact this
    clear hz3 hCs
    clear c0 c1 c2 c3 c4 c5 c6 c7 c8 c9 c10 c11 g0 g1 g2 g3 g4 hfz
    have hP := HP6.out
    have hH := HH6.out
    have c0 := BlkAt.cell hP (j := 0) rfl; have c1 := BlkAt.cell hP (j := 1) rfl; have c2 := BlkAt.cell hP (j := 2) rfl; have c3 := BlkAt.cell hP (j := 3) rfl; have c4 := BlkAt.cell hP (j := 4) rfl; have c5 := BlkAt.cell hP (j := 5) rfl; have c6 := BlkAt.cell hP (j := 6) rfl; have c7 := BlkAt.cell hP (j := 7) rfl; have c8 := BlkAt.cell hP (j := 8) rfl; have c9 := BlkAt.cell hP (j := 9) rfl; have c10 := BlkAt.cell hP (j := 10) rfl; have c11 := BlkAt.cell hP (j := 11) rfl
    have g0 := BlkAt.cell hH (j := 0) rfl; have g1 := BlkAt.cell hH (j := 1) rfl; have g2 := BlkAt.cell hH (j := 2) rfl; have g3 := BlkAt.cell hH (j := 3) rfl; have g4 := BlkAt.cell hH (j := 4) rfl
    have hfz : ∀ j, (z3).frozen? ⟨q, j, none⟩ = false := fun j => BlkAt.frozen hP j
    clear hP hH
    rw [show (midR r V 0).v.mb = V.mb from rfl] at c4
    rw [show (midR r V 0).v.mt = V.mt from rfl] at c5
    rw [show (midR r V 0).v.st = V.st from rfl] at c3
    have hs : V.st = 1 := by rw [HVV.out] <;> rfl
    rw [hs] at c3
    cases tU : sameTI h.hb h.ht V.mb V.mt
    · have HU : Hid (upV V h = V) := by
        have : upV V h = V := if_neg (by rw [tU]; simp)
        exact this
      go_quiet (fail)
      go_wp2_with fail
      go_ret
      exact ⟨⟨_, rfl⟩, by rw [HU.out]; exact HP6.out, HC6.out.dr _⟩
    · have HU : Hid (upV V h = ⟨2, V.mb, V.mt, V.tb, V.tt, V.n⟩) := by
        have : upV V h = ⟨2, V.mb, V.mt, V.tb, V.tt, V.n⟩ := if_pos tU
        exact this
      go_quiet (fail)
      go_wp2_with fail
      go_ret
      exact ⟨⟨_, rfl⟩, by rw [HU.out]; exact (RA.dr HP6.out _).setSt, (HC6.out.dr _).set (by simp) 3 _⟩

set_option maxHeartbeats 8000000 in
set_option maxRecDepth 100000 in
theorem rhearS2 {q : Nat} {r : Rf} {w : World} (hA : RA q r w) (h : Hl) (t0 : (h.n == r.node) = false) (tS : decide (0 < r.v.st) = true) (tF : (h.n != r.v.n) = false) (tM : sameTI h.mb h.mt r.v.tb r.v.tt = false) (tL : decide (h.mb < r.v.tb) = false) (tB : (h.mb == r.v.tb) = true) (tC : decide (h.mt < r.v.tt) = true) :
    Calls Try.prog 21 #[.pointer (some ⟨q, 0, none⟩), .agg #[.int .i64 h.n, .int .u64 h.mb, .int .u64 h.mt, .int .u64 h.hb, .int .u64 h.ht]] w (RhS q r w) := by
  unfold RhS
  obtain ⟨w1, hw1⟩ : ∃ W, W = w.alloc (.cells #[.int .i64 h.n, .int .u64 h.mb, .int .u64 h.mt, .int .u64 h.hb, .int .u64 h.ht] 35) := ⟨_, rfl⟩
  have hb : Below w.heap.size w w1 := by rw [hw1]; exact (Below.refl _ _).alloc (Nat.le_refl _) _
  have HP1 := Lib.hid (hA.later hb)
  have HH1 : Hid (HBk w.heap.size h w1) := by
      have : HBk w.heap.size h w1 := by rw [hw1]; exact BlkAt.new w _
      exact this
  have HC1 := Lib.hid (Chg.of_below [q] hb)
  have HNE : Hid (w.heap.size ∉ [q]) := by
      have : w.heap.size ∉ [q] := by have := hA.lt; simp; omega
      exact this
  have hn1 : ¬ w.heap.size = q := by have := hA.lt; omega
  have hn2 : ¬ q = w.heap.size := by have := hA.lt; omega
  have HW := Lib.hid hw1
  clear hA hb hw1
  go_enter Try.func21, Try.ntmps21
  go_wp2_with fail
  rw [← HW.out]
  have hP := HP1.out
  have hH := HH1.out
  have c0 := BlkAt.cell hP (j := 0) rfl; have c1 := BlkAt.cell hP (j := 1) rfl; have c2 := BlkAt.cell hP (j := 2) rfl; have c3 := BlkAt.cell hP (j := 3) rfl; have c4 := BlkAt.cell hP (j := 4) rfl; have c5 := BlkAt.cell hP (j := 5) rfl; have c6 := BlkAt.cell hP (j := 6) rfl; have c7 := BlkAt.cell hP (j := 7) rfl; have c8 := BlkAt.cell hP (j := 8) rfl; have c9 := BlkAt.cell hP (j := 9) rfl; have c10 := BlkAt.cell hP (j := 10) rfl; have c11 := BlkAt.cell hP (j := 11) rfl
  have g0 := BlkAt.cell hH (j := 0) rfl; have g1 := BlkAt.cell hH (j := 1) rfl; have g2 := BlkAt.cell hH (j := 2) rfl; have g3 := BlkAt.cell hH (j := 3) rfl; have g4 := BlkAt.cell hH (j := 4) rfl
  have hfz : ∀ j, (w1).frozen? ⟨q, j, none⟩ = false := fun j => BlkAt.frozen hP j
  clear hP hH
  go_quiet (fail)
  obtain ⟨x2, hx2⟩ : ∃ W, W = World.drewN w1 nq := ⟨_, rfl⟩
  rw [← hx2]
  have HP2 : Hid (RA q r x2) := by
    have : RA q r x2 := by rw [hx2]; exact HP1.out
    exact this
  have HH2 : Hid (HBk w.heap.size h x2) := by
    have : HBk w.heap.size h x2 := by rw [hx2]; exact HH1.out
    exact this
  have HC2 : Hid (Chg [q] w x2) := by
    have : Chg [q] w x2 := by rw [hx2]; exact Chg.dr HC1.out _
    exact this
  clear hx2
  clear c0 c1 c2 c3 c4 c5 c6 c7 c8 c9 c10 c11 g0 g1 g2 g3 g4 hfz
  have hP := HP2.out
  have hH := HH2.out
  have c0 := BlkAt.cell hP (j := 0) rfl; have c1 := BlkAt.cell hP (j := 1) rfl; have c2 := BlkAt.cell hP (j := 2) rfl; have c3 := BlkAt.cell hP (j := 3) rfl; have c4 := BlkAt.cell hP (j := 4) rfl; have c5 := BlkAt.cell hP (j := 5) rfl; have c6 := BlkAt.cell hP (j := 6) rfl; have c7 := BlkAt.cell hP (j := 7) rfl; have c8 := BlkAt.cell hP (j := 8) rfl; have c9 := BlkAt.cell hP (j := 9) rfl; have c10 := BlkAt.cell hP (j := 10) rfl; have c11 := BlkAt.cell hP (j := 11) rfl
  have g0 := BlkAt.cell hH (j := 0) rfl; have g1 := BlkAt.cell hH (j := 1) rfl; have g2 := BlkAt.cell hH (j := 2) rfl; have g3 := BlkAt.cell hH (j := 3) rfl; have g4 := BlkAt.cell hH (j := 4) rfl
  have hfz : ∀ j, (x2).frozen? ⟨q, j, none⟩ = false := fun j => BlkAt.frozen hP j
  clear hP hH
  go_wp2_with fail
  go_quiet (fail)
  obtain ⟨x3, hx3⟩ : ∃ W, W = World.drewN x2 nq := ⟨_, rfl⟩
  rw [← hx3]
  have HP3 : Hid (RA q r x3) := by
    have : RA q r x3 := by rw [hx3]; exact HP2.out
    exact this
  have HH3 : Hid (HBk w.heap.size h x3) := by
    have : HBk w.heap.size h x3 := by rw [hx3]; exact HH2.out
    exact this
  have HC3 : Hid (Chg [q] w x3) := by
    have : Chg [q] w x3 := by rw [hx3]; exact Chg.dr HC2.out _
    exact this
  clear hx3
  clear c0 c1 c2 c3 c4 c5 c6 c7 c8 c9 c10 c11 g0 g1 g2 g3 g4 hfz
  have hP := HP3.out
  have hH := HH3.out
  have c0 := BlkAt.cell hP (j := 0) rfl; have c1 := BlkAt.cell hP (j := 1) rfl; have c2 := BlkAt.cell hP (j := 2) rfl; have c3 := BlkAt.cell hP (j := 3) rfl; have c4 := BlkAt.cell hP (j := 4) rfl; have c5 := BlkAt.cell hP (j := 5) rfl; have c6 := BlkAt.cell hP (j := 6) rfl; have c7 := BlkAt.cell hP (j := 7) rfl; have c8 := BlkAt.cell hP (j := 8) rfl; have c9 := BlkAt.cell hP (j := 9) rfl; have c10 := BlkAt.cell hP (j := 10) rfl; have c11 := BlkAt.cell hP (j := 11) rfl
  have g0 := BlkAt.cell hH (j := 0) rfl; have g1 := BlkAt.cell hH (j := 1) rfl; have g2 := BlkAt.cell hH (j := 2) rfl; have g3 := BlkAt.cell hH (j := 3) rfl; have g4 := BlkAt.cell hH (j := 4) rfl
  have hfz : ∀ j, (x3).frozen? ⟨q, j, none⟩ = false := fun j => BlkAt.frozen hP j
  clear hP hH
  go_wp2_with fail
  go_quiet (fail)
  obtain ⟨x4, hx4⟩ : ∃ W, W = World.drewN x3 nq := ⟨_, rfl⟩
  rw [← hx4]
  have HP4 : Hid (RA q r x4) := by
    have : RA q r x4 := by rw [hx4]; exact HP3.out
    exact this
  have HH4 : Hid (HBk w.heap.size h x4) := by
    have : HBk w.heap.size h x4 := by rw [hx4]; exact HH3.out
    exact this
  have HC4 : Hid (Chg [q] w x4) := by
    have : Chg [q] w x4 := by rw [hx4]; exact Chg.dr HC3.out _
    exact this
  clear hx4
  clear c0 c1 c2 c3 c4 c5 c6 c7 c8 c9 c10 c11 g0 g1 g2 g3 g4 hfz
  have hP := HP4.out
  have hH := HH4.out
  have c0 := BlkAt.cell hP (j := 0) rfl; have c1 := BlkAt.cell hP (j := 1) rfl; have c2 := BlkAt.cell hP (j := 2) rfl; have c3 := BlkAt.cell hP (j := 3) rfl; have c4 := BlkAt.cell hP (j := 4) rfl; have c5 := BlkAt.cell hP (j := 5) rfl; have c6 := BlkAt.cell hP (j := 6) rfl; have c7 := BlkAt.cell hP (j := 7) rfl; have c8 := BlkAt.cell hP (j := 8) rfl; have c9 := BlkAt.cell hP (j := 9) rfl; have c10 := BlkAt.cell hP (j := 10) rfl; have c11 := BlkAt.cell hP (j := 11) rfl
  have g0 := BlkAt.cell hH (j := 0) rfl; have g1 := BlkAt.cell hH (j := 1) rfl; have g2 := BlkAt.cell hH (j := 2) rfl; have g3 := BlkAt.cell hH (j := 3) rfl; have g4 := BlkAt.cell hH (j := 4) rfl
  have hfz : ∀ j, (x4).frozen? ⟨q, j, none⟩ = false := fun j => BlkAt.frozen hP j
  clear hP hH
  go_wp2_with fail
  go_quiet (fail)
  obtain ⟨x5, hx5⟩ : ∃ W, W = World.drewN x4 nq := ⟨_, rfl⟩
  rw [← hx5]
  have HP5 : Hid (RA q r x5) := by
    have : RA q r x5 := by rw [hx5]; exact HP4.out
    exact this
  have HH5 : Hid (HBk w.heap.size h x5) := by
    have : HBk w.heap.size h x5 := by rw [hx5]; exact HH4.out
    exact this
  have HC5 : Hid (Chg [q] w x5) := by
    have : Chg [q] w x5 := by rw [hx5]; exact Chg.dr HC4.out _
    exact this
  clear hx5
  clear c0 c1 c2 c3 c4 c5 c6 c7 c8 c9 c10 c11 g0 g1 g2 g3 g4 hfz
  go_wp2_with fail
  go_ret
  exact ⟨⟨_, rfl⟩, HP5.out, HC5.out⟩

end Go.Proofs.Ytcedninipbafaaa

namespace Go.Proofs.Ytcedninipbafaaa
open Go.RowKit
attribute [local go_sem ↓] Go.wp_at_zero Go.wp_at_succ

/-- What is so of the reference's, always. -/
structure InvR (r : Rf) : Prop where
  node : 1 ≤ r.node
  st : r.v.st = 0 ∨ r.v.st = 1 ∨ r.v.st = 2
  down : r.v.st = 0 → r.v.tb = 0 ∧ r.v.tt = 0 ∧ r.v.n = 0
  up : r.v.st ≠ 0 → r.v.tb ≠ 0 ∧ r.v.n ≠ r.node ∧ 1 ≤ r.v.n
def stayR (r : Rf) (h : Hl) : Bool := decide (h.n = r.node) || (decide (h.n = r.v.n) && eldI h.mb h.mt r.v.tb r.v.tt)
def hearR (r : Rf) (h : Hl) : Rf := if stayR r h = true then r else ⟨r.node, r.every, r.dead, upV (nowV r.v h) h, r.ss, r.said, 0⟩
theorem hearRW {q : Nat} {r : Rf} {w : World} (hA : RA q r w) (hI : InvR r) (h : Hl) (hm : mayHl h = true) :
    Calls Try.prog 21 #[.pointer (some ⟨q, 0, none⟩), .agg #[.int .i64 h.n, .int .u64 h.mb, .int .u64 h.mt, .int .u64 h.hb, .int .u64 h.ht]] w fun e w' => (∃ x, e = .returned (.int .i64 x)) ∧ RA q (hearR r h) w' ∧ Chg [q] w w' := by
  obtain ⟨m1, m2, m3, m4⟩ := mayHl_iff.1 hm
  by_cases h0 : h.n = r.node
  · have e : hearR r h = r := if_pos (by unfold stayR; simp [h0])
    rw [e]
    exact rhearW hA h (beq_iff_eq.2 h0)
  have t0 : (h.n == r.node) = false := beq_eq_false_iff_ne.2 h0
  by_cases hs : r.v.st = 0
  · have tS : decide (0 < r.v.st) = false := decide_eq_false (by omega)
    have tT : (r.v.st == 0) = true := beq_iff_eq.2 hs
    have h1 : h.n ≠ r.v.n := by have := (hI.down hs).2.2; omega
    have e : hearR r h = ⟨r.node, r.every, r.dead, upV (nowV r.v h) h, r.ss, r.said, 0⟩ := if_neg (by unfold stayR; simp [h0, h1])
    have e2 : nowV r.v h = setV r.v h := by unfold nowV; rw [if_neg (fun q => q.1 hs), if_neg (fun q => q.1 hs)]
    rw [e, e2]
    exact rhearN hA h t0 tS tT
  have tS : decide (0 < r.v.st) = true := decide_eq_true (by rcases hI.st with q | q | q <;> omega)
  have tT : (r.v.st == 0) = false := beq_eq_false_iff_ne.2 hs
  have hst : r.v.st = 1 ∨ r.v.st = 2 := by rcases hI.st with q | q | q <;> omega
  by_cases h1 : h.n = r.v.n
  · have tF : (h.n != r.v.n) = false := by simp [h1]
    cases tD : eldI h.mb h.mt r.v.tb r.v.tt with
    | true =>
      have hd : h.mb < r.v.tb ∨ h.mb = r.v.tb ∧ h.mt < r.v.tt := of_decide_eq_true tD
      have tM : sameTI h.mb h.mt r.v.tb r.v.tt = false := sameTI_no (by omega)
      have e : hearR r h = r := if_pos (by unfold stayR; rw [tD]; simp [h1])
      rw [e]
      by_cases hl : h.mb < r.v.tb
      · exact rhearS1 hA h t0 tS tF tM (decide_eq_true hl)
      · have hq : h.mb = r.v.tb := by omega
        exact rhearS2 hA h t0 tS tF tM (decide_eq_false hl) (beq_iff_eq.2 hq) (decide_eq_true (by omega))
    | false =>
      have hd : ¬ (h.mb < r.v.tb ∨ h.mb = r.v.tb ∧ h.mt < r.v.tt) := of_decide_eq_false tD
      have e : hearR r h = ⟨r.node, r.every, r.dead, upV (nowV r.v h) h, r.ss, r.said, 0⟩ := if_neg (by unfold stayR; rw [tD]; simp [h0])
      rw [e]
      cases tM : sameTI h.mb h.mt r.v.tb r.v.tt with
      | true =>
        have e2 : nowV r.v h = r.v := by unfold nowV; rw [if_neg (fun q => q.2 h1), if_pos ⟨hs, sameTI_iff.1 tM⟩]
        rw [e2]
        exact rhearQ hA h t0 tS tT (Lib.hid hst) tF tM
      | false =>
        have e2 : nowV r.v h = ⟨1, r.v.mb, r.v.mt, h.mb, h.mt, r.v.n⟩ := by
          unfold nowV; rw [if_neg (fun q => q.2 h1), if_neg (fun q => by rw [sameTI_iff.2 q.2] at tM; cases tM)]
          unfold setV; rw [h1]
        rw [e2]
        by_cases hb : h.mb = r.v.tb
        · exact rhearP2 hA h t0 tS tF tM tT (decide_eq_false (by omega)) (beq_iff_eq.2 hb) (decide_eq_false (by omega))
        · exact rhearP1 hA h t0 tS tF tM tT (decide_eq_false (by omega)) (beq_eq_false_iff_ne.2 hb)
  · have tF : (h.n != r.v.n) = true := by simp [h1]
    have e : hearR r h = ⟨r.node, r.every, r.dead, upV (nowV r.v h) h, r.ss, r.said, 0⟩ := if_neg (by unfold stayR; simp [h0, h1])
    have e2 : nowV r.v h = setV (anV r.v) h := by unfold nowV; rw [if_pos ⟨hs, h1⟩]
    rw [e, e2]
    exact rhearO hA h t0 tS tF
end Go.Proofs.Ytcedninipbafaaa

namespace Go.Proofs.Ytcedninipbafaaa
open Go.RowKit
attribute [local go_sem ↓] Go.wp_at_zero Go.wp_at_succ
attribute [local go_sem ↓ high] eqTI neTI eqVI neVI

/-- A tick: what comes of the view and the silence. -/
def tickR (r : Rf) (ss : Int) (sd : Bool) : Rf :=
  if r.v.st = 0 then ⟨r.node, r.every, r.dead, r.v, ss, sd, r.sil⟩ else if wrap64 (r.sil + 1) < r.dead then ⟨r.node, r.every, r.dead, r.v, ss, sd, wrap64 (r.sil + 1)⟩ else ⟨r.node, r.every, r.dead, anV r.v, ss, sd, 0⟩
def TkR (q : Nat) (r : Rf) (w : World) (e : Ending) (w' : World) : Prop :=
  ∃ x b ss sd, e = .returned (.tuple #[.int .i64 x, .bool b]) ∧ RA q (tickR r ss sd) w' ∧ Chg [q] w w'
theorem RA.setSl {q : Nat} {r : Rf} {w : World} (h : RA q r w) {s : Int} : RA q ⟨r.node, r.every, r.dead, r.v, r.ss, r.said, s⟩ (w.setCell ⟨q, 11, none⟩ (.int .i64 s)) := BlkAt.set h 11 _
theorem tickR_0 {r : Rf} (h : (r.v.st == 0) = true) (ss : Int) (sd : Bool) : tickR r ss sd = ⟨r.node, r.every, r.dead, r.v, ss, sd, r.sil⟩ := if_pos (beq_iff_eq.1 h)
theorem tickR_1 {r : Rf} (h : (r.v.st == 0) = false) (h2 : decide (wrap64 (r.sil + 1) < r.dead) = true) (ss : Int) (sd : Bool) : tickR r ss sd = ⟨r.node, r.every, r.dead, r.v, ss, sd, wrap64 (r.sil + 1)⟩ := by
  unfold tickR; rw [if_neg (beq_eq_false_iff_ne.1 h), if_pos (of_decide_eq_true h2)]
theorem tickR_2 {r : Rf} (h : (r.v.st == 0) = false) (h2 : decide (wrap64 (r.sil + 1) < r.dead) = false) (ss : Int) (sd : Bool) : tickR r ss sd = ⟨r.node, r.every, r.dead, anV r.v, ss, sd, 0⟩ := by
  unfold tickR; rw [if_neg (beq_eq_false_iff_ne.1 h), if_neg (of_decide_eq_false h2)]

set_option maxHeartbeats 8000000 in
set_option maxRecDepth 100000 in
theorem tickRAa {q : Nat} {r : Rf} {w : World} (hA : RA q r w) (ts : r.said = false) (t2 : (r.v.st == 0) = true) : Calls Try.prog 22 #[.pointer (some ⟨q, 0, none⟩)] w (TkR q r w) := by
  unfold TkR
  have c0 := BlkAt.cell hA (j := 0) rfl; have c1 := BlkAt.cell hA (j := 1) rfl; have c2 := BlkAt.cell hA (j := 2) rfl; have c3 := BlkAt.cell hA (j := 3) rfl; have c4 := BlkAt.cell hA (j := 4) rfl; have c5 := BlkAt.cell hA (j := 5) rfl; have c6 := BlkAt.cell hA (j := 6) rfl; have c7 := BlkAt.cell hA (j := 7) rfl; have c8 := BlkAt.cell hA (j := 8) rfl; have c9 := BlkAt.cell hA (j := 9) rfl; have c10 := BlkAt.cell hA (j := 10) rfl; have c11 := BlkAt.cell hA (j := 11) rfl
  have HA := Lib.hid hA
  rw [ts] at c10
  have HSD := Lib.hid ts
  clear hA ts
  go_enter Try.func22, Try.ntmps22
  go_wp2_with fail
  go_quiet (fail)
  obtain ⟨x2, hx2⟩ : ∃ W, W = World.drewN w nq := ⟨_, rfl⟩
  rw [← hx2]
  have HA2 : Hid (RA q r x2) := by
    have : RA q r x2 := by rw [hx2]; exact HA.out
    exact this
  have HC2 : Hid (Chg [q] w x2) := by
    have : Chg [q] w x2 := by rw [hx2]; exact (Chg.refl [q] w).dr _
    exact this
  clear hx2 c0 c1 c2 c3 c4 c5 c6 c7 c8 c9 c10 c11
  have hA := HA2.out
  have hfz : ∀ j, x2.frozen? ⟨q, j, none⟩ = false := fun j => BlkAt.frozen hA j
  have c0 := BlkAt.cell hA (j := 0) rfl; have c1 := BlkAt.cell hA (j := 1) rfl; have c2 := BlkAt.cell hA (j := 2) rfl; have c3 := BlkAt.cell hA (j := 3) rfl; have c4 := BlkAt.cell hA (j := 4) rfl; have c5 := BlkAt.cell hA (j := 5) rfl; have c6 := BlkAt.cell hA (j := 6) rfl; have c7 := BlkAt.cell hA (j := 7) rfl; have c8 := BlkAt.cell hA (j := 8) rfl; have c9 := BlkAt.cell hA (j := 9) rfl; have c10 := BlkAt.cell hA (j := 10) rfl; have c11 := BlkAt.cell hA (j := 11) rfl
  rw [HSD.out] at c10
  clear hA
  have HAR : Hid (RA q ⟨r.node, r.every, r.dead, r.v, 1, true, r.sil⟩ (((x2.setCell ⟨q, 10, none⟩ (.bool true)).setCell ⟨q, 9, none⟩ (.int .i64 0)).setCell ⟨q, 9, none⟩ (.int .i64 1))) := by
    have : RA q ⟨r.node, r.every, r.dead, r.v, 1, true, r.sil⟩ (((x2.setCell ⟨q, 10, none⟩ (.bool true)).setCell ⟨q, 9, none⟩ (.int .i64 0)).setCell ⟨q, 9, none⟩ (.int .i64 1)) := by
      have := ((BlkAt.set HA2.out 10 (.bool true)).set 9 (.int .i64 0)).set 9 (.int .i64 1)
      exact this
    exact this
  have HCR : Hid (Chg [q] w (((x2.setCell ⟨q, 10, none⟩ (.bool true)).setCell ⟨q, 9, none⟩ (.int .i64 0)).setCell ⟨q, 9, none⟩ (.int .i64 1))) := by
    have : Chg [q] w (((x2.setCell ⟨q, 10, none⟩ (.bool true)).setCell ⟨q, 9, none⟩ (.int .i64 0)).setCell ⟨q, 9, none⟩ (.int .i64 1)) := ((HC2.out.set (by simp) 10 _).set (by simp) 9 _).set (by simp) 9 _
    exact this
  go_wp2_with fail
  go_ret2
  exact ⟨_, _, 1, true, rfl, by rw [tickR_0 t2]; exact HAR.out, HCR.out⟩

set_option maxHeartbeats 8000000 in
set_option maxRecDepth 100000 in
theorem tickRAb {q : Nat} {r : Rf} {w : World} (hA : RA q r w) (ts : r.said = false) (t2 : (r.v.st == 0) = false) (t3 : decide (wrap64 (r.sil + 1) < r.dead) = true) : Calls Try.prog 22 #[.pointer (some ⟨q, 0, none⟩)] w (TkR q r w) := by
  unfold TkR
  have c0 := BlkAt.cell hA (j := 0) rfl; have c1 := BlkAt.cell hA (j := 1) rfl; have c2 := BlkAt.cell hA (j := 2) rfl; have c3 := BlkAt.cell hA (j := 3) rfl; have c4 := BlkAt.cell hA (j := 4) rfl; have c5 := BlkAt.cell hA (j := 5) rfl; have c6 := BlkAt.cell hA (j := 6) rfl; have c7 := BlkAt.cell hA (j := 7) rfl; have c8 := BlkAt.cell hA (j := 8) rfl; have c9 := BlkAt.cell hA (j := 9) rfl; have c10 := BlkAt.cell hA (j := 10) rfl; have c11 := BlkAt.cell hA (j := 11) rfl
  have HA := Lib.hid hA
  rw [ts] at c10
  have HSD := Lib.hid ts
  clear hA ts
  go_enter Try.func22, Try.ntmps22
  go_wp2_with fail
  go_quiet (fail)
  obtain ⟨x2, hx2⟩ : ∃ W, W = World.drewN w nq := ⟨_, rfl⟩
  rw [← hx2]
  have HA2 : Hid (RA q r x2) := by
    have : RA q r x2 := by rw [hx2]; exact HA.out
    exact this
  have HC2 : Hid (Chg [q] w x2) := by
    have : Chg [q] w x2 := by rw [hx2]; exact (Chg.refl [q] w).dr _
    exact this
  clear hx2 c0 c1 c2 c3 c4 c5 c6 c7 c8 c9 c10 c11
  have hA := HA2.out
  have hfz : ∀ j, x2.frozen? ⟨q, j, none⟩ = false := fun j => BlkAt.frozen hA j
  have c0 := BlkAt.cell hA (j := 0) rfl; have c1 := BlkAt.cell hA (j := 1) rfl; have c2 := BlkAt.cell hA (j := 2) rfl; have c3 := BlkAt.cell hA (j := 3) rfl; have c4 := BlkAt.cell hA (j := 4) rfl; have c5 := BlkAt.cell hA (j := 5) rfl; have c6 := BlkAt.cell hA (j := 6) rfl; have c7 := BlkAt.cell hA (j := 7) rfl; have c8 := BlkAt.cell hA (j := 8) rfl; have c9 := BlkAt.cell hA (j := 9) rfl; have c10 := BlkAt.cell hA (j := 10) rfl; have c11 := BlkAt.cell hA (j := 11) rfl
  rw [HSD.out] at c10
  clear hA
  have HAR : Hid (RA q ⟨r.node, r.every, r.dead, r.v, 1, true, r.sil⟩ (((x2.setCell ⟨q, 10, none⟩ (.bool true)).setCell ⟨q, 9, none⟩ (.int .i64 0)).setCell ⟨q, 9, none⟩ (.int .i64 1))) := by
    have : RA q ⟨r.node, r.every, r.dead, r.v, 1, true, r.sil⟩ (((x2.setCell ⟨q, 10, none⟩ (.bool true)).setCell ⟨q, 9, none⟩ (.int .i64 0)).setCell ⟨q, 9, none⟩ (.int .i64 1)) := by
      have := ((BlkAt.set HA2.out 10 (.bool true)).set 9 (.int .i64 0)).set 9 (.int .i64 1)
      exact this
    exact this
  have HCR : Hid (Chg [q] w (((x2.setCell ⟨q, 10, none⟩ (.bool true)).setCell ⟨q, 9, none⟩ (.int .i64 0)).setCell ⟨q, 9, none⟩ (.int .i64 1))) := by
    have : Chg [q] w (((x2.setCell ⟨q, 10, none⟩ (.bool true)).setCell ⟨q, 9, none⟩ (.int .i64 0)).setCell ⟨q, 9, none⟩ (.int .i64 1)) := ((HC2.out.set (by simp) 10 _).set (by simp) 9 _).set (by simp) 9 _
    exact this
  go_wp2_with fail
  go_quiet (fail)
  obtain ⟨x3, hx3⟩ : ∃ W, W = World.drewN ((((x2.setCell ⟨q, 10, none⟩ (.bool true)).setCell ⟨q, 9, none⟩ (.int .i64 0)).setCell ⟨q, 9, none⟩ (.int .i64 1)).setCell ⟨q, 11, none⟩ (.int .i64 (wrap64 (r.sil + 1)))) nq := ⟨_, rfl⟩
  rw [← hx3]
  have HA3 : Hid (RA q ⟨r.node, r.every, r.dead, r.v, 1, true, wrap64 (r.sil + 1)⟩ x3) := by
    have : RA q ⟨r.node, r.every, r.dead, r.v, 1, true, wrap64 (r.sil + 1)⟩ x3 := by rw [hx3]; exact HAR.out.setSl.dr _
    exact this
  have HC3 : Hid (Chg [q] w x3) := by
    have : Chg [q] w x3 := by rw [hx3]; exact (HCR.out.set (by simp) 11 _).dr _
    exact this
  clear hx3 c0 c1 c2 c3 c4 c5 c6 c7 c8 c9 c10 c11 hfz
  go_wp2_with fail
  go_ret2
  exact ⟨_, _, 1, true, rfl, by rw [tickR_1 t2 t3]; exact HA3.out, HC3.out⟩

set_option maxHeartbeats 8000000 in
set_option maxRecDepth 100000 in
theorem tickRAc {q : Nat} {r : Rf} {w : World} (hA : RA q r w) (ts : r.said = false) (t2 : (r.v.st == 0) = false) (t3 : decide (wrap64 (r.sil + 1) < r.dead) = false) : Calls Try.prog 22 #[.pointer (some ⟨q, 0, none⟩)] w (TkR q r w) := by
  unfold TkR
  have c0 := BlkAt.cell hA (j := 0) rfl; have c1 := BlkAt.cell hA (j := 1) rfl; have c2 := BlkAt.cell hA (j := 2) rfl; have c3 := BlkAt.cell hA (j := 3) rfl; have c4 := BlkAt.cell hA (j := 4) rfl; have c5 := BlkAt.cell hA (j := 5) rfl; have c6 := BlkAt.cell hA (j := 6) rfl; have c7 := BlkAt.cell hA (j := 7) rfl; have c8 := BlkAt.cell hA (j := 8) rfl; have c9 := BlkAt.cell hA (j := 9) rfl; have c10 := BlkAt.cell hA (j := 10) rfl; have c11 := BlkAt.cell hA (j := 11) rfl
  have HA := Lib.hid hA
  rw [ts] at c10
  have HSD := Lib.hid ts
  clear hA ts
  go_enter Try.func22, Try.ntmps22
  go_wp2_with fail
  go_quiet (fail)
  obtain ⟨x2, hx2⟩ : ∃ W, W = World.drewN w nq := ⟨_, rfl⟩
  rw [← hx2]
  have HA2 : Hid (RA q r x2) := by
    have : RA q r x2 := by rw [hx2]; exact HA.out
    exact this
  have HC2 : Hid (Chg [q] w x2) := by
    have : Chg [q] w x2 := by rw [hx2]; exact (Chg.refl [q] w).dr _
    exact this
  clear hx2 c0 c1 c2 c3 c4 c5 c6 c7 c8 c9 c10 c11
  have hA := HA2.out
  have hfz : ∀ j, x2.frozen? ⟨q, j, none⟩ = false := fun j => BlkAt.frozen hA j
  have c0 := BlkAt.cell hA (j := 0) rfl; have c1 := BlkAt.cell hA (j := 1) rfl; have c2 := BlkAt.cell hA (j := 2) rfl; have c3 := BlkAt.cell hA (j := 3) rfl; have c4 := BlkAt.cell hA (j := 4) rfl; have c5 := BlkAt.cell hA (j := 5) rfl; have c6 := BlkAt.cell hA (j := 6) rfl; have c7 := BlkAt.cell hA (j := 7) rfl; have c8 := BlkAt.cell hA (j := 8) rfl; have c9 := BlkAt.cell hA (j := 9) rfl; have c10 := BlkAt.cell hA (j := 10) rfl; have c11 := BlkAt.cell hA (j := 11) rfl
  rw [HSD.out] at c10
  clear hA
  have HAR : Hid (RA q ⟨r.node, r.every, r.dead, r.v, 1, true, r.sil⟩ (((x2.setCell ⟨q, 10, none⟩ (.bool true)).setCell ⟨q, 9, none⟩ (.int .i64 0)).setCell ⟨q, 9, none⟩ (.int .i64 1))) := by
    have : RA q ⟨r.node, r.every, r.dead, r.v, 1, true, r.sil⟩ (((x2.setCell ⟨q, 10, none⟩ (.bool true)).setCell ⟨q, 9, none⟩ (.int .i64 0)).setCell ⟨q, 9, none⟩ (.int .i64 1)) := by
      have := ((BlkAt.set HA2.out 10 (.bool true)).set 9 (.int .i64 0)).set 9 (.int .i64 1)
      exact this
    exact this
  have HCR : Hid (Chg [q] w (((x2.setCell ⟨q, 10, none⟩ (.bool true)).setCell ⟨q, 9, none⟩ (.int .i64 0)).setCell ⟨q, 9, none⟩ (.int .i64 1))) := by
    have : Chg [q] w (((x2.setCell ⟨q, 10, none⟩ (.bool true)).setCell ⟨q, 9, none⟩ (.int .i64 0)).setCell ⟨q, 9, none⟩ (.int .i64 1)) := ((HC2.out.set (by simp) 10 _).set (by simp) 9 _).set (by simp) 9 _
    exact this
  go_wp2_with fail
  go_quiet (fail)
  obtain ⟨x3, hx3⟩ : ∃ W, W = World.drewN ((((x2.setCell ⟨q, 10, none⟩ (.bool true)).setCell ⟨q, 9, none⟩ (.int .i64 0)).setCell ⟨q, 9, none⟩ (.int .i64 1)).setCell ⟨q, 11, none⟩ (.int .i64 (wrap64 (r.sil + 1)))) nq := ⟨_, rfl⟩
  rw [← hx3]
  have HA3 : Hid (RA q ⟨r.node, r.every, r.dead, r.v, 1, true, wrap64 (r.sil + 1)⟩ x3) := by
    have : RA q ⟨r.node, r.every, r.dead, r.v, 1, true, wrap64 (r.sil + 1)⟩ x3 := by rw [hx3]; exact HAR.out.setSl.dr _
    exact this
  have HC3 : Hid (Chg [q] w x3) := by
    have : Chg [q] w x3 := by rw [hx3]; exact (HCR.out.set (by simp) 11 _).dr _
    exact this
  clear hx3 c0 c1 c2 c3 c4 c5 c6 c7 c8 c9 c10 c11 hfz
  have HN := Lib.hid (anewRW HA3.out)
  go_wp2_with fail
  refine HN.out.mono ?_
  rintro e z1 ⟨rfl, hP, hC⟩
  have HP4 := Lib.hid hP
  have HC4 := Lib.hid (HC3.out.trans hC)
  clear hP hC HN
  cases hu : r.v.st == 2
  all_goals
    go_wp2_with fail
    go_ret2
    exact ⟨_, _, 1, true, rfl, by rw [tickR_2 t2 t3]; exact HP4.out, HC4.out⟩

set_option maxHeartbeats 8000000 in
set_option maxRecDepth 100000 in
theorem tickRBa {q : Nat} {r : Rf} {w : World} (hA : RA q r w) (ts : r.said = true) (te : (r.ss == r.every) = true) (t2 : (r.v.st == 0) = true) : Calls Try.prog 22 #[.pointer (some ⟨q, 0, none⟩)] w (TkR q r w) := by
  unfold TkR
  have c0 := BlkAt.cell hA (j := 0) rfl; have c1 := BlkAt.cell hA (j := 1) rfl; have c2 := BlkAt.cell hA (j := 2) rfl; have c3 := BlkAt.cell hA (j := 3) rfl; have c4 := BlkAt.cell hA (j := 4) rfl; have c5 := BlkAt.cell hA (j := 5) rfl; have c6 := BlkAt.cell hA (j := 6) rfl; have c7 := BlkAt.cell hA (j := 7) rfl; have c8 := BlkAt.cell hA (j := 8) rfl; have c9 := BlkAt.cell hA (j := 9) rfl; have c10 := BlkAt.cell hA (j := 10) rfl; have c11 := BlkAt.cell hA (j := 11) rfl
  have HA := Lib.hid hA
  rw [ts] at c10
  have HSD := Lib.hid ts
  clear hA ts
  go_enter Try.func22, Try.ntmps22
  go_wp2_with fail
  go_quiet (fail)
  obtain ⟨x2, hx2⟩ : ∃ W, W = World.drewN w nq := ⟨_, rfl⟩
  rw [← hx2]
  have HA2 : Hid (RA q r x2) := by
    have : RA q r x2 := by rw [hx2]; exact HA.out
    exact this
  have HC2 : Hid (Chg [q] w x2) := by
    have : Chg [q] w x2 := by rw [hx2]; exact (Chg.refl [q] w).dr _
    exact this
  clear hx2 c0 c1 c2 c3 c4 c5 c6 c7 c8 c9 c10 c11
  have hA := HA2.out
  have hfz : ∀ j, x2.frozen? ⟨q, j, none⟩ = false := fun j => BlkAt.frozen hA j
  have c0 := BlkAt.cell hA (j := 0) rfl; have c1 := BlkAt.cell hA (j := 1) rfl; have c2 := BlkAt.cell hA (j := 2) rfl; have c3 := BlkAt.cell hA (j := 3) rfl; have c4 := BlkAt.cell hA (j := 4) rfl; have c5 := BlkAt.cell hA (j := 5) rfl; have c6 := BlkAt.cell hA (j := 6) rfl; have c7 := BlkAt.cell hA (j := 7) rfl; have c8 := BlkAt.cell hA (j := 8) rfl; have c9 := BlkAt.cell hA (j := 9) rfl; have c10 := BlkAt.cell hA (j := 10) rfl; have c11 := BlkAt.cell hA (j := 11) rfl
  rw [HSD.out] at c10
  clear hA
  have HAR : Hid (RA q ⟨r.node, r.every, r.dead, r.v, 1, true, r.sil⟩ (((x2.setCell ⟨q, 10, none⟩ (.bool true)).setCell ⟨q, 9, none⟩ (.int .i64 0)).setCell ⟨q, 9, none⟩ (.int .i64 1))) := by
    have : RA q ⟨r.node, r.every, r.dead, r.v, 1, true, r.sil⟩ (((x2.setCell ⟨q, 10, none⟩ (.bool true)).setCell ⟨q, 9, none⟩ (.int .i64 0)).setCell ⟨q, 9, none⟩ (.int .i64 1)) := by
      have := ((BlkAt.set HA2.out 10 (.bool true)).set 9 (.int .i64 0)).set 9 (.int .i64 1)
      exact this
    exact this
  have HCR : Hid (Chg [q] w (((x2.setCell ⟨q, 10, none⟩ (.bool true)).setCell ⟨q, 9, none⟩ (.int .i64 0)).setCell ⟨q, 9, none⟩ (.int .i64 1))) := by
    have : Chg [q] w (((x2.setCell ⟨q, 10, none⟩ (.bool true)).setCell ⟨q, 9, none⟩ (.int .i64 0)).setCell ⟨q, 9, none⟩ (.int .i64 1)) := ((HC2.out.set (by simp) 10 _).set (by simp) 9 _).set (by simp) 9 _
    exact this
  go_wp2_with fail
  go_ret2
  exact ⟨_, _, 1, true, rfl, by rw [tickR_0 t2]; exact HAR.out, HCR.out⟩

set_option maxHeartbeats 8000000 in
set_option maxRecDepth 100000 in
theorem tickRBb {q : Nat} {r : Rf} {w : World} (hA : RA q r w) (ts : r.said = true) (te : (r.ss == r.every) = true) (t2 : (r.v.st == 0) = false) (t3 : decide (wrap64 (r.sil + 1) < r.dead) = true) : Calls Try.prog 22 #[.pointer (some ⟨q, 0, none⟩)] w (TkR q r w) := by
  unfold TkR
  have c0 := BlkAt.cell hA (j := 0) rfl; have c1 := BlkAt.cell hA (j := 1) rfl; have c2 := BlkAt.cell hA (j := 2) rfl; have c3 := BlkAt.cell hA (j := 3) rfl; have c4 := BlkAt.cell hA (j := 4) rfl; have c5 := BlkAt.cell hA (j := 5) rfl; have c6 := BlkAt.cell hA (j := 6) rfl; have c7 := BlkAt.cell hA (j := 7) rfl; have c8 := BlkAt.cell hA (j := 8) rfl; have c9 := BlkAt.cell hA (j := 9) rfl; have c10 := BlkAt.cell hA (j := 10) rfl; have c11 := BlkAt.cell hA (j := 11) rfl
  have HA := Lib.hid hA
  rw [ts] at c10
  have HSD := Lib.hid ts
  clear hA ts
  go_enter Try.func22, Try.ntmps22
  go_wp2_with fail
  go_quiet (fail)
  obtain ⟨x2, hx2⟩ : ∃ W, W = World.drewN w nq := ⟨_, rfl⟩
  rw [← hx2]
  have HA2 : Hid (RA q r x2) := by
    have : RA q r x2 := by rw [hx2]; exact HA.out
    exact this
  have HC2 : Hid (Chg [q] w x2) := by
    have : Chg [q] w x2 := by rw [hx2]; exact (Chg.refl [q] w).dr _
    exact this
  clear hx2 c0 c1 c2 c3 c4 c5 c6 c7 c8 c9 c10 c11
  have hA := HA2.out
  have hfz : ∀ j, x2.frozen? ⟨q, j, none⟩ = false := fun j => BlkAt.frozen hA j
  have c0 := BlkAt.cell hA (j := 0) rfl; have c1 := BlkAt.cell hA (j := 1) rfl; have c2 := BlkAt.cell hA (j := 2) rfl; have c3 := BlkAt.cell hA (j := 3) rfl; have c4 := BlkAt.cell hA (j := 4) rfl; have c5 := BlkAt.cell hA (j := 5) rfl; have c6 := BlkAt.cell hA (j := 6) rfl; have c7 := BlkAt.cell hA (j := 7) rfl; have c8 := BlkAt.cell hA (j := 8) rfl; have c9 := BlkAt.cell hA (j := 9) rfl; have c10 := BlkAt.cell hA (j := 10) rfl; have c11 := BlkAt.cell hA (j := 11) rfl
  rw [HSD.out] at c10
  clear hA
  have HAR : Hid (RA q ⟨r.node, r.every, r.dead, r.v, 1, true, r.sil⟩ (((x2.setCell ⟨q, 10, none⟩ (.bool true)).setCell ⟨q, 9, none⟩ (.int .i64 0)).setCell ⟨q, 9, none⟩ (.int .i64 1))) := by
    have : RA q ⟨r.node, r.every, r.dead, r.v, 1, true, r.sil⟩ (((x2.setCell ⟨q, 10, none⟩ (.bool true)).setCell ⟨q, 9, none⟩ (.int .i64 0)).setCell ⟨q, 9, none⟩ (.int .i64 1)) := by
      have := ((BlkAt.set HA2.out 10 (.bool true)).set 9 (.int .i64 0)).set 9 (.int .i64 1)
      exact this
    exact this
  have HCR : Hid (Chg [q] w (((x2.setCell ⟨q, 10, none⟩ (.bool true)).setCell ⟨q, 9, none⟩ (.int .i64 0)).setCell ⟨q, 9, none⟩ (.int .i64 1))) := by
    have : Chg [q] w (((x2.setCell ⟨q, 10, none⟩ (.bool true)).setCell ⟨q, 9, none⟩ (.int .i64 0)).setCell ⟨q, 9, none⟩ (.int .i64 1)) := ((HC2.out.set (by simp) 10 _).set (by simp) 9 _).set (by simp) 9 _
    exact this
  go_wp2_with fail
  go_quiet (fail)
  obtain ⟨x3, hx3⟩ : ∃ W, W = World.drewN ((((x2.setCell ⟨q, 10, none⟩ (.bool true)).setCell ⟨q, 9, none⟩ (.int .i64 0)).setCell ⟨q, 9, none⟩ (.int .i64 1)).setCell ⟨q, 11, none⟩ (.int .i64 (wrap64 (r.sil + 1)))) nq := ⟨_, rfl⟩
  rw [← hx3]
  have HA3 : Hid (RA q ⟨r.node, r.every, r.dead, r.v, 1, true, wrap64 (r.sil + 1)⟩ x3) := by
    have : RA q ⟨r.node, r.every, r.dead, r.v, 1, true, wrap64 (r.sil + 1)⟩ x3 := by rw [hx3]; exact HAR.out.setSl.dr _
    exact this
  have HC3 : Hid (Chg [q] w x3) := by
    have : Chg [q] w x3 := by rw [hx3]; exact (HCR.out.set (by simp) 11 _).dr _
    exact this
  clear hx3 c0 c1 c2 c3 c4 c5 c6 c7 c8 c9 c10 c11 hfz
  go_wp2_with fail
  go_ret2
  exact ⟨_, _, 1, true, rfl, by rw [tickR_1 t2 t3]; exact HA3.out, HC3.out⟩

set_option maxHeartbeats 8000000 in
set_option maxRecDepth 100000 in
theorem tickRBc {q : Nat} {r : Rf} {w : World} (hA : RA q r w) (ts : r.said = true) (te : (r.ss == r.every) = true) (t2 : (r.v.st == 0) = false) (t3 : decide (wrap64 (r.sil + 1) < r.dead) = false) : Calls Try.prog 22 #[.pointer (some ⟨q, 0, none⟩)] w (TkR q r w) := by
  unfold TkR
  have c0 := BlkAt.cell hA (j := 0) rfl; have c1 := BlkAt.cell hA (j := 1) rfl; have c2 := BlkAt.cell hA (j := 2) rfl; have c3 := BlkAt.cell hA (j := 3) rfl; have c4 := BlkAt.cell hA (j := 4) rfl; have c5 := BlkAt.cell hA (j := 5) rfl; have c6 := BlkAt.cell hA (j := 6) rfl; have c7 := BlkAt.cell hA (j := 7) rfl; have c8 := BlkAt.cell hA (j := 8) rfl; have c9 := BlkAt.cell hA (j := 9) rfl; have c10 := BlkAt.cell hA (j := 10) rfl; have c11 := BlkAt.cell hA (j := 11) rfl
  have HA := Lib.hid hA
  rw [ts] at c10
  have HSD := Lib.hid ts
  clear hA ts
  go_enter Try.func22, Try.ntmps22
  go_wp2_with fail
  go_quiet (fail)
  obtain ⟨x2, hx2⟩ : ∃ W, W = World.drewN w nq := ⟨_, rfl⟩
  rw [← hx2]
  have HA2 : Hid (RA q r x2) := by
    have : RA q r x2 := by rw [hx2]; exact HA.out
    exact this
  have HC2 : Hid (Chg [q] w x2) := by
    have : Chg [q] w x2 := by rw [hx2]; exact (Chg.refl [q] w).dr _
    exact this
  clear hx2 c0 c1 c2 c3 c4 c5 c6 c7 c8 c9 c10 c11
  have hA := HA2.out
  have hfz : ∀ j, x2.frozen? ⟨q, j, none⟩ = false := fun j => BlkAt.frozen hA j
  have c0 := BlkAt.cell hA (j := 0) rfl; have c1 := BlkAt.cell hA (j := 1) rfl; have c2 := BlkAt.cell hA (j := 2) rfl; have c3 := BlkAt.cell hA (j := 3) rfl; have c4 := BlkAt.cell hA (j := 4) rfl; have c5 := BlkAt.cell hA (j := 5) rfl; have c6 := BlkAt.cell hA (j := 6) rfl; have c7 := BlkAt.cell hA (j := 7) rfl; have c8 := BlkAt.cell hA (j := 8) rfl; have c9 := BlkAt.cell hA (j := 9) rfl; have c10 := BlkAt.cell hA (j := 10) rfl; have c11 := BlkAt.cell hA (j := 11) rfl
  rw [HSD.out] at c10
  clear hA
  have HAR : Hid (RA q ⟨r.node, r.every, r.dead, r.v, 1, true, r.sil⟩ (((x2.setCell ⟨q, 10, none⟩ (.bool true)).setCell ⟨q, 9, none⟩ (.int .i64 0)).setCell ⟨q, 9, none⟩ (.int .i64 1))) := by
    have : RA q ⟨r.node, r.every, r.dead, r.v, 1, true, r.sil⟩ (((x2.setCell ⟨q, 10, none⟩ (.bool true)).setCell ⟨q, 9, none⟩ (.int .i64 0)).setCell ⟨q, 9, none⟩ (.int .i64 1)) := by
      have := ((BlkAt.set HA2.out 10 (.bool true)).set 9 (.int .i64 0)).set 9 (.int .i64 1)
      exact this
    exact this
  have HCR : Hid (Chg [q] w (((x2.setCell ⟨q, 10, none⟩ (.bool true)).setCell ⟨q, 9, none⟩ (.int .i64 0)).setCell ⟨q, 9, none⟩ (.int .i64 1))) := by
    have : Chg [q] w (((x2.setCell ⟨q, 10, none⟩ (.bool true)).setCell ⟨q, 9, none⟩ (.int .i64 0)).setCell ⟨q, 9, none⟩ (.int .i64 1)) := ((HC2.out.set (by simp) 10 _).set (by simp) 9 _).set (by simp) 9 _
    exact this
  go_wp2_with fail
  go_quiet (fail)
  obtain ⟨x3, hx3⟩ : ∃ W, W = World.drewN ((((x2.setCell ⟨q, 10, none⟩ (.bool true)).setCell ⟨q, 9, none⟩ (.int .i64 0)).setCell ⟨q, 9, none⟩ (.int .i64 1)).setCell ⟨q, 11, none⟩ (.int .i64 (wrap64 (r.sil + 1)))) nq := ⟨_, rfl⟩
  rw [← hx3]
  have HA3 : Hid (RA q ⟨r.node, r.every, r.dead, r.v, 1, true, wrap64 (r.sil + 1)⟩ x3) := by
    have : RA q ⟨r.node, r.every, r.dead, r.v, 1, true, wrap64 (r.sil + 1)⟩ x3 := by rw [hx3]; exact HAR.out.setSl.dr _
    exact this
  have HC3 : Hid (Chg [q] w x3) := by
    have : Chg [q] w x3 := by rw [hx3]; exact (HCR.out.set (by simp) 11 _).dr _
    exact this
  clear hx3 c0 c1 c2 c3 c4 c5 c6 c7 c8 c9 c10 c11 hfz
  have HN := Lib.hid (anewRW HA3.out)
  go_wp2_with fail
  refine HN.out.mono ?_
  rintro e z1 ⟨rfl, hP, hC⟩
  have HP4 := Lib.hid hP
  have HC4 := Lib.hid (HC3.out.trans hC)
  clear hP hC HN
  cases hu : r.v.st == 2
  all_goals
    go_wp2_with fail
    go_ret2
    exact ⟨_, _, 1, true, rfl, by rw [tickR_2 t2 t3]; exact HP4.out, HC4.out⟩

set_option maxHeartbeats 8000000 in
set_option maxRecDepth 100000 in
theorem tickRCa {q : Nat} {r : Rf} {w : World} (hA : RA q r w) (ts : r.said = true) (te : (r.ss == r.every) = false) (t2 : (r.v.st == 0) = true) : Calls Try.prog 22 #[.pointer (some ⟨q, 0, none⟩)] w (TkR q r w) := by
  unfold TkR
  have c0 := BlkAt.cell hA (j := 0) rfl; have c1 := BlkAt.cell hA (j := 1) rfl; have c2 := BlkAt.cell hA (j := 2) rfl; have c3 := BlkAt.cell hA (j := 3) rfl; have c4 := BlkAt.cell hA (j := 4) rfl; have c5 := BlkAt.cell hA (j := 5) rfl; have c6 := BlkAt.cell hA (j := 6) rfl; have c7 := BlkAt.cell hA (j := 7) rfl; have c8 := BlkAt.cell hA (j := 8) rfl; have c9 := BlkAt.cell hA (j := 9) rfl; have c10 := BlkAt.cell hA (j := 10) rfl; have c11 := BlkAt.cell hA (j := 11) rfl
  have HA := Lib.hid hA
  rw [ts] at c10
  have HSD := Lib.hid ts
  clear hA ts
  go_enter Try.func22, Try.ntmps22
  go_wp2_with fail
  go_quiet (fail)
  obtain ⟨x2, hx2⟩ : ∃ W, W = World.drewN w nq := ⟨_, rfl⟩
  rw [← hx2]
  have HA2 : Hid (RA q r x2) := by
    have : RA q r x2 := by rw [hx2]; exact HA.out
    exact this
  have HC2 : Hid (Chg [q] w x2) := by
    have : Chg [q] w x2 := by rw [hx2]; exact (Chg.refl [q] w).dr _
    exact this
  clear hx2 c0 c1 c2 c3 c4 c5 c6 c7 c8 c9 c10 c11
  have hA := HA2.out
  have hfz : ∀ j, x2.frozen? ⟨q, j, none⟩ = false := fun j => BlkAt.frozen hA j
  have c0 := BlkAt.cell hA (j := 0) rfl; have c1 := BlkAt.cell hA (j := 1) rfl; have c2 := BlkAt.cell hA (j := 2) rfl; have c3 := BlkAt.cell hA (j := 3) rfl; have c4 := BlkAt.cell hA (j := 4) rfl; have c5 := BlkAt.cell hA (j := 5) rfl; have c6 := BlkAt.cell hA (j := 6) rfl; have c7 := BlkAt.cell hA (j := 7) rfl; have c8 := BlkAt.cell hA (j := 8) rfl; have c9 := BlkAt.cell hA (j := 9) rfl; have c10 := BlkAt.cell hA (j := 10) rfl; have c11 := BlkAt.cell hA (j := 11) rfl
  rw [HSD.out] at c10
  clear hA
  have HAR : Hid (RA q ⟨r.node, r.every, r.dead, r.v, (wrap64 (r.ss + 1)), true, r.sil⟩ (x2.setCell ⟨q, 9, none⟩ (.int .i64 (wrap64 (r.ss + 1))))) := by
    have : RA q ⟨r.node, r.every, r.dead, r.v, (wrap64 (r.ss + 1)), true, r.sil⟩ (x2.setCell ⟨q, 9, none⟩ (.int .i64 (wrap64 (r.ss + 1)))) := by
      have := BlkAt.set HA2.out 9 (.int .i64 (wrap64 (r.ss + 1)))
      rw [HSD.out] at this
      exact this
    exact this
  have HCR : Hid (Chg [q] w (x2.setCell ⟨q, 9, none⟩ (.int .i64 (wrap64 (r.ss + 1))))) := by
    have : Chg [q] w (x2.setCell ⟨q, 9, none⟩ (.int .i64 (wrap64 (r.ss + 1)))) := HC2.out.set (by simp) 9 _
    exact this
  go_wp2_with fail
  go_ret2
  exact ⟨_, _, (wrap64 (r.ss + 1)), true, rfl, by rw [tickR_0 t2]; exact HAR.out, HCR.out⟩

set_option maxHeartbeats 8000000 in
set_option maxRecDepth 100000 in
theorem tickRCb {q : Nat} {r : Rf} {w : World} (hA : RA q r w) (ts : r.said = true) (te : (r.ss == r.every) = false) (t2 : (r.v.st == 0) = false) (t3 : decide (wrap64 (r.sil + 1) < r.dead) = true) : Calls Try.prog 22 #[.pointer (some ⟨q, 0, none⟩)] w (TkR q r w) := by
  unfold TkR
  have c0 := BlkAt.cell hA (j := 0) rfl; have c1 := BlkAt.cell hA (j := 1) rfl; have c2 := BlkAt.cell hA (j := 2) rfl; have c3 := BlkAt.cell hA (j := 3) rfl; have c4 := BlkAt.cell hA (j := 4) rfl; have c5 := BlkAt.cell hA (j := 5) rfl; have c6 := BlkAt.cell hA (j := 6) rfl; have c7 := BlkAt.cell hA (j := 7) rfl; have c8 := BlkAt.cell hA (j := 8) rfl; have c9 := BlkAt.cell hA (j := 9) rfl; have c10 := BlkAt.cell hA (j := 10) rfl; have c11 := BlkAt.cell hA (j := 11) rfl
  have HA := Lib.hid hA
  rw [ts] at c10
  have HSD := Lib.hid ts
  clear hA ts
  go_enter Try.func22, Try.ntmps22
  go_wp2_with fail
  go_quiet (fail)
  obtain ⟨x2, hx2⟩ : ∃ W, W = World.drewN w nq := ⟨_, rfl⟩
  rw [← hx2]
  have HA2 : Hid (RA q r x2) := by
    have : RA q r x2 := by rw [hx2]; exact HA.out
    exact this
  have HC2 : Hid (Chg [q] w x2) := by
    have : Chg [q] w x2 := by rw [hx2]; exact (Chg.refl [q] w).dr _
    exact this
  clear hx2 c0 c1 c2 c3 c4 c5 c6 c7 c8 c9 c10 c11
  have hA := HA2.out
  have hfz : ∀ j, x2.frozen? ⟨q, j, none⟩ = false := fun j => BlkAt.frozen hA j
  have c0 := BlkAt.cell hA (j := 0) rfl; have c1 := BlkAt.cell hA (j := 1) rfl; have c2 := BlkAt.cell hA (j := 2) rfl; have c3 := BlkAt.cell hA (j := 3) rfl; have c4 := BlkAt.cell hA (j := 4) rfl; have c5 := BlkAt.cell hA (j := 5) rfl; have c6 := BlkAt.cell hA (j := 6) rfl; have c7 := BlkAt.cell hA (j := 7) rfl; have c8 := BlkAt.cell hA (j := 8) rfl; have c9 := BlkAt.cell hA (j := 9) rfl; have c10 := BlkAt.cell hA (j := 10) rfl; have c11 := BlkAt.cell hA (j := 11) rfl
  rw [HSD.out] at c10
  clear hA
  have HAR : Hid (RA q ⟨r.node, r.every, r.dead, r.v, (wrap64 (r.ss + 1)), true, r.sil⟩ (x2.setCell ⟨q, 9, none⟩ (.int .i64 (wrap64 (r.ss + 1))))) := by
    have : RA q ⟨r.node, r.every, r.dead, r.v, (wrap64 (r.ss + 1)), true, r.sil⟩ (x2.setCell ⟨q, 9, none⟩ (.int .i64 (wrap64 (r.ss + 1)))) := by
      have := BlkAt.set HA2.out 9 (.int .i64 (wrap64 (r.ss + 1)))
      rw [HSD.out] at this
      exact this
    exact this
  have HCR : Hid (Chg [q] w (x2.setCell ⟨q, 9, none⟩ (.int .i64 (wrap64 (r.ss + 1))))) := by
    have : Chg [q] w (x2.setCell ⟨q, 9, none⟩ (.int .i64 (wrap64 (r.ss + 1)))) := HC2.out.set (by simp) 9 _
    exact this
  go_wp2_with fail
  go_quiet (fail)
  obtain ⟨x3, hx3⟩ : ∃ W, W = World.drewN ((x2.setCell ⟨q, 9, none⟩ (.int .i64 (wrap64 (r.ss + 1)))).setCell ⟨q, 11, none⟩ (.int .i64 (wrap64 (r.sil + 1)))) nq := ⟨_, rfl⟩
  rw [← hx3]
  have HA3 : Hid (RA q ⟨r.node, r.every, r.dead, r.v, (wrap64 (r.ss + 1)), true, wrap64 (r.sil + 1)⟩ x3) := by
    have : RA q ⟨r.node, r.every, r.dead, r.v, (wrap64 (r.ss + 1)), true, wrap64 (r.sil + 1)⟩ x3 := by rw [hx3]; exact HAR.out.setSl.dr _
    exact this
  have HC3 : Hid (Chg [q] w x3) := by
    have : Chg [q] w x3 := by rw [hx3]; exact (HCR.out.set (by simp) 11 _).dr _
    exact this
  clear hx3 c0 c1 c2 c3 c4 c5 c6 c7 c8 c9 c10 c11 hfz
  go_wp2_with fail
  go_ret2
  exact ⟨_, _, (wrap64 (r.ss + 1)), true, rfl, by rw [tickR_1 t2 t3]; exact HA3.out, HC3.out⟩

set_option maxHeartbeats 8000000 in
set_option maxRecDepth 100000 in
theorem tickRCc {q : Nat} {r : Rf} {w : World} (hA : RA q r w) (ts : r.said = true) (te : (r.ss == r.every) = false) (t2 : (r.v.st == 0) = false) (t3 : decide (wrap64 (r.sil + 1) < r.dead) = false) : Calls Try.prog 22 #[.pointer (some ⟨q, 0, none⟩)] w (TkR q r w) := by
  unfold TkR
  have c0 := BlkAt.cell hA (j := 0) rfl; have c1 := BlkAt.cell hA (j := 1) rfl; have c2 := BlkAt.cell hA (j := 2) rfl; have c3 := BlkAt.cell hA (j := 3) rfl; have c4 := BlkAt.cell hA (j := 4) rfl; have c5 := BlkAt.cell hA (j := 5) rfl; have c6 := BlkAt.cell hA (j := 6) rfl; have c7 := BlkAt.cell hA (j := 7) rfl; have c8 := BlkAt.cell hA (j := 8) rfl; have c9 := BlkAt.cell hA (j := 9) rfl; have c10 := BlkAt.cell hA (j := 10) rfl; have c11 := BlkAt.cell hA (j := 11) rfl
  have HA := Lib.hid hA
  rw [ts] at c10
  have HSD := Lib.hid ts
  clear hA ts
  go_enter Try.func22, Try.ntmps22
  go_wp2_with fail
  go_quiet (fail)
  obtain ⟨x2, hx2⟩ : ∃ W, W = World.drewN w nq := ⟨_, rfl⟩
  rw [← hx2]
  have HA2 : Hid (RA q r x2) := by
    have : RA q r x2 := by rw [hx2]; exact HA.out
    exact this
  have HC2 : Hid (Chg [q] w x2) := by
    have : Chg [q] w x2 := by rw [hx2]; exact (Chg.refl [q] w).dr _
    exact this
  clear hx2 c0 c1 c2 c3 c4 c5 c6 c7 c8 c9 c10 c11
  have hA := HA2.out
  have hfz : ∀ j, x2.frozen? ⟨q, j, none⟩ = false := fun j => BlkAt.frozen hA j
  have c0 := BlkAt.cell hA (j := 0) rfl; have c1 := BlkAt.cell hA (j := 1) rfl; have c2 := BlkAt.cell hA (j := 2) rfl; have c3 := BlkAt.cell hA (j := 3) rfl; have c4 := BlkAt.cell hA (j := 4) rfl; have c5 := BlkAt.cell hA (j := 5) rfl; have c6 := BlkAt.cell hA (j := 6) rfl; have c7 := BlkAt.cell hA (j := 7) rfl; have c8 := BlkAt.cell hA (j := 8) rfl; have c9 := BlkAt.cell hA (j := 9) rfl; have c10 := BlkAt.cell hA (j := 10) rfl; have c11 := BlkAt.cell hA (j := 11) rfl
  rw [HSD.out] at c10
  clear hA
  have HAR : Hid (RA q ⟨r.node, r.every, r.dead, r.v, (wrap64 (r.ss + 1)), true, r.sil⟩ (x2.setCell ⟨q, 9, none⟩ (.int .i64 (wrap64 (r.ss + 1))))) := by
    have : RA q ⟨r.node, r.every, r.dead, r.v, (wrap64 (r.ss + 1)), true, r.sil⟩ (x2.setCell ⟨q, 9, none⟩ (.int .i64 (wrap64 (r.ss + 1)))) := by
      have := BlkAt.set HA2.out 9 (.int .i64 (wrap64 (r.ss + 1)))
      rw [HSD.out] at this
      exact this
    exact this
  have HCR : Hid (Chg [q] w (x2.setCell ⟨q, 9, none⟩ (.int .i64 (wrap64 (r.ss + 1))))) := by
    have : Chg [q] w (x2.setCell ⟨q, 9, none⟩ (.int .i64 (wrap64 (r.ss + 1)))) := HC2.out.set (by simp) 9 _
    exact this
  go_wp2_with fail
  go_quiet (fail)
  obtain ⟨x3, hx3⟩ : ∃ W, W = World.drewN ((x2.setCell ⟨q, 9, none⟩ (.int .i64 (wrap64 (r.ss + 1)))).setCell ⟨q, 11, none⟩ (.int .i64 (wrap64 (r.sil + 1)))) nq := ⟨_, rfl⟩
  rw [← hx3]
  have HA3 : Hid (RA q ⟨r.node, r.every, r.dead, r.v, (wrap64 (r.ss + 1)), true, wrap64 (r.sil + 1)⟩ x3) := by
    have : RA q ⟨r.node, r.every, r.dead, r.v, (wrap64 (r.ss + 1)), true, wrap64 (r.sil + 1)⟩ x3 := by rw [hx3]; exact HAR.out.setSl.dr _
    exact this
  have HC3 : Hid (Chg [q] w x3) := by
    have : Chg [q] w x3 := by rw [hx3]; exact (HCR.out.set (by simp) 11 _).dr _
    exact this
  clear hx3 c0 c1 c2 c3 c4 c5 c6 c7 c8 c9 c10 c11 hfz
  have HN := Lib.hid (anewRW HA3.out)
  go_wp2_with fail
  refine HN.out.mono ?_
  rintro e z1 ⟨rfl, hP, hC⟩
  have HP4 := Lib.hid hP
  have HC4 := Lib.hid (HC3.out.trans hC)
  clear hP hC HN
  cases hu : r.v.st == 2
  all_goals
    go_wp2_with fail
    go_ret2
    exact ⟨_, _, (wrap64 (r.ss + 1)), true, rfl, by rw [tickR_2 t2 t3]; exact HP4.out, HC4.out⟩

end Go.Proofs.Ytcedninipbafaaa

namespace Go.Proofs.Ytcedninipbafaaa
open Go.RowKit

def Row (w : World) (v : Value) (xs : List Value) : Prop :=
  (xs = [] ∧ ∃ a c, v = .slice a 0 c ∧ (a = none → c = 0)) ∨
  ∃ b o c, v = .slice (some ⟨b, o, none⟩) xs.length c ∧ b < w.heap.size ∧ xs.length ≤ c ∧ ∀ j x, xs[j]? = some x → w.cell? ⟨b, o + j, none⟩ = some x
theorem Row.later {w w' : World} {v : Value} {l : List Value} (h : Row w v l) (hb : Below w.heap.size w w') : Row w' v l := by
  rcases h with h | ⟨b, o, c, h1, h2, hp, h3⟩
  · exact .inl h
  · exact .inr ⟨b, o, c, h1, Nat.lt_of_lt_of_le h2 hb.size, hp, fun j x hx => cell_later hb (h3 j x hx)⟩
theorem Row.form {w : World} {v : Value} {l : List Value} (h : Row w v l) : ∃ a c, v = .slice a l.length c := by
  rcases h with ⟨rfl, a, c, rfl, _⟩ | ⟨b, o, c, rfl, _, _⟩
  · exact ⟨a, c, rfl⟩
  · exact ⟨_, c, rfl⟩
theorem Row.at {w : World} {a : Option Addr} {n c : Nat} {l : List Value} (h : Row w (.slice a n c) l) {i : Nat} {x : Value} (hi : l[i]? = some x) :
    ∃ b o, a = some ⟨b, o, none⟩ ∧ b < w.heap.size ∧ w.cell? ⟨b, o + i, none⟩ = some x := by
  rcases h with ⟨rfl, _⟩ | ⟨b, o, c', h1, h2, _, h3⟩
  · simp at hi
  · simp only [Value.slice.injEq] at h1
    exact ⟨b, o, h1.1, h2, h3 i _ hi⟩
theorem Row.of_own {w : World} {base : Nat} {e : TypeId} {v : Value} {n : Nat} {l : List Value} (h : w.ownsRow base e 1 v n l) : Row w v l := by
  obtain ⟨hl, h0 | ⟨g, cap, cur, rfl, hb, hg, hn, hm, hc, ht⟩⟩ := h
  · obtain ⟨rfl, rfl⟩ := h0
    simp at hl
    subst hl
    exact .inl ⟨rfl, _, _, rfl, fun _ => rfl⟩
  · have hln : l.length = n := by simpa using hl
    subst hln
    refine .inr ⟨g, 0, cap, rfl, ?_, hn, fun j x hx => ?_⟩
    · rcases Nat.lt_or_ge g w.heap.size with h1 | h1
      · exact h1
      · rw [Array.getElem?_eq_none h1] at hg; cases hg
    · rw [Nat.zero_add, cell_of_row w g j cur e (0, 0) hg]
      have hj : j < l.length := (List.getElem?_eq_some_iff.1 hx).1
      have : l[j]? = some x := hx
      rw [← ht, List.getElem?_take, if_pos (by omega)] at this
      simpa using this
theorem Row.of_bytes {w : World} {v : Value} {l : List UInt8} (h : Bytes w v l) : Row w v (bv l) := by
  rcases h with ⟨rfl, a, c, rfl, h1⟩ | ⟨b, o, c, rfl, h2, hp, h3⟩
  · exact .inl ⟨rfl, a, c, rfl, h1⟩
  · refine .inr ⟨b, o, c, by simp [bv], h2, by simpa [bv] using hp, fun j x hx => ?_⟩
    simp only [bv, List.getElem?_map, Option.map_eq_some_iff] at hx
    obtain ⟨y, hy, rfl⟩ := hx
    exact h3 j y hy
theorem ownsRow_later {w w' : World} {B : Nat} {e : TypeId} {s n : Nat} {v : Value} {xs : List Value} (h : w.ownsRow B e s v n xs) (hb : Below w.heap.size w w') : w'.ownsRow B e s v n xs := by
  obtain ⟨hl, h0 | ⟨g, cap, cur, rfl, hb1, hg, hn, hm, hc, ht⟩⟩ := h
  · exact ⟨hl, .inl h0⟩
  · refine ⟨hl, .inr ⟨g, cap, cur, rfl, hb1, ?_, hn, hm, hc, ht⟩⟩
    rw [hb.block g ?_]
    · exact hg
    · rcases Nat.lt_or_ge g w.heap.size with h1 | h1
      · exact h1
      · rw [Array.getElem?_eq_none h1] at hg; cases hg
def iv (l : List Int) : List Value := l.map fun z => .int .i64 z
theorem iv_at {zs : List Int} {k : Nat} (h : k < zs.length) : (iv zs)[k]? = some (.int .i64 zs[k]) := by simp [iv, h]
end Go.Proofs.Ytcedninipbafaaa
