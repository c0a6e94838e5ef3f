/- The walk of the law FrameSessions. -/
import Derived.Test.YtcahfapffhcceaaZ11
import Derived.Test.YtcahfapffhcceaaZ12

set_option linter.unusedSimpArgs false
set_option linter.unusedVariables false
namespace Go.Proofs.Ytcahfapffhcceaa
open Go.RowKit
attribute [local go_sem ↓] Go.wp_at_zero Go.wp_at_succ

/-- One that goes the other way. -/
def Fr.turn (f : Fr) : Fr := ⟨f.k, f.n, f.tb, f.tt, f.mb, f.mt, f.s, f.a⟩
theorem may_turn {f : Fr} {B : List UInt8} (h : mayF f B = true) (hk : (f.k != 1) = true) : mayF f.turn B = true := by
  obtain ⟨h1, h2⟩ := may_tags h hk
  unfold mayF at h ⊢
  simp only [Bool.and_eq_true, Bool.not_eq_true'] at h
  obtain ⟨g1, g2, g3, g4, g5, g6⟩ := h
  have e : namB f.turn B = true := by
    unfold namB at g6 ⊢
    have e1 : noneB f.turn.tb f.turn.tt = false := h1
    rw [h2] at g6
    rw [e1]
    exact g6
  rw [e]
  show (decide (1 ≤ f.n) && (decide (f.n ≤ 16) && (tagB f.tb f.tt && (tagB f.mb f.mt && (!noneB f.tb f.tt && true))))) = true
  rw [g1, g2, g3, g4, h2]; rfl
theorem ses_of {f : Fr} {B : List UInt8} {a b c d : Nat} (h : sesF f B a b c d = true) : mayF f B = true ∧ (f.k != 1) = true ∧ (f.mb = c ∧ f.mt = d) ∧ f.tb = a ∧ f.tt = b := by
  unfold sesF at h
  simp only [Bool.and_eq_true] at h
  obtain ⟨h1, h2, h3, h4⟩ := h
  exact ⟨h1, h2, sameT_iff.1 h3, sameT_iff.1 h4⟩
theorem ses_turn {f : Fr} {B : List UInt8} {a b c d : Nat} (h : sesF f B a b c d = true) : sesF f.turn B c d a b = true ∧ tagB a b = true ∧ tagB c d = true := by
  obtain ⟨h1, h2, ⟨h3, h4⟩, h5, h6⟩ := ses_of h
  have e := may_turn h1 h2
  refine ⟨?_, ?_, ?_⟩
  · unfold sesF
    rw [e]
    show (true && ((f.k != 1) && (sameT f.tb f.tt a b && sameT f.mb f.mt c d))) = true
    rw [h2, sameT_iff.2 ⟨h3, h4⟩, sameT_iff.2 ⟨h5, h6⟩]; rfl
  · unfold mayF at h1; simp only [Bool.and_eq_true] at h1; rw [← h5, ← h6]; exact h1.2.2.2.1
  · unfold mayF at h1; simp only [Bool.and_eq_true] at h1; rw [← h3, ← h4]; exact h1.2.2.1
set_option maxHeartbeats 16000000 in
set_option maxRecDepth 100000 in
theorem hs_long (f : Fr) (a : Option Addr) (c m x1 y1 x2 y2 x3 y3 x4 y4 : Nat) (w : World) (h : (5000 : Int) < m) :
    Calls Try.prog 6 #[.agg #[.int .i64 f.k, .int .i64 f.n, .int .u64 (f.mb : Nat), .int .u64 (f.mt : Nat), .int .u64 (f.tb : Nat), .int .u64 (f.tt : Nat), .int .u64 (f.s : Nat), .int .u64 (f.a : Nat), .slice a m c], .agg #[.int .u64 (x1 : Nat), .int .u64 (y1 : Nat)], .agg #[.int .u64 (x2 : Nat), .int .u64 (y2 : Nat)], .agg #[.int .u64 (x3 : Nat), .int .u64 (y3 : Nat)], .agg #[.int .u64 (x4 : Nat), .int .u64 (y4 : Nat)]] w fun e w' => e = .returned (.bool true) ∧ Below w.heap.size w w' := by
  obtain ⟨wz, hwz⟩ : ∃ wz, wz = (((((w.alloc (.cells #[.int .i64 f.k, .int .i64 f.n, .int .u64 (f.mb : Nat), .int .u64 (f.mt : Nat), .int .u64 (f.tb : Nat), .int .u64 (f.tt : Nat), .int .u64 (f.s : Nat), .int .u64 (f.a : Nat), .slice a m c] 28)).alloc (.cells #[.int .u64 (x1 : Nat), .int .u64 (y1 : Nat)] 25)).alloc (.cells #[.int .u64 (x2 : Nat), .int .u64 (y2 : Nat)] 25)).alloc (.cells #[.int .u64 (x3 : Nat), .int .u64 (y3 : Nat)] 25)).alloc (.cells #[.int .u64 (x4 : Nat), .int .u64 (y4 : Nat)] 25)) := ⟨_, rfl⟩
  have HB := Lib.hid (show Below w.heap.size w wz by rw [hwz]; go_grown)
  have HF := Lib.hid (show BlkAt 28 (w.heap.size) [.int .i64 f.k, .int .i64 f.n, .int .u64 (f.mb : Nat), .int .u64 (f.mt : Nat), .int .u64 (f.tb : Nat), .int .u64 (f.tt : Nat), .int .u64 (f.s : Nat), .int .u64 (f.a : Nat), .slice a m c] wz by
    have h9 := BlkAt.new (t := 28) w [.int .i64 f.k, .int .i64 f.n, .int .u64 (f.mb : Nat), .int .u64 (f.mt : Nat), .int .u64 (f.tb : Nat), .int .u64 (f.tt : Nat), .int .u64 (f.s : Nat), .int .u64 (f.a : Nat), .slice a m c]
    have h9 := h9.later (ba1 _ (.cells #[.int .u64 (x1 : Nat), .int .u64 (y1 : Nat)] 25))
    have h9 := h9.later (ba1 _ (.cells #[.int .u64 (x2 : Nat), .int .u64 (y2 : Nat)] 25))
    have h9 := h9.later (ba1 _ (.cells #[.int .u64 (x3 : Nat), .int .u64 (y3 : Nat)] 25))
    have h9 := h9.later (ba1 _ (.cells #[.int .u64 (x4 : Nat), .int .u64 (y4 : Nat)] 25))
    rw [hwz]; simpa using h9)
  have H1 := Lib.hid (show BlkAt 25 (w.heap.size + 1) [.int .u64 (x1 : Nat), .int .u64 (y1 : Nat)] wz by
    have h9 := BlkAt.new (t := 25) (w.alloc (.cells #[.int .i64 f.k, .int .i64 f.n, .int .u64 (f.mb : Nat), .int .u64 (f.mt : Nat), .int .u64 (f.tb : Nat), .int .u64 (f.tt : Nat), .int .u64 (f.s : Nat), .int .u64 (f.a : Nat), .slice a m c] 28)) [.int .u64 (x1 : Nat), .int .u64 (y1 : Nat)]
    have h9 := h9.later (ba1 _ (.cells #[.int .u64 (x2 : Nat), .int .u64 (y2 : Nat)] 25))
    have h9 := h9.later (ba1 _ (.cells #[.int .u64 (x3 : Nat), .int .u64 (y3 : Nat)] 25))
    have h9 := h9.later (ba1 _ (.cells #[.int .u64 (x4 : Nat), .int .u64 (y4 : Nat)] 25))
    rw [hwz]; simpa using h9)
  have H2 := Lib.hid (show BlkAt 25 (w.heap.size + 1 + 1) [.int .u64 (x2 : Nat), .int .u64 (y2 : Nat)] wz by
    have h9 := BlkAt.new (t := 25) ((w.alloc (.cells #[.int .i64 f.k, .int .i64 f.n, .int .u64 (f.mb : Nat), .int .u64 (f.mt : Nat), .int .u64 (f.tb : Nat), .int .u64 (f.tt : Nat), .int .u64 (f.s : Nat), .int .u64 (f.a : Nat), .slice a m c] 28)).alloc (.cells #[.int .u64 (x1 : Nat), .int .u64 (y1 : Nat)] 25)) [.int .u64 (x2 : Nat), .int .u64 (y2 : Nat)]
    have h9 := h9.later (ba1 _ (.cells #[.int .u64 (x3 : Nat), .int .u64 (y3 : Nat)] 25))
    have h9 := h9.later (ba1 _ (.cells #[.int .u64 (x4 : Nat), .int .u64 (y4 : Nat)] 25))
    rw [hwz]; simpa using h9)
  have H3 := Lib.hid (show BlkAt 25 (w.heap.size + 1 + 1 + 1) [.int .u64 (x3 : Nat), .int .u64 (y3 : Nat)] wz by
    have h9 := BlkAt.new (t := 25) (((w.alloc (.cells #[.int .i64 f.k, .int .i64 f.n, .int .u64 (f.mb : Nat), .int .u64 (f.mt : Nat), .int .u64 (f.tb : Nat), .int .u64 (f.tt : Nat), .int .u64 (f.s : Nat), .int .u64 (f.a : Nat), .slice a m c] 28)).alloc (.cells #[.int .u64 (x1 : Nat), .int .u64 (y1 : Nat)] 25)).alloc (.cells #[.int .u64 (x2 : Nat), .int .u64 (y2 : Nat)] 25)) [.int .u64 (x3 : Nat), .int .u64 (y3 : Nat)]
    have h9 := h9.later (ba1 _ (.cells #[.int .u64 (x4 : Nat), .int .u64 (y4 : Nat)] 25))
    rw [hwz]; simpa using h9)
  have H4 := Lib.hid (show BlkAt 25 (w.heap.size + 1 + 1 + 1 + 1) [.int .u64 (x4 : Nat), .int .u64 (y4 : Nat)] wz by
    have h9 := BlkAt.new (t := 25) ((((w.alloc (.cells #[.int .i64 f.k, .int .i64 f.n, .int .u64 (f.mb : Nat), .int .u64 (f.mt : Nat), .int .u64 (f.tb : Nat), .int .u64 (f.tt : Nat), .int .u64 (f.s : Nat), .int .u64 (f.a : Nat), .slice a m c] 28)).alloc (.cells #[.int .u64 (x1 : Nat), .int .u64 (y1 : Nat)] 25)).alloc (.cells #[.int .u64 (x2 : Nat), .int .u64 (y2 : Nat)] 25)).alloc (.cells #[.int .u64 (x3 : Nat), .int .u64 (y3 : Nat)] 25)) [.int .u64 (x4 : Nat), .int .u64 (y4 : Nat)]
    rw [hwz]; simpa using h9)
  go_enter Try.func6, Try.ntmps6
  go_wp2_with fail
  rw [← hwz]
  clear hwz
  have c0 := BlkAt.cell HF.out (j := 0) rfl
  have c1 := BlkAt.cell HF.out (j := 1) rfl
  have c2 := BlkAt.cell HF.out (j := 2) rfl
  have c3 := BlkAt.cell HF.out (j := 3) rfl
  have c4 := BlkAt.cell HF.out (j := 4) rfl
  have c5 := BlkAt.cell HF.out (j := 5) rfl
  have c6 := BlkAt.cell HF.out (j := 6) rfl
  have c7 := BlkAt.cell HF.out (j := 7) rfl
  have c8 := BlkAt.cell HF.out (j := 8) rfl
  go_wp2_with fail
  refine (known6_any _).mono ?_
  rintro e w1 ⟨rfl, hb⟩
  have HB := Lib.hid (below_of HB.out hb)
  go_wp2_with fail
  go_ret
  exact ⟨rfl, HB.out⟩
set_option maxHeartbeats 16000000 in
set_option maxRecDepth 100000 in
theorem hs_tt (f : Fr) (a : Option Addr) (c m x1 y1 x2 y2 : Nat) (B : List UInt8) (w : World) (hm : m = B.length) (hB : Bytes w (.slice a B.length c) B) (hl : B.length ≤ 5000) (h1 : sesF f B x1 y1 x2 y2 = true) (h2 : sesF f B x1 y1 x2 y2 = true) :
    Calls Try.prog 6 #[.agg #[.int .i64 f.k, .int .i64 f.n, .int .u64 (f.mb : Nat), .int .u64 (f.mt : Nat), .int .u64 (f.tb : Nat), .int .u64 (f.tt : Nat), .int .u64 (f.s : Nat), .int .u64 (f.a : Nat), .slice a m c], .agg #[.int .u64 (x1 : Nat), .int .u64 (y1 : Nat)], .agg #[.int .u64 (x2 : Nat), .int .u64 (y2 : Nat)], .agg #[.int .u64 (x1 : Nat), .int .u64 (y1 : Nat)], .agg #[.int .u64 (x2 : Nat), .int .u64 (y2 : Nat)]] w fun e w' => e = .returned (.bool true) ∧ Below w.heap.size w w' := by
  obtain ⟨wz, hwz⟩ : ∃ wz, wz = (((((w.alloc (.cells #[.int .i64 f.k, .int .i64 f.n, .int .u64 (f.mb : Nat), .int .u64 (f.mt : Nat), .int .u64 (f.tb : Nat), .int .u64 (f.tt : Nat), .int .u64 (f.s : Nat), .int .u64 (f.a : Nat), .slice a m c] 28)).alloc (.cells #[.int .u64 (x1 : Nat), .int .u64 (y1 : Nat)] 25)).alloc (.cells #[.int .u64 (x2 : Nat), .int .u64 (y2 : Nat)] 25)).alloc (.cells #[.int .u64 (x1 : Nat), .int .u64 (y1 : Nat)] 25)).alloc (.cells #[.int .u64 (x2 : Nat), .int .u64 (y2 : Nat)] 25)) := ⟨_, rfl⟩
  have HB := Lib.hid (show Below w.heap.size w wz by rw [hwz]; go_grown)
  have HF := Lib.hid (show BlkAt 28 (w.heap.size) [.int .i64 f.k, .int .i64 f.n, .int .u64 (f.mb : Nat), .int .u64 (f.mt : Nat), .int .u64 (f.tb : Nat), .int .u64 (f.tt : Nat), .int .u64 (f.s : Nat), .int .u64 (f.a : Nat), .slice a m c] wz by
    have h9 := BlkAt.new (t := 28) w [.int .i64 f.k, .int .i64 f.n, .int .u64 (f.mb : Nat), .int .u64 (f.mt : Nat), .int .u64 (f.tb : Nat), .int .u64 (f.tt : Nat), .int .u64 (f.s : Nat), .int .u64 (f.a : Nat), .slice a m c]
    have h9 := h9.later (ba1 _ (.cells #[.int .u64 (x1 : Nat), .int .u64 (y1 : Nat)] 25))
    have h9 := h9.later (ba1 _ (.cells #[.int .u64 (x2 : Nat), .int .u64 (y2 : Nat)] 25))
    have h9 := h9.later (ba1 _ (.cells #[.int .u64 (x1 : Nat), .int .u64 (y1 : Nat)] 25))
    have h9 := h9.later (ba1 _ (.cells #[.int .u64 (x2 : Nat), .int .u64 (y2 : Nat)] 25))
    rw [hwz]; simpa using h9)
  have H1 := Lib.hid (show BlkAt 25 (w.heap.size + 1) [.int .u64 (x1 : Nat), .int .u64 (y1 : Nat)] wz by
    have h9 := BlkAt.new (t := 25) (w.alloc (.cells #[.int .i64 f.k, .int .i64 f.n, .int .u64 (f.mb : Nat), .int .u64 (f.mt : Nat), .int .u64 (f.tb : Nat), .int .u64 (f.tt : Nat), .int .u64 (f.s : Nat), .int .u64 (f.a : Nat), .slice a m c] 28)) [.int .u64 (x1 : Nat), .int .u64 (y1 : Nat)]
    have h9 := h9.later (ba1 _ (.cells #[.int .u64 (x2 : Nat), .int .u64 (y2 : Nat)] 25))
    have h9 := h9.later (ba1 _ (.cells #[.int .u64 (x1 : Nat), .int .u64 (y1 : Nat)] 25))
    have h9 := h9.later (ba1 _ (.cells #[.int .u64 (x2 : Nat), .int .u64 (y2 : Nat)] 25))
    rw [hwz]; simpa using h9)
  have H2 := Lib.hid (show BlkAt 25 (w.heap.size + 1 + 1) [.int .u64 (x2 : Nat), .int .u64 (y2 : Nat)] wz by
    have h9 := BlkAt.new (t := 25) ((w.alloc (.cells #[.int .i64 f.k, .int .i64 f.n, .int .u64 (f.mb : Nat), .int .u64 (f.mt : Nat), .int .u64 (f.tb : Nat), .int .u64 (f.tt : Nat), .int .u64 (f.s : Nat), .int .u64 (f.a : Nat), .slice a m c] 28)).alloc (.cells #[.int .u64 (x1 : Nat), .int .u64 (y1 : Nat)] 25)) [.int .u64 (x2 : Nat), .int .u64 (y2 : Nat)]
    have h9 := h9.later (ba1 _ (.cells #[.int .u64 (x1 : Nat), .int .u64 (y1 : Nat)] 25))
    have h9 := h9.later (ba1 _ (.cells #[.int .u64 (x2 : Nat), .int .u64 (y2 : Nat)] 25))
    rw [hwz]; simpa using h9)
  have H3 := Lib.hid (show BlkAt 25 (w.heap.size + 1 + 1 + 1) [.int .u64 (x1 : Nat), .int .u64 (y1 : Nat)] wz by
    have h9 := BlkAt.new (t := 25) (((w.alloc (.cells #[.int .i64 f.k, .int .i64 f.n, .int .u64 (f.mb : Nat), .int .u64 (f.mt : Nat), .int .u64 (f.tb : Nat), .int .u64 (f.tt : Nat), .int .u64 (f.s : Nat), .int .u64 (f.a : Nat), .slice a m c] 28)).alloc (.cells #[.int .u64 (x1 : Nat), .int .u64 (y1 : Nat)] 25)).alloc (.cells #[.int .u64 (x2 : Nat), .int .u64 (y2 : Nat)] 25)) [.int .u64 (x1 : Nat), .int .u64 (y1 : Nat)]
    have h9 := h9.later (ba1 _ (.cells #[.int .u64 (x2 : Nat), .int .u64 (y2 : Nat)] 25))
    rw [hwz]; simpa using h9)
  have H4 := Lib.hid (show BlkAt 25 (w.heap.size + 1 + 1 + 1 + 1) [.int .u64 (x2 : Nat), .int .u64 (y2 : Nat)] wz by
    have h9 := BlkAt.new (t := 25) ((((w.alloc (.cells #[.int .i64 f.k, .int .i64 f.n, .int .u64 (f.mb : Nat), .int .u64 (f.mt : Nat), .int .u64 (f.tb : Nat), .int .u64 (f.tt : Nat), .int .u64 (f.s : Nat), .int .u64 (f.a : Nat), .slice a m c] 28)).alloc (.cells #[.int .u64 (x1 : Nat), .int .u64 (y1 : Nat)] 25)).alloc (.cells #[.int .u64 (x2 : Nat), .int .u64 (y2 : Nat)] 25)).alloc (.cells #[.int .u64 (x1 : Nat), .int .u64 (y1 : Nat)] 25)) [.int .u64 (x2 : Nat), .int .u64 (y2 : Nat)]
    rw [hwz]; simpa using h9)
  have HS1 : Hid (∀ W, Below w.heap.size w W → Calls Try.prog 19 #[.agg #[.int .i64 f.k, .int .i64 f.n, .int .u64 (f.mb : Nat), .int .u64 (f.mt : Nat), .int .u64 (f.tb : Nat), .int .u64 (f.tt : Nat), .int .u64 (f.s : Nat), .int .u64 (f.a : Nat), .slice a m c], .agg #[.int .u64 (x1 : Nat), .int .u64 (y1 : Nat)], .agg #[.int .u64 (x2 : Nat), .int .u64 (y2 : Nat)]] W fun e w' => e = .returned (.bool true) ∧ Below W.heap.size W w') := fun W hW => by
    have h9 := sesW_any f _ B x1 y1 x2 y2 W (hB.later hW) (by omega)
    rw [h1, ← hm] at h9; exact h9
  have km : (m : Int) ≤ 5000 := by omega
  have hk1 : (f.k == 1) = false := by have h9 := (ses_of h1).2.1; simpa using h9
  obtain ⟨g1, g2, g3⟩ := ses_turn h1
  have HS5 : Hid (∀ W, Below w.heap.size w W → Calls Try.prog 19 #[.agg #[.int .i64 f.k, .int .i64 f.n, .int .u64 (f.tb : Nat), .int .u64 (f.tt : Nat), .int .u64 (f.mb : Nat), .int .u64 (f.mt : Nat), .int .u64 (f.s : Nat), .int .u64 (f.a : Nat), .slice a m c], .agg #[.int .u64 (x2 : Nat), .int .u64 (y2 : Nat)], .agg #[.int .u64 (x1 : Nat), .int .u64 (y1 : Nat)]] W fun e w' => e = .returned (.bool true) ∧ Below W.heap.size W w') := fun W hW => by
    have h9 := sesW_any f.turn _ B x2 y2 x1 y1 W (hB.later hW) (by omega)
    rw [g1, ← hm] at h9; exact h9
  have HT1 : Hid (∀ W, Calls Try.prog 21 #[.agg #[.int .u64 (x1 : Nat), .int .u64 (y1 : Nat)]] W fun e w' => e = .returned (.bool true) ∧ Below W.heap.size W w') := fun W => by
    have h9 := tagW_any x1 y1 W; rw [g2] at h9; exact h9
  have HT2 : Hid (∀ W, Calls Try.prog 21 #[.agg #[.int .u64 (x2 : Nat), .int .u64 (y2 : Nat)]] W fun e w' => e = .returned (.bool true) ∧ Below W.heap.size W w') := fun W => by
    have h9 := tagW_any x2 y2 W; rw [g3] at h9; exact h9
  clear g1 g2 g3
  clear hm hB hl h1 h2
  go_enter Try.func6, Try.ntmps6
  go_wp2_with fail
  rw [← hwz]
  clear hwz
  have c0 := BlkAt.cell HF.out (j := 0) rfl
  have c1 := BlkAt.cell HF.out (j := 1) rfl
  have c2 := BlkAt.cell HF.out (j := 2) rfl
  have c3 := BlkAt.cell HF.out (j := 3) rfl
  have c4 := BlkAt.cell HF.out (j := 4) rfl
  have c5 := BlkAt.cell HF.out (j := 5) rfl
  have c6 := BlkAt.cell HF.out (j := 6) rfl
  have c7 := BlkAt.cell HF.out (j := 7) rfl
  have c8 := BlkAt.cell HF.out (j := 8) rfl
  go_wp2_with fail
  clear c0 c1 c2 c3 c4 c5 c6 c7 c8
  (refine wp_region_held_drew (S := (fun w' => Below wz.heap.size wz w')) (by kernel_rfl) ?_ (fun hHeld => ?_); (focus ((try dsimp only); (exact (Below.refl _ _).drew))))
  (try dsimp only at hHeld)
  obtain ⟨w0, hw0⟩ : ∃ W0, W0 = World.drew wz := ⟨_, rfl⟩
  rw [← hw0]
  rw [← hw0] at hHeld
  clear hw0
  (refine wpAnyH_take (i := 0) (v := ?_) rfl (by kernel_rfl) (by kernel_rfl) (by kernel_rfl) (fun _ _ _ h => h) (Or.inl ⟨by rfl, ?_⟩) hHeld ?_; rotate_left; (focus (intro w hSw; (try dsimp only at hSw); go_simp; (have hq := BlkAt.later HF.out hSw; have c0 := BlkAt.cell hq (j := 0) rfl; have c1 := BlkAt.cell hq (j := 1) rfl; have c2 := BlkAt.cell hq (j := 2) rfl; have c3 := BlkAt.cell hq (j := 3) rfl; have c4 := BlkAt.cell hq (j := 4) rfl; have c5 := BlkAt.cell hq (j := 5) rfl; have c6 := BlkAt.cell hq (j := 6) rfl; have c7 := BlkAt.cell hq (j := 7) rfl; have c8 := BlkAt.cell hq (j := 8) rfl; go_simp; try with_reducible rfl))); (try simp only [Act.put, List.setIfInBounds_toArray, List.set_cons_zero, List.set_cons_succ, List.getElem_toArray, List.getElem_cons_zero]))
  (refine wpAnyH_take (i := 1) (v := ?_) rfl (by kernel_rfl) (by kernel_rfl) (by kernel_rfl) (fun _ _ _ h => h) (Or.inl ⟨by rfl, ?_⟩) hHeld ?_; rotate_left; (focus (intro w hSw; (try dsimp only at hSw); go_simp; (have hq := BlkAt.later H1.out hSw; have c0 := BlkAt.cell hq (j := 0) rfl; have c1 := BlkAt.cell hq (j := 1) rfl; go_simp; try with_reducible rfl))); (try simp only [Act.put, List.setIfInBounds_toArray, List.set_cons_zero, List.set_cons_succ, List.getElem_toArray, List.getElem_cons_zero, List.getElem_cons_succ]))
  (refine wpAnyH_take (i := 2) (v := ?_) rfl (by kernel_rfl) (by kernel_rfl) (by kernel_rfl) (fun _ _ _ h => h) (Or.inl ⟨by rfl, ?_⟩) hHeld ?_; rotate_left; (focus (intro w hSw; (try dsimp only at hSw); go_simp; (have hq := BlkAt.later H2.out hSw; have c0 := BlkAt.cell hq (j := 0) rfl; have c1 := BlkAt.cell hq (j := 1) rfl; go_simp; try with_reducible rfl))); (try simp only [Act.put, List.setIfInBounds_toArray, List.set_cons_zero, List.set_cons_succ, List.getElem_toArray, List.getElem_cons_zero, List.getElem_cons_succ]))
  (refine wpAnyH_take (i := 4) (v := ?_) rfl (by kernel_rfl) (by kernel_rfl) (by kernel_rfl) (fun _ _ _ h => h) (Or.inl ⟨by rfl, ?_⟩) hHeld ?_; rotate_left; (focus (intro w hSw; (try dsimp only at hSw); go_simp; (have hq := BlkAt.later HF.out hSw; have c0 := BlkAt.cell hq (j := 0) rfl; have c1 := BlkAt.cell hq (j := 1) rfl; have c2 := BlkAt.cell hq (j := 2) rfl; have c3 := BlkAt.cell hq (j := 3) rfl; have c4 := BlkAt.cell hq (j := 4) rfl; have c5 := BlkAt.cell hq (j := 5) rfl; have c6 := BlkAt.cell hq (j := 6) rfl; have c7 := BlkAt.cell hq (j := 7) rfl; have c8 := BlkAt.cell hq (j := 8) rfl; go_simp; try with_reducible rfl))); (try simp only [Act.put, List.setIfInBounds_toArray, List.set_cons_zero, List.set_cons_succ, List.getElem_toArray, List.getElem_cons_zero, List.getElem_cons_succ]))
  (refine wpAnyH_take (i := 5) (v := ?_) rfl (by kernel_rfl) (by kernel_rfl) (by kernel_rfl) (fun _ _ _ h => h) (Or.inl ⟨by rfl, ?_⟩) hHeld ?_; rotate_left; (focus (intro w hSw; (try dsimp only at hSw); go_simp; (have hq := BlkAt.later H3.out hSw; have c0 := BlkAt.cell hq (j := 0) rfl; have c1 := BlkAt.cell hq (j := 1) rfl; go_simp; try with_reducible rfl))); (try simp only [Act.put, List.setIfInBounds_toArray, List.set_cons_zero, List.set_cons_succ, List.getElem_toArray, List.getElem_cons_zero, List.getElem_cons_succ]))
  (refine wpAnyH_take (i := 6) (v := ?_) rfl (by kernel_rfl) (by kernel_rfl) (by kernel_rfl) (fun _ _ _ h => h) (Or.inl ⟨by rfl, ?_⟩) hHeld ?_; rotate_left; (focus (intro w hSw; (try dsimp only at hSw); go_simp; (have hq := BlkAt.later H4.out hSw; have c0 := BlkAt.cell hq (j := 0) rfl; have c1 := BlkAt.cell hq (j := 1) rfl; go_simp; try with_reducible rfl))); (try simp only [Act.put, List.setIfInBounds_toArray, List.set_cons_zero, List.set_cons_succ, List.getElem_toArray, List.getElem_cons_zero, List.getElem_cons_succ]))
  (refine wpAnyH_ready (rs := [3]) (by kernel_rfl) (by simp) ?_; refine AllReadyH.cons rfl (fun K hK => ?_) AllReadyH.nil; go_simp; refine (HS1.out _ (below_of HB.out hHeld)).mono ?_; rintro e y1' ⟨rfl, hs⟩; refine hK.out _ _ ?_ (fun hHeldN => ?_); (focus ((try dsimp only); (exact hHeld.trans (hs.mono hHeld.size)))); clear hK K hHeld; have hHeld := hHeldN; clear hHeldN; (try simp only [Act.put, List.setIfInBounds_toArray, List.set_cons_zero, List.set_cons_succ, List.getElem_toArray, List.getElem_cons_zero, List.getElem_cons_succ]))
  clear hs
  (refine wpAnyH_ready (rs := [7]) (by kernel_rfl) (by simp) ?_; refine AllReadyH.cons rfl (fun K hK => ?_) AllReadyH.nil; go_simp; refine (HS1.out _ (below_of HB.out hHeld)).mono ?_; rintro e y2' ⟨rfl, hs⟩; refine hK.out _ _ ?_ (fun hHeldN => ?_); (focus ((try dsimp only); (exact hHeld.trans (hs.mono hHeld.size)))); clear hK K hHeld; have hHeld := hHeldN; clear hHeldN; (try simp only [Act.put, List.setIfInBounds_toArray, List.set_cons_zero, List.set_cons_succ, List.getElem_toArray, List.getElem_cons_zero, List.getElem_cons_succ]))
  clear hs
  (refine wpAnyH_take (i := 8) (v := ?_) rfl (by kernel_rfl) (by kernel_rfl) (by kernel_rfl) (fun _ _ _ h => h) (Or.inl ⟨by rfl, ?_⟩) hHeld ?_; rotate_left; (focus (intro w hSw; (try dsimp only at hSw); go_simp; try with_reducible rfl)); (try simp only [Act.put, List.setIfInBounds_toArray, List.set_cons_zero, List.set_cons_succ, List.getElem_toArray, List.getElem_cons_zero, List.getElem_cons_succ])); (refine wpAnyH_take (i := 9) (v := ?_) rfl (by kernel_rfl) (by kernel_rfl) (by kernel_rfl) (fun _ _ _ h => h) (Or.inl ⟨by rfl, ?_⟩) hHeld ?_; rotate_left; (focus (intro w hSw; (try dsimp only at hSw); go_simp; try with_reducible rfl)); (try simp only [Act.put, List.setIfInBounds_toArray, List.set_cons_zero, List.set_cons_succ, List.getElem_toArray, List.getElem_cons_zero, List.getElem_cons_succ]))
  refine wpAnyH_done (by kernel_rfl) ?_ _
  have hb := hHeld
  clear hHeld
  have HF := Lib.hid (HF.out.later hb)
  have H1 := Lib.hid (H1.out.later hb)
  have H2 := Lib.hid (H2.out.later hb)
  have H3 := Lib.hid (H3.out.later hb)
  have H4 := Lib.hid (H4.out.later hb)
  have HB := Lib.hid (below_of HB.out hb)
  clear hb
  have c0 := BlkAt.cell HF.out (j := 0) rfl
  have c1 := BlkAt.cell HF.out (j := 1) rfl
  have c2 := BlkAt.cell HF.out (j := 2) rfl
  have c3 := BlkAt.cell HF.out (j := 3) rfl
  have c4 := BlkAt.cell HF.out (j := 4) rfl
  have c5 := BlkAt.cell HF.out (j := 5) rfl
  have c6 := BlkAt.cell HF.out (j := 6) rfl
  have c7 := BlkAt.cell HF.out (j := 7) rfl
  have c8 := BlkAt.cell HF.out (j := 8) rfl
  have d0 := BlkAt.cell H1.out (j := 0) rfl
  have d1 := BlkAt.cell H1.out (j := 1) rfl
  have e0 := BlkAt.cell H2.out (j := 0) rfl
  have e1 := BlkAt.cell H2.out (j := 1) rfl
  have i0 := BlkAt.cell H3.out (j := 0) rfl
  have i1 := BlkAt.cell H3.out (j := 1) rfl
  have j0 := BlkAt.cell H4.out (j := 0) rfl
  have j1 := BlkAt.cell H4.out (j := 1) rfl
  go_wp2_with fail
  obtain ⟨G, hG⟩ : ∃ G, G = y2'.heap.size := ⟨_, rfl⟩
  obtain ⟨wg, hwg⟩ : ∃ W, W = y2'.alloc (.cells #[.int .i64 f.k, .int .i64 f.n, .int .u64 (f.mb : Nat), .int .u64 (f.mt : Nat), .int .u64 (f.tb : Nat), .int .u64 (f.tt : Nat), .int .u64 (f.s : Nat), .int .u64 (f.a : Nat), .slice a m c] 28) := ⟨_, rfl⟩
  have HG := Lib.hid (show BlkAt 28 G [.int .i64 f.k, .int .i64 f.n, .int .u64 (f.mb : Nat), .int .u64 (f.mt : Nat), .int .u64 (f.tb : Nat), .int .u64 (f.tt : Nat), .int .u64 (f.s : Nat), .int .u64 (f.a : Nat), .slice a m c] wg by rw [hwg, hG]; exact BlkAt.new y2' _)
  have hb : Below y2'.heap.size y2' wg := by rw [hwg]; exact ba1 _ _
  have HWG : Hid (w.heap.size + 1 + 1 < G) := by show _ < _; rw [hG]; exact H2.out.lt
  have HFG := HF
  have HF := Lib.hid (HF.out.later hb)
  have H1 := Lib.hid (H1.out.later hb)
  have H2 := Lib.hid (H2.out.later hb)
  have H3 := Lib.hid (H3.out.later hb)
  have H4 := Lib.hid (H4.out.later hb)
  have HB := Lib.hid (below_of HB.out hb)
  clear hb
  clear c0 c1 c2 c3 c4 c5 c6 c7 c8 d0 d1 e0 e1 i0 i1 j0 j1
  rw [← hG, ← hwg]
  clear hG hwg
  have hst : ∀ (W : World) (j : Nat) (x : Value), (Below w.heap.size wg W ∧ BlkAt 28 (w.heap.size) [.int .i64 f.k, .int .i64 f.n, .int .u64 (f.mb : Nat), .int .u64 (f.mt : Nat), .int .u64 (f.tb : Nat), .int .u64 (f.tt : Nat), .int .u64 (f.s : Nat), .int .u64 (f.a : Nat), .slice a m c] W ∧ BlkAt 25 (w.heap.size + 1) [.int .u64 (x1 : Nat), .int .u64 (y1 : Nat)] W ∧ BlkAt 25 (w.heap.size + 1 + 1) [.int .u64 (x2 : Nat), .int .u64 (y2 : Nat)] W) → (Below w.heap.size wg (W.setCell ⟨G, j, none⟩ x) ∧ BlkAt 28 (w.heap.size) [.int .i64 f.k, .int .i64 f.n, .int .u64 (f.mb : Nat), .int .u64 (f.mt : Nat), .int .u64 (f.tb : Nat), .int .u64 (f.tt : Nat), .int .u64 (f.s : Nat), .int .u64 (f.a : Nat), .slice a m c] (W.setCell ⟨G, j, none⟩ x) ∧ BlkAt 25 (w.heap.size + 1) [.int .u64 (x1 : Nat), .int .u64 (y1 : Nat)] (W.setCell ⟨G, j, none⟩ x) ∧ BlkAt 25 (w.heap.size + 1 + 1) [.int .u64 (x2 : Nat), .int .u64 (y2 : Nat)] (W.setCell ⟨G, j, none⟩ x)) := fun W j x ⟨q1, q2, q3, q4⟩ => ⟨q1.setCell (by have := HWG.out; simp; omega) _, BlkAt.other q2 (by have := HWG.out; omega) _ _, BlkAt.other q3 (by have := HWG.out; omega) _ _, BlkAt.other q4 (by have := HWG.out; omega) _ _⟩
  have HST := Lib.hid hst
  clear hst
  (refine wp_region_held_drew (S := (fun w' => Below w.heap.size wg w' ∧ BlkAt 28 (w.heap.size) [.int .i64 f.k, .int .i64 f.n, .int .u64 (f.mb : Nat), .int .u64 (f.mt : Nat), .int .u64 (f.tb : Nat), .int .u64 (f.tt : Nat), .int .u64 (f.s : Nat), .int .u64 (f.a : Nat), .slice a m c] w' ∧ BlkAt 25 (w.heap.size + 1) [.int .u64 (x1 : Nat), .int .u64 (y1 : Nat)] w' ∧ BlkAt 25 (w.heap.size + 1 + 1) [.int .u64 (x2 : Nat), .int .u64 (y2 : Nat)] w')) (by kernel_rfl) ?_ (fun hHeld => ?_); (focus ((try dsimp only); (exact ⟨(Below.refl _ _).drew, HF.out, H1.out, H2.out⟩))))
  (try dsimp only at hHeld)
  obtain ⟨w0, hw0⟩ : ∃ W0, W0 = World.drew wg := ⟨_, rfl⟩
  have HG := Lib.hid (show BlkAt 28 G [.int .i64 f.k, .int .i64 f.n, .int .u64 (f.mb : Nat), .int .u64 (f.mt : Nat), .int .u64 (f.tb : Nat), .int .u64 (f.tt : Nat), .int .u64 (f.s : Nat), .int .u64 (f.a : Nat), .slice a m c] w0 by rw [hw0]; exact HG.out)
  rw [← hw0]
  rw [← hw0] at hHeld
  clear hw0
  (refine wpAnyH_take (i := 0) (v := ?_) rfl (by kernel_rfl) (by kernel_rfl) (by kernel_rfl) (fun _ _ _ h => h) (Or.inl ⟨by rfl, ?_⟩) hHeld ?_; rotate_left; (focus (intro w hSw; (try dsimp only at hSw); go_simp; try with_reducible rfl)); (try simp only [Act.put, List.setIfInBounds_toArray, List.set_cons_zero, List.set_cons_succ, List.getElem_toArray, List.getElem_cons_zero]))
  (refine wpAnyH_take (i := 1) (v := ?_) rfl (by kernel_rfl) (by kernel_rfl) (by kernel_rfl) (fun _ _ _ h => h) (Or.inl ⟨by rfl, ?_⟩) hHeld ?_; rotate_left; (focus (intro w hSw; (try dsimp only at hSw); go_simp; (have c4 := BlkAt.cell hSw.2.1 (j := 4) rfl; have c5 := BlkAt.cell hSw.2.1 (j := 5) rfl; go_simp; try with_reducible rfl))); (try simp only [Act.put, List.setIfInBounds_toArray, List.set_cons_zero, List.set_cons_succ, List.getElem_toArray, List.getElem_cons_zero, List.getElem_cons_succ]))
  (refine wpAnyH_take (i := 2) (v := ?_) rfl (by kernel_rfl) (by kernel_rfl) (by kernel_rfl) (fun _ _ _ h => h) (Or.inl ⟨by rfl, ?_⟩) hHeld ?_; rotate_left; (focus (intro w hSw; (try dsimp only at hSw); go_simp; try with_reducible rfl)); (try simp only [Act.put, List.setIfInBounds_toArray, List.set_cons_zero, List.set_cons_succ, List.getElem_toArray, List.getElem_cons_zero, List.getElem_cons_succ]))
  (refine wpAnyH_take (i := 3) (v := ?_) rfl (by kernel_rfl) (by kernel_rfl) (by kernel_rfl) (fun _ _ _ h => h) (Or.inl ⟨by rfl, ?_⟩) hHeld ?_; rotate_left; (focus (intro w hSw; (try dsimp only at hSw); go_simp; (have c2 := BlkAt.cell hSw.2.1 (j := 2) rfl; have c3 := BlkAt.cell hSw.2.1 (j := 3) rfl; go_simp; try with_reducible rfl))); (try simp only [Act.put, List.setIfInBounds_toArray, List.set_cons_zero, List.set_cons_succ, List.getElem_toArray, List.getElem_cons_zero, List.getElem_cons_succ]))
  (refine wpAnyH_take (i := 4) (v := ?_) rfl (by kernel_rfl) (by kernel_rfl) (by kernel_rfl) (fun _ _ _ h => h) (Or.inl ⟨by rfl, ?_⟩) hHeld ?_; rotate_left; (focus (intro w hSw; (try dsimp only at hSw); go_simp; try with_reducible rfl)); (try simp only [Act.put, List.setIfInBounds_toArray, List.set_cons_zero, List.set_cons_succ, List.getElem_toArray, List.getElem_cons_zero, List.getElem_cons_succ]))
  refine wpAnyH_ready (rs := [5]) (by kernel_rfl) (by simp) ?_
  refine AllReadyH.cons rfl (fun K hK => ?_) AllReadyH.nil
  have g2 := BlkAt.cell HG.out (j := 2) rfl
  have g3 := BlkAt.cell HG.out (j := 3) rfl
  have hfz : ∀ j, w0.frozen? ⟨G, j, none⟩ = false := fun j => BlkAt.frozen HG.out j
  have HG := Lib.hid (show BlkAt 28 G [.int .i64 f.k, .int .i64 f.n, .int .u64 (f.tb : Nat), .int .u64 (f.tt : Nat), .int .u64 (f.tb : Nat), .int .u64 (f.tt : Nat), .int .u64 (f.s : Nat), .int .u64 (f.a : Nat), .slice a m c] _ from (BlkAt.set HG.out 2 (.int .u64 (f.tb : Nat))).set 3 (.int .u64 (f.tt : Nat)))
  have hs1 := HST.out _ 3 (.int .u64 (f.tt : Nat)) (HST.out _ 2 (.int .u64 (f.tb : Nat)) hHeld)
  go_simp
  refine hK.out _ _ hs1 (fun hHeldN => ?_)
  (try simp only [Act.put, List.setIfInBounds_toArray, List.set_cons_zero, List.set_cons_succ, List.getElem_toArray, List.getElem_cons_zero, List.getElem_cons_succ])
  obtain ⟨w6, hw1⟩ : ∃ W, W = ((w0.setCell ⟨G, 2, none⟩ (.int .u64 (f.tb : Nat))).setCell ⟨G, 3, none⟩ (.int .u64 (f.tt : Nat))) := ⟨_, rfl⟩
  rw [← hw1] at HG hHeldN ⊢
  clear hw1 hs1 g2 g3 hfz hHeld hK K
  have hHeld := hHeldN
  clear hHeldN
  (refine wpAnyH_take (i := 6) (v := ?_) rfl (by kernel_rfl) (by kernel_rfl) (by kernel_rfl) (fun _ _ _ h => h) (Or.inl ⟨by rfl, ?_⟩) hHeld ?_; rotate_left; (focus (intro w hSw; (try dsimp only at hSw); go_simp; try with_reducible rfl)); (try simp only [Act.put, List.setIfInBounds_toArray, List.set_cons_zero, List.set_cons_succ, List.getElem_toArray, List.getElem_cons_zero, List.getElem_cons_succ]))
  refine wpAnyH_ready (rs := [7]) (by kernel_rfl) (by simp) ?_
  refine AllReadyH.cons rfl (fun K hK => ?_) AllReadyH.nil
  have g2 := BlkAt.cell HG.out (j := 4) rfl
  have g3 := BlkAt.cell HG.out (j := 5) rfl
  have hfz : ∀ j, w6.frozen? ⟨G, j, none⟩ = false := fun j => BlkAt.frozen HG.out j
  have HG := Lib.hid (show BlkAt 28 G [.int .i64 f.k, .int .i64 f.n, .int .u64 (f.tb : Nat), .int .u64 (f.tt : Nat), .int .u64 (f.mb : Nat), .int .u64 (f.mt : Nat), .int .u64 (f.s : Nat), .int .u64 (f.a : Nat), .slice a m c] _ from (BlkAt.set HG.out 4 (.int .u64 (f.mb : Nat))).set 5 (.int .u64 (f.mt : Nat)))
  have hs1 := HST.out _ 5 (.int .u64 (f.mt : Nat)) (HST.out _ 4 (.int .u64 (f.mb : Nat)) hHeld)
  go_simp
  refine hK.out _ _ hs1 (fun hHeldN => ?_)
  (try simp only [Act.put, List.setIfInBounds_toArray, List.set_cons_zero, List.set_cons_succ, List.getElem_toArray, List.getElem_cons_zero, List.getElem_cons_succ])
  obtain ⟨w7, hw1⟩ : ∃ W, W = ((w6.setCell ⟨G, 4, none⟩ (.int .u64 (f.mb : Nat))).setCell ⟨G, 5, none⟩ (.int .u64 (f.mt : Nat))) := ⟨_, rfl⟩
  rw [← hw1] at HG hHeldN ⊢
  clear hw1 hs1 g2 g3 hfz hHeld hK K
  have hHeld := hHeldN
  clear hHeldN
  refine wpAnyH_done (by kernel_rfl) ?_ _
  obtain ⟨q1, _, q3, q4⟩ := hHeld
  have HB := Lib.hid (HB.out.trans q1)
  have H1 := Lib.hid q3
  have H2 := Lib.hid q4
  clear q1 q3 q4
  have c0 := BlkAt.cell HG.out (j := 0) rfl
  have c1 := BlkAt.cell HG.out (j := 1) rfl
  have c2 := BlkAt.cell HG.out (j := 2) rfl
  have c3 := BlkAt.cell HG.out (j := 3) rfl
  have c4 := BlkAt.cell HG.out (j := 4) rfl
  have c5 := BlkAt.cell HG.out (j := 5) rfl
  have c6 := BlkAt.cell HG.out (j := 6) rfl
  have c7 := BlkAt.cell HG.out (j := 7) rfl
  have c8 := BlkAt.cell HG.out (j := 8) rfl
  have d0 := BlkAt.cell H1.out (j := 0) rfl
  have d1 := BlkAt.cell H1.out (j := 1) rfl
  have e0 := BlkAt.cell H2.out (j := 0) rfl
  have e1 := BlkAt.cell H2.out (j := 1) rfl
  go_wp2_with fail
  refine (HS5.out _ HB.out).mono ?_
  rintro e w8 ⟨rfl, hb⟩
  have HG := Lib.hid (HG.out.later hb)
  have H1 := Lib.hid (H1.out.later hb)
  have H2 := Lib.hid (H2.out.later hb)
  have HB := Lib.hid (below_of HB.out hb)
  clear hb
  clear c0 c1 c2 c3 c4 c5 c6 c7 c8 d0 d1 e0 e1
  have c0 := BlkAt.cell HG.out (j := 0) rfl
  have c1 := BlkAt.cell HG.out (j := 1) rfl
  have c2 := BlkAt.cell HG.out (j := 2) rfl
  have c3 := BlkAt.cell HG.out (j := 3) rfl
  have c4 := BlkAt.cell HG.out (j := 4) rfl
  have c5 := BlkAt.cell HG.out (j := 5) rfl
  have c6 := BlkAt.cell HG.out (j := 6) rfl
  have c7 := BlkAt.cell HG.out (j := 7) rfl
  have c8 := BlkAt.cell HG.out (j := 8) rfl
  have d0 := BlkAt.cell H1.out (j := 0) rfl
  have d1 := BlkAt.cell H1.out (j := 1) rfl
  have e0 := BlkAt.cell H2.out (j := 0) rfl
  have e1 := BlkAt.cell H2.out (j := 1) rfl
  go_wp2_with fail
  refine (HT1.out _).mono ?_
  rintro e w9 ⟨rfl, hb⟩
  have HG := Lib.hid (HG.out.later hb)
  have H1 := Lib.hid (H1.out.later hb)
  have H2 := Lib.hid (H2.out.later hb)
  have HB := Lib.hid (below_of HB.out hb)
  clear hb
  clear c0 c1 c2 c3 c4 c5 c6 c7 c8 d0 d1 e0 e1
  have c0 := BlkAt.cell HG.out (j := 0) rfl
  have c1 := BlkAt.cell HG.out (j := 1) rfl
  have c2 := BlkAt.cell HG.out (j := 2) rfl
  have c3 := BlkAt.cell HG.out (j := 3) rfl
  have c4 := BlkAt.cell HG.out (j := 4) rfl
  have c5 := BlkAt.cell HG.out (j := 5) rfl
  have c6 := BlkAt.cell HG.out (j := 6) rfl
  have c7 := BlkAt.cell HG.out (j := 7) rfl
  have c8 := BlkAt.cell HG.out (j := 8) rfl
  have d0 := BlkAt.cell H1.out (j := 0) rfl
  have d1 := BlkAt.cell H1.out (j := 1) rfl
  have e0 := BlkAt.cell H2.out (j := 0) rfl
  have e1 := BlkAt.cell H2.out (j := 1) rfl
  go_wp2_with fail
  refine (HT2.out _).mono ?_
  rintro e w10 ⟨rfl, hb⟩
  have HB := Lib.hid (below_of HB.out hb)
  clear hb
  clear c0 c1 c2 c3 c4 c5 c6 c7 c8 d0 d1 e0 e1
  go_wp2_with fail
  refine (known6_any _).mono ?_
  rintro e w11 ⟨rfl, hb⟩
  have HB := Lib.hid (below_of HB.out hb)
  clear hb
  go_wp2_with fail
  go_ret
  exact ⟨rfl, HB.out⟩
set_option maxHeartbeats 16000000 in
set_option maxRecDepth 100000 in
theorem hs_tf (f : Fr) (a : Option Addr) (c m x1 y1 x2 y2 x3 y3 x4 y4 : Nat) (B : List UInt8) (w : World) (hm : m = B.length) (hB : Bytes w (.slice a B.length c) B) (hl : B.length ≤ 5000) (h1 : sesF f B x1 y1 x2 y2 = true) (h2 : sesF f B x3 y3 x4 y4 = false) :
    Calls Try.prog 6 #[.agg #[.int .i64 f.k, .int .i64 f.n, .int .u64 (f.mb : Nat), .int .u64 (f.mt : Nat), .int .u64 (f.tb : Nat), .int .u64 (f.tt : Nat), .int .u64 (f.s : Nat), .int .u64 (f.a : Nat), .slice a m c], .agg #[.int .u64 (x1 : Nat), .int .u64 (y1 : Nat)], .agg #[.int .u64 (x2 : Nat), .int .u64 (y2 : Nat)], .agg #[.int .u64 (x3 : Nat), .int .u64 (y3 : Nat)], .agg #[.int .u64 (x4 : Nat), .int .u64 (y4 : Nat)]] w fun e w' => e = .returned (.bool true) ∧ Below w.heap.size w w' := by
  obtain ⟨wz, hwz⟩ : ∃ wz, wz = (((((w.alloc (.cells #[.int .i64 f.k, .int .i64 f.n, .int .u64 (f.mb : Nat), .int .u64 (f.mt : Nat), .int .u64 (f.tb : Nat), .int .u64 (f.tt : Nat), .int .u64 (f.s : Nat), .int .u64 (f.a : Nat), .slice a m c] 28)).alloc (.cells #[.int .u64 (x1 : Nat), .int .u64 (y1 : Nat)] 25)).alloc (.cells #[.int .u64 (x2 : Nat), .int .u64 (y2 : Nat)] 25)).alloc (.cells #[.int .u64 (x3 : Nat), .int .u64 (y3 : Nat)] 25)).alloc (.cells #[.int .u64 (x4 : Nat), .int .u64 (y4 : Nat)] 25)) := ⟨_, rfl⟩
  have HB := Lib.hid (show Below w.heap.size w wz by rw [hwz]; go_grown)
  have HF := Lib.hid (show BlkAt 28 (w.heap.size) [.int .i64 f.k, .int .i64 f.n, .int .u64 (f.mb : Nat), .int .u64 (f.mt : Nat), .int .u64 (f.tb : Nat), .int .u64 (f.tt : Nat), .int .u64 (f.s : Nat), .int .u64 (f.a : Nat), .slice a m c] wz by
    have h9 := BlkAt.new (t := 28) w [.int .i64 f.k, .int .i64 f.n, .int .u64 (f.mb : Nat), .int .u64 (f.mt : Nat), .int .u64 (f.tb : Nat), .int .u64 (f.tt : Nat), .int .u64 (f.s : Nat), .int .u64 (f.a : Nat), .slice a m c]
    have h9 := h9.later (ba1 _ (.cells #[.int .u64 (x1 : Nat), .int .u64 (y1 : Nat)] 25))
    have h9 := h9.later (ba1 _ (.cells #[.int .u64 (x2 : Nat), .int .u64 (y2 : Nat)] 25))
    have h9 := h9.later (ba1 _ (.cells #[.int .u64 (x3 : Nat), .int .u64 (y3 : Nat)] 25))
    have h9 := h9.later (ba1 _ (.cells #[.int .u64 (x4 : Nat), .int .u64 (y4 : Nat)] 25))
    rw [hwz]; simpa using h9)
  have H1 := Lib.hid (show BlkAt 25 (w.heap.size + 1) [.int .u64 (x1 : Nat), .int .u64 (y1 : Nat)] wz by
    have h9 := BlkAt.new (t := 25) (w.alloc (.cells #[.int .i64 f.k, .int .i64 f.n, .int .u64 (f.mb : Nat), .int .u64 (f.mt : Nat), .int .u64 (f.tb : Nat), .int .u64 (f.tt : Nat), .int .u64 (f.s : Nat), .int .u64 (f.a : Nat), .slice a m c] 28)) [.int .u64 (x1 : Nat), .int .u64 (y1 : Nat)]
    have h9 := h9.later (ba1 _ (.cells #[.int .u64 (x2 : Nat), .int .u64 (y2 : Nat)] 25))
    have h9 := h9.later (ba1 _ (.cells #[.int .u64 (x3 : Nat), .int .u64 (y3 : Nat)] 25))
    have h9 := h9.later (ba1 _ (.cells #[.int .u64 (x4 : Nat), .int .u64 (y4 : Nat)] 25))
    rw [hwz]; simpa using h9)
  have H2 := Lib.hid (show BlkAt 25 (w.heap.size + 1 + 1) [.int .u64 (x2 : Nat), .int .u64 (y2 : Nat)] wz by
    have h9 := BlkAt.new (t := 25) ((w.alloc (.cells #[.int .i64 f.k, .int .i64 f.n, .int .u64 (f.mb : Nat), .int .u64 (f.mt : Nat), .int .u64 (f.tb : Nat), .int .u64 (f.tt : Nat), .int .u64 (f.s : Nat), .int .u64 (f.a : Nat), .slice a m c] 28)).alloc (.cells #[.int .u64 (x1 : Nat), .int .u64 (y1 : Nat)] 25)) [.int .u64 (x2 : Nat), .int .u64 (y2 : Nat)]
    have h9 := h9.later (ba1 _ (.cells #[.int .u64 (x3 : Nat), .int .u64 (y3 : Nat)] 25))
    have h9 := h9.later (ba1 _ (.cells #[.int .u64 (x4 : Nat), .int .u64 (y4 : Nat)] 25))
    rw [hwz]; simpa using h9)
  have H3 := Lib.hid (show BlkAt 25 (w.heap.size + 1 + 1 + 1) [.int .u64 (x3 : Nat), .int .u64 (y3 : Nat)] wz by
    have h9 := BlkAt.new (t := 25) (((w.alloc (.cells #[.int .i64 f.k, .int .i64 f.n, .int .u64 (f.mb : Nat), .int .u64 (f.mt : Nat), .int .u64 (f.tb : Nat), .int .u64 (f.tt : Nat), .int .u64 (f.s : Nat), .int .u64 (f.a : Nat), .slice a m c] 28)).alloc (.cells #[.int .u64 (x1 : Nat), .int .u64 (y1 : Nat)] 25)).alloc (.cells #[.int .u64 (x2 : Nat), .int .u64 (y2 : Nat)] 25)) [.int .u64 (x3 : Nat), .int .u64 (y3 : Nat)]
    have h9 := h9.later (ba1 _ (.cells #[.int .u64 (x4 : Nat), .int .u64 (y4 : Nat)] 25))
    rw [hwz]; simpa using h9)
  have H4 := Lib.hid (show BlkAt 25 (w.heap.size + 1 + 1 + 1 + 1) [.int .u64 (x4 : Nat), .int .u64 (y4 : Nat)] wz by
    have h9 := BlkAt.new (t := 25) ((((w.alloc (.cells #[.int .i64 f.k, .int .i64 f.n, .int .u64 (f.mb : Nat), .int .u64 (f.mt : Nat), .int .u64 (f.tb : Nat), .int .u64 (f.tt : Nat), .int .u64 (f.s : Nat), .int .u64 (f.a : Nat), .slice a m c] 28)).alloc (.cells #[.int .u64 (x1 : Nat), .int .u64 (y1 : Nat)] 25)).alloc (.cells #[.int .u64 (x2 : Nat), .int .u64 (y2 : Nat)] 25)).alloc (.cells #[.int .u64 (x3 : Nat), .int .u64 (y3 : Nat)] 25)) [.int .u64 (x4 : Nat), .int .u64 (y4 : Nat)]
    rw [hwz]; simpa using h9)
  have HS1 : Hid (∀ W, Below w.heap.size w W → Calls Try.prog 19 #[.agg #[.int .i64 f.k, .int .i64 f.n, .int .u64 (f.mb : Nat), .int .u64 (f.mt : Nat), .int .u64 (f.tb : Nat), .int .u64 (f.tt : Nat), .int .u64 (f.s : Nat), .int .u64 (f.a : Nat), .slice a m c], .agg #[.int .u64 (x1 : Nat), .int .u64 (y1 : Nat)], .agg #[.int .u64 (x2 : Nat), .int .u64 (y2 : Nat)]] W fun e w' => e = .returned (.bool true) ∧ Below W.heap.size W w') := fun W hW => by
    have h9 := sesW_any f _ B x1 y1 x2 y2 W (hB.later hW) (by omega)
    rw [h1, ← hm] at h9; exact h9
  have HS2 : Hid (∀ W, Below w.heap.size w W → Calls Try.prog 19 #[.agg #[.int .i64 f.k, .int .i64 f.n, .int .u64 (f.mb : Nat), .int .u64 (f.mt : Nat), .int .u64 (f.tb : Nat), .int .u64 (f.tt : Nat), .int .u64 (f.s : Nat), .int .u64 (f.a : Nat), .slice a m c], .agg #[.int .u64 (x3 : Nat), .int .u64 (y3 : Nat)], .agg #[.int .u64 (x4 : Nat), .int .u64 (y4 : Nat)]] W fun e w' => e = .returned (.bool false) ∧ Below W.heap.size W w') := fun W hW => by
    have h9 := sesW_any f _ B x3 y3 x4 y4 W (hB.later hW) (by omega)
    rw [h2, ← hm] at h9; exact h9
  have km : (m : Int) ≤ 5000 := by omega
  have hk1 : (f.k == 1) = false := by have h9 := (ses_of h1).2.1; simpa using h9
  obtain ⟨g1, g2, g3⟩ := ses_turn h1
  have HS5 : Hid (∀ W, Below w.heap.size w W → Calls Try.prog 19 #[.agg #[.int .i64 f.k, .int .i64 f.n, .int .u64 (f.tb : Nat), .int .u64 (f.tt : Nat), .int .u64 (f.mb : Nat), .int .u64 (f.mt : Nat), .int .u64 (f.s : Nat), .int .u64 (f.a : Nat), .slice a m c], .agg #[.int .u64 (x2 : Nat), .int .u64 (y2 : Nat)], .agg #[.int .u64 (x1 : Nat), .int .u64 (y1 : Nat)]] W fun e w' => e = .returned (.bool true) ∧ Below W.heap.size W w') := fun W hW => by
    have h9 := sesW_any f.turn _ B x2 y2 x1 y1 W (hB.later hW) (by omega)
    rw [g1, ← hm] at h9; exact h9
  have HT1 : Hid (∀ W, Calls Try.prog 21 #[.agg #[.int .u64 (x1 : Nat), .int .u64 (y1 : Nat)]] W fun e w' => e = .returned (.bool true) ∧ Below W.heap.size W w') := fun W => by
    have h9 := tagW_any x1 y1 W; rw [g2] at h9; exact h9
  have HT2 : Hid (∀ W, Calls Try.prog 21 #[.agg #[.int .u64 (x2 : Nat), .int .u64 (y2 : Nat)]] W fun e w' => e = .returned (.bool true) ∧ Below W.heap.size W w') := fun W => by
    have h9 := tagW_any x2 y2 W; rw [g3] at h9; exact h9
  clear g1 g2 g3
  clear hm hB hl h1 h2
  go_enter Try.func6, Try.ntmps6
  go_wp2_with fail
  rw [← hwz]
  clear hwz
  have c0 := BlkAt.cell HF.out (j := 0) rfl
  have c1 := BlkAt.cell HF.out (j := 1) rfl
  have c2 := BlkAt.cell HF.out (j := 2) rfl
  have c3 := BlkAt.cell HF.out (j := 3) rfl
  have c4 := BlkAt.cell HF.out (j := 4) rfl
  have c5 := BlkAt.cell HF.out (j := 5) rfl
  have c6 := BlkAt.cell HF.out (j := 6) rfl
  have c7 := BlkAt.cell HF.out (j := 7) rfl
  have c8 := BlkAt.cell HF.out (j := 8) rfl
  go_wp2_with fail
  clear c0 c1 c2 c3 c4 c5 c6 c7 c8
  (refine wp_region_held_drew (S := (fun w' => Below wz.heap.size wz w')) (by kernel_rfl) ?_ (fun hHeld => ?_); (focus ((try dsimp only); (exact (Below.refl _ _).drew))))
  (try dsimp only at hHeld)
  obtain ⟨w0, hw0⟩ : ∃ W0, W0 = World.drew wz := ⟨_, rfl⟩
  rw [← hw0]
  rw [← hw0] at hHeld
  clear hw0
  (refine wpAnyH_take (i := 0) (v := ?_) rfl (by kernel_rfl) (by kernel_rfl) (by kernel_rfl) (fun _ _ _ h => h) (Or.inl ⟨by rfl, ?_⟩) hHeld ?_; rotate_left; (focus (intro w hSw; (try dsimp only at hSw); go_simp; (have hq := BlkAt.later HF.out hSw; have c0 := BlkAt.cell hq (j := 0) rfl; have c1 := BlkAt.cell hq (j := 1) rfl; have c2 := BlkAt.cell hq (j := 2) rfl; have c3 := BlkAt.cell hq (j := 3) rfl; have c4 := BlkAt.cell hq (j := 4) rfl; have c5 := BlkAt.cell hq (j := 5) rfl; have c6 := BlkAt.cell hq (j := 6) rfl; have c7 := BlkAt.cell hq (j := 7) rfl; have c8 := BlkAt.cell hq (j := 8) rfl; go_simp; try with_reducible rfl))); (try simp only [Act.put, List.setIfInBounds_toArray, List.set_cons_zero, List.set_cons_succ, List.getElem_toArray, List.getElem_cons_zero]))
  (refine wpAnyH_take (i := 1) (v := ?_) rfl (by kernel_rfl) (by kernel_rfl) (by kernel_rfl) (fun _ _ _ h => h) (Or.inl ⟨by rfl, ?_⟩) hHeld ?_; rotate_left; (focus (intro w hSw; (try dsimp only at hSw); go_simp; (have hq := BlkAt.later H1.out hSw; have c0 := BlkAt.cell hq (j := 0) rfl; have c1 := BlkAt.cell hq (j := 1) rfl; go_simp; try with_reducible rfl))); (try simp only [Act.put, List.setIfInBounds_toArray, List.set_cons_zero, List.set_cons_succ, List.getElem_toArray, List.getElem_cons_zero, List.getElem_cons_succ]))
  (refine wpAnyH_take (i := 2) (v := ?_) rfl (by kernel_rfl) (by kernel_rfl) (by kernel_rfl) (fun _ _ _ h => h) (Or.inl ⟨by rfl, ?_⟩) hHeld ?_; rotate_left; (focus (intro w hSw; (try dsimp only at hSw); go_simp; (have hq := BlkAt.later H2.out hSw; have c0 := BlkAt.cell hq (j := 0) rfl; have c1 := BlkAt.cell hq (j := 1) rfl; go_simp; try with_reducible rfl))); (try simp only [Act.put, List.setIfInBounds_toArray, List.set_cons_zero, List.set_cons_succ, List.getElem_toArray, List.getElem_cons_zero, List.getElem_cons_succ]))
  (refine wpAnyH_take (i := 4) (v := ?_) rfl (by kernel_rfl) (by kernel_rfl) (by kernel_rfl) (fun _ _ _ h => h) (Or.inl ⟨by rfl, ?_⟩) hHeld ?_; rotate_left; (focus (intro w hSw; (try dsimp only at hSw); go_simp; (have hq := BlkAt.later HF.out hSw; have c0 := BlkAt.cell hq (j := 0) rfl; have c1 := BlkAt.cell hq (j := 1) rfl; have c2 := BlkAt.cell hq (j := 2) rfl; have c3 := BlkAt.cell hq (j := 3) rfl; have c4 := BlkAt.cell hq (j := 4) rfl; have c5 := BlkAt.cell hq (j := 5) rfl; have c6 := BlkAt.cell hq (j := 6) rfl; have c7 := BlkAt.cell hq (j := 7) rfl; have c8 := BlkAt.cell hq (j := 8) rfl; go_simp; try with_reducible rfl))); (try simp only [Act.put, List.setIfInBounds_toArray, List.set_cons_zero, List.set_cons_succ, List.getElem_toArray, List.getElem_cons_zero, List.getElem_cons_succ]))
  (refine wpAnyH_take (i := 5) (v := ?_) rfl (by kernel_rfl) (by kernel_rfl) (by kernel_rfl) (fun _ _ _ h => h) (Or.inl ⟨by rfl, ?_⟩) hHeld ?_; rotate_left; (focus (intro w hSw; (try dsimp only at hSw); go_simp; (have hq := BlkAt.later H3.out hSw; have c0 := BlkAt.cell hq (j := 0) rfl; have c1 := BlkAt.cell hq (j := 1) rfl; go_simp; try with_reducible rfl))); (try simp only [Act.put, List.setIfInBounds_toArray, List.set_cons_zero, List.set_cons_succ, List.getElem_toArray, List.getElem_cons_zero, List.getElem_cons_succ]))
  (refine wpAnyH_take (i := 6) (v := ?_) rfl (by kernel_rfl) (by kernel_rfl) (by kernel_rfl) (fun _ _ _ h => h) (Or.inl ⟨by rfl, ?_⟩) hHeld ?_; rotate_left; (focus (intro w hSw; (try dsimp only at hSw); go_simp; (have hq := BlkAt.later H4.out hSw; have c0 := BlkAt.cell hq (j := 0) rfl; have c1 := BlkAt.cell hq (j := 1) rfl; go_simp; try with_reducible rfl))); (try simp only [Act.put, List.setIfInBounds_toArray, List.set_cons_zero, List.set_cons_succ, List.getElem_toArray, List.getElem_cons_zero, List.getElem_cons_succ]))
  (refine wpAnyH_ready (rs := [3]) (by kernel_rfl) (by simp) ?_; refine AllReadyH.cons rfl (fun K hK => ?_) AllReadyH.nil; go_simp; refine (HS1.out _ (below_of HB.out hHeld)).mono ?_; rintro e y1' ⟨rfl, hs⟩; refine hK.out _ _ ?_ (fun hHeldN => ?_); (focus ((try dsimp only); (exact hHeld.trans (hs.mono hHeld.size)))); clear hK K hHeld; have hHeld := hHeldN; clear hHeldN; (try simp only [Act.put, List.setIfInBounds_toArray, List.set_cons_zero, List.set_cons_succ, List.getElem_toArray, List.getElem_cons_zero, List.getElem_cons_succ]))
  clear hs
  (refine wpAnyH_ready (rs := [7]) (by kernel_rfl) (by simp) ?_; refine AllReadyH.cons rfl (fun K hK => ?_) AllReadyH.nil; go_simp; refine (HS2.out _ (below_of HB.out hHeld)).mono ?_; rintro e y2' ⟨rfl, hs⟩; refine hK.out _ _ ?_ (fun hHeldN => ?_); (focus ((try dsimp only); (exact hHeld.trans (hs.mono hHeld.size)))); clear hK K hHeld; have hHeld := hHeldN; clear hHeldN; (try simp only [Act.put, List.setIfInBounds_toArray, List.set_cons_zero, List.set_cons_succ, List.getElem_toArray, List.getElem_cons_zero, List.getElem_cons_succ]))
  clear hs
  (refine wpAnyH_take (i := 8) (v := ?_) rfl (by kernel_rfl) (by kernel_rfl) (by kernel_rfl) (fun _ _ _ h => h) (Or.inl ⟨by rfl, ?_⟩) hHeld ?_; rotate_left; (focus (intro w hSw; (try dsimp only at hSw); go_simp; try with_reducible rfl)); (try simp only [Act.put, List.setIfInBounds_toArray, List.set_cons_zero, List.set_cons_succ, List.getElem_toArray, List.getElem_cons_zero, List.getElem_cons_succ])); (refine wpAnyH_take (i := 9) (v := ?_) rfl (by kernel_rfl) (by kernel_rfl) (by kernel_rfl) (fun _ _ _ h => h) (Or.inl ⟨by rfl, ?_⟩) hHeld ?_; rotate_left; (focus (intro w hSw; (try dsimp only at hSw); go_simp; try with_reducible rfl)); (try simp only [Act.put, List.setIfInBounds_toArray, List.set_cons_zero, List.set_cons_succ, List.getElem_toArray, List.getElem_cons_zero, List.getElem_cons_succ]))
  refine wpAnyH_done (by kernel_rfl) ?_ _
  have hb := hHeld
  clear hHeld
  have HF := Lib.hid (HF.out.later hb)
  have H1 := Lib.hid (H1.out.later hb)
  have H2 := Lib.hid (H2.out.later hb)
  have H3 := Lib.hid (H3.out.later hb)
  have H4 := Lib.hid (H4.out.later hb)
  have HB := Lib.hid (below_of HB.out hb)
  clear hb
  have c0 := BlkAt.cell HF.out (j := 0) rfl
  have c1 := BlkAt.cell HF.out (j := 1) rfl
  have c2 := BlkAt.cell HF.out (j := 2) rfl
  have c3 := BlkAt.cell HF.out (j := 3) rfl
  have c4 := BlkAt.cell HF.out (j := 4) rfl
  have c5 := BlkAt.cell HF.out (j := 5) rfl
  have c6 := BlkAt.cell HF.out (j := 6) rfl
  have c7 := BlkAt.cell HF.out (j := 7) rfl
  have c8 := BlkAt.cell HF.out (j := 8) rfl
  have d0 := BlkAt.cell H1.out (j := 0) rfl
  have d1 := BlkAt.cell H1.out (j := 1) rfl
  have e0 := BlkAt.cell H2.out (j := 0) rfl
  have e1 := BlkAt.cell H2.out (j := 1) rfl
  have i0 := BlkAt.cell H3.out (j := 0) rfl
  have i1 := BlkAt.cell H3.out (j := 1) rfl
  have j0 := BlkAt.cell H4.out (j := 0) rfl
  have j1 := BlkAt.cell H4.out (j := 1) rfl
  go_wp2_with fail
  obtain ⟨G, hG⟩ : ∃ G, G = y2'.heap.size := ⟨_, rfl⟩
  obtain ⟨wg, hwg⟩ : ∃ W, W = y2'.alloc (.cells #[.int .i64 f.k, .int .i64 f.n, .int .u64 (f.mb : Nat), .int .u64 (f.mt : Nat), .int .u64 (f.tb : Nat), .int .u64 (f.tt : Nat), .int .u64 (f.s : Nat), .int .u64 (f.a : Nat), .slice a m c] 28) := ⟨_, rfl⟩
  have HG := Lib.hid (show BlkAt 28 G [.int .i64 f.k, .int .i64 f.n, .int .u64 (f.mb : Nat), .int .u64 (f.mt : Nat), .int .u64 (f.tb : Nat), .int .u64 (f.tt : Nat), .int .u64 (f.s : Nat), .int .u64 (f.a : Nat), .slice a m c] wg by rw [hwg, hG]; exact BlkAt.new y2' _)
  have hb : Below y2'.heap.size y2' wg := by rw [hwg]; exact ba1 _ _
  have HWG : Hid (w.heap.size + 1 + 1 < G) := by show _ < _; rw [hG]; exact H2.out.lt
  have HFG := HF
  have HF := Lib.hid (HF.out.later hb)
  have H1 := Lib.hid (H1.out.later hb)
  have H2 := Lib.hid (H2.out.later hb)
  have H3 := Lib.hid (H3.out.later hb)
  have H4 := Lib.hid (H4.out.later hb)
  have HB := Lib.hid (below_of HB.out hb)
  clear hb
  clear c0 c1 c2 c3 c4 c5 c6 c7 c8 d0 d1 e0 e1 i0 i1 j0 j1
  rw [← hG, ← hwg]
  clear hG hwg
  have hst : ∀ (W : World) (j : Nat) (x : Value), (Below w.heap.size wg W ∧ BlkAt 28 (w.heap.size) [.int .i64 f.k, .int .i64 f.n, .int .u64 (f.mb : Nat), .int .u64 (f.mt : Nat), .int .u64 (f.tb : Nat), .int .u64 (f.tt : Nat), .int .u64 (f.s : Nat), .int .u64 (f.a : Nat), .slice a m c] W ∧ BlkAt 25 (w.heap.size + 1) [.int .u64 (x1 : Nat), .int .u64 (y1 : Nat)] W ∧ BlkAt 25 (w.heap.size + 1 + 1) [.int .u64 (x2 : Nat), .int .u64 (y2 : Nat)] W) → (Below w.heap.size wg (W.setCell ⟨G, j, none⟩ x) ∧ BlkAt 28 (w.heap.size) [.int .i64 f.k, .int .i64 f.n, .int .u64 (f.mb : Nat), .int .u64 (f.mt : Nat), .int .u64 (f.tb : Nat), .int .u64 (f.tt : Nat), .int .u64 (f.s : Nat), .int .u64 (f.a : Nat), .slice a m c] (W.setCell ⟨G, j, none⟩ x) ∧ BlkAt 25 (w.heap.size + 1) [.int .u64 (x1 : Nat), .int .u64 (y1 : Nat)] (W.setCell ⟨G, j, none⟩ x) ∧ BlkAt 25 (w.heap.size + 1 + 1) [.int .u64 (x2 : Nat), .int .u64 (y2 : Nat)] (W.setCell ⟨G, j, none⟩ x)) := fun W j x ⟨q1, q2, q3, q4⟩ => ⟨q1.setCell (by have := HWG.out; simp; omega) _, BlkAt.other q2 (by have := HWG.out; omega) _ _, BlkAt.other q3 (by have := HWG.out; omega) _ _, BlkAt.other q4 (by have := HWG.out; omega) _ _⟩
  have HST := Lib.hid hst
  clear hst
  (refine wp_region_held_drew (S := (fun w' => Below w.heap.size wg w' ∧ BlkAt 28 (w.heap.size) [.int .i64 f.k, .int .i64 f.n, .int .u64 (f.mb : Nat), .int .u64 (f.mt : Nat), .int .u64 (f.tb : Nat), .int .u64 (f.tt : Nat), .int .u64 (f.s : Nat), .int .u64 (f.a : Nat), .slice a m c] w' ∧ BlkAt 25 (w.heap.size + 1) [.int .u64 (x1 : Nat), .int .u64 (y1 : Nat)] w' ∧ BlkAt 25 (w.heap.size + 1 + 1) [.int .u64 (x2 : Nat), .int .u64 (y2 : Nat)] w')) (by kernel_rfl) ?_ (fun hHeld => ?_); (focus ((try dsimp only); (exact ⟨(Below.refl _ _).drew, HF.out, H1.out, H2.out⟩))))
  (try dsimp only at hHeld)
  obtain ⟨w0, hw0⟩ : ∃ W0, W0 = World.drew wg := ⟨_, rfl⟩
  have HG := Lib.hid (show BlkAt 28 G [.int .i64 f.k, .int .i64 f.n, .int .u64 (f.mb : Nat), .int .u64 (f.mt : Nat), .int .u64 (f.tb : Nat), .int .u64 (f.tt : Nat), .int .u64 (f.s : Nat), .int .u64 (f.a : Nat), .slice a m c] w0 by rw [hw0]; exact HG.out)
  rw [← hw0]
  rw [← hw0] at hHeld
  clear hw0
  (refine wpAnyH_take (i := 0) (v := ?_) rfl (by kernel_rfl) (by kernel_rfl) (by kernel_rfl) (fun _ _ _ h => h) (Or.inl ⟨by rfl, ?_⟩) hHeld ?_; rotate_left; (focus (intro w hSw; (try dsimp only at hSw); go_simp; try with_reducible rfl)); (try simp only [Act.put, List.setIfInBounds_toArray, List.set_cons_zero, List.set_cons_succ, List.getElem_toArray, List.getElem_cons_zero]))
  (refine wpAnyH_take (i := 1) (v := ?_) rfl (by kernel_rfl) (by kernel_rfl) (by kernel_rfl) (fun _ _ _ h => h) (Or.inl ⟨by rfl, ?_⟩) hHeld ?_; rotate_left; (focus (intro w hSw; (try dsimp only at hSw); go_simp; (have c4 := BlkAt.cell hSw.2.1 (j := 4) rfl; have c5 := BlkAt.cell hSw.2.1 (j := 5) rfl; go_simp; try with_reducible rfl))); (try simp only [Act.put, List.setIfInBounds_toArray, List.set_cons_zero, List.set_cons_succ, List.getElem_toArray, List.getElem_cons_zero, List.getElem_cons_succ]))
  (refine wpAnyH_take (i := 2) (v := ?_) rfl (by kernel_rfl) (by kernel_rfl) (by kernel_rfl) (fun _ _ _ h => h) (Or.inl ⟨by rfl, ?_⟩) hHeld ?_; rotate_left; (focus (intro w hSw; (try dsimp only at hSw); go_simp; try with_reducible rfl)); (try simp only [Act.put, List.setIfInBounds_toArray, List.set_cons_zero, List.set_cons_succ, List.getElem_toArray, List.getElem_cons_zero, List.getElem_cons_succ]))
  (refine wpAnyH_take (i := 3) (v := ?_) rfl (by kernel_rfl) (by kernel_rfl) (by kernel_rfl) (fun _ _ _ h => h) (Or.inl ⟨by rfl, ?_⟩) hHeld ?_; rotate_left; (focus (intro w hSw; (try dsimp only at hSw); go_simp; (have c2 := BlkAt.cell hSw.2.1 (j := 2) rfl; have c3 := BlkAt.cell hSw.2.1 (j := 3) rfl; go_simp; try with_reducible rfl))); (try simp only [Act.put, List.setIfInBounds_toArray, List.set_cons_zero, List.set_cons_succ, List.getElem_toArray, List.getElem_cons_zero, List.getElem_cons_succ]))
  (refine wpAnyH_take (i := 4) (v := ?_) rfl (by kernel_rfl) (by kernel_rfl) (by kernel_rfl) (fun _ _ _ h => h) (Or.inl ⟨by rfl, ?_⟩) hHeld ?_; rotate_left; (focus (intro w hSw; (try dsimp only at hSw); go_simp; try with_reducible rfl)); (try simp only [Act.put, List.setIfInBounds_toArray, List.set_cons_zero, List.set_cons_succ, List.getElem_toArray, List.getElem_cons_zero, List.getElem_cons_succ]))
  refine wpAnyH_ready (rs := [5]) (by kernel_rfl) (by simp) ?_
  refine AllReadyH.cons rfl (fun K hK => ?_) AllReadyH.nil
  have g2 := BlkAt.cell HG.out (j := 2) rfl
  have g3 := BlkAt.cell HG.out (j := 3) rfl
  have hfz : ∀ j, w0.frozen? ⟨G, j, none⟩ = false := fun j => BlkAt.frozen HG.out j
  have HG := Lib.hid (show BlkAt 28 G [.int .i64 f.k, .int .i64 f.n, .int .u64 (f.tb : Nat), .int .u64 (f.tt : Nat), .int .u64 (f.tb : Nat), .int .u64 (f.tt : Nat), .int .u64 (f.s : Nat), .int .u64 (f.a : Nat), .slice a m c] _ from (BlkAt.set HG.out 2 (.int .u64 (f.tb : Nat))).set 3 (.int .u64 (f.tt : Nat)))
  have hs1 := HST.out _ 3 (.int .u64 (f.tt : Nat)) (HST.out _ 2 (.int .u64 (f.tb : Nat)) hHeld)
  go_simp
  refine hK.out _ _ hs1 (fun hHeldN => ?_)
  (try simp only [Act.put, List.setIfInBounds_toArray, List.set_cons_zero, List.set_cons_succ, List.getElem_toArray, List.getElem_cons_zero, List.getElem_cons_succ])
  obtain ⟨w6, hw1⟩ : ∃ W, W = ((w0.setCell ⟨G, 2, none⟩ (.int .u64 (f.tb : Nat))).setCell ⟨G, 3, none⟩ (.int .u64 (f.tt : Nat))) := ⟨_, rfl⟩
  rw [← hw1] at HG hHeldN ⊢
  clear hw1 hs1 g2 g3 hfz hHeld hK K
  have hHeld := hHeldN
  clear hHeldN
  (refine wpAnyH_take (i := 6) (v := ?_) rfl (by kernel_rfl) (by kernel_rfl) (by kernel_rfl) (fun _ _ _ h => h) (Or.inl ⟨by rfl, ?_⟩) hHeld ?_; rotate_left; (focus (intro w hSw; (try dsimp only at hSw); go_simp; try with_reducible rfl)); (try simp only [Act.put, List.setIfInBounds_toArray, List.set_cons_zero, List.set_cons_succ, List.getElem_toArray, List.getElem_cons_zero, List.getElem_cons_succ]))
  refine wpAnyH_ready (rs := [7]) (by kernel_rfl) (by simp) ?_
  refine AllReadyH.cons rfl (fun K hK => ?_) AllReadyH.nil
  have g2 := BlkAt.cell HG.out (j := 4) rfl
  have g3 := BlkAt.cell HG.out (j := 5) rfl
  have hfz : ∀ j, w6.frozen? ⟨G, j, none⟩ = false := fun j => BlkAt.frozen HG.out j
  have HG := Lib.hid (show BlkAt 28 G [.int .i64 f.k, .int .i64 f.n, .int .u64 (f.tb : Nat), .int .u64 (f.tt : Nat), .int .u64 (f.mb : Nat), .int .u64 (f.mt : Nat), .int .u64 (f.s : Nat), .int .u64 (f.a : Nat), .slice a m c] _ from (BlkAt.set HG.out 4 (.int .u64 (f.mb : Nat))).set 5 (.int .u64 (f.mt : Nat)))
  have hs1 := HST.out _ 5 (.int .u64 (f.mt : Nat)) (HST.out _ 4 (.int .u64 (f.mb : Nat)) hHeld)
  go_simp
  refine hK.out _ _ hs1 (fun hHeldN => ?_)
  (try simp only [Act.put, List.setIfInBounds_toArray, List.set_cons_zero, List.set_cons_succ, List.getElem_toArray, List.getElem_cons_zero, List.getElem_cons_succ])
  obtain ⟨w7, hw1⟩ : ∃ W, W = ((w6.setCell ⟨G, 4, none⟩ (.int .u64 (f.mb : Nat))).setCell ⟨G, 5, none⟩ (.int .u64 (f.mt : Nat))) := ⟨_, rfl⟩
  rw [← hw1] at HG hHeldN ⊢
  clear hw1 hs1 g2 g3 hfz hHeld hK K
  have hHeld := hHeldN
  clear hHeldN
  refine wpAnyH_done (by kernel_rfl) ?_ _
  obtain ⟨q1, _, q3, q4⟩ := hHeld
  have HB := Lib.hid (HB.out.trans q1)
  have H1 := Lib.hid q3
  have H2 := Lib.hid q4
  clear q1 q3 q4
  have c0 := BlkAt.cell HG.out (j := 0) rfl
  have c1 := BlkAt.cell HG.out (j := 1) rfl
  have c2 := BlkAt.cell HG.out (j := 2) rfl
  have c3 := BlkAt.cell HG.out (j := 3) rfl
  have c4 := BlkAt.cell HG.out (j := 4) rfl
  have c5 := BlkAt.cell HG.out (j := 5) rfl
  have c6 := BlkAt.cell HG.out (j := 6) rfl
  have c7 := BlkAt.cell HG.out (j := 7) rfl
  have c8 := BlkAt.cell HG.out (j := 8) rfl
  have d0 := BlkAt.cell H1.out (j := 0) rfl
  have d1 := BlkAt.cell H1.out (j := 1) rfl
  have e0 := BlkAt.cell H2.out (j := 0) rfl
  have e1 := BlkAt.cell H2.out (j := 1) rfl
  go_wp2_with fail
  refine (HS5.out _ HB.out).mono ?_
  rintro e w8 ⟨rfl, hb⟩
  have HG := Lib.hid (HG.out.later hb)
  have H1 := Lib.hid (H1.out.later hb)
  have H2 := Lib.hid (H2.out.later hb)
  have HB := Lib.hid (below_of HB.out hb)
  clear hb
  clear c0 c1 c2 c3 c4 c5 c6 c7 c8 d0 d1 e0 e1
  have c0 := BlkAt.cell HG.out (j := 0) rfl
  have c1 := BlkAt.cell HG.out (j := 1) rfl
  have c2 := BlkAt.cell HG.out (j := 2) rfl
  have c3 := BlkAt.cell HG.out (j := 3) rfl
  have c4 := BlkAt.cell HG.out (j := 4) rfl
  have c5 := BlkAt.cell HG.out (j := 5) rfl
  have c6 := BlkAt.cell HG.out (j := 6) rfl
  have c7 := BlkAt.cell HG.out (j := 7) rfl
  have c8 := BlkAt.cell HG.out (j := 8) rfl
  have d0 := BlkAt.cell H1.out (j := 0) rfl
  have d1 := BlkAt.cell H1.out (j := 1) rfl
  have e0 := BlkAt.cell H2.out (j := 0) rfl
  have e1 := BlkAt.cell H2.out (j := 1) rfl
  go_wp2_with fail
  refine (HT1.out _).mono ?_
  rintro e w9 ⟨rfl, hb⟩
  have HG := Lib.hid (HG.out.later hb)
  have H1 := Lib.hid (H1.out.later hb)
  have H2 := Lib.hid (H2.out.later hb)
  have HB := Lib.hid (below_of HB.out hb)
  clear hb
  clear c0 c1 c2 c3 c4 c5 c6 c7 c8 d0 d1 e0 e1
  have c0 := BlkAt.cell HG.out (j := 0) rfl
  have c1 := BlkAt.cell HG.out (j := 1) rfl
  have c2 := BlkAt.cell HG.out (j := 2) rfl
  have c3 := BlkAt.cell HG.out (j := 3) rfl
  have c4 := BlkAt.cell HG.out (j := 4) rfl
  have c5 := BlkAt.cell HG.out (j := 5) rfl
  have c6 := BlkAt.cell HG.out (j := 6) rfl
  have c7 := BlkAt.cell HG.out (j := 7) rfl
  have c8 := BlkAt.cell HG.out (j := 8) rfl
  have d0 := BlkAt.cell H1.out (j := 0) rfl
  have d1 := BlkAt.cell H1.out (j := 1) rfl
  have e0 := BlkAt.cell H2.out (j := 0) rfl
  have e1 := BlkAt.cell H2.out (j := 1) rfl
  go_wp2_with fail
  refine (HT2.out _).mono ?_
  rintro e w10 ⟨rfl, hb⟩
  have HB := Lib.hid (below_of HB.out hb)
  clear hb
  clear c0 c1 c2 c3 c4 c5 c6 c7 c8 d0 d1 e0 e1
  go_wp2_with fail
  refine (known6_any _).mono ?_
  rintro e w11 ⟨rfl, hb⟩
  have HB := Lib.hid (below_of HB.out hb)
  clear hb
  go_wp2_with fail
  go_ret
  exact ⟨rfl, HB.out⟩
set_option maxHeartbeats 16000000 in
set_option maxRecDepth 100000 in
theorem hs_ft (f : Fr) (a : Option Addr) (c m x1 y1 x2 y2 x3 y3 x4 y4 : Nat) (B : List UInt8) (w : World) (hm : m = B.length) (hB : Bytes w (.slice a B.length c) B) (hl : B.length ≤ 5000) (h1 : sesF f B x1 y1 x2 y2 = false) (h2 : sesF f B x3 y3 x4 y4 = true) :
    Calls Try.prog 6 #[.agg #[.int .i64 f.k, .int .i64 f.n, .int .u64 (f.mb : Nat), .int .u64 (f.mt : Nat), .int .u64 (f.tb : Nat), .int .u64 (f.tt : Nat), .int .u64 (f.s : Nat), .int .u64 (f.a : Nat), .slice a m c], .agg #[.int .u64 (x1 : Nat), .int .u64 (y1 : Nat)], .agg #[.int .u64 (x2 : Nat), .int .u64 (y2 : Nat)], .agg #[.int .u64 (x3 : Nat), .int .u64 (y3 : Nat)], .agg #[.int .u64 (x4 : Nat), .int .u64 (y4 : Nat)]] w fun e w' => e = .returned (.bool true) ∧ Below w.heap.size w w' := by
  obtain ⟨wz, hwz⟩ : ∃ wz, wz = (((((w.alloc (.cells #[.int .i64 f.k, .int .i64 f.n, .int .u64 (f.mb : Nat), .int .u64 (f.mt : Nat), .int .u64 (f.tb : Nat), .int .u64 (f.tt : Nat), .int .u64 (f.s : Nat), .int .u64 (f.a : Nat), .slice a m c] 28)).alloc (.cells #[.int .u64 (x1 : Nat), .int .u64 (y1 : Nat)] 25)).alloc (.cells #[.int .u64 (x2 : Nat), .int .u64 (y2 : Nat)] 25)).alloc (.cells #[.int .u64 (x3 : Nat), .int .u64 (y3 : Nat)] 25)).alloc (.cells #[.int .u64 (x4 : Nat), .int .u64 (y4 : Nat)] 25)) := ⟨_, rfl⟩
  have HB := Lib.hid (show Below w.heap.size w wz by rw [hwz]; go_grown)
  have HF := Lib.hid (show BlkAt 28 (w.heap.size) [.int .i64 f.k, .int .i64 f.n, .int .u64 (f.mb : Nat), .int .u64 (f.mt : Nat), .int .u64 (f.tb : Nat), .int .u64 (f.tt : Nat), .int .u64 (f.s : Nat), .int .u64 (f.a : Nat), .slice a m c] wz by
    have h9 := BlkAt.new (t := 28) w [.int .i64 f.k, .int .i64 f.n, .int .u64 (f.mb : Nat), .int .u64 (f.mt : Nat), .int .u64 (f.tb : Nat), .int .u64 (f.tt : Nat), .int .u64 (f.s : Nat), .int .u64 (f.a : Nat), .slice a m c]
    have h9 := h9.later (ba1 _ (.cells #[.int .u64 (x1 : Nat), .int .u64 (y1 : Nat)] 25))
    have h9 := h9.later (ba1 _ (.cells #[.int .u64 (x2 : Nat), .int .u64 (y2 : Nat)] 25))
    have h9 := h9.later (ba1 _ (.cells #[.int .u64 (x3 : Nat), .int .u64 (y3 : Nat)] 25))
    have h9 := h9.later (ba1 _ (.cells #[.int .u64 (x4 : Nat), .int .u64 (y4 : Nat)] 25))
    rw [hwz]; simpa using h9)
  have H1 := Lib.hid (show BlkAt 25 (w.heap.size + 1) [.int .u64 (x1 : Nat), .int .u64 (y1 : Nat)] wz by
    have h9 := BlkAt.new (t := 25) (w.alloc (.cells #[.int .i64 f.k, .int .i64 f.n, .int .u64 (f.mb : Nat), .int .u64 (f.mt : Nat), .int .u64 (f.tb : Nat), .int .u64 (f.tt : Nat), .int .u64 (f.s : Nat), .int .u64 (f.a : Nat), .slice a m c] 28)) [.int .u64 (x1 : Nat), .int .u64 (y1 : Nat)]
    have h9 := h9.later (ba1 _ (.cells #[.int .u64 (x2 : Nat), .int .u64 (y2 : Nat)] 25))
    have h9 := h9.later (ba1 _ (.cells #[.int .u64 (x3 : Nat), .int .u64 (y3 : Nat)] 25))
    have h9 := h9.later (ba1 _ (.cells #[.int .u64 (x4 : Nat), .int .u64 (y4 : Nat)] 25))
    rw [hwz]; simpa using h9)
  have H2 := Lib.hid (show BlkAt 25 (w.heap.size + 1 + 1) [.int .u64 (x2 : Nat), .int .u64 (y2 : Nat)] wz by
    have h9 := BlkAt.new (t := 25) ((w.alloc (.cells #[.int .i64 f.k, .int .i64 f.n, .int .u64 (f.mb : Nat), .int .u64 (f.mt : Nat), .int .u64 (f.tb : Nat), .int .u64 (f.tt : Nat), .int .u64 (f.s : Nat), .int .u64 (f.a : Nat), .slice a m c] 28)).alloc (.cells #[.int .u64 (x1 : Nat), .int .u64 (y1 : Nat)] 25)) [.int .u64 (x2 : Nat), .int .u64 (y2 : Nat)]
    have h9 := h9.later (ba1 _ (.cells #[.int .u64 (x3 : Nat), .int .u64 (y3 : Nat)] 25))
    have h9 := h9.later (ba1 _ (.cells #[.int .u64 (x4 : Nat), .int .u64 (y4 : Nat)] 25))
    rw [hwz]; simpa using h9)
  have H3 := Lib.hid (show BlkAt 25 (w.heap.size + 1 + 1 + 1) [.int .u64 (x3 : Nat), .int .u64 (y3 : Nat)] wz by
    have h9 := BlkAt.new (t := 25) (((w.alloc (.cells #[.int .i64 f.k, .int .i64 f.n, .int .u64 (f.mb : Nat), .int .u64 (f.mt : Nat), .int .u64 (f.tb : Nat), .int .u64 (f.tt : Nat), .int .u64 (f.s : Nat), .int .u64 (f.a : Nat), .slice a m c] 28)).alloc (.cells #[.int .u64 (x1 : Nat), .int .u64 (y1 : Nat)] 25)).alloc (.cells #[.int .u64 (x2 : Nat), .int .u64 (y2 : Nat)] 25)) [.int .u64 (x3 : Nat), .int .u64 (y3 : Nat)]
    have h9 := h9.later (ba1 _ (.cells #[.int .u64 (x4 : Nat), .int .u64 (y4 : Nat)] 25))
    rw [hwz]; simpa using h9)
  have H4 := Lib.hid (show BlkAt 25 (w.heap.size + 1 + 1 + 1 + 1) [.int .u64 (x4 : Nat), .int .u64 (y4 : Nat)] wz by
    have h9 := BlkAt.new (t := 25) ((((w.alloc (.cells #[.int .i64 f.k, .int .i64 f.n, .int .u64 (f.mb : Nat), .int .u64 (f.mt : Nat), .int .u64 (f.tb : Nat), .int .u64 (f.tt : Nat), .int .u64 (f.s : Nat), .int .u64 (f.a : Nat), .slice a m c] 28)).alloc (.cells #[.int .u64 (x1 : Nat), .int .u64 (y1 : Nat)] 25)).alloc (.cells #[.int .u64 (x2 : Nat), .int .u64 (y2 : Nat)] 25)).alloc (.cells #[.int .u64 (x3 : Nat), .int .u64 (y3 : Nat)] 25)) [.int .u64 (x4 : Nat), .int .u64 (y4 : Nat)]
    rw [hwz]; simpa using h9)
  have HS1 : Hid (∀ W, Below w.heap.size w W → Calls Try.prog 19 #[.agg #[.int .i64 f.k, .int .i64 f.n, .int .u64 (f.mb : Nat), .int .u64 (f.mt : Nat), .int .u64 (f.tb : Nat), .int .u64 (f.tt : Nat), .int .u64 (f.s : Nat), .int .u64 (f.a : Nat), .slice a m c], .agg #[.int .u64 (x1 : Nat), .int .u64 (y1 : Nat)], .agg #[.int .u64 (x2 : Nat), .int .u64 (y2 : Nat)]] W fun e w' => e = .returned (.bool false) ∧ Below W.heap.size W w') := fun W hW => by
    have h9 := sesW_any f _ B x1 y1 x2 y2 W (hB.later hW) (by omega)
    rw [h1, ← hm] at h9; exact h9
  have HS2 : Hid (∀ W, Below w.heap.size w W → Calls Try.prog 19 #[.agg #[.int .i64 f.k, .int .i64 f.n, .int .u64 (f.mb : Nat), .int .u64 (f.mt : Nat), .int .u64 (f.tb : Nat), .int .u64 (f.tt : Nat), .int .u64 (f.s : Nat), .int .u64 (f.a : Nat), .slice a m c], .agg #[.int .u64 (x3 : Nat), .int .u64 (y3 : Nat)], .agg #[.int .u64 (x4 : Nat), .int .u64 (y4 : Nat)]] W fun e w' => e = .returned (.bool true) ∧ Below W.heap.size W w') := fun W hW => by
    have h9 := sesW_any f _ B x3 y3 x4 y4 W (hB.later hW) (by omega)
    rw [h2, ← hm] at h9; exact h9
  have km : (m : Int) ≤ 5000 := by omega
  have hk1 : (f.k == 1) = false := by have h9 := (ses_of h2).2.1; simpa using h9
  clear hm hB hl h1 h2
  go_enter Try.func6, Try.ntmps6
  go_wp2_with fail
  rw [← hwz]
  clear hwz
  have c0 := BlkAt.cell HF.out (j := 0) rfl
  have c1 := BlkAt.cell HF.out (j := 1) rfl
  have c2 := BlkAt.cell HF.out (j := 2) rfl
  have c3 := BlkAt.cell HF.out (j := 3) rfl
  have c4 := BlkAt.cell HF.out (j := 4) rfl
  have c5 := BlkAt.cell HF.out (j := 5) rfl
  have c6 := BlkAt.cell HF.out (j := 6) rfl
  have c7 := BlkAt.cell HF.out (j := 7) rfl
  have c8 := BlkAt.cell HF.out (j := 8) rfl
  go_wp2_with fail
  clear c0 c1 c2 c3 c4 c5 c6 c7 c8
  (refine wp_region_held_drew (S := (fun w' => Below wz.heap.size wz w')) (by kernel_rfl) ?_ (fun hHeld => ?_); (focus ((try dsimp only); (exact (Below.refl _ _).drew))))
  (try dsimp only at hHeld)
  obtain ⟨w0, hw0⟩ : ∃ W0, W0 = World.drew wz := ⟨_, rfl⟩
  rw [← hw0]
  rw [← hw0] at hHeld
  clear hw0
  (refine wpAnyH_take (i := 0) (v := ?_) rfl (by kernel_rfl) (by kernel_rfl) (by kernel_rfl) (fun _ _ _ h => h) (Or.inl ⟨by rfl, ?_⟩) hHeld ?_; rotate_left; (focus (intro w hSw; (try dsimp only at hSw); go_simp; (have hq := BlkAt.later HF.out hSw; have c0 := BlkAt.cell hq (j := 0) rfl; have c1 := BlkAt.cell hq (j := 1) rfl; have c2 := BlkAt.cell hq (j := 2) rfl; have c3 := BlkAt.cell hq (j := 3) rfl; have c4 := BlkAt.cell hq (j := 4) rfl; have c5 := BlkAt.cell hq (j := 5) rfl; have c6 := BlkAt.cell hq (j := 6) rfl; have c7 := BlkAt.cell hq (j := 7) rfl; have c8 := BlkAt.cell hq (j := 8) rfl; go_simp; try with_reducible rfl))); (try simp only [Act.put, List.setIfInBounds_toArray, List.set_cons_zero, List.set_cons_succ, List.getElem_toArray, List.getElem_cons_zero]))
  (refine wpAnyH_take (i := 1) (v := ?_) rfl (by kernel_rfl) (by kernel_rfl) (by kernel_rfl) (fun _ _ _ h => h) (Or.inl ⟨by rfl, ?_⟩) hHeld ?_; rotate_left; (focus (intro w hSw; (try dsimp only at hSw); go_simp; (have hq := BlkAt.later H1.out hSw; have c0 := BlkAt.cell hq (j := 0) rfl; have c1 := BlkAt.cell hq (j := 1) rfl; go_simp; try with_reducible rfl))); (try simp only [Act.put, List.setIfInBounds_toArray, List.set_cons_zero, List.set_cons_succ, List.getElem_toArray, List.getElem_cons_zero, List.getElem_cons_succ]))
  (refine wpAnyH_take (i := 2) (v := ?_) rfl (by kernel_rfl) (by kernel_rfl) (by kernel_rfl) (fun _ _ _ h => h) (Or.inl ⟨by rfl, ?_⟩) hHeld ?_; rotate_left; (focus (intro w hSw; (try dsimp only at hSw); go_simp; (have hq := BlkAt.later H2.out hSw; have c0 := BlkAt.cell hq (j := 0) rfl; have c1 := BlkAt.cell hq (j := 1) rfl; go_simp; try with_reducible rfl))); (try simp only [Act.put, List.setIfInBounds_toArray, List.set_cons_zero, List.set_cons_succ, List.getElem_toArray, List.getElem_cons_zero, List.getElem_cons_succ]))
  (refine wpAnyH_take (i := 4) (v := ?_) rfl (by kernel_rfl) (by kernel_rfl) (by kernel_rfl) (fun _ _ _ h => h) (Or.inl ⟨by rfl, ?_⟩) hHeld ?_; rotate_left; (focus (intro w hSw; (try dsimp only at hSw); go_simp; (have hq := BlkAt.later HF.out hSw; have c0 := BlkAt.cell hq (j := 0) rfl; have c1 := BlkAt.cell hq (j := 1) rfl; have c2 := BlkAt.cell hq (j := 2) rfl; have c3 := BlkAt.cell hq (j := 3) rfl; have c4 := BlkAt.cell hq (j := 4) rfl; have c5 := BlkAt.cell hq (j := 5) rfl; have c6 := BlkAt.cell hq (j := 6) rfl; have c7 := BlkAt.cell hq (j := 7) rfl; have c8 := BlkAt.cell hq (j := 8) rfl; go_simp; try with_reducible rfl))); (try simp only [Act.put, List.setIfInBounds_toArray, List.set_cons_zero, List.set_cons_succ, List.getElem_toArray, List.getElem_cons_zero, List.getElem_cons_succ]))
  (refine wpAnyH_take (i := 5) (v := ?_) rfl (by kernel_rfl) (by kernel_rfl) (by kernel_rfl) (fun _ _ _ h => h) (Or.inl ⟨by rfl, ?_⟩) hHeld ?_; rotate_left; (focus (intro w hSw; (try dsimp only at hSw); go_simp; (have hq := BlkAt.later H3.out hSw; have c0 := BlkAt.cell hq (j := 0) rfl; have c1 := BlkAt.cell hq (j := 1) rfl; go_simp; try with_reducible rfl))); (try simp only [Act.put, List.setIfInBounds_toArray, List.set_cons_zero, List.set_cons_succ, List.getElem_toArray, List.getElem_cons_zero, List.getElem_cons_succ]))
  (refine wpAnyH_take (i := 6) (v := ?_) rfl (by kernel_rfl) (by kernel_rfl) (by kernel_rfl) (fun _ _ _ h => h) (Or.inl ⟨by rfl, ?_⟩) hHeld ?_; rotate_left; (focus (intro w hSw; (try dsimp only at hSw); go_simp; (have hq := BlkAt.later H4.out hSw; have c0 := BlkAt.cell hq (j := 0) rfl; have c1 := BlkAt.cell hq (j := 1) rfl; go_simp; try with_reducible rfl))); (try simp only [Act.put, List.setIfInBounds_toArray, List.set_cons_zero, List.set_cons_succ, List.getElem_toArray, List.getElem_cons_zero, List.getElem_cons_succ]))
  (refine wpAnyH_ready (rs := [3]) (by kernel_rfl) (by simp) ?_; refine AllReadyH.cons rfl (fun K hK => ?_) AllReadyH.nil; go_simp; refine (HS1.out _ (below_of HB.out hHeld)).mono ?_; rintro e y1' ⟨rfl, hs⟩; refine hK.out _ _ ?_ (fun hHeldN => ?_); (focus ((try dsimp only); (exact hHeld.trans (hs.mono hHeld.size)))); clear hK K hHeld; have hHeld := hHeldN; clear hHeldN; (try simp only [Act.put, List.setIfInBounds_toArray, List.set_cons_zero, List.set_cons_succ, List.getElem_toArray, List.getElem_cons_zero, List.getElem_cons_succ]))
  clear hs
  (refine wpAnyH_ready (rs := [7]) (by kernel_rfl) (by simp) ?_; refine AllReadyH.cons rfl (fun K hK => ?_) AllReadyH.nil; go_simp; refine (HS2.out _ (below_of HB.out hHeld)).mono ?_; rintro e y2' ⟨rfl, hs⟩; refine hK.out _ _ ?_ (fun hHeldN => ?_); (focus ((try dsimp only); (exact hHeld.trans (hs.mono hHeld.size)))); clear hK K hHeld; have hHeld := hHeldN; clear hHeldN; (try simp only [Act.put, List.setIfInBounds_toArray, List.set_cons_zero, List.set_cons_succ, List.getElem_toArray, List.getElem_cons_zero, List.getElem_cons_succ]))
  clear hs
  (refine wpAnyH_take (i := 8) (v := ?_) rfl (by kernel_rfl) (by kernel_rfl) (by kernel_rfl) (fun _ _ _ h => h) (Or.inl ⟨by rfl, ?_⟩) hHeld ?_; rotate_left; (focus (intro w hSw; (try dsimp only at hSw); go_simp; try with_reducible rfl)); (try simp only [Act.put, List.setIfInBounds_toArray, List.set_cons_zero, List.set_cons_succ, List.getElem_toArray, List.getElem_cons_zero, List.getElem_cons_succ])); (refine wpAnyH_take (i := 9) (v := ?_) rfl (by kernel_rfl) (by kernel_rfl) (by kernel_rfl) (fun _ _ _ h => h) (Or.inl ⟨by rfl, ?_⟩) hHeld ?_; rotate_left; (focus (intro w hSw; (try dsimp only at hSw); go_simp; try with_reducible rfl)); (try simp only [Act.put, List.setIfInBounds_toArray, List.set_cons_zero, List.set_cons_succ, List.getElem_toArray, List.getElem_cons_zero, List.getElem_cons_succ]))
  refine wpAnyH_done (by kernel_rfl) ?_ _
  have hb := hHeld
  clear hHeld
  have HF := Lib.hid (HF.out.later hb)
  have H1 := Lib.hid (H1.out.later hb)
  have H2 := Lib.hid (H2.out.later hb)
  have H3 := Lib.hid (H3.out.later hb)
  have H4 := Lib.hid (H4.out.later hb)
  have HB := Lib.hid (below_of HB.out hb)
  clear hb
  have c0 := BlkAt.cell HF.out (j := 0) rfl
  have c1 := BlkAt.cell HF.out (j := 1) rfl
  have c2 := BlkAt.cell HF.out (j := 2) rfl
  have c3 := BlkAt.cell HF.out (j := 3) rfl
  have c4 := BlkAt.cell HF.out (j := 4) rfl
  have c5 := BlkAt.cell HF.out (j := 5) rfl
  have c6 := BlkAt.cell HF.out (j := 6) rfl
  have c7 := BlkAt.cell HF.out (j := 7) rfl
  have c8 := BlkAt.cell HF.out (j := 8) rfl
  have d0 := BlkAt.cell H1.out (j := 0) rfl
  have d1 := BlkAt.cell H1.out (j := 1) rfl
  have e0 := BlkAt.cell H2.out (j := 0) rfl
  have e1 := BlkAt.cell H2.out (j := 1) rfl
  have i0 := BlkAt.cell H3.out (j := 0) rfl
  have i1 := BlkAt.cell H3.out (j := 1) rfl
  have j0 := BlkAt.cell H4.out (j := 0) rfl
  have j1 := BlkAt.cell H4.out (j := 1) rfl
  go_wp2_with fail
  obtain ⟨G, hG⟩ : ∃ G, G = y2'.heap.size := ⟨_, rfl⟩
  obtain ⟨wg, hwg⟩ : ∃ W, W = y2'.alloc (.cells #[.int .i64 f.k, .int .i64 f.n, .int .u64 (f.mb : Nat), .int .u64 (f.mt : Nat), .int .u64 (f.tb : Nat), .int .u64 (f.tt : Nat), .int .u64 (f.s : Nat), .int .u64 (f.a : Nat), .slice a m c] 28) := ⟨_, rfl⟩
  have HG := Lib.hid (show BlkAt 28 G [.int .i64 f.k, .int .i64 f.n, .int .u64 (f.mb : Nat), .int .u64 (f.mt : Nat), .int .u64 (f.tb : Nat), .int .u64 (f.tt : Nat), .int .u64 (f.s : Nat), .int .u64 (f.a : Nat), .slice a m c] wg by rw [hwg, hG]; exact BlkAt.new y2' _)
  have hb : Below y2'.heap.size y2' wg := by rw [hwg]; exact ba1 _ _
  have HWG : Hid (w.heap.size + 1 + 1 < G) := by show _ < _; rw [hG]; exact H2.out.lt
  have HFG := HF
  have HF := Lib.hid (HF.out.later hb)
  have H1 := Lib.hid (H1.out.later hb)
  have H2 := Lib.hid (H2.out.later hb)
  have H3 := Lib.hid (H3.out.later hb)
  have H4 := Lib.hid (H4.out.later hb)
  have HB := Lib.hid (below_of HB.out hb)
  clear hb
  clear c0 c1 c2 c3 c4 c5 c6 c7 c8 d0 d1 e0 e1 i0 i1 j0 j1
  rw [← hG, ← hwg]
  clear hG hwg
  have hst : ∀ (W : World) (j : Nat) (x : Value), (Below w.heap.size wg W ∧ BlkAt 28 (w.heap.size) [.int .i64 f.k, .int .i64 f.n, .int .u64 (f.mb : Nat), .int .u64 (f.mt : Nat), .int .u64 (f.tb : Nat), .int .u64 (f.tt : Nat), .int .u64 (f.s : Nat), .int .u64 (f.a : Nat), .slice a m c] W ∧ BlkAt 25 (w.heap.size + 1) [.int .u64 (x1 : Nat), .int .u64 (y1 : Nat)] W ∧ BlkAt 25 (w.heap.size + 1 + 1) [.int .u64 (x2 : Nat), .int .u64 (y2 : Nat)] W) → (Below w.heap.size wg (W.setCell ⟨G, j, none⟩ x) ∧ BlkAt 28 (w.heap.size) [.int .i64 f.k, .int .i64 f.n, .int .u64 (f.mb : Nat), .int .u64 (f.mt : Nat), .int .u64 (f.tb : Nat), .int .u64 (f.tt : Nat), .int .u64 (f.s : Nat), .int .u64 (f.a : Nat), .slice a m c] (W.setCell ⟨G, j, none⟩ x) ∧ BlkAt 25 (w.heap.size + 1) [.int .u64 (x1 : Nat), .int .u64 (y1 : Nat)] (W.setCell ⟨G, j, none⟩ x) ∧ BlkAt 25 (w.heap.size + 1 + 1) [.int .u64 (x2 : Nat), .int .u64 (y2 : Nat)] (W.setCell ⟨G, j, none⟩ x)) := fun W j x ⟨q1, q2, q3, q4⟩ => ⟨q1.setCell (by have := HWG.out; simp; omega) _, BlkAt.other q2 (by have := HWG.out; omega) _ _, BlkAt.other q3 (by have := HWG.out; omega) _ _, BlkAt.other q4 (by have := HWG.out; omega) _ _⟩
  have HST := Lib.hid hst
  clear hst
  (refine wp_region_held_drew (S := (fun w' => Below w.heap.size wg w' ∧ BlkAt 28 (w.heap.size) [.int .i64 f.k, .int .i64 f.n, .int .u64 (f.mb : Nat), .int .u64 (f.mt : Nat), .int .u64 (f.tb : Nat), .int .u64 (f.tt : Nat), .int .u64 (f.s : Nat), .int .u64 (f.a : Nat), .slice a m c] w' ∧ BlkAt 25 (w.heap.size + 1) [.int .u64 (x1 : Nat), .int .u64 (y1 : Nat)] w' ∧ BlkAt 25 (w.heap.size + 1 + 1) [.int .u64 (x2 : Nat), .int .u64 (y2 : Nat)] w')) (by kernel_rfl) ?_ (fun hHeld => ?_); (focus ((try dsimp only); (exact ⟨(Below.refl _ _).drew, HF.out, H1.out, H2.out⟩))))
  (try dsimp only at hHeld)
  obtain ⟨w0, hw0⟩ : ∃ W0, W0 = World.drew wg := ⟨_, rfl⟩
  have HG := Lib.hid (show BlkAt 28 G [.int .i64 f.k, .int .i64 f.n, .int .u64 (f.mb : Nat), .int .u64 (f.mt : Nat), .int .u64 (f.tb : Nat), .int .u64 (f.tt : Nat), .int .u64 (f.s : Nat), .int .u64 (f.a : Nat), .slice a m c] w0 by rw [hw0]; exact HG.out)
  rw [← hw0]
  rw [← hw0] at hHeld
  clear hw0
  (refine wpAnyH_take (i := 0) (v := ?_) rfl (by kernel_rfl) (by kernel_rfl) (by kernel_rfl) (fun _ _ _ h => h) (Or.inl ⟨by rfl, ?_⟩) hHeld ?_; rotate_left; (focus (intro w hSw; (try dsimp only at hSw); go_simp; try with_reducible rfl)); (try simp only [Act.put, List.setIfInBounds_toArray, List.set_cons_zero, List.set_cons_succ, List.getElem_toArray, List.getElem_cons_zero]))
  (refine wpAnyH_take (i := 1) (v := ?_) rfl (by kernel_rfl) (by kernel_rfl) (by kernel_rfl) (fun _ _ _ h => h) (Or.inl ⟨by rfl, ?_⟩) hHeld ?_; rotate_left; (focus (intro w hSw; (try dsimp only at hSw); go_simp; (have c4 := BlkAt.cell hSw.2.1 (j := 4) rfl; have c5 := BlkAt.cell hSw.2.1 (j := 5) rfl; go_simp; try with_reducible rfl))); (try simp only [Act.put, List.setIfInBounds_toArray, List.set_cons_zero, List.set_cons_succ, List.getElem_toArray, List.getElem_cons_zero, List.getElem_cons_succ]))
  (refine wpAnyH_take (i := 2) (v := ?_) rfl (by kernel_rfl) (by kernel_rfl) (by kernel_rfl) (fun _ _ _ h => h) (Or.inl ⟨by rfl, ?_⟩) hHeld ?_; rotate_left; (focus (intro w hSw; (try dsimp only at hSw); go_simp; try with_reducible rfl)); (try simp only [Act.put, List.setIfInBounds_toArray, List.set_cons_zero, List.set_cons_succ, List.getElem_toArray, List.getElem_cons_zero, List.getElem_cons_succ]))
  (refine wpAnyH_take (i := 3) (v := ?_) rfl (by kernel_rfl) (by kernel_rfl) (by kernel_rfl) (fun _ _ _ h => h) (Or.inl ⟨by rfl, ?_⟩) hHeld ?_; rotate_left; (focus (intro w hSw; (try dsimp only at hSw); go_simp; (have c2 := BlkAt.cell hSw.2.1 (j := 2) rfl; have c3 := BlkAt.cell hSw.2.1 (j := 3) rfl; go_simp; try with_reducible rfl))); (try simp only [Act.put, List.setIfInBounds_toArray, List.set_cons_zero, List.set_cons_succ, List.getElem_toArray, List.getElem_cons_zero, List.getElem_cons_succ]))
  (refine wpAnyH_take (i := 4) (v := ?_) rfl (by kernel_rfl) (by kernel_rfl) (by kernel_rfl) (fun _ _ _ h => h) (Or.inl ⟨by rfl, ?_⟩) hHeld ?_; rotate_left; (focus (intro w hSw; (try dsimp only at hSw); go_simp; try with_reducible rfl)); (try simp only [Act.put, List.setIfInBounds_toArray, List.set_cons_zero, List.set_cons_succ, List.getElem_toArray, List.getElem_cons_zero, List.getElem_cons_succ]))
  refine wpAnyH_ready (rs := [5]) (by kernel_rfl) (by simp) ?_
  refine AllReadyH.cons rfl (fun K hK => ?_) AllReadyH.nil
  have g2 := BlkAt.cell HG.out (j := 2) rfl
  have g3 := BlkAt.cell HG.out (j := 3) rfl
  have hfz : ∀ j, w0.frozen? ⟨G, j, none⟩ = false := fun j => BlkAt.frozen HG.out j
  have HG := Lib.hid (show BlkAt 28 G [.int .i64 f.k, .int .i64 f.n, .int .u64 (f.tb : Nat), .int .u64 (f.tt : Nat), .int .u64 (f.tb : Nat), .int .u64 (f.tt : Nat), .int .u64 (f.s : Nat), .int .u64 (f.a : Nat), .slice a m c] _ from (BlkAt.set HG.out 2 (.int .u64 (f.tb : Nat))).set 3 (.int .u64 (f.tt : Nat)))
  have hs1 := HST.out _ 3 (.int .u64 (f.tt : Nat)) (HST.out _ 2 (.int .u64 (f.tb : Nat)) hHeld)
  go_simp
  refine hK.out _ _ hs1 (fun hHeldN => ?_)
  (try simp only [Act.put, List.setIfInBounds_toArray, List.set_cons_zero, List.set_cons_succ, List.getElem_toArray, List.getElem_cons_zero, List.getElem_cons_succ])
  obtain ⟨w6, hw1⟩ : ∃ W, W = ((w0.setCell ⟨G, 2, none⟩ (.int .u64 (f.tb : Nat))).setCell ⟨G, 3, none⟩ (.int .u64 (f.tt : Nat))) := ⟨_, rfl⟩
  rw [← hw1] at HG hHeldN ⊢
  clear hw1 hs1 g2 g3 hfz hHeld hK K
  have hHeld := hHeldN
  clear hHeldN
  (refine wpAnyH_take (i := 6) (v := ?_) rfl (by kernel_rfl) (by kernel_rfl) (by kernel_rfl) (fun _ _ _ h => h) (Or.inl ⟨by rfl, ?_⟩) hHeld ?_; rotate_left; (focus (intro w hSw; (try dsimp only at hSw); go_simp; try with_reducible rfl)); (try simp only [Act.put, List.setIfInBounds_toArray, List.set_cons_zero, List.set_cons_succ, List.getElem_toArray, List.getElem_cons_zero, List.getElem_cons_succ]))
  refine wpAnyH_ready (rs := [7]) (by kernel_rfl) (by simp) ?_
  refine AllReadyH.cons rfl (fun K hK => ?_) AllReadyH.nil
  have g2 := BlkAt.cell HG.out (j := 4) rfl
  have g3 := BlkAt.cell HG.out (j := 5) rfl
  have hfz : ∀ j, w6.frozen? ⟨G, j, none⟩ = false := fun j => BlkAt.frozen HG.out j
  have HG := Lib.hid (show BlkAt 28 G [.int .i64 f.k, .int .i64 f.n, .int .u64 (f.tb : Nat), .int .u64 (f.tt : Nat), .int .u64 (f.mb : Nat), .int .u64 (f.mt : Nat), .int .u64 (f.s : Nat), .int .u64 (f.a : Nat), .slice a m c] _ from (BlkAt.set HG.out 4 (.int .u64 (f.mb : Nat))).set 5 (.int .u64 (f.mt : Nat)))
  have hs1 := HST.out _ 5 (.int .u64 (f.mt : Nat)) (HST.out _ 4 (.int .u64 (f.mb : Nat)) hHeld)
  go_simp
  refine hK.out _ _ hs1 (fun hHeldN => ?_)
  (try simp only [Act.put, List.setIfInBounds_toArray, List.set_cons_zero, List.set_cons_succ, List.getElem_toArray, List.getElem_cons_zero, List.getElem_cons_succ])
  obtain ⟨w7, hw1⟩ : ∃ W, W = ((w6.setCell ⟨G, 4, none⟩ (.int .u64 (f.mb : Nat))).setCell ⟨G, 5, none⟩ (.int .u64 (f.mt : Nat))) := ⟨_, rfl⟩
  rw [← hw1] at HG hHeldN ⊢
  clear hw1 hs1 g2 g3 hfz hHeld hK K
  have hHeld := hHeldN
  clear hHeldN
  refine wpAnyH_done (by kernel_rfl) ?_ _
  obtain ⟨q1, _, q3, q4⟩ := hHeld
  have HB := Lib.hid (HB.out.trans q1)
  have H1 := Lib.hid q3
  have H2 := Lib.hid q4
  clear q1 q3 q4
  have c0 := BlkAt.cell HG.out (j := 0) rfl
  have c1 := BlkAt.cell HG.out (j := 1) rfl
  have c2 := BlkAt.cell HG.out (j := 2) rfl
  have c3 := BlkAt.cell HG.out (j := 3) rfl
  have c4 := BlkAt.cell HG.out (j := 4) rfl
  have c5 := BlkAt.cell HG.out (j := 5) rfl
  have c6 := BlkAt.cell HG.out (j := 6) rfl
  have c7 := BlkAt.cell HG.out (j := 7) rfl
  have c8 := BlkAt.cell HG.out (j := 8) rfl
  have d0 := BlkAt.cell H1.out (j := 0) rfl
  have d1 := BlkAt.cell H1.out (j := 1) rfl
  have e0 := BlkAt.cell H2.out (j := 0) rfl
  have e1 := BlkAt.cell H2.out (j := 1) rfl
  go_wp2_with fail
  refine (known6_any _).mono ?_
  rintro e w11 ⟨rfl, hb⟩
  have HB := Lib.hid (below_of HB.out hb)
  clear hb
  go_wp2_with fail
  go_ret
  exact ⟨rfl, HB.out⟩
set_option maxHeartbeats 16000000 in
set_option maxRecDepth 100000 in
theorem hs_ff (f : Fr) (a : Option Addr) (c m x1 y1 x2 y2 x3 y3 x4 y4 : Nat) (B : List UInt8) (w : World) (hm : m = B.length) (hB : Bytes w (.slice a B.length c) B) (hl : B.length ≤ 5000) (h1 : sesF f B x1 y1 x2 y2 = false) (h2 : sesF f B x3 y3 x4 y4 = false) :
    Calls Try.prog 6 #[.agg #[.int .i64 f.k, .int .i64 f.n, .int .u64 (f.mb : Nat), .int .u64 (f.mt : Nat), .int .u64 (f.tb : Nat), .int .u64 (f.tt : Nat), .int .u64 (f.s : Nat), .int .u64 (f.a : Nat), .slice a m c], .agg #[.int .u64 (x1 : Nat), .int .u64 (y1 : Nat)], .agg #[.int .u64 (x2 : Nat), .int .u64 (y2 : Nat)], .agg #[.int .u64 (x3 : Nat), .int .u64 (y3 : Nat)], .agg #[.int .u64 (x4 : Nat), .int .u64 (y4 : Nat)]] w fun e w' => e = .returned (.bool true) ∧ Below w.heap.size w w' := by
  obtain ⟨wz, hwz⟩ : ∃ wz, wz = (((((w.alloc (.cells #[.int .i64 f.k, .int .i64 f.n, .int .u64 (f.mb : Nat), .int .u64 (f.mt : Nat), .int .u64 (f.tb : Nat), .int .u64 (f.tt : Nat), .int .u64 (f.s : Nat), .int .u64 (f.a : Nat), .slice a m c] 28)).alloc (.cells #[.int .u64 (x1 : Nat), .int .u64 (y1 : Nat)] 25)).alloc (.cells #[.int .u64 (x2 : Nat), .int .u64 (y2 : Nat)] 25)).alloc (.cells #[.int .u64 (x3 : Nat), .int .u64 (y3 : Nat)] 25)).alloc (.cells #[.int .u64 (x4 : Nat), .int .u64 (y4 : Nat)] 25)) := ⟨_, rfl⟩
  have HB := Lib.hid (show Below w.heap.size w wz by rw [hwz]; go_grown)
  have HF := Lib.hid (show BlkAt 28 (w.heap.size) [.int .i64 f.k, .int .i64 f.n, .int .u64 (f.mb : Nat), .int .u64 (f.mt : Nat), .int .u64 (f.tb : Nat), .int .u64 (f.tt : Nat), .int .u64 (f.s : Nat), .int .u64 (f.a : Nat), .slice a m c] wz by
    have h9 := BlkAt.new (t := 28) w [.int .i64 f.k, .int .i64 f.n, .int .u64 (f.mb : Nat), .int .u64 (f.mt : Nat), .int .u64 (f.tb : Nat), .int .u64 (f.tt : Nat), .int .u64 (f.s : Nat), .int .u64 (f.a : Nat), .slice a m c]
    have h9 := h9.later (ba1 _ (.cells #[.int .u64 (x1 : Nat), .int .u64 (y1 : Nat)] 25))
    have h9 := h9.later (ba1 _ (.cells #[.int .u64 (x2 : Nat), .int .u64 (y2 : Nat)] 25))
    have h9 := h9.later (ba1 _ (.cells #[.int .u64 (x3 : Nat), .int .u64 (y3 : Nat)] 25))
    have h9 := h9.later (ba1 _ (.cells #[.int .u64 (x4 : Nat), .int .u64 (y4 : Nat)] 25))
    rw [hwz]; simpa using h9)
  have H1 := Lib.hid (show BlkAt 25 (w.heap.size + 1) [.int .u64 (x1 : Nat), .int .u64 (y1 : Nat)] wz by
    have h9 := BlkAt.new (t := 25) (w.alloc (.cells #[.int .i64 f.k, .int .i64 f.n, .int .u64 (f.mb : Nat), .int .u64 (f.mt : Nat), .int .u64 (f.tb : Nat), .int .u64 (f.tt : Nat), .int .u64 (f.s : Nat), .int .u64 (f.a : Nat), .slice a m c] 28)) [.int .u64 (x1 : Nat), .int .u64 (y1 : Nat)]
    have h9 := h9.later (ba1 _ (.cells #[.int .u64 (x2 : Nat), .int .u64 (y2 : Nat)] 25))
    have h9 := h9.later (ba1 _ (.cells #[.int .u64 (x3 : Nat), .int .u64 (y3 : Nat)] 25))
    have h9 := h9.later (ba1 _ (.cells #[.int .u64 (x4 : Nat), .int .u64 (y4 : Nat)] 25))
    rw [hwz]; simpa using h9)
  have H2 := Lib.hid (show BlkAt 25 (w.heap.size + 1 + 1) [.int .u64 (x2 : Nat), .int .u64 (y2 : Nat)] wz by
    have h9 := BlkAt.new (t := 25) ((w.alloc (.cells #[.int .i64 f.k, .int .i64 f.n, .int .u64 (f.mb : Nat), .int .u64 (f.mt : Nat), .int .u64 (f.tb : Nat), .int .u64 (f.tt : Nat), .int .u64 (f.s : Nat), .int .u64 (f.a : Nat), .slice a m c] 28)).alloc (.cells #[.int .u64 (x1 : Nat), .int .u64 (y1 : Nat)] 25)) [.int .u64 (x2 : Nat), .int .u64 (y2 : Nat)]
    have h9 := h9.later (ba1 _ (.cells #[.int .u64 (x3 : Nat), .int .u64 (y3 : Nat)] 25))
    have h9 := h9.later (ba1 _ (.cells #[.int .u64 (x4 : Nat), .int .u64 (y4 : Nat)] 25))
    rw [hwz]; simpa using h9)
  have H3 := Lib.hid (show BlkAt 25 (w.heap.size + 1 + 1 + 1) [.int .u64 (x3 : Nat), .int .u64 (y3 : Nat)] wz by
    have h9 := BlkAt.new (t := 25) (((w.alloc (.cells #[.int .i64 f.k, .int .i64 f.n, .int .u64 (f.mb : Nat), .int .u64 (f.mt : Nat), .int .u64 (f.tb : Nat), .int .u64 (f.tt : Nat), .int .u64 (f.s : Nat), .int .u64 (f.a : Nat), .slice a m c] 28)).alloc (.cells #[.int .u64 (x1 : Nat), .int .u64 (y1 : Nat)] 25)).alloc (.cells #[.int .u64 (x2 : Nat), .int .u64 (y2 : Nat)] 25)) [.int .u64 (x3 : Nat), .int .u64 (y3 : Nat)]
    have h9 := h9.later (ba1 _ (.cells #[.int .u64 (x4 : Nat), .int .u64 (y4 : Nat)] 25))
    rw [hwz]; simpa using h9)
  have H4 := Lib.hid (show BlkAt 25 (w.heap.size + 1 + 1 + 1 + 1) [.int .u64 (x4 : Nat), .int .u64 (y4 : Nat)] wz by
    have h9 := BlkAt.new (t := 25) ((((w.alloc (.cells #[.int .i64 f.k, .int .i64 f.n, .int .u64 (f.mb : Nat), .int .u64 (f.mt : Nat), .int .u64 (f.tb : Nat), .int .u64 (f.tt : Nat), .int .u64 (f.s : Nat), .int .u64 (f.a : Nat), .slice a m c] 28)).alloc (.cells #[.int .u64 (x1 : Nat), .int .u64 (y1 : Nat)] 25)).alloc (.cells #[.int .u64 (x2 : Nat), .int .u64 (y2 : Nat)] 25)).alloc (.cells #[.int .u64 (x3 : Nat), .int .u64 (y3 : Nat)] 25)) [.int .u64 (x4 : Nat), .int .u64 (y4 : Nat)]
    rw [hwz]; simpa using h9)
  have HS1 : Hid (∀ W, Below w.heap.size w W → Calls Try.prog 19 #[.agg #[.int .i64 f.k, .int .i64 f.n, .int .u64 (f.mb : Nat), .int .u64 (f.mt : Nat), .int .u64 (f.tb : Nat), .int .u64 (f.tt : Nat), .int .u64 (f.s : Nat), .int .u64 (f.a : Nat), .slice a m c], .agg #[.int .u64 (x1 : Nat), .int .u64 (y1 : Nat)], .agg #[.int .u64 (x2 : Nat), .int .u64 (y2 : Nat)]] W fun e w' => e = .returned (.bool false) ∧ Below W.heap.size W w') := fun W hW => by
    have h9 := sesW_any f _ B x1 y1 x2 y2 W (hB.later hW) (by omega)
    rw [h1, ← hm] at h9; exact h9
  have HS2 : Hid (∀ W, Below w.heap.size w W → Calls Try.prog 19 #[.agg #[.int .i64 f.k, .int .i64 f.n, .int .u64 (f.mb : Nat), .int .u64 (f.mt : Nat), .int .u64 (f.tb : Nat), .int .u64 (f.tt : Nat), .int .u64 (f.s : Nat), .int .u64 (f.a : Nat), .slice a m c], .agg #[.int .u64 (x3 : Nat), .int .u64 (y3 : Nat)], .agg #[.int .u64 (x4 : Nat), .int .u64 (y4 : Nat)]] W fun e w' => e = .returned (.bool false) ∧ Below W.heap.size W w') := fun W hW => by
    have h9 := sesW_any f _ B x3 y3 x4 y4 W (hB.later hW) (by omega)
    rw [h2, ← hm] at h9; exact h9
  have km : (m : Int) ≤ 5000 := by omega
  clear hm hB hl h1 h2
  go_enter Try.func6, Try.ntmps6
  go_wp2_with fail
  rw [← hwz]
  clear hwz
  have c0 := BlkAt.cell HF.out (j := 0) rfl
  have c1 := BlkAt.cell HF.out (j := 1) rfl
  have c2 := BlkAt.cell HF.out (j := 2) rfl
  have c3 := BlkAt.cell HF.out (j := 3) rfl
  have c4 := BlkAt.cell HF.out (j := 4) rfl
  have c5 := BlkAt.cell HF.out (j := 5) rfl
  have c6 := BlkAt.cell HF.out (j := 6) rfl
  have c7 := BlkAt.cell HF.out (j := 7) rfl
  have c8 := BlkAt.cell HF.out (j := 8) rfl
  go_wp2_with fail
  clear c0 c1 c2 c3 c4 c5 c6 c7 c8
  (refine wp_region_held_drew (S := (fun w' => Below wz.heap.size wz w')) (by kernel_rfl) ?_ (fun hHeld => ?_); (focus ((try dsimp only); (exact (Below.refl _ _).drew))))
  (try dsimp only at hHeld)
  obtain ⟨w0, hw0⟩ : ∃ W0, W0 = World.drew wz := ⟨_, rfl⟩
  rw [← hw0]
  rw [← hw0] at hHeld
  clear hw0
  (refine wpAnyH_take (i := 0) (v := ?_) rfl (by kernel_rfl) (by kernel_rfl) (by kernel_rfl) (fun _ _ _ h => h) (Or.inl ⟨by rfl, ?_⟩) hHeld ?_; rotate_left; (focus (intro w hSw; (try dsimp only at hSw); go_simp; (have hq := BlkAt.later HF.out hSw; have c0 := BlkAt.cell hq (j := 0) rfl; have c1 := BlkAt.cell hq (j := 1) rfl; have c2 := BlkAt.cell hq (j := 2) rfl; have c3 := BlkAt.cell hq (j := 3) rfl; have c4 := BlkAt.cell hq (j := 4) rfl; have c5 := BlkAt.cell hq (j := 5) rfl; have c6 := BlkAt.cell hq (j := 6) rfl; have c7 := BlkAt.cell hq (j := 7) rfl; have c8 := BlkAt.cell hq (j := 8) rfl; go_simp; try with_reducible rfl))); (try simp only [Act.put, List.setIfInBounds_toArray, List.set_cons_zero, List.set_cons_succ, List.getElem_toArray, List.getElem_cons_zero]))
  (refine wpAnyH_take (i := 1) (v := ?_) rfl (by kernel_rfl) (by kernel_rfl) (by kernel_rfl) (fun _ _ _ h => h) (Or.inl ⟨by rfl, ?_⟩) hHeld ?_; rotate_left; (focus (intro w hSw; (try dsimp only at hSw); go_simp; (have hq := BlkAt.later H1.out hSw; have c0 := BlkAt.cell hq (j := 0) rfl; have c1 := BlkAt.cell hq (j := 1) rfl; go_simp; try with_reducible rfl))); (try simp only [Act.put, List.setIfInBounds_toArray, List.set_cons_zero, List.set_cons_succ, List.getElem_toArray, List.getElem_cons_zero, List.getElem_cons_succ]))
  (refine wpAnyH_take (i := 2) (v := ?_) rfl (by kernel_rfl) (by kernel_rfl) (by kernel_rfl) (fun _ _ _ h => h) (Or.inl ⟨by rfl, ?_⟩) hHeld ?_; rotate_left; (focus (intro w hSw; (try dsimp only at hSw); go_simp; (have hq := BlkAt.later H2.out hSw; have c0 := BlkAt.cell hq (j := 0) rfl; have c1 := BlkAt.cell hq (j := 1) rfl; go_simp; try with_reducible rfl))); (try simp only [Act.put, List.setIfInBounds_toArray, List.set_cons_zero, List.set_cons_succ, List.getElem_toArray, List.getElem_cons_zero, List.getElem_cons_succ]))
  (refine wpAnyH_take (i := 4) (v := ?_) rfl (by kernel_rfl) (by kernel_rfl) (by kernel_rfl) (fun _ _ _ h => h) (Or.inl ⟨by rfl, ?_⟩) hHeld ?_; rotate_left; (focus (intro w hSw; (try dsimp only at hSw); go_simp; (have hq := BlkAt.later HF.out hSw; have c0 := BlkAt.cell hq (j := 0) rfl; have c1 := BlkAt.cell hq (j := 1) rfl; have c2 := BlkAt.cell hq (j := 2) rfl; have c3 := BlkAt.cell hq (j := 3) rfl; have c4 := BlkAt.cell hq (j := 4) rfl; have c5 := BlkAt.cell hq (j := 5) rfl; have c6 := BlkAt.cell hq (j := 6) rfl; have c7 := BlkAt.cell hq (j := 7) rfl; have c8 := BlkAt.cell hq (j := 8) rfl; go_simp; try with_reducible rfl))); (try simp only [Act.put, List.setIfInBounds_toArray, List.set_cons_zero, List.set_cons_succ, List.getElem_toArray, List.getElem_cons_zero, List.getElem_cons_succ]))
  (refine wpAnyH_take (i := 5) (v := ?_) rfl (by kernel_rfl) (by kernel_rfl) (by kernel_rfl) (fun _ _ _ h => h) (Or.inl ⟨by rfl, ?_⟩) hHeld ?_; rotate_left; (focus (intro w hSw; (try dsimp only at hSw); go_simp; (have hq := BlkAt.later H3.out hSw; have c0 := BlkAt.cell hq (j := 0) rfl; have c1 := BlkAt.cell hq (j := 1) rfl; go_simp; try with_reducible rfl))); (try simp only [Act.put, List.setIfInBounds_toArray, List.set_cons_zero, List.set_cons_succ, List.getElem_toArray, List.getElem_cons_zero, List.getElem_cons_succ]))
  (refine wpAnyH_take (i := 6) (v := ?_) rfl (by kernel_rfl) (by kernel_rfl) (by kernel_rfl) (fun _ _ _ h => h) (Or.inl ⟨by rfl, ?_⟩) hHeld ?_; rotate_left; (focus (intro w hSw; (try dsimp only at hSw); go_simp; (have hq := BlkAt.later H4.out hSw; have c0 := BlkAt.cell hq (j := 0) rfl; have c1 := BlkAt.cell hq (j := 1) rfl; go_simp; try with_reducible rfl))); (try simp only [Act.put, List.setIfInBounds_toArray, List.set_cons_zero, List.set_cons_succ, List.getElem_toArray, List.getElem_cons_zero, List.getElem_cons_succ]))
  (refine wpAnyH_ready (rs := [3]) (by kernel_rfl) (by simp) ?_; refine AllReadyH.cons rfl (fun K hK => ?_) AllReadyH.nil; go_simp; refine (HS1.out _ (below_of HB.out hHeld)).mono ?_; rintro e y1' ⟨rfl, hs⟩; refine hK.out _ _ ?_ (fun hHeldN => ?_); (focus ((try dsimp only); (exact hHeld.trans (hs.mono hHeld.size)))); clear hK K hHeld; have hHeld := hHeldN; clear hHeldN; (try simp only [Act.put, List.setIfInBounds_toArray, List.set_cons_zero, List.set_cons_succ, List.getElem_toArray, List.getElem_cons_zero, List.getElem_cons_succ]))
  clear hs
  (refine wpAnyH_ready (rs := [7]) (by kernel_rfl) (by simp) ?_; refine AllReadyH.cons rfl (fun K hK => ?_) AllReadyH.nil; go_simp; refine (HS2.out _ (below_of HB.out hHeld)).mono ?_; rintro e y2' ⟨rfl, hs⟩; refine hK.out _ _ ?_ (fun hHeldN => ?_); (focus ((try dsimp only); (exact hHeld.trans (hs.mono hHeld.size)))); clear hK K hHeld; have hHeld := hHeldN; clear hHeldN; (try simp only [Act.put, List.setIfInBounds_toArray, List.set_cons_zero, List.set_cons_succ, List.getElem_toArray, List.getElem_cons_zero, List.getElem_cons_succ]))
  clear hs
  (refine wpAnyH_take (i := 8) (v := ?_) rfl (by kernel_rfl) (by kernel_rfl) (by kernel_rfl) (fun _ _ _ h => h) (Or.inl ⟨by rfl, ?_⟩) hHeld ?_; rotate_left; (focus (intro w hSw; (try dsimp only at hSw); go_simp; try with_reducible rfl)); (try simp only [Act.put, List.setIfInBounds_toArray, List.set_cons_zero, List.set_cons_succ, List.getElem_toArray, List.getElem_cons_zero, List.getElem_cons_succ])); (refine wpAnyH_take (i := 9) (v := ?_) rfl (by kernel_rfl) (by kernel_rfl) (by kernel_rfl) (fun _ _ _ h => h) (Or.inl ⟨by rfl, ?_⟩) hHeld ?_; rotate_left; (focus (intro w hSw; (try dsimp only at hSw); go_simp; try with_reducible rfl)); (try simp only [Act.put, List.setIfInBounds_toArray, List.set_cons_zero, List.set_cons_succ, List.getElem_toArray, List.getElem_cons_zero, List.getElem_cons_succ]))
  refine wpAnyH_done (by kernel_rfl) ?_ _
  have hb := hHeld
  clear hHeld
  have HF := Lib.hid (HF.out.later hb)
  have H1 := Lib.hid (H1.out.later hb)
  have H2 := Lib.hid (H2.out.later hb)
  have H3 := Lib.hid (H3.out.later hb)
  have H4 := Lib.hid (H4.out.later hb)
  have HB := Lib.hid (below_of HB.out hb)
  clear hb
  have c0 := BlkAt.cell HF.out (j := 0) rfl
  have c1 := BlkAt.cell HF.out (j := 1) rfl
  have c2 := BlkAt.cell HF.out (j := 2) rfl
  have c3 := BlkAt.cell HF.out (j := 3) rfl
  have c4 := BlkAt.cell HF.out (j := 4) rfl
  have c5 := BlkAt.cell HF.out (j := 5) rfl
  have c6 := BlkAt.cell HF.out (j := 6) rfl
  have c7 := BlkAt.cell HF.out (j := 7) rfl
  have c8 := BlkAt.cell HF.out (j := 8) rfl
  have d0 := BlkAt.cell H1.out (j := 0) rfl
  have d1 := BlkAt.cell H1.out (j := 1) rfl
  have e0 := BlkAt.cell H2.out (j := 0) rfl
  have e1 := BlkAt.cell H2.out (j := 1) rfl
  have i0 := BlkAt.cell H3.out (j := 0) rfl
  have i1 := BlkAt.cell H3.out (j := 1) rfl
  have j0 := BlkAt.cell H4.out (j := 0) rfl
  have j1 := BlkAt.cell H4.out (j := 1) rfl
  go_wp2_with fail
  obtain ⟨G, hG⟩ : ∃ G, G = y2'.heap.size := ⟨_, rfl⟩
  obtain ⟨wg, hwg⟩ : ∃ W, W = y2'.alloc (.cells #[.int .i64 f.k, .int .i64 f.n, .int .u64 (f.mb : Nat), .int .u64 (f.mt : Nat), .int .u64 (f.tb : Nat), .int .u64 (f.tt : Nat), .int .u64 (f.s : Nat), .int .u64 (f.a : Nat), .slice a m c] 28) := ⟨_, rfl⟩
  have HG := Lib.hid (show BlkAt 28 G [.int .i64 f.k, .int .i64 f.n, .int .u64 (f.mb : Nat), .int .u64 (f.mt : Nat), .int .u64 (f.tb : Nat), .int .u64 (f.tt : Nat), .int .u64 (f.s : Nat), .int .u64 (f.a : Nat), .slice a m c] wg by rw [hwg, hG]; exact BlkAt.new y2' _)
  have hb : Below y2'.heap.size y2' wg := by rw [hwg]; exact ba1 _ _
  have HWG : Hid (w.heap.size + 1 + 1 < G) := by show _ < _; rw [hG]; exact H2.out.lt
  have HFG := HF
  have HF := Lib.hid (HF.out.later hb)
  have H1 := Lib.hid (H1.out.later hb)
  have H2 := Lib.hid (H2.out.later hb)
  have H3 := Lib.hid (H3.out.later hb)
  have H4 := Lib.hid (H4.out.later hb)
  have HB := Lib.hid (below_of HB.out hb)
  clear hb
  clear c0 c1 c2 c3 c4 c5 c6 c7 c8 d0 d1 e0 e1 i0 i1 j0 j1
  rw [← hG, ← hwg]
  clear hG hwg
  have hst : ∀ (W : World) (j : Nat) (x : Value), (Below w.heap.size wg W ∧ BlkAt 28 (w.heap.size) [.int .i64 f.k, .int .i64 f.n, .int .u64 (f.mb : Nat), .int .u64 (f.mt : Nat), .int .u64 (f.tb : Nat), .int .u64 (f.tt : Nat), .int .u64 (f.s : Nat), .int .u64 (f.a : Nat), .slice a m c] W ∧ BlkAt 25 (w.heap.size + 1) [.int .u64 (x1 : Nat), .int .u64 (y1 : Nat)] W ∧ BlkAt 25 (w.heap.size + 1 + 1) [.int .u64 (x2 : Nat), .int .u64 (y2 : Nat)] W) → (Below w.heap.size wg (W.setCell ⟨G, j, none⟩ x) ∧ BlkAt 28 (w.heap.size) [.int .i64 f.k, .int .i64 f.n, .int .u64 (f.mb : Nat), .int .u64 (f.mt : Nat), .int .u64 (f.tb : Nat), .int .u64 (f.tt : Nat), .int .u64 (f.s : Nat), .int .u64 (f.a : Nat), .slice a m c] (W.setCell ⟨G, j, none⟩ x) ∧ BlkAt 25 (w.heap.size + 1) [.int .u64 (x1 : Nat), .int .u64 (y1 : Nat)] (W.setCell ⟨G, j, none⟩ x) ∧ BlkAt 25 (w.heap.size + 1 + 1) [.int .u64 (x2 : Nat), .int .u64 (y2 : Nat)] (W.setCell ⟨G, j, none⟩ x)) := fun W j x ⟨q1, q2, q3, q4⟩ => ⟨q1.setCell (by have := HWG.out; simp; omega) _, BlkAt.other q2 (by have := HWG.out; omega) _ _, BlkAt.other q3 (by have := HWG.out; omega) _ _, BlkAt.other q4 (by have := HWG.out; omega) _ _⟩
  have HST := Lib.hid hst
  clear hst
  (refine wp_region_held_drew (S := (fun w' => Below w.heap.size wg w' ∧ BlkAt 28 (w.heap.size) [.int .i64 f.k, .int .i64 f.n, .int .u64 (f.mb : Nat), .int .u64 (f.mt : Nat), .int .u64 (f.tb : Nat), .int .u64 (f.tt : Nat), .int .u64 (f.s : Nat), .int .u64 (f.a : Nat), .slice a m c] w' ∧ BlkAt 25 (w.heap.size + 1) [.int .u64 (x1 : Nat), .int .u64 (y1 : Nat)] w' ∧ BlkAt 25 (w.heap.size + 1 + 1) [.int .u64 (x2 : Nat), .int .u64 (y2 : Nat)] w')) (by kernel_rfl) ?_ (fun hHeld => ?_); (focus ((try dsimp only); (exact ⟨(Below.refl _ _).drew, HF.out, H1.out, H2.out⟩))))
  (try dsimp only at hHeld)
  obtain ⟨w0, hw0⟩ : ∃ W0, W0 = World.drew wg := ⟨_, rfl⟩
  have HG := Lib.hid (show BlkAt 28 G [.int .i64 f.k, .int .i64 f.n, .int .u64 (f.mb : Nat), .int .u64 (f.mt : Nat), .int .u64 (f.tb : Nat), .int .u64 (f.tt : Nat), .int .u64 (f.s : Nat), .int .u64 (f.a : Nat), .slice a m c] w0 by rw [hw0]; exact HG.out)
  rw [← hw0]
  rw [← hw0] at hHeld
  clear hw0
  (refine wpAnyH_take (i := 0) (v := ?_) rfl (by kernel_rfl) (by kernel_rfl) (by kernel_rfl) (fun _ _ _ h => h) (Or.inl ⟨by rfl, ?_⟩) hHeld ?_; rotate_left; (focus (intro w hSw; (try dsimp only at hSw); go_simp; try with_reducible rfl)); (try simp only [Act.put, List.setIfInBounds_toArray, List.set_cons_zero, List.set_cons_succ, List.getElem_toArray, List.getElem_cons_zero]))
  (refine wpAnyH_take (i := 1) (v := ?_) rfl (by kernel_rfl) (by kernel_rfl) (by kernel_rfl) (fun _ _ _ h => h) (Or.inl ⟨by rfl, ?_⟩) hHeld ?_; rotate_left; (focus (intro w hSw; (try dsimp only at hSw); go_simp; (have c4 := BlkAt.cell hSw.2.1 (j := 4) rfl; have c5 := BlkAt.cell hSw.2.1 (j := 5) rfl; go_simp; try with_reducible rfl))); (try simp only [Act.put, List.setIfInBounds_toArray, List.set_cons_zero, List.set_cons_succ, List.getElem_toArray, List.getElem_cons_zero, List.getElem_cons_succ]))
  (refine wpAnyH_take (i := 2) (v := ?_) rfl (by kernel_rfl) (by kernel_rfl) (by kernel_rfl) (fun _ _ _ h => h) (Or.inl ⟨by rfl, ?_⟩) hHeld ?_; rotate_left; (focus (intro w hSw; (try dsimp only at hSw); go_simp; try with_reducible rfl)); (try simp only [Act.put, List.setIfInBounds_toArray, List.set_cons_zero, List.set_cons_succ, List.getElem_toArray, List.getElem_cons_zero, List.getElem_cons_succ]))
  (refine wpAnyH_take (i := 3) (v := ?_) rfl (by kernel_rfl) (by kernel_rfl) (by kernel_rfl) (fun _ _ _ h => h) (Or.inl ⟨by rfl, ?_⟩) hHeld ?_; rotate_left; (focus (intro w hSw; (try dsimp only at hSw); go_simp; (have c2 := BlkAt.cell hSw.2.1 (j := 2) rfl; have c3 := BlkAt.cell hSw.2.1 (j := 3) rfl; go_simp; try with_reducible rfl))); (try simp only [Act.put, List.setIfInBounds_toArray, List.set_cons_zero, List.set_cons_succ, List.getElem_toArray, List.getElem_cons_zero, List.getElem_cons_succ]))
  (refine wpAnyH_take (i := 4) (v := ?_) rfl (by kernel_rfl) (by kernel_rfl) (by kernel_rfl) (fun _ _ _ h => h) (Or.inl ⟨by rfl, ?_⟩) hHeld ?_; rotate_left; (focus (intro w hSw; (try dsimp only at hSw); go_simp; try with_reducible rfl)); (try simp only [Act.put, List.setIfInBounds_toArray, List.set_cons_zero, List.set_cons_succ, List.getElem_toArray, List.getElem_cons_zero, List.getElem_cons_succ]))
  refine wpAnyH_ready (rs := [5]) (by kernel_rfl) (by simp) ?_
  refine AllReadyH.cons rfl (fun K hK => ?_) AllReadyH.nil
  have g2 := BlkAt.cell HG.out (j := 2) rfl
  have g3 := BlkAt.cell HG.out (j := 3) rfl
  have hfz : ∀ j, w0.frozen? ⟨G, j, none⟩ = false := fun j => BlkAt.frozen HG.out j
  have HG := Lib.hid (show BlkAt 28 G [.int .i64 f.k, .int .i64 f.n, .int .u64 (f.tb : Nat), .int .u64 (f.tt : Nat), .int .u64 (f.tb : Nat), .int .u64 (f.tt : Nat), .int .u64 (f.s : Nat), .int .u64 (f.a : Nat), .slice a m c] _ from (BlkAt.set HG.out 2 (.int .u64 (f.tb : Nat))).set 3 (.int .u64 (f.tt : Nat)))
  have hs1 := HST.out _ 3 (.int .u64 (f.tt : Nat)) (HST.out _ 2 (.int .u64 (f.tb : Nat)) hHeld)
  go_simp
  refine hK.out _ _ hs1 (fun hHeldN => ?_)
  (try simp only [Act.put, List.setIfInBounds_toArray, List.set_cons_zero, List.set_cons_succ, List.getElem_toArray, List.getElem_cons_zero, List.getElem_cons_succ])
  obtain ⟨w6, hw1⟩ : ∃ W, W = ((w0.setCell ⟨G, 2, none⟩ (.int .u64 (f.tb : Nat))).setCell ⟨G, 3, none⟩ (.int .u64 (f.tt : Nat))) := ⟨_, rfl⟩
  rw [← hw1] at HG hHeldN ⊢
  clear hw1 hs1 g2 g3 hfz hHeld hK K
  have hHeld := hHeldN
  clear hHeldN
  (refine wpAnyH_take (i := 6) (v := ?_) rfl (by kernel_rfl) (by kernel_rfl) (by kernel_rfl) (fun _ _ _ h => h) (Or.inl ⟨by rfl, ?_⟩) hHeld ?_; rotate_left; (focus (intro w hSw; (try dsimp only at hSw); go_simp; try with_reducible rfl)); (try simp only [Act.put, List.setIfInBounds_toArray, List.set_cons_zero, List.set_cons_succ, List.getElem_toArray, List.getElem_cons_zero, List.getElem_cons_succ]))
  refine wpAnyH_ready (rs := [7]) (by kernel_rfl) (by simp) ?_
  refine AllReadyH.cons rfl (fun K hK => ?_) AllReadyH.nil
  have g2 := BlkAt.cell HG.out (j := 4) rfl
  have g3 := BlkAt.cell HG.out (j := 5) rfl
  have hfz : ∀ j, w6.frozen? ⟨G, j, none⟩ = false := fun j => BlkAt.frozen HG.out j
  have HG := Lib.hid (show BlkAt 28 G [.int .i64 f.k, .int .i64 f.n, .int .u64 (f.tb : Nat), .int .u64 (f.tt : Nat), .int .u64 (f.mb : Nat), .int .u64 (f.mt : Nat), .int .u64 (f.s : Nat), .int .u64 (f.a : Nat), .slice a m c] _ from (BlkAt.set HG.out 4 (.int .u64 (f.mb : Nat))).set 5 (.int .u64 (f.mt : Nat)))
  have hs1 := HST.out _ 5 (.int .u64 (f.mt : Nat)) (HST.out _ 4 (.int .u64 (f.mb : Nat)) hHeld)
  go_simp
  refine hK.out _ _ hs1 (fun hHeldN => ?_)
  (try simp only [Act.put, List.setIfInBounds_toArray, List.set_cons_zero, List.set_cons_succ, List.getElem_toArray, List.getElem_cons_zero, List.getElem_cons_succ])
  obtain ⟨w7, hw1⟩ : ∃ W, W = ((w6.setCell ⟨G, 4, none⟩ (.int .u64 (f.mb : Nat))).setCell ⟨G, 5, none⟩ (.int .u64 (f.mt : Nat))) := ⟨_, rfl⟩
  rw [← hw1] at HG hHeldN ⊢
  clear hw1 hs1 g2 g3 hfz hHeld hK K
  have hHeld := hHeldN
  clear hHeldN
  refine wpAnyH_done (by kernel_rfl) ?_ _
  obtain ⟨q1, _, q3, q4⟩ := hHeld
  have HB := Lib.hid (HB.out.trans q1)
  have H1 := Lib.hid q3
  have H2 := Lib.hid q4
  clear q1 q3 q4
  have c0 := BlkAt.cell HG.out (j := 0) rfl
  have c1 := BlkAt.cell HG.out (j := 1) rfl
  have c2 := BlkAt.cell HG.out (j := 2) rfl
  have c3 := BlkAt.cell HG.out (j := 3) rfl
  have c4 := BlkAt.cell HG.out (j := 4) rfl
  have c5 := BlkAt.cell HG.out (j := 5) rfl
  have c6 := BlkAt.cell HG.out (j := 6) rfl
  have c7 := BlkAt.cell HG.out (j := 7) rfl
  have c8 := BlkAt.cell HG.out (j := 8) rfl
  have d0 := BlkAt.cell H1.out (j := 0) rfl
  have d1 := BlkAt.cell H1.out (j := 1) rfl
  have e0 := BlkAt.cell H2.out (j := 0) rfl
  have e1 := BlkAt.cell H2.out (j := 1) rfl
  go_wp2_with fail
  refine (known6_any _).mono ?_
  rintro e w11 ⟨rfl, hb⟩
  have HB := Lib.hid (below_of HB.out hb)
  clear hb
  go_wp2_with fail
  go_ret
  exact ⟨rfl, HB.out⟩
theorem frameSessions_walk (f : Fr) (u : Value) (B : List UInt8) (x1 y1 x2 y2 x3 y3 x4 y4 : Nat) (w : World) (_hk : f.Ok) (hB : Bytes w u B) (_hl : B.length ≤ 9223372036854775807) (_hx1 : x1 < 18446744073709551616) (_hy1 : y1 < 18446744073709551616) (_hx2 : x2 < 18446744073709551616) (_hy2 : y2 < 18446744073709551616) (_hx3 : x3 < 18446744073709551616) (_hy3 : y3 < 18446744073709551616) (_hx4 : x4 < 18446744073709551616) (_hy4 : y4 < 18446744073709551616) :
    Calls Try.prog 6 #[.agg #[.int .i64 f.k, .int .i64 f.n, .int .u64 (f.mb : Nat), .int .u64 (f.mt : Nat), .int .u64 (f.tb : Nat), .int .u64 (f.tt : Nat), .int .u64 (f.s : Nat), .int .u64 (f.a : Nat), u], .agg #[.int .u64 (x1 : Nat), .int .u64 (y1 : Nat)], .agg #[.int .u64 (x2 : Nat), .int .u64 (y2 : Nat)], .agg #[.int .u64 (x3 : Nat), .int .u64 (y3 : Nat)], .agg #[.int .u64 (x4 : Nat), .int .u64 (y4 : Nat)]] w fun e w' => e = .returned (.bool true) ∧ Below w.heap.size w w' := by
  obtain ⟨a, c, rfl⟩ := hB.form
  rcases Nat.lt_or_ge 5000 B.length with h | h
  · exact hs_long f a c _ x1 y1 x2 y2 x3 y3 x4 y4 w (by omega)
  · cases h1 : sesF f B x1 y1 x2 y2 with
    | true =>
      cases h2 : sesF f B x3 y3 x4 y4 with
      | true =>
        obtain ⟨_, _, ⟨p1, p2⟩, p3, p4⟩ := ses_of h1
        obtain ⟨_, _, ⟨q1, q2⟩, q3, q4⟩ := ses_of h2
        obtain rfl : x3 = x1 := by omega
        obtain rfl : y3 = y1 := by omega
        obtain rfl : x4 = x2 := by omega
        obtain rfl : y4 = y2 := by omega
        exact hs_tt f a c _ x3 y3 x4 y4 B w rfl hB h h1 h2
      | false => exact hs_tf f a c _ x1 y1 x2 y2 x3 y3 x4 y4 B w rfl hB h h1 h2
    | false =>
      cases h2 : sesF f B x3 y3 x4 y4 with
      | true => exact hs_ft f a c _ x1 y1 x2 y2 x3 y3 x4 y4 B w rfl hB h h1 h2
      | false => exact hs_ff f a c _ x1 y1 x2 y2 x3 y3 x4 y4 B w rfl hB h h1 h2
end Go.Proofs.Ytcahfapffhcceaa
