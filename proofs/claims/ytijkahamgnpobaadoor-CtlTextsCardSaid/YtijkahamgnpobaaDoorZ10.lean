/- CtlTexts: for every input the law's call returns true, and each argument reads behind it as before.
   What a row's list of variables and the world's shape give the walks; the shell round a law's walk.
   The walk of the law CtlTexts. -/
import Derived.Test.YtijkahamgnpobaaDoorCards
import Derived.Test.YtijkahamgnpobaaDoorTie
import Derived.ProofKit
import Derived.OpenShut
import Derived.LaidMore
import Derived.Deep.DeepWitnessRowRef
import Derived.Lib.LaidTab
import Derived.Lib.SmallJoins
import Derived.Test.YtijkahamgnpobaaDoorZ03
import Derived.Test.YtijkahamgnpobaaDoorZ09

set_option linter.unusedSimpArgs false
set_option linter.unusedVariables false
namespace Go.Proofs.YtijkahamgnpobaaDoor
open Go.RowKit
attribute [local go_sem ↓] Go.wp_at_zero Go.wp_at_succ

set_option maxHeartbeats 8000000 in
set_option maxRecDepth 100000 in
theorem vt_a (a : Nat) (n d x cost : Int) (s : ByteArray) (w : World) (g : Gl w) (h1 : (9000 : Int) < s.size) :
    Calls Tryd.prog 5 #[.agg #[.int .u32 (a : Int), .int .i64 n, .int .i64 d], .string s, .int .i64 x, .int .i64 cost] w fun e w' => e = .returned (.bool true) ∧ Below w.heap.size w w' := by
  have B0 := Lib.hid (show Below w.heap.size w (w.alloc (.cells #[.int .u32 (a : Int), .int .i64 n, .int .i64 d] 27)) from (Below.refl _ _).alloc (Nat.le_refl _) _)
  go_enter Tryd.func5, Tryd.ntmps5
  go_wp2_with fail
  refine (known5_any _ (g.below B0.out)).mono ?_
  rintro e w1 ⟨rfl, hb⟩
  have B0 := Lib.hid (below_of B0.out hb)
  clear hb
  go_wp2_with fail
  go_ret
  exact ⟨rfl, B0.out⟩
set_option maxHeartbeats 8000000 in
set_option maxRecDepth 100000 in
theorem vt_yy (a : Nat) (n d x cost : Int) (s : ByteArray) (w : World) (g : Gl w) (ha : a < 4294967296) (hs : s.size ≤ 9000) (hm : mayU a n d = true) (hok : utB s.data.toList = true) :
    Calls Tryd.prog 5 #[.agg #[.int .u32 (a : Int), .int .i64 n, .int .i64 d], .string s, .int .i64 x, .int .i64 cost] w fun e w' => e = .returned (.bool true) ∧ Below w.heap.size w w' := by
  have k1 : (s.size : Int) ≤ 9000 := by omega
  obtain ⟨A0, hA0⟩ : ∃ x : Int, x = utA s.data.toList := ⟨_, rfl⟩
  obtain ⟨N0, hN0⟩ : ∃ x : Int, x = utN s.data.toList := ⟨_, rfl⟩
  obtain ⟨D0, hD0⟩ : ∃ x : Int, x = utD s.data.toList := ⟨_, rfl⟩
  have HUW : Hid (∀ W, Gl W → Calls Tryd.prog 22 #[.string s] W fun e w' => e = .returned (.tuple #[.agg #[.int .u32 A0, .int .i64 N0, .int .i64 D0], .int .i64 0]) ∧ Below W.heap.size W w') := fun W G => by
    have h := untextW_any s (by omega) W G
    rw [← hA0, ← hN0, ← hD0, show utE s.data.toList = 0 from by unfold utE; rw [hok]; rfl] at h; exact h
  have HUR : Hid (∀ W, Calls Tryd.prog 23 #[.string s] W fun e w' => e = .returned (.tuple #[.agg #[.int .u32 A0, .int .i64 N0, .int .i64 D0], .bool true]) ∧ Below W.heap.size W w') := fun W => by
    have h := untextR_any s (by omega) W
    rw [← hA0, ← hN0, ← hD0, hok] at h; exact h
  have HMR : Hid (∀ W, Calls Tryd.prog 13 #[.agg #[.int .u32 (a : Int), .int .i64 n, .int .i64 d]] W fun e w' => e = .returned (.bool true) ∧ Below W.heap.size W w') := fun W => by
    have h := mayUR_any a n d W (by omega) (by omega); rw [hm] at h; exact h
  obtain ⟨F1, hF1⟩ : ∃ F, F = farI x cost := ⟨_, rfl⟩
  have HFW : Hid (∀ W, Calls Tryd.prog 24 #[.int .i64 x, .int .i64 cost] W fun e w' => e = .returned (.int .i64 F1) ∧ W = w') := fun W => by rw [hF1]; exact farW_any x cost W
  have HFR : Hid (∀ W, Calls Tryd.prog 25 #[.int .i64 x, .int .i64 cost] W fun e w' => e = .returned (.int .i64 F1) ∧ W = w') := fun W => by rw [hF1]; exact farR_any x cost W
  obtain ⟨T1, hT1⟩ : ∃ K, K = upT a n d := ⟨_, rfl⟩
  have HTW : Hid (∀ W, Gl W → Calls Tryd.prog 21 #[.agg #[.int .u32 (a : Int), .int .i64 n, .int .i64 d]] W fun e w' => e = .returned (.tuple #[.string ⟨T1.toArray⟩, .int .i64 0]) ∧ Below W.heap.size W w') := fun W G => by rw [hT1]; exact textU_yes a n d (by omega) (by omega) hm W G
  have HTR : Hid (∀ W, Gl W → Calls Tryd.prog 26 #[.agg #[.int .u32 (a : Int), .int .i64 n, .int .i64 d]] W fun e w' => e = .returned (.string ⟨T1.toArray⟩) ∧ Below W.heap.size W w') := fun W G => by rw [hT1]; exact textR5_any a n d ha hm W G
  clear hT1
  have B0 := Lib.hid (show Below w.heap.size w (w.alloc (.cells #[.int .u32 (a : Int), .int .i64 n, .int .i64 d] 27)) from (Below.refl _ _).alloc (Nat.le_refl _) _)
  have RU := Lib.hid (show BlkAt 27 w.heap.size [.int .u32 (a : Int), .int .i64 n, .int .i64 d] (w.alloc (.cells #[.int .u32 (a : Int), .int .i64 n, .int .i64 d] 27)) from BlkAt.new w _)
  clear hA0 hN0 hD0 hF1 hm hok hs
  go_enter Tryd.func5, Tryd.ntmps5
  go_wp2_with fail
  refine (HTW.out _ (g.below B0.out)).mono ?_
  rintro e w1 ⟨rfl, hb⟩
  have RU := Lib.hid (BlkAt.later RU.out hb)
  have B0 := Lib.hid (below_of B0.out hb)
  clear hb
  go_wp2_with fail
  refine (HUW.out _ (g.below B0.out)).mono ?_
  rintro e w2 ⟨rfl, hb⟩
  have q := hb.alloc hb.size (.cells #[.int .u32 A0, .int .i64 N0, .int .i64 D0] 27)
  have RU := Lib.hid (BlkAt.later RU.out q)
  have RY := Lib.hid (show BlkAt 27 w2.heap.size [.int .u32 A0, .int .i64 N0, .int .i64 D0] (w2.alloc (.cells #[.int .u32 A0, .int .i64 N0, .int .i64 D0] 27)) from BlkAt.new w2 _)
  have B0 := Lib.hid (below_of B0.out q)
  clear hb q
  go_wp2_with fail
  refine (HUR.out _).mono ?_
  rintro e w3 ⟨rfl, hb⟩
  have q := hb.alloc hb.size (.cells #[.int .u32 A0, .int .i64 N0, .int .i64 D0] 27)
  have RU := Lib.hid (BlkAt.later RU.out q)
  have RY := Lib.hid (BlkAt.later RY.out q)
  have RZ := Lib.hid (show BlkAt 27 w3.heap.size [.int .u32 A0, .int .i64 N0, .int .i64 D0] (w3.alloc (.cells #[.int .u32 A0, .int .i64 N0, .int .i64 D0] 27)) from BlkAt.new w3 _)
  have B0 := Lib.hid (below_of B0.out q)
  clear hb q
  have c0 := BlkAt.cell RY.out (j := 0) rfl
  have c1 := BlkAt.cell RY.out (j := 1) rfl
  have c2 := BlkAt.cell RY.out (j := 2) rfl
  have q0 := BlkAt.cell RZ.out (j := 0) rfl
  have q1 := BlkAt.cell RZ.out (j := 1) rfl
  have q2 := BlkAt.cell RZ.out (j := 2) rfl
  go_wp2_with fail
  refine (num5_any _ _).mono ?_
  rintro e wn ⟨rfl, rfl⟩
  go_wp2_with fail
  refine (HFW.out _).mono ?_
  rintro e wn ⟨rfl, rfl⟩
  go_wp2_with fail
  refine (HFR.out _).mono ?_
  rintro e wn ⟨rfl, rfl⟩
  clear c0 c1 c2
  clear q0 q1 q2
  have c0 := BlkAt.cell RU.out (j := 0) rfl
  have c1 := BlkAt.cell RU.out (j := 1) rfl
  have c2 := BlkAt.cell RU.out (j := 2) rfl
  go_wp2_with fail
  refine (HMR.out _).mono ?_
  rintro e w4 ⟨rfl, hb⟩
  have RU := Lib.hid (BlkAt.later RU.out hb)
  have B0 := Lib.hid (below_of B0.out hb)
  clear hb
  clear c0 c1 c2
  have c0 := BlkAt.cell RU.out (j := 0) rfl
  have c1 := BlkAt.cell RU.out (j := 1) rfl
  have c2 := BlkAt.cell RU.out (j := 2) rfl
  go_wp2_with fail
  refine (HTR.out _ (g.below B0.out)).mono ?_
  rintro e w5 ⟨rfl, hb⟩
  have RU := Lib.hid (BlkAt.later RU.out hb)
  have B0 := Lib.hid (below_of B0.out hb)
  clear hb
  clear c0 c1 c2
  go_wp2_with fail
  refine (num5_any _ _).mono ?_
  rintro e wn ⟨rfl, rfl⟩
  go_wp2_with fail
  refine (known5_any _ (g.below B0.out)).mono ?_
  rintro e w7 ⟨rfl, hb⟩
  have B0 := Lib.hid (below_of B0.out hb)
  clear hb
  go_wp2_with fail
  go_ret
  exact ⟨rfl, B0.out⟩
set_option maxHeartbeats 8000000 in
set_option maxRecDepth 100000 in
theorem vt_yn (a : Nat) (n d x cost : Int) (s : ByteArray) (w : World) (g : Gl w) (ha : a < 4294967296) (hs : s.size ≤ 9000) (hm : mayU a n d = true) (hok : utB s.data.toList = false) :
    Calls Tryd.prog 5 #[.agg #[.int .u32 (a : Int), .int .i64 n, .int .i64 d], .string s, .int .i64 x, .int .i64 cost] w fun e w' => e = .returned (.bool true) ∧ Below w.heap.size w w' := by
  have k1 : (s.size : Int) ≤ 9000 := by omega
  obtain ⟨A0, hA0⟩ : ∃ x : Int, x = utA s.data.toList := ⟨_, rfl⟩
  obtain ⟨N0, hN0⟩ : ∃ x : Int, x = utN s.data.toList := ⟨_, rfl⟩
  obtain ⟨D0, hD0⟩ : ∃ x : Int, x = utD s.data.toList := ⟨_, rfl⟩
  have HUW : Hid (∀ W, Gl W → Calls Tryd.prog 22 #[.string s] W fun e w' => e = .returned (.tuple #[.agg #[.int .u32 A0, .int .i64 N0, .int .i64 D0], .int .i64 4]) ∧ Below W.heap.size W w') := fun W G => by
    have h := untextW_any s (by omega) W G
    rw [← hA0, ← hN0, ← hD0, show utE s.data.toList = 4 from by unfold utE; rw [hok]; rfl] at h; exact h
  have HUR : Hid (∀ W, Calls Tryd.prog 23 #[.string s] W fun e w' => e = .returned (.tuple #[.agg #[.int .u32 A0, .int .i64 N0, .int .i64 D0], .bool false]) ∧ Below W.heap.size W w') := fun W => by
    have h := untextR_any s (by omega) W
    rw [← hA0, ← hN0, ← hD0, hok] at h; exact h
  have HMR : Hid (∀ W, Calls Tryd.prog 13 #[.agg #[.int .u32 (a : Int), .int .i64 n, .int .i64 d]] W fun e w' => e = .returned (.bool true) ∧ Below W.heap.size W w') := fun W => by
    have h := mayUR_any a n d W (by omega) (by omega); rw [hm] at h; exact h
  obtain ⟨F1, hF1⟩ : ∃ F, F = farI x cost := ⟨_, rfl⟩
  have HFW : Hid (∀ W, Calls Tryd.prog 24 #[.int .i64 x, .int .i64 cost] W fun e w' => e = .returned (.int .i64 F1) ∧ W = w') := fun W => by rw [hF1]; exact farW_any x cost W
  have HFR : Hid (∀ W, Calls Tryd.prog 25 #[.int .i64 x, .int .i64 cost] W fun e w' => e = .returned (.int .i64 F1) ∧ W = w') := fun W => by rw [hF1]; exact farR_any x cost W
  obtain ⟨T1, hT1⟩ : ∃ K, K = upT a n d := ⟨_, rfl⟩
  have HTW : Hid (∀ W, Gl W → Calls Tryd.prog 21 #[.agg #[.int .u32 (a : Int), .int .i64 n, .int .i64 d]] W fun e w' => e = .returned (.tuple #[.string ⟨T1.toArray⟩, .int .i64 0]) ∧ Below W.heap.size W w') := fun W G => by rw [hT1]; exact textU_yes a n d (by omega) (by omega) hm W G
  have HTR : Hid (∀ W, Gl W → Calls Tryd.prog 26 #[.agg #[.int .u32 (a : Int), .int .i64 n, .int .i64 d]] W fun e w' => e = .returned (.string ⟨T1.toArray⟩) ∧ Below W.heap.size W w') := fun W G => by rw [hT1]; exact textR5_any a n d ha hm W G
  clear hT1
  have B0 := Lib.hid (show Below w.heap.size w (w.alloc (.cells #[.int .u32 (a : Int), .int .i64 n, .int .i64 d] 27)) from (Below.refl _ _).alloc (Nat.le_refl _) _)
  have RU := Lib.hid (show BlkAt 27 w.heap.size [.int .u32 (a : Int), .int .i64 n, .int .i64 d] (w.alloc (.cells #[.int .u32 (a : Int), .int .i64 n, .int .i64 d] 27)) from BlkAt.new w _)
  clear hA0 hN0 hD0 hF1 hm hok hs
  go_enter Tryd.func5, Tryd.ntmps5
  go_wp2_with fail
  refine (HTW.out _ (g.below B0.out)).mono ?_
  rintro e w1 ⟨rfl, hb⟩
  have RU := Lib.hid (BlkAt.later RU.out hb)
  have B0 := Lib.hid (below_of B0.out hb)
  clear hb
  go_wp2_with fail
  refine (HUW.out _ (g.below B0.out)).mono ?_
  rintro e w2 ⟨rfl, hb⟩
  have q := hb.alloc hb.size (.cells #[.int .u32 A0, .int .i64 N0, .int .i64 D0] 27)
  have RU := Lib.hid (BlkAt.later RU.out q)
  have RY := Lib.hid (show BlkAt 27 w2.heap.size [.int .u32 A0, .int .i64 N0, .int .i64 D0] (w2.alloc (.cells #[.int .u32 A0, .int .i64 N0, .int .i64 D0] 27)) from BlkAt.new w2 _)
  have B0 := Lib.hid (below_of B0.out q)
  clear hb q
  go_wp2_with fail
  refine (HUR.out _).mono ?_
  rintro e w3 ⟨rfl, hb⟩
  have q := hb.alloc hb.size (.cells #[.int .u32 A0, .int .i64 N0, .int .i64 D0] 27)
  have RU := Lib.hid (BlkAt.later RU.out q)
  have RY := Lib.hid (BlkAt.later RY.out q)
  have RZ := Lib.hid (show BlkAt 27 w3.heap.size [.int .u32 A0, .int .i64 N0, .int .i64 D0] (w3.alloc (.cells #[.int .u32 A0, .int .i64 N0, .int .i64 D0] 27)) from BlkAt.new w3 _)
  have B0 := Lib.hid (below_of B0.out q)
  clear hb q
  have c0 := BlkAt.cell RY.out (j := 0) rfl
  have c1 := BlkAt.cell RY.out (j := 1) rfl
  have c2 := BlkAt.cell RY.out (j := 2) rfl
  have q0 := BlkAt.cell RZ.out (j := 0) rfl
  have q1 := BlkAt.cell RZ.out (j := 1) rfl
  have q2 := BlkAt.cell RZ.out (j := 2) rfl
  go_wp2_with fail
  refine (num5_any _ _).mono ?_
  rintro e wn ⟨rfl, rfl⟩
  go_wp2_with fail
  refine (num5_any _ _).mono ?_
  rintro e wn ⟨rfl, rfl⟩
  go_wp2_with fail
  refine (HFW.out _).mono ?_
  rintro e wn ⟨rfl, rfl⟩
  go_wp2_with fail
  refine (HFR.out _).mono ?_
  rintro e wn ⟨rfl, rfl⟩
  clear c0 c1 c2
  clear q0 q1 q2
  have c0 := BlkAt.cell RU.out (j := 0) rfl
  have c1 := BlkAt.cell RU.out (j := 1) rfl
  have c2 := BlkAt.cell RU.out (j := 2) rfl
  go_wp2_with fail
  refine (HMR.out _).mono ?_
  rintro e w4 ⟨rfl, hb⟩
  have RU := Lib.hid (BlkAt.later RU.out hb)
  have B0 := Lib.hid (below_of B0.out hb)
  clear hb
  clear c0 c1 c2
  have c0 := BlkAt.cell RU.out (j := 0) rfl
  have c1 := BlkAt.cell RU.out (j := 1) rfl
  have c2 := BlkAt.cell RU.out (j := 2) rfl
  go_wp2_with fail
  refine (HTR.out _ (g.below B0.out)).mono ?_
  rintro e w5 ⟨rfl, hb⟩
  have RU := Lib.hid (BlkAt.later RU.out hb)
  have B0 := Lib.hid (below_of B0.out hb)
  clear hb
  clear c0 c1 c2
  go_wp2_with fail
  refine (num5_any _ _).mono ?_
  rintro e wn ⟨rfl, rfl⟩
  go_wp2_with fail
  refine (known5_any _ (g.below B0.out)).mono ?_
  rintro e w7 ⟨rfl, hb⟩
  have B0 := Lib.hid (below_of B0.out hb)
  clear hb
  go_wp2_with fail
  go_ret
  exact ⟨rfl, B0.out⟩
set_option maxHeartbeats 8000000 in
set_option maxRecDepth 100000 in
theorem vt_ny (a : Nat) (n d x cost : Int) (s : ByteArray) (w : World) (g : Gl w) (ha : a < 4294967296) (hs : s.size ≤ 9000) (hm : mayU a n d = false) (hok : utB s.data.toList = true) :
    Calls Tryd.prog 5 #[.agg #[.int .u32 (a : Int), .int .i64 n, .int .i64 d], .string s, .int .i64 x, .int .i64 cost] w fun e w' => e = .returned (.bool true) ∧ Below w.heap.size w w' := by
  have k1 : (s.size : Int) ≤ 9000 := by omega
  obtain ⟨A0, hA0⟩ : ∃ x : Int, x = utA s.data.toList := ⟨_, rfl⟩
  obtain ⟨N0, hN0⟩ : ∃ x : Int, x = utN s.data.toList := ⟨_, rfl⟩
  obtain ⟨D0, hD0⟩ : ∃ x : Int, x = utD s.data.toList := ⟨_, rfl⟩
  have HUW : Hid (∀ W, Gl W → Calls Tryd.prog 22 #[.string s] W fun e w' => e = .returned (.tuple #[.agg #[.int .u32 A0, .int .i64 N0, .int .i64 D0], .int .i64 0]) ∧ Below W.heap.size W w') := fun W G => by
    have h := untextW_any s (by omega) W G
    rw [← hA0, ← hN0, ← hD0, show utE s.data.toList = 0 from by unfold utE; rw [hok]; rfl] at h; exact h
  have HUR : Hid (∀ W, Calls Tryd.prog 23 #[.string s] W fun e w' => e = .returned (.tuple #[.agg #[.int .u32 A0, .int .i64 N0, .int .i64 D0], .bool true]) ∧ Below W.heap.size W w') := fun W => by
    have h := untextR_any s (by omega) W
    rw [← hA0, ← hN0, ← hD0, hok] at h; exact h
  have HMR : Hid (∀ W, Calls Tryd.prog 13 #[.agg #[.int .u32 (a : Int), .int .i64 n, .int .i64 d]] W fun e w' => e = .returned (.bool false) ∧ Below W.heap.size W w') := fun W => by
    have h := mayUR_any a n d W (by omega) (by omega); rw [hm] at h; exact h
  obtain ⟨F1, hF1⟩ : ∃ F, F = farI x cost := ⟨_, rfl⟩
  have HFW : Hid (∀ W, Calls Tryd.prog 24 #[.int .i64 x, .int .i64 cost] W fun e w' => e = .returned (.int .i64 F1) ∧ W = w') := fun W => by rw [hF1]; exact farW_any x cost W
  have HFR : Hid (∀ W, Calls Tryd.prog 25 #[.int .i64 x, .int .i64 cost] W fun e w' => e = .returned (.int .i64 F1) ∧ W = w') := fun W => by rw [hF1]; exact farR_any x cost W
  have HTW : Hid (∀ W, Gl W → Calls Tryd.prog 21 #[.agg #[.int .u32 (a : Int), .int .i64 n, .int .i64 d]] W fun e w' => e = .returned (.tuple #[.string ⟨#[]⟩, .int .i64 2]) ∧ Below W.heap.size W w') := fun W _ => textU_no a n d hm W
  have B0 := Lib.hid (show Below w.heap.size w (w.alloc (.cells #[.int .u32 (a : Int), .int .i64 n, .int .i64 d] 27)) from (Below.refl _ _).alloc (Nat.le_refl _) _)
  have RU := Lib.hid (show BlkAt 27 w.heap.size [.int .u32 (a : Int), .int .i64 n, .int .i64 d] (w.alloc (.cells #[.int .u32 (a : Int), .int .i64 n, .int .i64 d] 27)) from BlkAt.new w _)
  clear hA0 hN0 hD0 hF1 hm hok hs
  go_enter Tryd.func5, Tryd.ntmps5
  go_wp2_with fail
  refine (HTW.out _ (g.below B0.out)).mono ?_
  rintro e w1 ⟨rfl, hb⟩
  have RU := Lib.hid (BlkAt.later RU.out hb)
  have B0 := Lib.hid (below_of B0.out hb)
  clear hb
  go_wp2_with fail
  refine (HUW.out _ (g.below B0.out)).mono ?_
  rintro e w2 ⟨rfl, hb⟩
  have q := hb.alloc hb.size (.cells #[.int .u32 A0, .int .i64 N0, .int .i64 D0] 27)
  have RU := Lib.hid (BlkAt.later RU.out q)
  have RY := Lib.hid (show BlkAt 27 w2.heap.size [.int .u32 A0, .int .i64 N0, .int .i64 D0] (w2.alloc (.cells #[.int .u32 A0, .int .i64 N0, .int .i64 D0] 27)) from BlkAt.new w2 _)
  have B0 := Lib.hid (below_of B0.out q)
  clear hb q
  go_wp2_with fail
  refine (HUR.out _).mono ?_
  rintro e w3 ⟨rfl, hb⟩
  have q := hb.alloc hb.size (.cells #[.int .u32 A0, .int .i64 N0, .int .i64 D0] 27)
  have RU := Lib.hid (BlkAt.later RU.out q)
  have RY := Lib.hid (BlkAt.later RY.out q)
  have RZ := Lib.hid (show BlkAt 27 w3.heap.size [.int .u32 A0, .int .i64 N0, .int .i64 D0] (w3.alloc (.cells #[.int .u32 A0, .int .i64 N0, .int .i64 D0] 27)) from BlkAt.new w3 _)
  have B0 := Lib.hid (below_of B0.out q)
  clear hb q
  have c0 := BlkAt.cell RY.out (j := 0) rfl
  have c1 := BlkAt.cell RY.out (j := 1) rfl
  have c2 := BlkAt.cell RY.out (j := 2) rfl
  have q0 := BlkAt.cell RZ.out (j := 0) rfl
  have q1 := BlkAt.cell RZ.out (j := 1) rfl
  have q2 := BlkAt.cell RZ.out (j := 2) rfl
  go_wp2_with fail
  refine (num5_any _ _).mono ?_
  rintro e wn ⟨rfl, rfl⟩
  go_wp2_with fail
  refine (HFW.out _).mono ?_
  rintro e wn ⟨rfl, rfl⟩
  go_wp2_with fail
  refine (HFR.out _).mono ?_
  rintro e wn ⟨rfl, rfl⟩
  clear c0 c1 c2
  clear q0 q1 q2
  have c0 := BlkAt.cell RU.out (j := 0) rfl
  have c1 := BlkAt.cell RU.out (j := 1) rfl
  have c2 := BlkAt.cell RU.out (j := 2) rfl
  go_wp2_with fail
  refine (HMR.out _).mono ?_
  rintro e w4 ⟨rfl, hb⟩
  have RU := Lib.hid (BlkAt.later RU.out hb)
  have B0 := Lib.hid (below_of B0.out hb)
  clear hb
  clear c0 c1 c2
  have c0 := BlkAt.cell RU.out (j := 0) rfl
  have c1 := BlkAt.cell RU.out (j := 1) rfl
  have c2 := BlkAt.cell RU.out (j := 2) rfl
  go_wp2_with fail
  clear c0 c1 c2
  refine (num5_any _ _).mono ?_
  rintro e wn ⟨rfl, rfl⟩
  go_wp2_with fail
  refine (known5_any _ (g.below B0.out)).mono ?_
  rintro e w7 ⟨rfl, hb⟩
  have B0 := Lib.hid (below_of B0.out hb)
  clear hb
  go_wp2_with fail
  go_ret
  exact ⟨rfl, B0.out⟩
set_option maxHeartbeats 8000000 in
set_option maxRecDepth 100000 in
theorem vt_nn (a : Nat) (n d x cost : Int) (s : ByteArray) (w : World) (g : Gl w) (ha : a < 4294967296) (hs : s.size ≤ 9000) (hm : mayU a n d = false) (hok : utB s.data.toList = false) :
    Calls Tryd.prog 5 #[.agg #[.int .u32 (a : Int), .int .i64 n, .int .i64 d], .string s, .int .i64 x, .int .i64 cost] w fun e w' => e = .returned (.bool true) ∧ Below w.heap.size w w' := by
  have k1 : (s.size : Int) ≤ 9000 := by omega
  obtain ⟨A0, hA0⟩ : ∃ x : Int, x = utA s.data.toList := ⟨_, rfl⟩
  obtain ⟨N0, hN0⟩ : ∃ x : Int, x = utN s.data.toList := ⟨_, rfl⟩
  obtain ⟨D0, hD0⟩ : ∃ x : Int, x = utD s.data.toList := ⟨_, rfl⟩
  have HUW : Hid (∀ W, Gl W → Calls Tryd.prog 22 #[.string s] W fun e w' => e = .returned (.tuple #[.agg #[.int .u32 A0, .int .i64 N0, .int .i64 D0], .int .i64 4]) ∧ Below W.heap.size W w') := fun W G => by
    have h := untextW_any s (by omega) W G
    rw [← hA0, ← hN0, ← hD0, show utE s.data.toList = 4 from by unfold utE; rw [hok]; rfl] at h; exact h
  have HUR : Hid (∀ W, Calls Tryd.prog 23 #[.string s] W fun e w' => e = .returned (.tuple #[.agg #[.int .u32 A0, .int .i64 N0, .int .i64 D0], .bool false]) ∧ Below W.heap.size W w') := fun W => by
    have h := untextR_any s (by omega) W
    rw [← hA0, ← hN0, ← hD0, hok] at h; exact h
  have HMR : Hid (∀ W, Calls Tryd.prog 13 #[.agg #[.int .u32 (a : Int), .int .i64 n, .int .i64 d]] W fun e w' => e = .returned (.bool false) ∧ Below W.heap.size W w') := fun W => by
    have h := mayUR_any a n d W (by omega) (by omega); rw [hm] at h; exact h
  obtain ⟨F1, hF1⟩ : ∃ F, F = farI x cost := ⟨_, rfl⟩
  have HFW : Hid (∀ W, Calls Tryd.prog 24 #[.int .i64 x, .int .i64 cost] W fun e w' => e = .returned (.int .i64 F1) ∧ W = w') := fun W => by rw [hF1]; exact farW_any x cost W
  have HFR : Hid (∀ W, Calls Tryd.prog 25 #[.int .i64 x, .int .i64 cost] W fun e w' => e = .returned (.int .i64 F1) ∧ W = w') := fun W => by rw [hF1]; exact farR_any x cost W
  have HTW : Hid (∀ W, Gl W → Calls Tryd.prog 21 #[.agg #[.int .u32 (a : Int), .int .i64 n, .int .i64 d]] W fun e w' => e = .returned (.tuple #[.string ⟨#[]⟩, .int .i64 2]) ∧ Below W.heap.size W w') := fun W _ => textU_no a n d hm W
  have B0 := Lib.hid (show Below w.heap.size w (w.alloc (.cells #[.int .u32 (a : Int), .int .i64 n, .int .i64 d] 27)) from (Below.refl _ _).alloc (Nat.le_refl _) _)
  have RU := Lib.hid (show BlkAt 27 w.heap.size [.int .u32 (a : Int), .int .i64 n, .int .i64 d] (w.alloc (.cells #[.int .u32 (a : Int), .int .i64 n, .int .i64 d] 27)) from BlkAt.new w _)
  clear hA0 hN0 hD0 hF1 hm hok hs
  go_enter Tryd.func5, Tryd.ntmps5
  go_wp2_with fail
  refine (HTW.out _ (g.below B0.out)).mono ?_
  rintro e w1 ⟨rfl, hb⟩
  have RU := Lib.hid (BlkAt.later RU.out hb)
  have B0 := Lib.hid (below_of B0.out hb)
  clear hb
  go_wp2_with fail
  refine (HUW.out _ (g.below B0.out)).mono ?_
  rintro e w2 ⟨rfl, hb⟩
  have q := hb.alloc hb.size (.cells #[.int .u32 A0, .int .i64 N0, .int .i64 D0] 27)
  have RU := Lib.hid (BlkAt.later RU.out q)
  have RY := Lib.hid (show BlkAt 27 w2.heap.size [.int .u32 A0, .int .i64 N0, .int .i64 D0] (w2.alloc (.cells #[.int .u32 A0, .int .i64 N0, .int .i64 D0] 27)) from BlkAt.new w2 _)
  have B0 := Lib.hid (below_of B0.out q)
  clear hb q
  go_wp2_with fail
  refine (HUR.out _).mono ?_
  rintro e w3 ⟨rfl, hb⟩
  have q := hb.alloc hb.size (.cells #[.int .u32 A0, .int .i64 N0, .int .i64 D0] 27)
  have RU := Lib.hid (BlkAt.later RU.out q)
  have RY := Lib.hid (BlkAt.later RY.out q)
  have RZ := Lib.hid (show BlkAt 27 w3.heap.size [.int .u32 A0, .int .i64 N0, .int .i64 D0] (w3.alloc (.cells #[.int .u32 A0, .int .i64 N0, .int .i64 D0] 27)) from BlkAt.new w3 _)
  have B0 := Lib.hid (below_of B0.out q)
  clear hb q
  have c0 := BlkAt.cell RY.out (j := 0) rfl
  have c1 := BlkAt.cell RY.out (j := 1) rfl
  have c2 := BlkAt.cell RY.out (j := 2) rfl
  have q0 := BlkAt.cell RZ.out (j := 0) rfl
  have q1 := BlkAt.cell RZ.out (j := 1) rfl
  have q2 := BlkAt.cell RZ.out (j := 2) rfl
  go_wp2_with fail
  refine (num5_any _ _).mono ?_
  rintro e wn ⟨rfl, rfl⟩
  go_wp2_with fail
  refine (num5_any _ _).mono ?_
  rintro e wn ⟨rfl, rfl⟩
  go_wp2_with fail
  refine (HFW.out _).mono ?_
  rintro e wn ⟨rfl, rfl⟩
  go_wp2_with fail
  refine (HFR.out _).mono ?_
  rintro e wn ⟨rfl, rfl⟩
  clear c0 c1 c2
  clear q0 q1 q2
  have c0 := BlkAt.cell RU.out (j := 0) rfl
  have c1 := BlkAt.cell RU.out (j := 1) rfl
  have c2 := BlkAt.cell RU.out (j := 2) rfl
  go_wp2_with fail
  refine (HMR.out _).mono ?_
  rintro e w4 ⟨rfl, hb⟩
  have RU := Lib.hid (BlkAt.later RU.out hb)
  have B0 := Lib.hid (below_of B0.out hb)
  clear hb
  clear c0 c1 c2
  have c0 := BlkAt.cell RU.out (j := 0) rfl
  have c1 := BlkAt.cell RU.out (j := 1) rfl
  have c2 := BlkAt.cell RU.out (j := 2) rfl
  go_wp2_with fail
  clear c0 c1 c2
  refine (num5_any _ _).mono ?_
  rintro e wn ⟨rfl, rfl⟩
  go_wp2_with fail
  refine (known5_any _ (g.below B0.out)).mono ?_
  rintro e w7 ⟨rfl, hb⟩
  have B0 := Lib.hid (below_of B0.out hb)
  clear hb
  go_wp2_with fail
  go_ret
  exact ⟨rfl, B0.out⟩
theorem ctlTexts_walk (u : Ud) (s : ByteArray) (x cost : Int) (w : World) (g : Gl w) (hu : u.Ok) (_hs : s.size ≤ maxLen) :
    Calls Tryd.prog 5 #[.agg #[.int .u32 (u.a : Int), .int .i64 u.n, .int .i64 u.d], .string s, .int .i64 x, .int .i64 cost] w fun e w' => e = .returned (.bool true) ∧ Below w.heap.size w w' := by
  obtain ⟨a, n, d⟩ := u
  have h1 : a < 4294967296 := hu.a
  rcases Nat.lt_or_ge 9000 s.size with h | h
  · exact vt_a a n d x cost s w g (by omega)
  cases hm : mayU a n d with
  | false =>
    cases hok : utB s.data.toList with
    | false => exact vt_nn a n d x cost s w g h1 h hm hok
    | true => exact vt_ny a n d x cost s w g h1 h hm hok
  | true =>
    cases hok : utB s.data.toList with
    | false => exact vt_yn a n d x cost s w g h1 h hm hok
    | true => exact vt_yy a n d x cost s w g h1 h hm hok
end Go.Proofs.YtijkahamgnpobaaDoor

namespace Go.Proofs.YtijkahamgnpobaaDoor
open Go.ChangeShapes Go.WideShapes Go.ChangeAt Go.RowKit

/-- What the rows of this seat list. -/
def laidL : List (String × DataW Unit) := [("math/bits.deBruijn32tab", Rows.laid_math_bits_deBruijn32tab), ("math/bits.deBruijn64tab", Rows.laid_math_bits_deBruijn64tab), ("internal/strconv.uint64pow10", Rows.laid_internal_strconv_uint64pow10), ("strconv.ErrRange", Rows.laid_strconv_ErrRange), ("strconv.ErrSyntax", Rows.laid_strconv_ErrSyntax)]

theorem of_iface {H : Type} {enc : TypeId × Value → H} {P : Program} {w : World} {fuel : Nat} {t : TypeId} {ms : Array (String × TypeId)} {cs : List Value} {n : String} {d : DataW H} {p : List MemPlace}
    (hu : P.underlying t = some (.interface ms)) (h : DataW.trod enc P w 0 (fun _ => true) false fuel t cs = some (.iface n d, p)) : ∃ te pe, cs = [.iface te pe] := by
  cases fuel with
  | zero => simp [DataW.trod] at h
  | succ fuel =>
    unfold DataW.trod at h
    rw [hu] at h
    match cs, h with
    | [.iface u v], _ => exact ⟨u, v, rfl⟩
    | [.nilIface], h => simp at h

theorem size_of_var {P : Program} {W : World} {n : String} {g : Nat} {cs : Array Value} (hg : P.globalNamed n = some g) (h : W.var? P n = some cs) : g < W.heap.size := by
  unfold World.var? at h
  rw [hg, Option.bind_some] at h
  rcases Nat.lt_or_ge g W.heap.size with h1 | h1
  · exact h1
  · rw [Array.getElem?_eq_none h1] at h; cases h

theorem gl_of {W : World} (hL : laidMetH Tryd.prog laidL W) (hsh : W.ShapedOpen Tryd.prog) : Gl W := by
  rw [MakeChecks.laidMetH_plain _ _ _ (by kernel_rfl)] at hL
  obtain ⟨ps, ⟨_, _, _, _, _, _, _, _, _, _, ⟨g2, t2, cs2, f2, p2, q2, hg2, ht2, hv2, hd2, ⟨g3, t3, cs3, f3, p3, q3, hg3, ht3, hv3, hd3, ⟨g4, t4, cs4, f4, p4, q4, hg4, ht4, hv4, hd4, ⟨g5, t5, cs5, f5, p5, q5, hg5, ht5, hv5, hd5, _, _⟩, _⟩, _⟩, _⟩, _⟩, _, _⟩ := hL
  obtain rfl := Option.some.inj ((show Tryd.prog.globalNamed "internal/strconv.uint64pow10" = some 3 by kernel_rfl).symm.trans hg3)
  obtain rfl := Option.some.inj ((show Tryd.prog.globalNamed "strconv.ErrRange" = some 2 by kernel_rfl).symm.trans hg4)
  obtain rfl := Option.some.inj ((show Tryd.prog.globalNamed "strconv.ErrSyntax" = some 1 by kernel_rfl).symm.trans hg5)
  obtain rfl := Option.some.inj ((show (Tryd.prog.globals[3]?).map (·.type) = some 128 by kernel_rfl).symm.trans ht3)
  obtain rfl := Option.some.inj ((show (Tryd.prog.globals[2]?).map (·.type) = some 75 by kernel_rfl).symm.trans ht4)
  obtain rfl := Option.some.inj ((show (Tryd.prog.globals[1]?).map (·.type) = some 75 by kernel_rfl).symm.trans ht5)
  obtain ⟨te4, pe4, h4⟩ := of_iface Tryd.underlying75 hd4
  obtain ⟨te5, pe5, h5⟩ := of_iface Tryd.underlying75 hd5
  have hz : 5 < W.heap.size := size_of_var (n := "math/bits.deBruijn64tab") (by kernel_rfl) hv2
  refine ⟨Tryd.laysM145.s1_3 W hsh, ⟨te5, pe5, ?_⟩, ⟨te4, pe4, ?_⟩, ?_, hz⟩
  · rw [World.var?_cell hg5 hv5 0, Array.eq_one_of_toList h5]; rfl
  · rw [World.var?_cell hg4 hv4 0, Array.eq_one_of_toList h4]; rfl
  · unfold Lib.TabIs
    rw [hv3, ← Lib.cells_of_tab (zs := Lib.pow10Tab) Tryd.underlying128 Tryd.underlying60 (by kernel_rfl) (by kernel_rfl) hd3]

/-- The rows' list is met in the heap that the variables' own initialisers leave. -/
theorem door_met (os : Os) (args : Array Value) : laidMet Tryd.prog laidL ((World.doorLaid Tryd.prog 4000 os).forCall (fun _ _ => 0) ⟨#[], args, []⟩).memory :=
  laidMet_of_run' 8 (by kernel_rfl) (by kernel_rfl)

end Go.Proofs.YtijkahamgnpobaaDoor

namespace Go.Proofs.YtijkahamgnpobaaDoor.ctlTexts
open Go.ChangeShapes Go.WideShapes Go.ChangeAt Go.RowKit Go.Joins
open Go.ChangeMaps (open_string shut_string)

set_option maxRecDepth 100000 in
theorem contract (H : Type) (enc : TypeId × Value → H) (W : World) (base : Nat) (args : Array Value) (ds gs : List (DataW H)) (before : List MemPlace)
    (hval : ∀ (j : Nat) t v, Tryd.f5.params[j]? = some t → args[j]? = some v → Value.okWide Tryd.prog W .any base t v)
    (hW : DataW.Whole enc Tryd.prog Tryd.f5.params.toList Rows.ctlTextsSpec.vars false W args.toList ds gs before) (hL : laidMetH Tryd.prog laidL W) (hsh : W.ShapedOpen Tryd.prog) :
    Calls Tryd.prog 5 args W fun e W' => ∃ v, e = .returned v ∧ Rows.ctlTextsSpec.post enc Tryd.prog Tryd.f5 false true false false W args v W' := by
  have g := gl_of hL hsh
  have hW' := hW
  obtain ⟨p, q, hA0, hV, rfl, hfz, hnd⟩ := hW
  have hA : DataW.TrodAll enc Tryd.prog W 0 (fun _ => true) true Tryd.f5.params.toList args.toList ds p := hA0
  rw [Tryd.params5] at hA hval
  obtain ⟨v0, vs0, d0, ds0, p0, q0, hargs, rfl, rfl, h0, r0⟩ := trodAll_cons hA
  obtain ⟨v1, vs1, d1, ds1, p1, q1, rfl, rfl, rfl, h1, r1⟩ := trodAll_cons r0
  obtain ⟨v2, vs2, d2, ds2, p2, q2, rfl, rfl, rfl, h2, r2⟩ := trodAll_cons r1
  obtain ⟨v3, vs3, d3, ds3, p3, q3, rfl, rfl, rfl, h3, r3⟩ := trodAll_cons r2
  obtain ⟨rfl, rfl, rfl⟩ := trodAll_nil r3
  obtain rfl : args = #[v0, v1, v2, v3] := by cases args; simp_all
  obtain ⟨rfl, rfl⟩ := trodVars_none hV
  have k0 := h0
  have lt0 : ∀ x ∈ p0, x.block < W.heap.size := by obtain ⟨m, hm⟩ := k0; exact DataW.trod_lt m _ _ _ hm
  have k1 := h1
  have lt1 : ∀ x ∈ p1, x.block < W.heap.size := by obtain ⟨m, hm⟩ := k1; exact DataW.trod_lt m _ _ _ hm
  have k2 := h2
  have lt2 : ∀ x ∈ p2, x.block < W.heap.size := by obtain ⟨m, hm⟩ := k2; exact DataW.trod_lt m _ _ _ hm
  have k3 := h3
  have lt3 : ∀ x ∈ p3, x.block < W.heap.size := by obtain ⟨m, hm⟩ := k3; exact DataW.trod_lt m _ _ _ hm
  obtain ⟨u0, rfl, hk0⟩ := open_upd (hval 0 27 v0 rfl rfl) h0
  obtain ⟨s1, rfl, _, _, ws1⟩ := open_string Tryd.underlying9 (hval 1 9 v1 rfl rfl) h1
  obtain ⟨a2, rfl, _, _, wa2⟩ := open_int Tryd.underlying3 (hval 2 3 v2 rfl rfl) h2
  obtain ⟨a3, rfl, _, _, wa3⟩ := open_int Tryd.underlying3 (hval 3 3 v3 rfl rfl) h3
  refine (ctlTexts_walk u0 s1 a2 a3 W g hk0 ws1).mono fun e W' ⟨he, bel⟩ => ?_
  subst he
  exact ⟨_, rfl, _, _, _, [], _, [], hW', trodAll_mk1 (shut_bool Tryd.underlying4 _), (trodAll_cons_mk (Below.trod laidOut (by kernel_rfl) (of_decide_eq_true (by kernel_rfl)) k0 bel lt0) (trodAll_cons_mk (Below.trod laidOut (by kernel_rfl) (of_decide_eq_true (by kernel_rfl)) k1 bel lt1) (trodAll_cons_mk (Below.trod laidOut (by kernel_rfl) (of_decide_eq_true (by kernel_rfl)) k2 bel lt2) (trodAll_cons_mk (Below.trod laidOut (by kernel_rfl) (of_decide_eq_true (by kernel_rfl)) k3 bel lt3) trodAll_mk0)))), rfl, bel.frame _, fun h => by cases h⟩

theorem reads (os : Os) {H : Type} (enc : TypeId × Value → H) : ∃ places, DataW.whole enc Tryd.prog ((World.doorLaid Tryd.prog 4000 os).forCall (fun _ _ => 0) ⟨#[], #[.agg #[.int .u32 0, .int .i64 0, .int .i64 0], .string ⟨#[]⟩, .int .i64 0, .int .i64 0], []⟩).memory Tryd.f5.params.toList Rows.ctlTextsSpec.vars false (#[.agg #[.int .u32 0, .int .i64 0, .int .i64 0], .string ⟨#[]⟩, .int .i64 0, .int .i64 0] : Array Value).toList 8 = some ([.agg [.agg [.lit (.int .u32 0), .lit (.int .i64 0)], .lit (.int .i64 0)], .lit (.string []), .lit (.int .i64 0), .lit (.int .i64 0)], [], places) :=
  ⟨[], by kernel_rfl⟩

set_option maxRecDepth 100000 in
theorem lifted (os : Os) (started : os.Started) (H : Type) (enc : TypeId × Value → H) (F : Stop.Interp) :
    ReturnsInHanded {} Tryd.checked os 5 .any ((OpenSpec.ofChange Rows.ctlTextsSpec).preRow enc Tryd.prog Tryd.f5 Rows.ctlTextsRow.domain false Rows.ctlTextsRow.laid) (((OpenSpec.ofChange Rows.ctlTextsSpec).at F).post enc Tryd.prog Tryd.f5 false true false false) := by
  obtain ⟨places, hx⟩ := reads os enc
  refine returnsInHanded_of_row (C := Tryd.checked) (s := OpenSpec.ofChange Rows.ctlTextsSpec) own started (by kernel_rfl) Tryd.func5
    (witness_row_atRef (enc := enc) (C := Tryd.checked) false (World.doorLaid Tryd.prog 4000 os) #[.agg #[.int .u32 0, .int .i64 0, .int .i64 0], .string ⟨#[]⟩, .int .i64 0, .int .i64 0] rfl (by kernel_rfl) (by kernel_rfl) (by kernel_rfl)
      (OpenSpec.preRow_of_cond 8 hx (by kernel_rfl) (fun k hk => by cases hk) (by kernel_rfl) (door_met os _))) ?_
  intro W base args ds gs before hval hW _ _ _ hL hsh _
  exact contract H enc W base args ds gs before hval hW hL hsh

theorem said : Rows.CtlTextsSaid :=
  OpenClaim.holds_of_cond 5 Tryd.f5 rfl rfl rfl rfl rfl rfl rfl ⟨rfl, rfl, rfl, rfl, rfl⟩ rfl rfl rfl rfl rfl (by kernel_rfl) Tryd.func5 (by kernel_rfl)
    (of_decide_eq_true (by kernel_rfl)) (by unfold Func.isWrapper; first | (rw [if_pos (by decide +kernel)]; kernel_rfl) | (rw [if_neg (by decide +kernel)]; exact ⟨rfl, rfl⟩))
    (fun os started H enc _ F => by rw [OpenClaim.pre_eq_preRow]; exact lifted os started H enc F)

theorem plain (f : FuncId) (fn : Func) (hf : Tryd.pinned.checked.prog.funcNamed "guidepost/guidepostlaw05.CtlTexts" = some f) (hfn : Tryd.pinned.checked.prog.funcs[f]? = some fn) :
    true = Tryd.pinned.checked.prog.looks [] ∧ ∀ (j : Nat) t, fn.params[j]? = some t → Tryd.pinned.checked.prog.wantsStandIn t = false := by
  obtain rfl : f = 5 := Option.some.inj ((show Tryd.prog.funcNamed "guidepost/guidepostlaw05.CtlTexts" = some 5 by kernel_rfl).symm.trans hf) |>.symm
  obtain rfl : fn = Tryd.f5 := (Option.some.inj (Tryd.func5.symm.trans hfn)).symm
  refine ⟨by kernel_rfl, fun j t ht => ?_⟩
  rw [Tryd.params5] at ht
  have hm : t ∈ ([27, 9, 3, 3] : List TypeId) := by simpa using Array.mem_of_getElem? ht
  have hall : (([27, 9, 3, 3] : List TypeId).all fun u => !Tryd.prog.wantsStandIn u) = true := by kernel_rfl
  exact (show Tryd.prog.wantsStandIn t = false by simpa using List.all_eq_true.1 hall t hm)

/-- The card. -/
theorem card : Rows.CtlTextsCardSaid :=
  Claim7.holds_tied_plain_at .later [] _ _ _ _ said (fun _ h => by cases h) (by kernel_rfl) (fun _ h => by cases h) ctlTexts_row_tie rfl ⟨rfl, rfl⟩ (by kernel_rfl) rfl plain (by kernel_rfl)
#print axioms card
end Go.Proofs.YtijkahamgnpobaaDoor.ctlTexts
