/- The walk of the law FrameUpdates. -/
import Derived.Test.YtcahfapffhcceaaZ11
import Derived.Test.YtcahfapffhcceaaZ12

set_option linter.unusedSimpArgs false
set_option linter.unusedVariables false
namespace Go.Proofs.Ytcahfapffhcceaa
open Go.RowKit
attribute [local go_sem ↓] Go.wp_at_zero Go.wp_at_succ

set_option maxHeartbeats 16000000 in
set_option maxRecDepth 100000 in
theorem hu0 (u : Ud) (hu : u.a < 4294967296) (x1 y1 x2 y2 s k : Nat) (w : World) (t0 : mayU u.a u.n u.d = false) :
    Calls Try.prog 7 #[.agg #[.int .u32 (u.a : Int), .int .i64 u.n, .int .i64 u.d], .agg #[.int .u64 (x1 : Nat), .int .u64 (y1 : Nat)], .agg #[.int .u64 (x2 : Nat), .int .u64 (y2 : Nat)], .int .u64 (s : Nat), .int .u64 (k : Nat)] w fun e w' => e = .returned (.bool true) ∧ Below w.heap.size w w' := by
  obtain ⟨wz, hwz⟩ : ∃ wz, wz = (((w.alloc (.cells #[.int .u32 (u.a : Int), .int .i64 u.n, .int .i64 u.d] 47)).alloc (.cells #[.int .u64 (x1 : Nat), .int .u64 (y1 : Nat)] 25)).alloc (.cells #[.int .u64 (x2 : Nat), .int .u64 (y2 : Nat)] 25)) := ⟨_, rfl⟩
  have HB := Lib.hid (show Below w.heap.size w wz by rw [hwz]; go_grown)
  have HU := Lib.hid (show BlkAt 47 (w.heap.size) [.int .u32 (u.a : Int), .int .i64 u.n, .int .i64 u.d] wz by
    have h9 := BlkAt.new (t := 47) w [.int .u32 (u.a : Int), .int .i64 u.n, .int .i64 u.d]
    have h9 := h9.later (ba1 _ (.cells #[.int .u64 (x1 : Nat), .int .u64 (y1 : Nat)] 25))
    have h9 := h9.later (ba1 _ (.cells #[.int .u64 (x2 : Nat), .int .u64 (y2 : Nat)] 25))
    rw [hwz]; simpa using h9)
  have H1 := Lib.hid (show BlkAt 25 (w.heap.size + 1) [.int .u64 (x1 : Nat), .int .u64 (y1 : Nat)] wz by
    have h9 := BlkAt.new (t := 25) (w.alloc (.cells #[.int .u32 (u.a : Int), .int .i64 u.n, .int .i64 u.d] 47)) [.int .u64 (x1 : Nat), .int .u64 (y1 : Nat)]
    have h9 := h9.later (ba1 _ (.cells #[.int .u64 (x2 : Nat), .int .u64 (y2 : Nat)] 25))
    rw [hwz]; simpa using h9)
  have H2 := Lib.hid (show BlkAt 25 (w.heap.size + 1 + 1) [.int .u64 (x2 : Nat), .int .u64 (y2 : Nat)] wz by
    have h9 := BlkAt.new (t := 25) ((w.alloc (.cells #[.int .u32 (u.a : Int), .int .i64 u.n, .int .i64 u.d] 47)).alloc (.cells #[.int .u64 (x1 : Nat), .int .u64 (y1 : Nat)] 25)) [.int .u64 (x2 : Nat), .int .u64 (y2 : Nat)]
    rw [hwz]; simpa using h9)
  have HOK : Hid (u.a < 4294967296) := hu
  have C0 := Lib.hid t0
  clear hu t0
  go_enter Try.func7, Try.ntmps7
  go_wp2_with fail
  rw [← hwz]
  clear hwz
  have c0 := BlkAt.cell HU.out (j := 0) rfl
  have c1 := BlkAt.cell HU.out (j := 1) rfl
  have c2 := BlkAt.cell HU.out (j := 2) rfl
  have d0 := BlkAt.cell H1.out (j := 0) rfl
  have d1 := BlkAt.cell H1.out (j := 1) rfl
  have e0 := BlkAt.cell H2.out (j := 0) rfl
  have e1 := BlkAt.cell H2.out (j := 1) rfl
  go_wp2_with fail
  refine (mayUR_any _ _ _ _ (by omega) (by have := HOK.out; omega)).mono ?_
  rintro e w' ⟨rfl, hb⟩
  rw [C0.out]
  have HU := Lib.hid (HU.out.later hb)
  have H1 := Lib.hid (H1.out.later hb)
  have H2 := Lib.hid (H2.out.later hb)
  have HB := Lib.hid (below_of HB.out hb)
  clear hb
  clear c0 c1 c2 d0 d1 e0 e1
  have c0 := BlkAt.cell HU.out (j := 0) rfl
  have c1 := BlkAt.cell HU.out (j := 1) rfl
  have c2 := BlkAt.cell HU.out (j := 2) rfl
  have d0 := BlkAt.cell H1.out (j := 0) rfl
  have d1 := BlkAt.cell H1.out (j := 1) rfl
  have e0 := BlkAt.cell H2.out (j := 0) rfl
  have e1 := BlkAt.cell H2.out (j := 1) rfl
  go_wp2_with fail
  refine (known6_any _).mono ?_
  rintro e w1 ⟨rfl, hb⟩
  have HB := Lib.hid (below_of HB.out hb)
  go_wp2_with fail
  go_ret
  exact ⟨rfl, HB.out⟩
set_option maxHeartbeats 16000000 in
set_option maxRecDepth 100000 in
theorem hu1 (u : Ud) (hu : u.a < 4294967296) (x1 y1 x2 y2 s k : Nat) (w : World) (t0 : mayU u.a u.n u.d = true) (t1 : tagB x1 y1 = false) :
    Calls Try.prog 7 #[.agg #[.int .u32 (u.a : Int), .int .i64 u.n, .int .i64 u.d], .agg #[.int .u64 (x1 : Nat), .int .u64 (y1 : Nat)], .agg #[.int .u64 (x2 : Nat), .int .u64 (y2 : Nat)], .int .u64 (s : Nat), .int .u64 (k : Nat)] w fun e w' => e = .returned (.bool true) ∧ Below w.heap.size w w' := by
  obtain ⟨wz, hwz⟩ : ∃ wz, wz = (((w.alloc (.cells #[.int .u32 (u.a : Int), .int .i64 u.n, .int .i64 u.d] 47)).alloc (.cells #[.int .u64 (x1 : Nat), .int .u64 (y1 : Nat)] 25)).alloc (.cells #[.int .u64 (x2 : Nat), .int .u64 (y2 : Nat)] 25)) := ⟨_, rfl⟩
  have HB := Lib.hid (show Below w.heap.size w wz by rw [hwz]; go_grown)
  have HU := Lib.hid (show BlkAt 47 (w.heap.size) [.int .u32 (u.a : Int), .int .i64 u.n, .int .i64 u.d] wz by
    have h9 := BlkAt.new (t := 47) w [.int .u32 (u.a : Int), .int .i64 u.n, .int .i64 u.d]
    have h9 := h9.later (ba1 _ (.cells #[.int .u64 (x1 : Nat), .int .u64 (y1 : Nat)] 25))
    have h9 := h9.later (ba1 _ (.cells #[.int .u64 (x2 : Nat), .int .u64 (y2 : Nat)] 25))
    rw [hwz]; simpa using h9)
  have H1 := Lib.hid (show BlkAt 25 (w.heap.size + 1) [.int .u64 (x1 : Nat), .int .u64 (y1 : Nat)] wz by
    have h9 := BlkAt.new (t := 25) (w.alloc (.cells #[.int .u32 (u.a : Int), .int .i64 u.n, .int .i64 u.d] 47)) [.int .u64 (x1 : Nat), .int .u64 (y1 : Nat)]
    have h9 := h9.later (ba1 _ (.cells #[.int .u64 (x2 : Nat), .int .u64 (y2 : Nat)] 25))
    rw [hwz]; simpa using h9)
  have H2 := Lib.hid (show BlkAt 25 (w.heap.size + 1 + 1) [.int .u64 (x2 : Nat), .int .u64 (y2 : Nat)] wz by
    have h9 := BlkAt.new (t := 25) ((w.alloc (.cells #[.int .u32 (u.a : Int), .int .i64 u.n, .int .i64 u.d] 47)).alloc (.cells #[.int .u64 (x1 : Nat), .int .u64 (y1 : Nat)] 25)) [.int .u64 (x2 : Nat), .int .u64 (y2 : Nat)]
    rw [hwz]; simpa using h9)
  have HOK : Hid (u.a < 4294967296) := hu
  have C0 := Lib.hid t0
  have C1 := Lib.hid t1
  clear hu t0 t1
  go_enter Try.func7, Try.ntmps7
  go_wp2_with fail
  rw [← hwz]
  clear hwz
  have c0 := BlkAt.cell HU.out (j := 0) rfl
  have c1 := BlkAt.cell HU.out (j := 1) rfl
  have c2 := BlkAt.cell HU.out (j := 2) rfl
  have d0 := BlkAt.cell H1.out (j := 0) rfl
  have d1 := BlkAt.cell H1.out (j := 1) rfl
  have e0 := BlkAt.cell H2.out (j := 0) rfl
  have e1 := BlkAt.cell H2.out (j := 1) rfl
  go_wp2_with fail
  refine (mayUR_any _ _ _ _ (by omega) (by have := HOK.out; omega)).mono ?_
  rintro e w' ⟨rfl, hb⟩
  rw [C0.out]
  have HU := Lib.hid (HU.out.later hb)
  have H1 := Lib.hid (H1.out.later hb)
  have H2 := Lib.hid (H2.out.later hb)
  have HB := Lib.hid (below_of HB.out hb)
  clear hb
  clear c0 c1 c2 d0 d1 e0 e1
  have c0 := BlkAt.cell HU.out (j := 0) rfl
  have c1 := BlkAt.cell HU.out (j := 1) rfl
  have c2 := BlkAt.cell HU.out (j := 2) rfl
  have d0 := BlkAt.cell H1.out (j := 0) rfl
  have d1 := BlkAt.cell H1.out (j := 1) rfl
  have e0 := BlkAt.cell H2.out (j := 0) rfl
  have e1 := BlkAt.cell H2.out (j := 1) rfl
  go_wp2_with fail
  refine (tagW_any _ _ _).mono ?_
  rintro e w' ⟨rfl, hb⟩
  rw [C1.out]
  have HU := Lib.hid (HU.out.later hb)
  have H1 := Lib.hid (H1.out.later hb)
  have H2 := Lib.hid (H2.out.later hb)
  have HB := Lib.hid (below_of HB.out hb)
  clear hb
  clear c0 c1 c2 d0 d1 e0 e1
  have c0 := BlkAt.cell HU.out (j := 0) rfl
  have c1 := BlkAt.cell HU.out (j := 1) rfl
  have c2 := BlkAt.cell HU.out (j := 2) rfl
  have d0 := BlkAt.cell H1.out (j := 0) rfl
  have d1 := BlkAt.cell H1.out (j := 1) rfl
  have e0 := BlkAt.cell H2.out (j := 0) rfl
  have e1 := BlkAt.cell H2.out (j := 1) rfl
  go_wp2_with fail
  refine (known6_any _).mono ?_
  rintro e w1 ⟨rfl, hb⟩
  have HB := Lib.hid (below_of HB.out hb)
  go_wp2_with fail
  go_ret
  exact ⟨rfl, HB.out⟩
set_option maxHeartbeats 16000000 in
set_option maxRecDepth 100000 in
theorem hu2 (u : Ud) (hu : u.a < 4294967296) (x1 y1 x2 y2 s k : Nat) (w : World) (t0 : mayU u.a u.n u.d = true) (t1 : tagB x1 y1 = true) (t2 : tagB x2 y2 = false) :
    Calls Try.prog 7 #[.agg #[.int .u32 (u.a : Int), .int .i64 u.n, .int .i64 u.d], .agg #[.int .u64 (x1 : Nat), .int .u64 (y1 : Nat)], .agg #[.int .u64 (x2 : Nat), .int .u64 (y2 : Nat)], .int .u64 (s : Nat), .int .u64 (k : Nat)] w fun e w' => e = .returned (.bool true) ∧ Below w.heap.size w w' := by
  obtain ⟨wz, hwz⟩ : ∃ wz, wz = (((w.alloc (.cells #[.int .u32 (u.a : Int), .int .i64 u.n, .int .i64 u.d] 47)).alloc (.cells #[.int .u64 (x1 : Nat), .int .u64 (y1 : Nat)] 25)).alloc (.cells #[.int .u64 (x2 : Nat), .int .u64 (y2 : Nat)] 25)) := ⟨_, rfl⟩
  have HB := Lib.hid (show Below w.heap.size w wz by rw [hwz]; go_grown)
  have HU := Lib.hid (show BlkAt 47 (w.heap.size) [.int .u32 (u.a : Int), .int .i64 u.n, .int .i64 u.d] wz by
    have h9 := BlkAt.new (t := 47) w [.int .u32 (u.a : Int), .int .i64 u.n, .int .i64 u.d]
    have h9 := h9.later (ba1 _ (.cells #[.int .u64 (x1 : Nat), .int .u64 (y1 : Nat)] 25))
    have h9 := h9.later (ba1 _ (.cells #[.int .u64 (x2 : Nat), .int .u64 (y2 : Nat)] 25))
    rw [hwz]; simpa using h9)
  have H1 := Lib.hid (show BlkAt 25 (w.heap.size + 1) [.int .u64 (x1 : Nat), .int .u64 (y1 : Nat)] wz by
    have h9 := BlkAt.new (t := 25) (w.alloc (.cells #[.int .u32 (u.a : Int), .int .i64 u.n, .int .i64 u.d] 47)) [.int .u64 (x1 : Nat), .int .u64 (y1 : Nat)]
    have h9 := h9.later (ba1 _ (.cells #[.int .u64 (x2 : Nat), .int .u64 (y2 : Nat)] 25))
    rw [hwz]; simpa using h9)
  have H2 := Lib.hid (show BlkAt 25 (w.heap.size + 1 + 1) [.int .u64 (x2 : Nat), .int .u64 (y2 : Nat)] wz by
    have h9 := BlkAt.new (t := 25) ((w.alloc (.cells #[.int .u32 (u.a : Int), .int .i64 u.n, .int .i64 u.d] 47)).alloc (.cells #[.int .u64 (x1 : Nat), .int .u64 (y1 : Nat)] 25)) [.int .u64 (x2 : Nat), .int .u64 (y2 : Nat)]
    rw [hwz]; simpa using h9)
  have HOK : Hid (u.a < 4294967296) := hu
  have C0 := Lib.hid t0
  have C1 := Lib.hid t1
  have C2 := Lib.hid t2
  clear hu t0 t1 t2
  go_enter Try.func7, Try.ntmps7
  go_wp2_with fail
  rw [← hwz]
  clear hwz
  have c0 := BlkAt.cell HU.out (j := 0) rfl
  have c1 := BlkAt.cell HU.out (j := 1) rfl
  have c2 := BlkAt.cell HU.out (j := 2) rfl
  have d0 := BlkAt.cell H1.out (j := 0) rfl
  have d1 := BlkAt.cell H1.out (j := 1) rfl
  have e0 := BlkAt.cell H2.out (j := 0) rfl
  have e1 := BlkAt.cell H2.out (j := 1) rfl
  go_wp2_with fail
  refine (mayUR_any _ _ _ _ (by omega) (by have := HOK.out; omega)).mono ?_
  rintro e w' ⟨rfl, hb⟩
  rw [C0.out]
  have HU := Lib.hid (HU.out.later hb)
  have H1 := Lib.hid (H1.out.later hb)
  have H2 := Lib.hid (H2.out.later hb)
  have HB := Lib.hid (below_of HB.out hb)
  clear hb
  clear c0 c1 c2 d0 d1 e0 e1
  have c0 := BlkAt.cell HU.out (j := 0) rfl
  have c1 := BlkAt.cell HU.out (j := 1) rfl
  have c2 := BlkAt.cell HU.out (j := 2) rfl
  have d0 := BlkAt.cell H1.out (j := 0) rfl
  have d1 := BlkAt.cell H1.out (j := 1) rfl
  have e0 := BlkAt.cell H2.out (j := 0) rfl
  have e1 := BlkAt.cell H2.out (j := 1) rfl
  go_wp2_with fail
  refine (tagW_any _ _ _).mono ?_
  rintro e w' ⟨rfl, hb⟩
  rw [C1.out]
  have HU := Lib.hid (HU.out.later hb)
  have H1 := Lib.hid (H1.out.later hb)
  have H2 := Lib.hid (H2.out.later hb)
  have HB := Lib.hid (below_of HB.out hb)
  clear hb
  clear c0 c1 c2 d0 d1 e0 e1
  have c0 := BlkAt.cell HU.out (j := 0) rfl
  have c1 := BlkAt.cell HU.out (j := 1) rfl
  have c2 := BlkAt.cell HU.out (j := 2) rfl
  have d0 := BlkAt.cell H1.out (j := 0) rfl
  have d1 := BlkAt.cell H1.out (j := 1) rfl
  have e0 := BlkAt.cell H2.out (j := 0) rfl
  have e1 := BlkAt.cell H2.out (j := 1) rfl
  go_wp2_with fail
  refine (tagW_any _ _ _).mono ?_
  rintro e w' ⟨rfl, hb⟩
  rw [C2.out]
  have HU := Lib.hid (HU.out.later hb)
  have H1 := Lib.hid (H1.out.later hb)
  have H2 := Lib.hid (H2.out.later hb)
  have HB := Lib.hid (below_of HB.out hb)
  clear hb
  clear c0 c1 c2 d0 d1 e0 e1
  have c0 := BlkAt.cell HU.out (j := 0) rfl
  have c1 := BlkAt.cell HU.out (j := 1) rfl
  have c2 := BlkAt.cell HU.out (j := 2) rfl
  have d0 := BlkAt.cell H1.out (j := 0) rfl
  have d1 := BlkAt.cell H1.out (j := 1) rfl
  have e0 := BlkAt.cell H2.out (j := 0) rfl
  have e1 := BlkAt.cell H2.out (j := 1) rfl
  go_wp2_with fail
  refine (known6_any _).mono ?_
  rintro e w1 ⟨rfl, hb⟩
  have HB := Lib.hid (below_of HB.out hb)
  go_wp2_with fail
  go_ret
  exact ⟨rfl, HB.out⟩
set_option maxHeartbeats 16000000 in
set_option maxRecDepth 100000 in
theorem hu3 (u : Ud) (hu : u.a < 4294967296) (x1 y1 x2 y2 s k : Nat) (w : World) (t0 : mayU u.a u.n u.d = true) (t1 : tagB x1 y1 = true) (t2 : tagB x2 y2 = true) (t3 : noneB x1 y1 = true) :
    Calls Try.prog 7 #[.agg #[.int .u32 (u.a : Int), .int .i64 u.n, .int .i64 u.d], .agg #[.int .u64 (x1 : Nat), .int .u64 (y1 : Nat)], .agg #[.int .u64 (x2 : Nat), .int .u64 (y2 : Nat)], .int .u64 (s : Nat), .int .u64 (k : Nat)] w fun e w' => e = .returned (.bool true) ∧ Below w.heap.size w w' := by
  obtain ⟨wz, hwz⟩ : ∃ wz, wz = (((w.alloc (.cells #[.int .u32 (u.a : Int), .int .i64 u.n, .int .i64 u.d] 47)).alloc (.cells #[.int .u64 (x1 : Nat), .int .u64 (y1 : Nat)] 25)).alloc (.cells #[.int .u64 (x2 : Nat), .int .u64 (y2 : Nat)] 25)) := ⟨_, rfl⟩
  have HB := Lib.hid (show Below w.heap.size w wz by rw [hwz]; go_grown)
  have HU := Lib.hid (show BlkAt 47 (w.heap.size) [.int .u32 (u.a : Int), .int .i64 u.n, .int .i64 u.d] wz by
    have h9 := BlkAt.new (t := 47) w [.int .u32 (u.a : Int), .int .i64 u.n, .int .i64 u.d]
    have h9 := h9.later (ba1 _ (.cells #[.int .u64 (x1 : Nat), .int .u64 (y1 : Nat)] 25))
    have h9 := h9.later (ba1 _ (.cells #[.int .u64 (x2 : Nat), .int .u64 (y2 : Nat)] 25))
    rw [hwz]; simpa using h9)
  have H1 := Lib.hid (show BlkAt 25 (w.heap.size + 1) [.int .u64 (x1 : Nat), .int .u64 (y1 : Nat)] wz by
    have h9 := BlkAt.new (t := 25) (w.alloc (.cells #[.int .u32 (u.a : Int), .int .i64 u.n, .int .i64 u.d] 47)) [.int .u64 (x1 : Nat), .int .u64 (y1 : Nat)]
    have h9 := h9.later (ba1 _ (.cells #[.int .u64 (x2 : Nat), .int .u64 (y2 : Nat)] 25))
    rw [hwz]; simpa using h9)
  have H2 := Lib.hid (show BlkAt 25 (w.heap.size + 1 + 1) [.int .u64 (x2 : Nat), .int .u64 (y2 : Nat)] wz by
    have h9 := BlkAt.new (t := 25) ((w.alloc (.cells #[.int .u32 (u.a : Int), .int .i64 u.n, .int .i64 u.d] 47)).alloc (.cells #[.int .u64 (x1 : Nat), .int .u64 (y1 : Nat)] 25)) [.int .u64 (x2 : Nat), .int .u64 (y2 : Nat)]
    rw [hwz]; simpa using h9)
  have HOK : Hid (u.a < 4294967296) := hu
  have C0 := Lib.hid t0
  have C1 := Lib.hid t1
  have C2 := Lib.hid t2
  have C3 := Lib.hid t3
  clear hu t0 t1 t2 t3
  go_enter Try.func7, Try.ntmps7
  go_wp2_with fail
  rw [← hwz]
  clear hwz
  have c0 := BlkAt.cell HU.out (j := 0) rfl
  have c1 := BlkAt.cell HU.out (j := 1) rfl
  have c2 := BlkAt.cell HU.out (j := 2) rfl
  have d0 := BlkAt.cell H1.out (j := 0) rfl
  have d1 := BlkAt.cell H1.out (j := 1) rfl
  have e0 := BlkAt.cell H2.out (j := 0) rfl
  have e1 := BlkAt.cell H2.out (j := 1) rfl
  go_wp2_with fail
  refine (mayUR_any _ _ _ _ (by omega) (by have := HOK.out; omega)).mono ?_
  rintro e w' ⟨rfl, hb⟩
  rw [C0.out]
  have HU := Lib.hid (HU.out.later hb)
  have H1 := Lib.hid (H1.out.later hb)
  have H2 := Lib.hid (H2.out.later hb)
  have HB := Lib.hid (below_of HB.out hb)
  clear hb
  clear c0 c1 c2 d0 d1 e0 e1
  have c0 := BlkAt.cell HU.out (j := 0) rfl
  have c1 := BlkAt.cell HU.out (j := 1) rfl
  have c2 := BlkAt.cell HU.out (j := 2) rfl
  have d0 := BlkAt.cell H1.out (j := 0) rfl
  have d1 := BlkAt.cell H1.out (j := 1) rfl
  have e0 := BlkAt.cell H2.out (j := 0) rfl
  have e1 := BlkAt.cell H2.out (j := 1) rfl
  go_wp2_with fail
  refine (tagW_any _ _ _).mono ?_
  rintro e w' ⟨rfl, hb⟩
  rw [C1.out]
  have HU := Lib.hid (HU.out.later hb)
  have H1 := Lib.hid (H1.out.later hb)
  have H2 := Lib.hid (H2.out.later hb)
  have HB := Lib.hid (below_of HB.out hb)
  clear hb
  clear c0 c1 c2 d0 d1 e0 e1
  have c0 := BlkAt.cell HU.out (j := 0) rfl
  have c1 := BlkAt.cell HU.out (j := 1) rfl
  have c2 := BlkAt.cell HU.out (j := 2) rfl
  have d0 := BlkAt.cell H1.out (j := 0) rfl
  have d1 := BlkAt.cell H1.out (j := 1) rfl
  have e0 := BlkAt.cell H2.out (j := 0) rfl
  have e1 := BlkAt.cell H2.out (j := 1) rfl
  go_wp2_with fail
  refine (tagW_any _ _ _).mono ?_
  rintro e w' ⟨rfl, hb⟩
  rw [C2.out]
  have HU := Lib.hid (HU.out.later hb)
  have H1 := Lib.hid (H1.out.later hb)
  have H2 := Lib.hid (H2.out.later hb)
  have HB := Lib.hid (below_of HB.out hb)
  clear hb
  clear c0 c1 c2 d0 d1 e0 e1
  have c0 := BlkAt.cell HU.out (j := 0) rfl
  have c1 := BlkAt.cell HU.out (j := 1) rfl
  have c2 := BlkAt.cell HU.out (j := 2) rfl
  have d0 := BlkAt.cell H1.out (j := 0) rfl
  have d1 := BlkAt.cell H1.out (j := 1) rfl
  have e0 := BlkAt.cell H2.out (j := 0) rfl
  have e1 := BlkAt.cell H2.out (j := 1) rfl
  go_wp2_with fail
  refine (noneR_any _ _ _).mono ?_
  rintro e w' ⟨rfl, hb⟩
  rw [C3.out]
  have HU := Lib.hid (HU.out.later hb)
  have H1 := Lib.hid (H1.out.later hb)
  have H2 := Lib.hid (H2.out.later hb)
  have HB := Lib.hid (below_of HB.out hb)
  clear hb
  clear c0 c1 c2 d0 d1 e0 e1
  have c0 := BlkAt.cell HU.out (j := 0) rfl
  have c1 := BlkAt.cell HU.out (j := 1) rfl
  have c2 := BlkAt.cell HU.out (j := 2) rfl
  have d0 := BlkAt.cell H1.out (j := 0) rfl
  have d1 := BlkAt.cell H1.out (j := 1) rfl
  have e0 := BlkAt.cell H2.out (j := 0) rfl
  have e1 := BlkAt.cell H2.out (j := 1) rfl
  go_wp2_with fail
  refine (known6_any _).mono ?_
  rintro e w1 ⟨rfl, hb⟩
  have HB := Lib.hid (below_of HB.out hb)
  go_wp2_with fail
  go_ret
  exact ⟨rfl, HB.out⟩
set_option maxHeartbeats 16000000 in
set_option maxRecDepth 100000 in
theorem hu4 (u : Ud) (hu : u.a < 4294967296) (x1 y1 x2 y2 s k : Nat) (w : World) (t0 : mayU u.a u.n u.d = true) (t1 : tagB x1 y1 = true) (t2 : tagB x2 y2 = true) (t3 : noneB x1 y1 = false) (t4 : noneB x2 y2 = true) :
    Calls Try.prog 7 #[.agg #[.int .u32 (u.a : Int), .int .i64 u.n, .int .i64 u.d], .agg #[.int .u64 (x1 : Nat), .int .u64 (y1 : Nat)], .agg #[.int .u64 (x2 : Nat), .int .u64 (y2 : Nat)], .int .u64 (s : Nat), .int .u64 (k : Nat)] w fun e w' => e = .returned (.bool true) ∧ Below w.heap.size w w' := by
  obtain ⟨wz, hwz⟩ : ∃ wz, wz = (((w.alloc (.cells #[.int .u32 (u.a : Int), .int .i64 u.n, .int .i64 u.d] 47)).alloc (.cells #[.int .u64 (x1 : Nat), .int .u64 (y1 : Nat)] 25)).alloc (.cells #[.int .u64 (x2 : Nat), .int .u64 (y2 : Nat)] 25)) := ⟨_, rfl⟩
  have HB := Lib.hid (show Below w.heap.size w wz by rw [hwz]; go_grown)
  have HU := Lib.hid (show BlkAt 47 (w.heap.size) [.int .u32 (u.a : Int), .int .i64 u.n, .int .i64 u.d] wz by
    have h9 := BlkAt.new (t := 47) w [.int .u32 (u.a : Int), .int .i64 u.n, .int .i64 u.d]
    have h9 := h9.later (ba1 _ (.cells #[.int .u64 (x1 : Nat), .int .u64 (y1 : Nat)] 25))
    have h9 := h9.later (ba1 _ (.cells #[.int .u64 (x2 : Nat), .int .u64 (y2 : Nat)] 25))
    rw [hwz]; simpa using h9)
  have H1 := Lib.hid (show BlkAt 25 (w.heap.size + 1) [.int .u64 (x1 : Nat), .int .u64 (y1 : Nat)] wz by
    have h9 := BlkAt.new (t := 25) (w.alloc (.cells #[.int .u32 (u.a : Int), .int .i64 u.n, .int .i64 u.d] 47)) [.int .u64 (x1 : Nat), .int .u64 (y1 : Nat)]
    have h9 := h9.later (ba1 _ (.cells #[.int .u64 (x2 : Nat), .int .u64 (y2 : Nat)] 25))
    rw [hwz]; simpa using h9)
  have H2 := Lib.hid (show BlkAt 25 (w.heap.size + 1 + 1) [.int .u64 (x2 : Nat), .int .u64 (y2 : Nat)] wz by
    have h9 := BlkAt.new (t := 25) ((w.alloc (.cells #[.int .u32 (u.a : Int), .int .i64 u.n, .int .i64 u.d] 47)).alloc (.cells #[.int .u64 (x1 : Nat), .int .u64 (y1 : Nat)] 25)) [.int .u64 (x2 : Nat), .int .u64 (y2 : Nat)]
    rw [hwz]; simpa using h9)
  have HOK : Hid (u.a < 4294967296) := hu
  have C0 := Lib.hid t0
  have C1 := Lib.hid t1
  have C2 := Lib.hid t2
  have C3 := Lib.hid t3
  have C4 := Lib.hid t4
  clear hu t0 t1 t2 t3 t4
  go_enter Try.func7, Try.ntmps7
  go_wp2_with fail
  rw [← hwz]
  clear hwz
  have c0 := BlkAt.cell HU.out (j := 0) rfl
  have c1 := BlkAt.cell HU.out (j := 1) rfl
  have c2 := BlkAt.cell HU.out (j := 2) rfl
  have d0 := BlkAt.cell H1.out (j := 0) rfl
  have d1 := BlkAt.cell H1.out (j := 1) rfl
  have e0 := BlkAt.cell H2.out (j := 0) rfl
  have e1 := BlkAt.cell H2.out (j := 1) rfl
  go_wp2_with fail
  refine (mayUR_any _ _ _ _ (by omega) (by have := HOK.out; omega)).mono ?_
  rintro e w' ⟨rfl, hb⟩
  rw [C0.out]
  have HU := Lib.hid (HU.out.later hb)
  have H1 := Lib.hid (H1.out.later hb)
  have H2 := Lib.hid (H2.out.later hb)
  have HB := Lib.hid (below_of HB.out hb)
  clear hb
  clear c0 c1 c2 d0 d1 e0 e1
  have c0 := BlkAt.cell HU.out (j := 0) rfl
  have c1 := BlkAt.cell HU.out (j := 1) rfl
  have c2 := BlkAt.cell HU.out (j := 2) rfl
  have d0 := BlkAt.cell H1.out (j := 0) rfl
  have d1 := BlkAt.cell H1.out (j := 1) rfl
  have e0 := BlkAt.cell H2.out (j := 0) rfl
  have e1 := BlkAt.cell H2.out (j := 1) rfl
  go_wp2_with fail
  refine (tagW_any _ _ _).mono ?_
  rintro e w' ⟨rfl, hb⟩
  rw [C1.out]
  have HU := Lib.hid (HU.out.later hb)
  have H1 := Lib.hid (H1.out.later hb)
  have H2 := Lib.hid (H2.out.later hb)
  have HB := Lib.hid (below_of HB.out hb)
  clear hb
  clear c0 c1 c2 d0 d1 e0 e1
  have c0 := BlkAt.cell HU.out (j := 0) rfl
  have c1 := BlkAt.cell HU.out (j := 1) rfl
  have c2 := BlkAt.cell HU.out (j := 2) rfl
  have d0 := BlkAt.cell H1.out (j := 0) rfl
  have d1 := BlkAt.cell H1.out (j := 1) rfl
  have e0 := BlkAt.cell H2.out (j := 0) rfl
  have e1 := BlkAt.cell H2.out (j := 1) rfl
  go_wp2_with fail
  refine (tagW_any _ _ _).mono ?_
  rintro e w' ⟨rfl, hb⟩
  rw [C2.out]
  have HU := Lib.hid (HU.out.later hb)
  have H1 := Lib.hid (H1.out.later hb)
  have H2 := Lib.hid (H2.out.later hb)
  have HB := Lib.hid (below_of HB.out hb)
  clear hb
  clear c0 c1 c2 d0 d1 e0 e1
  have c0 := BlkAt.cell HU.out (j := 0) rfl
  have c1 := BlkAt.cell HU.out (j := 1) rfl
  have c2 := BlkAt.cell HU.out (j := 2) rfl
  have d0 := BlkAt.cell H1.out (j := 0) rfl
  have d1 := BlkAt.cell H1.out (j := 1) rfl
  have e0 := BlkAt.cell H2.out (j := 0) rfl
  have e1 := BlkAt.cell H2.out (j := 1) rfl
  go_wp2_with fail
  refine (noneR_any _ _ _).mono ?_
  rintro e w' ⟨rfl, hb⟩
  rw [C3.out]
  have HU := Lib.hid (HU.out.later hb)
  have H1 := Lib.hid (H1.out.later hb)
  have H2 := Lib.hid (H2.out.later hb)
  have HB := Lib.hid (below_of HB.out hb)
  clear hb
  clear c0 c1 c2 d0 d1 e0 e1
  have c0 := BlkAt.cell HU.out (j := 0) rfl
  have c1 := BlkAt.cell HU.out (j := 1) rfl
  have c2 := BlkAt.cell HU.out (j := 2) rfl
  have d0 := BlkAt.cell H1.out (j := 0) rfl
  have d1 := BlkAt.cell H1.out (j := 1) rfl
  have e0 := BlkAt.cell H2.out (j := 0) rfl
  have e1 := BlkAt.cell H2.out (j := 1) rfl
  go_wp2_with fail
  refine (noneR_any _ _ _).mono ?_
  rintro e w' ⟨rfl, hb⟩
  rw [C4.out]
  have HU := Lib.hid (HU.out.later hb)
  have H1 := Lib.hid (H1.out.later hb)
  have H2 := Lib.hid (H2.out.later hb)
  have HB := Lib.hid (below_of HB.out hb)
  clear hb
  clear c0 c1 c2 d0 d1 e0 e1
  have c0 := BlkAt.cell HU.out (j := 0) rfl
  have c1 := BlkAt.cell HU.out (j := 1) rfl
  have c2 := BlkAt.cell HU.out (j := 2) rfl
  have d0 := BlkAt.cell H1.out (j := 0) rfl
  have d1 := BlkAt.cell H1.out (j := 1) rfl
  have e0 := BlkAt.cell H2.out (j := 0) rfl
  have e1 := BlkAt.cell H2.out (j := 1) rfl
  go_wp2_with fail
  refine (known6_any _).mono ?_
  rintro e w1 ⟨rfl, hb⟩
  have HB := Lib.hid (below_of HB.out hb)
  go_wp2_with fail
  go_ret
  exact ⟨rfl, HB.out⟩
set_option maxHeartbeats 16000000 in
set_option maxRecDepth 100000 in
theorem hu5 (u : Ud) (hu : u.a < 4294967296) (x1 y1 x2 y2 s k : Nat) (w : World) (t0 : mayU u.a u.n u.d = true) (t1 : tagB x1 y1 = true) (t2 : tagB x2 y2 = true) (t3 : noneB x1 y1 = false) (t4 : noneB x2 y2 = false) (hs : s = 0) :
    Calls Try.prog 7 #[.agg #[.int .u32 (u.a : Int), .int .i64 u.n, .int .i64 u.d], .agg #[.int .u64 (x1 : Nat), .int .u64 (y1 : Nat)], .agg #[.int .u64 (x2 : Nat), .int .u64 (y2 : Nat)], .int .u64 (s : Nat), .int .u64 (k : Nat)] w fun e w' => e = .returned (.bool true) ∧ Below w.heap.size w w' := by
  obtain ⟨wz, hwz⟩ : ∃ wz, wz = (((w.alloc (.cells #[.int .u32 (u.a : Int), .int .i64 u.n, .int .i64 u.d] 47)).alloc (.cells #[.int .u64 (x1 : Nat), .int .u64 (y1 : Nat)] 25)).alloc (.cells #[.int .u64 (x2 : Nat), .int .u64 (y2 : Nat)] 25)) := ⟨_, rfl⟩
  have HB := Lib.hid (show Below w.heap.size w wz by rw [hwz]; go_grown)
  have HU := Lib.hid (show BlkAt 47 (w.heap.size) [.int .u32 (u.a : Int), .int .i64 u.n, .int .i64 u.d] wz by
    have h9 := BlkAt.new (t := 47) w [.int .u32 (u.a : Int), .int .i64 u.n, .int .i64 u.d]
    have h9 := h9.later (ba1 _ (.cells #[.int .u64 (x1 : Nat), .int .u64 (y1 : Nat)] 25))
    have h9 := h9.later (ba1 _ (.cells #[.int .u64 (x2 : Nat), .int .u64 (y2 : Nat)] 25))
    rw [hwz]; simpa using h9)
  have H1 := Lib.hid (show BlkAt 25 (w.heap.size + 1) [.int .u64 (x1 : Nat), .int .u64 (y1 : Nat)] wz by
    have h9 := BlkAt.new (t := 25) (w.alloc (.cells #[.int .u32 (u.a : Int), .int .i64 u.n, .int .i64 u.d] 47)) [.int .u64 (x1 : Nat), .int .u64 (y1 : Nat)]
    have h9 := h9.later (ba1 _ (.cells #[.int .u64 (x2 : Nat), .int .u64 (y2 : Nat)] 25))
    rw [hwz]; simpa using h9)
  have H2 := Lib.hid (show BlkAt 25 (w.heap.size + 1 + 1) [.int .u64 (x2 : Nat), .int .u64 (y2 : Nat)] wz by
    have h9 := BlkAt.new (t := 25) ((w.alloc (.cells #[.int .u32 (u.a : Int), .int .i64 u.n, .int .i64 u.d] 47)).alloc (.cells #[.int .u64 (x1 : Nat), .int .u64 (y1 : Nat)] 25)) [.int .u64 (x2 : Nat), .int .u64 (y2 : Nat)]
    rw [hwz]; simpa using h9)
  have HOK : Hid (u.a < 4294967296) := hu
  have C0 := Lib.hid t0
  have C1 := Lib.hid t1
  have C2 := Lib.hid t2
  have C3 := Lib.hid t3
  have C4 := Lib.hid t4
  have z1 : ((s : Int) == 0) = true := beq_iff_eq.2 (by omega)
  clear hu t0 t1 t2 t3 t4 hs
  go_enter Try.func7, Try.ntmps7
  go_wp2_with fail
  rw [← hwz]
  clear hwz
  have c0 := BlkAt.cell HU.out (j := 0) rfl
  have c1 := BlkAt.cell HU.out (j := 1) rfl
  have c2 := BlkAt.cell HU.out (j := 2) rfl
  have d0 := BlkAt.cell H1.out (j := 0) rfl
  have d1 := BlkAt.cell H1.out (j := 1) rfl
  have e0 := BlkAt.cell H2.out (j := 0) rfl
  have e1 := BlkAt.cell H2.out (j := 1) rfl
  go_wp2_with fail
  refine (mayUR_any _ _ _ _ (by omega) (by have := HOK.out; omega)).mono ?_
  rintro e w' ⟨rfl, hb⟩
  rw [C0.out]
  have HU := Lib.hid (HU.out.later hb)
  have H1 := Lib.hid (H1.out.later hb)
  have H2 := Lib.hid (H2.out.later hb)
  have HB := Lib.hid (below_of HB.out hb)
  clear hb
  clear c0 c1 c2 d0 d1 e0 e1
  have c0 := BlkAt.cell HU.out (j := 0) rfl
  have c1 := BlkAt.cell HU.out (j := 1) rfl
  have c2 := BlkAt.cell HU.out (j := 2) rfl
  have d0 := BlkAt.cell H1.out (j := 0) rfl
  have d1 := BlkAt.cell H1.out (j := 1) rfl
  have e0 := BlkAt.cell H2.out (j := 0) rfl
  have e1 := BlkAt.cell H2.out (j := 1) rfl
  go_wp2_with fail
  refine (tagW_any _ _ _).mono ?_
  rintro e w' ⟨rfl, hb⟩
  rw [C1.out]
  have HU := Lib.hid (HU.out.later hb)
  have H1 := Lib.hid (H1.out.later hb)
  have H2 := Lib.hid (H2.out.later hb)
  have HB := Lib.hid (below_of HB.out hb)
  clear hb
  clear c0 c1 c2 d0 d1 e0 e1
  have c0 := BlkAt.cell HU.out (j := 0) rfl
  have c1 := BlkAt.cell HU.out (j := 1) rfl
  have c2 := BlkAt.cell HU.out (j := 2) rfl
  have d0 := BlkAt.cell H1.out (j := 0) rfl
  have d1 := BlkAt.cell H1.out (j := 1) rfl
  have e0 := BlkAt.cell H2.out (j := 0) rfl
  have e1 := BlkAt.cell H2.out (j := 1) rfl
  go_wp2_with fail
  refine (tagW_any _ _ _).mono ?_
  rintro e w' ⟨rfl, hb⟩
  rw [C2.out]
  have HU := Lib.hid (HU.out.later hb)
  have H1 := Lib.hid (H1.out.later hb)
  have H2 := Lib.hid (H2.out.later hb)
  have HB := Lib.hid (below_of HB.out hb)
  clear hb
  clear c0 c1 c2 d0 d1 e0 e1
  have c0 := BlkAt.cell HU.out (j := 0) rfl
  have c1 := BlkAt.cell HU.out (j := 1) rfl
  have c2 := BlkAt.cell HU.out (j := 2) rfl
  have d0 := BlkAt.cell H1.out (j := 0) rfl
  have d1 := BlkAt.cell H1.out (j := 1) rfl
  have e0 := BlkAt.cell H2.out (j := 0) rfl
  have e1 := BlkAt.cell H2.out (j := 1) rfl
  go_wp2_with fail
  refine (noneR_any _ _ _).mono ?_
  rintro e w' ⟨rfl, hb⟩
  rw [C3.out]
  have HU := Lib.hid (HU.out.later hb)
  have H1 := Lib.hid (H1.out.later hb)
  have H2 := Lib.hid (H2.out.later hb)
  have HB := Lib.hid (below_of HB.out hb)
  clear hb
  clear c0 c1 c2 d0 d1 e0 e1
  have c0 := BlkAt.cell HU.out (j := 0) rfl
  have c1 := BlkAt.cell HU.out (j := 1) rfl
  have c2 := BlkAt.cell HU.out (j := 2) rfl
  have d0 := BlkAt.cell H1.out (j := 0) rfl
  have d1 := BlkAt.cell H1.out (j := 1) rfl
  have e0 := BlkAt.cell H2.out (j := 0) rfl
  have e1 := BlkAt.cell H2.out (j := 1) rfl
  go_wp2_with fail
  refine (noneR_any _ _ _).mono ?_
  rintro e w' ⟨rfl, hb⟩
  rw [C4.out]
  have HU := Lib.hid (HU.out.later hb)
  have H1 := Lib.hid (H1.out.later hb)
  have H2 := Lib.hid (H2.out.later hb)
  have HB := Lib.hid (below_of HB.out hb)
  clear hb
  clear c0 c1 c2 d0 d1 e0 e1
  have c0 := BlkAt.cell HU.out (j := 0) rfl
  have c1 := BlkAt.cell HU.out (j := 1) rfl
  have c2 := BlkAt.cell HU.out (j := 2) rfl
  have d0 := BlkAt.cell H1.out (j := 0) rfl
  have d1 := BlkAt.cell H1.out (j := 1) rfl
  have e0 := BlkAt.cell H2.out (j := 0) rfl
  have e1 := BlkAt.cell H2.out (j := 1) rfl
  go_wp2_with fail
  refine (known6_any _).mono ?_
  rintro e w1 ⟨rfl, hb⟩
  have HB := Lib.hid (below_of HB.out hb)
  go_wp2_with fail
  go_ret
  exact ⟨rfl, HB.out⟩
/-- Stores into one block leave bytes elsewhere as they were. -/
theorem bytes_other {w w' : World} {v : Value} {l : List UInt8} {t : TypeId} {g : Nat} {cs : List Value} (h : Bytes w v l) (hg : BlkAt t g cs w) (hc : ∀ (j : Nat) (n : Int), cs[j]? ≠ some (Value.int .u8 n)) (hk : ∀ b, b ≠ g → w'.heap[b]? = w.heap[b]?) (hs : w.heap.size ≤ w'.heap.size) : Bytes w' v l := by
  rcases h with h | ⟨b, o, c, rfl, hb, hcp, hx⟩
  · exact .inl h
  · by_cases hl : l = []
    · subst hl; exact .inl ⟨rfl, _, _, rfl, by simp⟩
    · have hne : b ≠ g := by
        intro e
        obtain ⟨y, r, rfl⟩ := List.exists_cons_of_ne_nil hl
        have h0 := hx 0 y rfl
        rw [e, cell_of_row w g (o + 0) _ _ (0, 0) hg, Nat.add_zero, List.getElem?_toArray] at h0
        exact hc o _ h0
      exact .inr ⟨b, o, c, rfl, Nat.lt_of_lt_of_le hb hs, hcp, fun j y hj => (cell_block (hk b hne)).trans (hx j y hj)⟩
theorem z9_no8 (j : Nat) (n : Int) : ([.int .i64 0, .int .i64 0, .int .u64 0, .int .u64 0, .int .u64 0, .int .u64 0, .int .u64 0, .int .u64 0, .slice none 0 0] : List Value)[j]? ≠ some (Value.int .u8 n) := by
  intro h
  match j, h with
  | 0, h => simp at h
  | 1, h => simp at h
  | 2, h => simp at h
  | 3, h => simp at h
  | 4, h => simp at h
  | 5, h => simp at h
  | 6, h => simp at h
  | 7, h => simp at h
  | 8, h => simp at h
  | j + 9, h => simp at h
/-- The control frame that bears an update. -/
def upF (x1 y1 x2 y2 s k : Nat) : Fr := ⟨2, 1, x1, y1, x2, y2, s, k⟩
theorem upF_may {a n d x1 y1 x2 y2 s k : Nat} (ha : a < 4294967296) (h : mayU a n d = true) (h1 : tagB x1 y1 = true) (h2 : tagB x2 y2 = true) (h3 : noneB x1 y1 = false) (h4 : noneB x2 y2 = false) (hs : s ≠ 0) : mayF (upF x1 y1 x2 y2 s k) (upL a n d) = true := by
  have e : namB (upF x1 y1 x2 y2 s k) (upL a n d) = true := by
    show (if (2 : Int) = 1 then _ else if (2 : Int) = 2 then !noneB x2 y2 && ((ofB (upL a n d) && decide (s ≠ 0)) || _) else _) = true
    rw [if_neg (by decide), if_pos rfl, (up_of ha h).1, h4, decide_eq_true hs]; rfl
  unfold mayF
  rw [e]
  show (decide ((1 : Int) ≤ 1) && (decide ((1 : Int) ≤ 16) && (tagB x1 y1 && (tagB x2 y2 && (!noneB x1 y1 && true))))) = true
  rw [h1, h2, h3]; rfl
set_option maxHeartbeats 16000000 in
set_option maxRecDepth 100000 in
theorem hu_main (a n d : Nat) (ha : a < 4294967296) (x1 y1 x2 y2 s k : Nat) (hk : (upF x1 y1 x2 y2 s k).Ok) (w : World) (t0 : mayU a n d = true) (t1 : tagB x1 y1 = true) (t2 : tagB x2 y2 = true) (t3 : noneB x1 y1 = false) (t4 : noneB x2 y2 = false) (hs : s ≠ 0) :
    Calls Try.prog 7 #[.agg #[.int .u32 (a : Int), .int .i64 (n : Int), .int .i64 (d : Int)], .agg #[.int .u64 (x1 : Nat), .int .u64 (y1 : Nat)], .agg #[.int .u64 (x2 : Nat), .int .u64 (y2 : Nat)], .int .u64 (s : Nat), .int .u64 (k : Nat)] w fun e w' => e = .returned (.bool true) ∧ Below w.heap.size w w' := by
  obtain ⟨wz, hwz⟩ : ∃ wz, wz = (((w.alloc (.cells #[.int .u32 (a : Int), .int .i64 (n : Int), .int .i64 (d : Int)] 47)).alloc (.cells #[.int .u64 (x1 : Nat), .int .u64 (y1 : Nat)] 25)).alloc (.cells #[.int .u64 (x2 : Nat), .int .u64 (y2 : Nat)] 25)) := ⟨_, rfl⟩
  have HB := Lib.hid (show Below w.heap.size w wz by rw [hwz]; go_grown)
  have HU := Lib.hid (show BlkAt 47 (w.heap.size) [.int .u32 (a : Int), .int .i64 (n : Int), .int .i64 (d : Int)] wz by
    have h9 := BlkAt.new (t := 47) w [.int .u32 (a : Int), .int .i64 (n : Int), .int .i64 (d : Int)]
    have h9 := h9.later (ba1 _ (.cells #[.int .u64 (x1 : Nat), .int .u64 (y1 : Nat)] 25))
    have h9 := h9.later (ba1 _ (.cells #[.int .u64 (x2 : Nat), .int .u64 (y2 : Nat)] 25))
    rw [hwz]; simpa using h9)
  have H1 := Lib.hid (show BlkAt 25 (w.heap.size + 1) [.int .u64 (x1 : Nat), .int .u64 (y1 : Nat)] wz by
    have h9 := BlkAt.new (t := 25) (w.alloc (.cells #[.int .u32 (a : Int), .int .i64 (n : Int), .int .i64 (d : Int)] 47)) [.int .u64 (x1 : Nat), .int .u64 (y1 : Nat)]
    have h9 := h9.later (ba1 _ (.cells #[.int .u64 (x2 : Nat), .int .u64 (y2 : Nat)] 25))
    rw [hwz]; simpa using h9)
  have H2 := Lib.hid (show BlkAt 25 (w.heap.size + 1 + 1) [.int .u64 (x2 : Nat), .int .u64 (y2 : Nat)] wz by
    have h9 := BlkAt.new (t := 25) ((w.alloc (.cells #[.int .u32 (a : Int), .int .i64 (n : Int), .int .i64 (d : Int)] 47)).alloc (.cells #[.int .u64 (x1 : Nat), .int .u64 (y1 : Nat)] 25)) [.int .u64 (x2 : Nat), .int .u64 (y2 : Nat)]
    rw [hwz]; simpa using h9)
  have HOK : Hid (a < 4294967296) := ha
  have C0 := Lib.hid t0
  have C1 := Lib.hid t1
  have C2 := Lib.hid t2
  have C3 := Lib.hid t3
  have C4 := Lib.hid t4
  have z1 : ((s : Int) == 0) = false := beq_eq_false_iff_ne.2 (by omega)
  have hmay := upF_may (k := k) ha t0 t1 t2 t3 t4 hs
  have HBU := Lib.hid (fun W => bytesR5_any a n d ha t0 W)
  have HL6 := Lib.hid (upL_length a n d)
  have HFB : Hid (∀ v W, Bytes W v (upL a n d) → Calls Try.prog 9 #[.agg #[.int .i64 2, .int .i64 1, .int .u64 (x1 : Nat), .int .u64 (y1 : Nat), .int .u64 (x2 : Nat), .int .u64 (y2 : Nat), .int .u64 (s : Nat), .int .u64 (k : Nat), v]] W fun e w' => ∃ v, e = .returned (.tuple #[v, .int .i64 0]) ∧ OwnB w' W.heap.size v (frL (upF x1 y1 x2 y2 s k) (upL a n d)) ∧ Below W.heap.size W w') := fun v W h => bytesF_yes (upF x1 y1 x2 y2 s k) hk v _ W h hmay
  have hlen : (frL (upF x1 y1 x2 y2 s k) (upL a n d)).length = 60 := by rw [frL_length, upL_length]
  have hok := ok_L hk hmay
  obtain ⟨p1, p2⟩ := frP_L hk hmay
  obtain ⟨o1, o2, o3⟩ := o_yes hok
  have HFO : Hid (∀ v W, Bytes W v (frL (upF x1 y1 x2 y2 s k) (upL a n d)) → Calls Try.prog 14 #[v] W fun e w' => ∃ y, e = .returned (.tuple #[.agg #[.int .i64 2, .int .i64 1, .int .u64 (x1 : Nat), .int .u64 (y1 : Nat), .int .u64 (x2 : Nat), .int .u64 (y2 : Nat), .int .u64 (s : Nat), .int .u64 (k : Nat), y], .int .i64 0]) ∧ OwnB w' W.heap.size y (upL a n d) ∧ Below W.heap.size W w') := fun v W h => by
    have h9 := of6W_any v _ W h (by rw [hlen]; omega)
    unfold OfA at h9
    rw [o1, o2, o3, p1, p2] at h9
    exact h9
  have hub : updB (upF x1 y1 x2 y2 s k) (upL a n d) = true := by unfold updB; rw [hmay]; rfl
  obtain ⟨r1, r2, r3, r4⟩ := u_yes hub
  obtain ⟨f1, f2, f3, f4⟩ := up_of ha t0
  have HUP : Hid (∀ v W, Bytes W v (upL a n d) → Calls Try.prog 17 #[.agg #[.int .i64 2, .int .i64 1, .int .u64 (x1 : Nat), .int .u64 (y1 : Nat), .int .u64 (x2 : Nat), .int .u64 (y2 : Nat), .int .u64 (s : Nat), .int .u64 (k : Nat), v]] W fun e w' => e = .returned (.tuple #[.agg #[.int .u32 (a : Int), .int .i64 (n : Int), .int .i64 (d : Int)], .bool true]) ∧ Below W.heap.size W w') := fun v W h => by
    have h9 := updW_any (upF x1 y1 x2 y2 s k) v _ W h (by rw [upL_length]; omega)
    unfold UpA at h9
    rw [r1, r2, r3, r4, f1, f2, f3, f4] at h9
    exact h9
  have HSE : Hid (∀ v W, Bytes W v (upL a n d) → Calls Try.prog 19 #[.agg #[.int .i64 2, .int .i64 1, .int .u64 (x1 : Nat), .int .u64 (y1 : Nat), .int .u64 (x2 : Nat), .int .u64 (y2 : Nat), .int .u64 (s : Nat), .int .u64 (k : Nat), v], .agg #[.int .u64 (x2 : Nat), .int .u64 (y2 : Nat)], .agg #[.int .u64 (x1 : Nat), .int .u64 (y1 : Nat)]] W fun e w' => e = .returned (.bool true) ∧ Below W.heap.size W w') := fun v W h => by
    have h9 := sesW_any (upF x1 y1 x2 y2 s k) v _ x2 y2 x1 y1 W h (by rw [upL_length]; omega)
    have e9 : sesF (upF x1 y1 x2 y2 s k) (upL a n d) x2 y2 x1 y1 = true := by
      unfold sesF; rw [hmay]
      show (true && (true && (sameT x1 y1 x1 y1 && sameT x2 y2 x2 y2))) = true
      rw [sameT_iff.2 ⟨rfl, rfl⟩, sameT_iff.2 ⟨rfl, rfl⟩]; rfl
    rw [e9] at h9; exact h9
  obtain ⟨LB, hLB⟩ : ∃ l, l = frL (upF x1 y1 x2 y2 s k) (upL a n d) := ⟨_, rfl⟩
  obtain ⟨LU, hLU⟩ : ∃ l, l = upL a n d := ⟨_, rfl⟩
  rw [← hLB] at HFB HFO hlen
  rw [← hLU] at HFB HFO HUP HSE HBU HL6
  have HLB := Lib.hid hlen
  clear ha t0 t1 t2 t3 t4 hs hk hmay hok p1 p2 o1 o2 o3 hub r1 r2 r3 r4 f1 f2 f3 f4 hLB hLU hlen
  go_enter Try.func7, Try.ntmps7
  go_wp2_with fail
  rw [← hwz]
  clear hwz
  have c0 := BlkAt.cell HU.out (j := 0) rfl
  have c1 := BlkAt.cell HU.out (j := 1) rfl
  have c2 := BlkAt.cell HU.out (j := 2) rfl
  have d0 := BlkAt.cell H1.out (j := 0) rfl
  have d1 := BlkAt.cell H1.out (j := 1) rfl
  have e0 := BlkAt.cell H2.out (j := 0) rfl
  have e1 := BlkAt.cell H2.out (j := 1) rfl
  go_wp2_with fail
  refine (mayUR_any _ _ _ _ (by omega) (by have := HOK.out; omega)).mono ?_
  rintro e w' ⟨rfl, hb⟩
  rw [C0.out]
  have HU := Lib.hid (HU.out.later hb)
  have H1 := Lib.hid (H1.out.later hb)
  have H2 := Lib.hid (H2.out.later hb)
  have HB := Lib.hid (below_of HB.out hb)
  clear hb
  clear c0 c1 c2 d0 d1 e0 e1
  have c0 := BlkAt.cell HU.out (j := 0) rfl
  have c1 := BlkAt.cell HU.out (j := 1) rfl
  have c2 := BlkAt.cell HU.out (j := 2) rfl
  have d0 := BlkAt.cell H1.out (j := 0) rfl
  have d1 := BlkAt.cell H1.out (j := 1) rfl
  have e0 := BlkAt.cell H2.out (j := 0) rfl
  have e1 := BlkAt.cell H2.out (j := 1) rfl
  go_wp2_with fail
  refine (tagW_any _ _ _).mono ?_
  rintro e w' ⟨rfl, hb⟩
  rw [C1.out]
  have HU := Lib.hid (HU.out.later hb)
  have H1 := Lib.hid (H1.out.later hb)
  have H2 := Lib.hid (H2.out.later hb)
  have HB := Lib.hid (below_of HB.out hb)
  clear hb
  clear c0 c1 c2 d0 d1 e0 e1
  have c0 := BlkAt.cell HU.out (j := 0) rfl
  have c1 := BlkAt.cell HU.out (j := 1) rfl
  have c2 := BlkAt.cell HU.out (j := 2) rfl
  have d0 := BlkAt.cell H1.out (j := 0) rfl
  have d1 := BlkAt.cell H1.out (j := 1) rfl
  have e0 := BlkAt.cell H2.out (j := 0) rfl
  have e1 := BlkAt.cell H2.out (j := 1) rfl
  go_wp2_with fail
  refine (tagW_any _ _ _).mono ?_
  rintro e w' ⟨rfl, hb⟩
  rw [C2.out]
  have HU := Lib.hid (HU.out.later hb)
  have H1 := Lib.hid (H1.out.later hb)
  have H2 := Lib.hid (H2.out.later hb)
  have HB := Lib.hid (below_of HB.out hb)
  clear hb
  clear c0 c1 c2 d0 d1 e0 e1
  have c0 := BlkAt.cell HU.out (j := 0) rfl
  have c1 := BlkAt.cell HU.out (j := 1) rfl
  have c2 := BlkAt.cell HU.out (j := 2) rfl
  have d0 := BlkAt.cell H1.out (j := 0) rfl
  have d1 := BlkAt.cell H1.out (j := 1) rfl
  have e0 := BlkAt.cell H2.out (j := 0) rfl
  have e1 := BlkAt.cell H2.out (j := 1) rfl
  go_wp2_with fail
  refine (noneR_any _ _ _).mono ?_
  rintro e w' ⟨rfl, hb⟩
  rw [C3.out]
  have HU := Lib.hid (HU.out.later hb)
  have H1 := Lib.hid (H1.out.later hb)
  have H2 := Lib.hid (H2.out.later hb)
  have HB := Lib.hid (below_of HB.out hb)
  clear hb
  clear c0 c1 c2 d0 d1 e0 e1
  have c0 := BlkAt.cell HU.out (j := 0) rfl
  have c1 := BlkAt.cell HU.out (j := 1) rfl
  have c2 := BlkAt.cell HU.out (j := 2) rfl
  have d0 := BlkAt.cell H1.out (j := 0) rfl
  have d1 := BlkAt.cell H1.out (j := 1) rfl
  have e0 := BlkAt.cell H2.out (j := 0) rfl
  have e1 := BlkAt.cell H2.out (j := 1) rfl
  go_wp2_with fail
  refine (noneR_any _ _ _).mono ?_
  rintro e w' ⟨rfl, hb⟩
  rw [C4.out]
  have HU := Lib.hid (HU.out.later hb)
  have H1 := Lib.hid (H1.out.later hb)
  have H2 := Lib.hid (H2.out.later hb)
  have HB := Lib.hid (below_of HB.out hb)
  clear hb
  clear c0 c1 c2 d0 d1 e0 e1
  have c0 := BlkAt.cell HU.out (j := 0) rfl
  have c1 := BlkAt.cell HU.out (j := 1) rfl
  have c2 := BlkAt.cell HU.out (j := 2) rfl
  have d0 := BlkAt.cell H1.out (j := 0) rfl
  have d1 := BlkAt.cell H1.out (j := 1) rfl
  have e0 := BlkAt.cell H2.out (j := 0) rfl
  have e1 := BlkAt.cell H2.out (j := 1) rfl
  go_wp2_with fail
  clear c0 c1 c2 d0 d1 e0 e1
  obtain ⟨wy, hwy⟩ : ∃ W, W = w' := ⟨_, rfl⟩
  rw [← hwy] at HB HU H1 H2 ⊢
  clear hwy
  (refine wp_region_held_drew (S := (fun w' => Below wy.heap.size wy w')) (by kernel_rfl) ?_ (fun hHeld => ?_); (focus ((try dsimp only); (exact (Below.refl _ _).drew))))
  (try dsimp only at hHeld)
  obtain ⟨w0, hw0⟩ : ∃ W0, W0 = World.drew wy := ⟨_, rfl⟩
  rw [← hw0]
  rw [← hw0] at hHeld
  clear hw0
  (refine wpAnyH_take (i := 0) (v := ?_) rfl (by kernel_rfl) (by kernel_rfl) (by kernel_rfl) (fun _ _ _ h => h) (Or.inl ⟨by rfl, ?_⟩) hHeld ?_; rotate_left; (focus (intro w hSw; (try dsimp only at hSw); go_simp; (have hq := BlkAt.later H1.out hSw; have c0 := BlkAt.cell hq (j := 0) rfl; have c1 := BlkAt.cell hq (j := 1) rfl; go_simp; try with_reducible rfl))); (try simp only [Act.put, List.setIfInBounds_toArray, List.set_cons_zero, List.set_cons_succ, List.getElem_toArray, List.getElem_cons_zero]))
  (refine wpAnyH_take (i := 1) (v := ?_) rfl (by kernel_rfl) (by kernel_rfl) (by kernel_rfl) (fun _ _ _ h => h) (Or.inl ⟨by rfl, ?_⟩) hHeld ?_; rotate_left; (focus (intro w hSw; (try dsimp only at hSw); go_simp; (have hq := BlkAt.later H2.out hSw; have c0 := BlkAt.cell hq (j := 0) rfl; have c1 := BlkAt.cell hq (j := 1) rfl; go_simp; try with_reducible rfl))); (try simp only [Act.put, List.setIfInBounds_toArray, List.set_cons_zero, List.set_cons_succ, List.getElem_toArray, List.getElem_cons_zero, List.getElem_cons_succ]))
  (refine wpAnyH_take (i := 2) (v := ?_) rfl (by kernel_rfl) (by kernel_rfl) (by kernel_rfl) (fun _ _ _ h => h) (Or.inl ⟨by rfl, ?_⟩) hHeld ?_; rotate_left; (focus (intro w hSw; (try dsimp only at hSw); go_simp; try with_reducible rfl)); (try simp only [Act.put, List.setIfInBounds_toArray, List.set_cons_zero, List.set_cons_succ, List.getElem_toArray, List.getElem_cons_zero, List.getElem_cons_succ])); (refine wpAnyH_take (i := 3) (v := ?_) rfl (by kernel_rfl) (by kernel_rfl) (by kernel_rfl) (fun _ _ _ h => h) (Or.inl ⟨by rfl, ?_⟩) hHeld ?_; rotate_left; (focus (intro w hSw; (try dsimp only at hSw); go_simp; try with_reducible rfl)); (try simp only [Act.put, List.setIfInBounds_toArray, List.set_cons_zero, List.set_cons_succ, List.getElem_toArray, List.getElem_cons_zero, List.getElem_cons_succ]))
  (refine wpAnyH_take (i := 4) (v := ?_) rfl (by kernel_rfl) (by kernel_rfl) (by kernel_rfl) (fun _ _ _ h => h) (Or.inl ⟨by rfl, ?_⟩) hHeld ?_; rotate_left; (focus (intro w hSw; (try dsimp only at hSw); go_simp; (have hq := BlkAt.later HU.out hSw; have c0 := BlkAt.cell hq (j := 0) rfl; have c1 := BlkAt.cell hq (j := 1) rfl; have c2 := BlkAt.cell hq (j := 2) rfl; go_simp; try with_reducible rfl))); (try simp only [Act.put, List.setIfInBounds_toArray, List.set_cons_zero, List.set_cons_succ, List.getElem_toArray, List.getElem_cons_zero, List.getElem_cons_succ]))
  refine wpAnyH_ready (rs := [5, 7]) (by kernel_rfl) (by simp) ?_
  refine AllReadyH.cons rfl (fun K hK => ?_) (AllReadyH.cons rfl (fun K hK => ?_) AllReadyH.nil)
  · go_simp
    refine (HBU.out _).mono ?_
    rintro e w5 ⟨p, rfl, hp0, hs⟩
    have hp := hp0.bytes
    obtain ⟨pa, pc, rfl⟩ := hp.form
    rw [HL6.out] at hp ⊢
    simp only []
    refine hK.out _ _ (hHeld.trans (hs.mono hHeld.size)) (fun hHeldN => ?_)
    (try simp only [Act.put, List.setIfInBounds_toArray, List.set_cons_zero, List.set_cons_succ, List.getElem_toArray, List.getElem_cons_zero, List.getElem_cons_succ])
    clear hHeld hK K
    have hHeld := hHeldN
    clear hHeldN
    (refine wpAnyH_take (i := 6) (v := ?_) rfl (by kernel_rfl) (by kernel_rfl) (by kernel_rfl) (fun _ _ _ h => h) (Or.inl ⟨by rfl, ?_⟩) hHeld ?_; rotate_left; (focus (intro w hSw; (try dsimp only at hSw); go_simp; try with_reducible rfl)); (try simp only [Act.put, List.setIfInBounds_toArray, List.set_cons_zero, List.set_cons_succ, List.getElem_toArray, List.getElem_cons_zero, List.getElem_cons_succ]))
    obtain ⟨g4, hg4⟩ : ∃ g, g = w5.heap.size := ⟨_, rfl⟩
    obtain ⟨wk, hwk⟩ : ∃ W, W = w5.alloc (.cells #[.int .i64 0, .int .i64 0, .int .u64 0, .int .u64 0, .int .u64 0, .int .u64 0, .int .u64 0, .int .u64 0, .slice none 0 0] 28) := ⟨_, rfl⟩
    have HP := Lib.hid (show Bytes wk (.slice pa 6 pc) LU by rw [hwk]; exact hp.later (ba1 _ _))
    have HF := Lib.hid (show BlkG 28 wy g4 [.int .i64 0, .int .i64 0, .int .u64 0, .int .u64 0, .int .u64 0, .int .u64 0, .int .u64 0, .int .u64 0, .slice none 0 0] wk from ⟨by rw [hwk, hg4]; exact BlkAt.new w5 _, by rw [hg4]; exact hHeld.size⟩)
    (refine wpAnyH_ready (rs := [7]) (by kernel_rfl) (by simp) ?_; refine AllReadyH.cons rfl (fun K hK => ?_) AllReadyH.nil; go_simp; skip; refine hK.out _ _ ?_ (fun hHeldN => ?_); (focus ((try dsimp only); (exact hHeld.alloc hHeld.size _))); clear hK K hHeld; have hHeld := hHeldN; clear hHeldN; (try simp only [Act.put, List.setIfInBounds_toArray, List.set_cons_zero, List.set_cons_succ, List.getElem_toArray, List.getElem_cons_zero, List.getElem_cons_succ]))
    rw [← hg4, ← hwk]
    rw [← hwk] at hHeld
    clear hg4 hwk hp hp0 hs
    refine wpAnyH_ready (rs := [8]) (by kernel_rfl) (by simp) ?_
    refine AllReadyH.cons rfl (fun K hK => ?_) AllReadyH.nil
    obtain ⟨c0, c1, c2, c3, c4, c5, c6, c7, c8⟩ := blk9 HF.out.1
    have hfz : ∀ j, wk.frozen? ⟨g4, j, none⟩ = false := fun j => BlkAt.frozen HF.out.1 j
    obtain ⟨s1, s2, s3⟩ := BlkAt.set9 HF.out.1 (.int .i64 2) (.int .i64 1) (.int .u64 (x1 : Nat)) (.int .u64 (y1 : Nat)) (.int .u64 (x2 : Nat)) (.int .u64 (y2 : Nat)) (.int .u64 (s : Nat)) (.int .u64 (k : Nat)) (.slice pa 6 pc)
    have HMV := Lib.hid (hHeld.trans (s2 _ HF.out.2))
    have G1 := Lib.hid s1
    have hne : ∀ b, (∃ c, (Value.slice pa 6 pc).ownBlock = some c ∧ c = b) → True := fun _ _ => trivial
    have HP2 : Hid (Bytes (((((((((wk.setCell ⟨g4, 0, none⟩ (.int .i64 2)).setCell ⟨g4, 1, none⟩ (.int .i64 1)).setCell ⟨g4, 2, none⟩ (.int .u64 (x1 : Nat))).setCell ⟨g4, 3, none⟩ (.int .u64 (y1 : Nat))).setCell ⟨g4, 4, none⟩ (.int .u64 (x2 : Nat))).setCell ⟨g4, 5, none⟩ (.int .u64 (y2 : Nat))).setCell ⟨g4, 6, none⟩ (.int .u64 (s : Nat))).setCell ⟨g4, 7, none⟩ (.int .u64 (k : Nat))).setCell ⟨g4, 8, none⟩ (.slice pa 6 pc)) (.slice pa 6 pc) LU) := bytes_other HP.out HF.out.1 z9_no8 s3 (by have := s2 0 (Nat.zero_le _); exact this.size)
    clear s1 s2 s3 hne
    go_simp
    refine hK.out _ _ HMV.out (fun hHeldN => ?_)
    refine wpAnyH_done (by kernel_rfl) ?_ _
    clear hHeldN hHeld hK c0 c1 c2 c3 c4 c5 c6 c7 c8 hfz
    obtain ⟨w2, hw2⟩ : ∃ w2, w2 = (((((((((wk.setCell ⟨g4, 0, none⟩ (.int .i64 2)).setCell ⟨g4, 1, none⟩ (.int .i64 1)).setCell ⟨g4, 2, none⟩ (.int .u64 (x1 : Nat))).setCell ⟨g4, 3, none⟩ (.int .u64 (y1 : Nat))).setCell ⟨g4, 4, none⟩ (.int .u64 (x2 : Nat))).setCell ⟨g4, 5, none⟩ (.int .u64 (y2 : Nat))).setCell ⟨g4, 6, none⟩ (.int .u64 (s : Nat))).setCell ⟨g4, 7, none⟩ (.int .u64 (k : Nat))).setCell ⟨g4, 8, none⟩ (.slice pa 6 pc)) := ⟨_, rfl⟩
    rw [← hw2] at HMV G1 HP2 ⊢
    clear hw2
    have hb := HMV.out
    have HB := Lib.hid (below_of HB.out hb)
    have HU := Lib.hid (HU.out.later hb)
    have H1 := Lib.hid (H1.out.later hb)
    have H2 := Lib.hid (H2.out.later hb)
    clear hb HMV HF HP
    have c0 := BlkAt.cell G1.out (j := 0) rfl
    have c1 := BlkAt.cell G1.out (j := 1) rfl
    have c2 := BlkAt.cell G1.out (j := 2) rfl
    have c3 := BlkAt.cell G1.out (j := 3) rfl
    have c4 := BlkAt.cell G1.out (j := 4) rfl
    have c5 := BlkAt.cell G1.out (j := 5) rfl
    have c6 := BlkAt.cell G1.out (j := 6) rfl
    have c7 := BlkAt.cell G1.out (j := 7) rfl
    have c8 := BlkAt.cell G1.out (j := 8) rfl
    go_wp2_with fail
    refine (HFB.out _ _ HP2.out).mono ?_
    rintro e w3 ⟨x, rfl, hx, hb⟩
    obtain ⟨xa, xc, rfl⟩ := hx.form
    have hx := hx.bytes
    rw [HLB.out] at hx ⊢
    have HX := Lib.hid hx
    have HU := Lib.hid (HU.out.later hb)
    have H1 := Lib.hid (H1.out.later hb)
    have H2 := Lib.hid (H2.out.later hb)
    have HB := Lib.hid (below_of HB.out hb)
    clear hb hx
    clear c0 c1 c2 c3 c4 c5 c6 c7 c8
    go_wp2_with fail
    refine (HFO.out _ _ HX.out).mono ?_
    rintro e w4 ⟨y, rfl, hy, hb⟩
    obtain ⟨ya, yc, rfl⟩ := hy.form
    have hy := hy.bytes
    rw [HL6.out] at hy ⊢
    have q := hb.alloc hb.size (.cells #[.int .i64 2, .int .i64 1, .int .u64 (x1 : Nat), .int .u64 (y1 : Nat), .int .u64 (x2 : Nat), .int .u64 (y2 : Nat), .int .u64 (s : Nat), .int .u64 (k : Nat), .slice ya 6 yc] 28)
    have HY := Lib.hid (hy.later (ba1 _ (.cells #[.int .i64 2, .int .i64 1, .int .u64 (x1 : Nat), .int .u64 (y1 : Nat), .int .u64 (x2 : Nat), .int .u64 (y2 : Nat), .int .u64 (s : Nat), .int .u64 (k : Nat), .slice ya 6 yc] 28)))
    have RX := Lib.hid (show BlkAt 28 w4.heap.size [.int .i64 2, .int .i64 1, .int .u64 (x1 : Nat), .int .u64 (y1 : Nat), .int .u64 (x2 : Nat), .int .u64 (y2 : Nat), .int .u64 (s : Nat), .int .u64 (k : Nat), .slice ya 6 yc] (w4.alloc (.cells #[.int .i64 2, .int .i64 1, .int .u64 (x1 : Nat), .int .u64 (y1 : Nat), .int .u64 (x2 : Nat), .int .u64 (y2 : Nat), .int .u64 (s : Nat), .int .u64 (k : Nat), .slice ya 6 yc] 28)) from BlkAt.new w4 _)
    have HU := Lib.hid (HU.out.later q)
    have H1 := Lib.hid (H1.out.later q)
    have H2 := Lib.hid (H2.out.later q)
    have HB := Lib.hid (below_of HB.out q)
    clear hb hy q
    go_wp2_with fail
    refine (HUP.out _ _ HY.out).mono ?_
    rintro e w6 ⟨rfl, hb⟩
    have q := hb.alloc hb.size (.cells #[.int .u32 (a : Int), .int .i64 (n : Int), .int .i64 (d : Int)] 47)
    have RV := Lib.hid (show BlkAt 47 w6.heap.size [.int .u32 (a : Int), .int .i64 (n : Int), .int .i64 (d : Int)] (w6.alloc (.cells #[.int .u32 (a : Int), .int .i64 (n : Int), .int .i64 (d : Int)] 47)) from BlkAt.new w6 _)
    have HY := Lib.hid (Bytes.later HY.out q)
    have HU := Lib.hid (HU.out.later q)
    have H1 := Lib.hid (H1.out.later q)
    have H2 := Lib.hid (H2.out.later q)
    have RX := Lib.hid (RX.out.later q)
    have HB := Lib.hid (below_of HB.out q)
    clear hb q
    obtain ⟨wv, hwv⟩ : ∃ W, W = w6.alloc (.cells #[.int .u32 (a : Int), .int .i64 (n : Int), .int .i64 (d : Int)] 47) := ⟨_, rfl⟩
    go_wp2_with fail
    rw [← hwv] at HB HU H1 H2 RX RV HY ⊢
    clear hwv
    have c0 := BlkAt.cell RX.out (j := 0) rfl
    have c1 := BlkAt.cell RX.out (j := 1) rfl
    have c2 := BlkAt.cell RX.out (j := 2) rfl
    have c3 := BlkAt.cell RX.out (j := 3) rfl
    have c4 := BlkAt.cell RX.out (j := 4) rfl
    have c5 := BlkAt.cell RX.out (j := 5) rfl
    have c6 := BlkAt.cell RX.out (j := 6) rfl
    have c7 := BlkAt.cell RX.out (j := 7) rfl
    have c8 := BlkAt.cell RX.out (j := 8) rfl
    have v0 := BlkAt.cell RV.out (j := 0) rfl
    have v1 := BlkAt.cell RV.out (j := 1) rfl
    have v2 := BlkAt.cell RV.out (j := 2) rfl
    have u0 := BlkAt.cell HU.out (j := 0) rfl
    have u1 := BlkAt.cell HU.out (j := 1) rfl
    have u2 := BlkAt.cell HU.out (j := 2) rfl
    have d0 := BlkAt.cell H1.out (j := 0) rfl
    have d1 := BlkAt.cell H1.out (j := 1) rfl
    have e0 := BlkAt.cell H2.out (j := 0) rfl
    have e1 := BlkAt.cell H2.out (j := 1) rfl
    go_wp2_with (go_at_call 13; refine (num6_any _ _).mono ?_; rintro e wn ⟨rfl, rfl⟩)
    refine (HSE.out _ _ HY.out).mono ?_
    rintro e w8 ⟨rfl, hb⟩
    have HB := Lib.hid (below_of HB.out hb)
    clear hb
    clear c0 c1 c2 c3 c4 c5 c6 c7 c8 v0 v1 v2 u0 u1 u2 d0 d1 e0 e1
    go_wp2_with fail
    refine (head_any _).mono ?_
    rintro e wn ⟨rfl, rfl⟩
    go_wp2_with fail
    refine (known6_any _).mono ?_
    rintro e w9 ⟨rfl, hb⟩
    have HB := Lib.hid (below_of HB.out hb)
    go_wp2_with fail
    go_ret
    exact ⟨rfl, HB.out⟩
  · go_simp
    have hs0 : Below w0.heap.size w0 (w0.alloc (.cells #[.int .i64 0, .int .i64 0, .int .u64 0, .int .u64 0, .int .u64 0, .int .u64 0, .int .u64 0, .int .u64 0, .slice none 0 0] 28)) := ba1 _ _
    refine hK.out _ _ (hHeld.trans (hs0.mono hHeld.size)) (fun hHeldN => ?_)
    (try simp only [Act.put, List.setIfInBounds_toArray, List.set_cons_zero, List.set_cons_succ, List.getElem_toArray, List.getElem_cons_zero, List.getElem_cons_succ])
    obtain ⟨g4, hg4⟩ : ∃ g, g = w0.heap.size := ⟨_, rfl⟩
    have hf0 : BlkG 28 wy g4 [.int .i64 0, .int .i64 0, .int .u64 0, .int .u64 0, .int .u64 0, .int .u64 0, .int .u64 0, .int .u64 0, .slice none 0 0] (w0.alloc (.cells #[.int .i64 0, .int .i64 0, .int .u64 0, .int .u64 0, .int .u64 0, .int .u64 0, .int .u64 0, .int .u64 0, .slice none 0 0] 28)) := ⟨by rw [hg4]; exact BlkAt.new w0 _, by rw [hg4]; exact hHeld.size⟩
    clear hHeld hK K
    have hHeld := hHeldN
    clear hHeldN
    (refine wpAnyH_ready (rs := [5]) (by kernel_rfl) (by simp) ?_; refine AllReadyH.cons rfl (fun K hK => ?_) AllReadyH.nil; go_simp; refine (HBU.out _).mono ?_; rintro e wk ⟨p, rfl, hp0, hs⟩; have hp := hp0.bytes; obtain ⟨pa, pc, rfl⟩ := hp.form; rw [HL6.out] at hp ⊢; refine hK.out _ _ ?_ (fun hHeldN => ?_); (focus ((try dsimp only); (exact hHeld.trans (hs.mono hHeld.size)))); clear hK K hHeld; have hHeld := hHeldN; clear hHeldN; (try simp only [Act.put, List.setIfInBounds_toArray, List.set_cons_zero, List.set_cons_succ, List.getElem_toArray, List.getElem_cons_zero, List.getElem_cons_succ]))
    (refine wpAnyH_take (i := 6) (v := ?_) rfl (by kernel_rfl) (by kernel_rfl) (by kernel_rfl) (fun _ _ _ h => h) (Or.inl ⟨by rfl, ?_⟩) hHeld ?_; rotate_left; (focus (intro w hSw; (try dsimp only at hSw); go_simp; try with_reducible rfl)); (try simp only [Act.put, List.setIfInBounds_toArray, List.set_cons_zero, List.set_cons_succ, List.getElem_toArray, List.getElem_cons_zero, List.getElem_cons_succ]))
    have HP := Lib.hid hp
    have HF := Lib.hid (hf0.later hs)
    rw [← hg4]
    clear hg4 hp hp0 hs hs0 hf0
    refine wpAnyH_ready (rs := [8]) (by kernel_rfl) (by simp) ?_
    refine AllReadyH.cons rfl (fun K hK => ?_) AllReadyH.nil
    obtain ⟨c0, c1, c2, c3, c4, c5, c6, c7, c8⟩ := blk9 HF.out.1
    have hfz : ∀ j, wk.frozen? ⟨g4, j, none⟩ = false := fun j => BlkAt.frozen HF.out.1 j
    obtain ⟨s1, s2, s3⟩ := BlkAt.set9 HF.out.1 (.int .i64 2) (.int .i64 1) (.int .u64 (x1 : Nat)) (.int .u64 (y1 : Nat)) (.int .u64 (x2 : Nat)) (.int .u64 (y2 : Nat)) (.int .u64 (s : Nat)) (.int .u64 (k : Nat)) (.slice pa 6 pc)
    have HMV := Lib.hid (hHeld.trans (s2 _ HF.out.2))
    have G1 := Lib.hid s1
    have hne : ∀ b, (∃ c, (Value.slice pa 6 pc).ownBlock = some c ∧ c = b) → True := fun _ _ => trivial
    have HP2 : Hid (Bytes (((((((((wk.setCell ⟨g4, 0, none⟩ (.int .i64 2)).setCell ⟨g4, 1, none⟩ (.int .i64 1)).setCell ⟨g4, 2, none⟩ (.int .u64 (x1 : Nat))).setCell ⟨g4, 3, none⟩ (.int .u64 (y1 : Nat))).setCell ⟨g4, 4, none⟩ (.int .u64 (x2 : Nat))).setCell ⟨g4, 5, none⟩ (.int .u64 (y2 : Nat))).setCell ⟨g4, 6, none⟩ (.int .u64 (s : Nat))).setCell ⟨g4, 7, none⟩ (.int .u64 (k : Nat))).setCell ⟨g4, 8, none⟩ (.slice pa 6 pc)) (.slice pa 6 pc) LU) := bytes_other HP.out HF.out.1 z9_no8 s3 (by have := s2 0 (Nat.zero_le _); exact this.size)
    clear s1 s2 s3 hne
    go_simp
    refine hK.out _ _ HMV.out (fun hHeldN => ?_)
    refine wpAnyH_done (by kernel_rfl) ?_ _
    clear hHeldN hHeld hK c0 c1 c2 c3 c4 c5 c6 c7 c8 hfz
    obtain ⟨w2, hw2⟩ : ∃ w2, w2 = (((((((((wk.setCell ⟨g4, 0, none⟩ (.int .i64 2)).setCell ⟨g4, 1, none⟩ (.int .i64 1)).setCell ⟨g4, 2, none⟩ (.int .u64 (x1 : Nat))).setCell ⟨g4, 3, none⟩ (.int .u64 (y1 : Nat))).setCell ⟨g4, 4, none⟩ (.int .u64 (x2 : Nat))).setCell ⟨g4, 5, none⟩ (.int .u64 (y2 : Nat))).setCell ⟨g4, 6, none⟩ (.int .u64 (s : Nat))).setCell ⟨g4, 7, none⟩ (.int .u64 (k : Nat))).setCell ⟨g4, 8, none⟩ (.slice pa 6 pc)) := ⟨_, rfl⟩
    rw [← hw2] at HMV G1 HP2 ⊢
    clear hw2
    have hb := HMV.out
    have HB := Lib.hid (below_of HB.out hb)
    have HU := Lib.hid (HU.out.later hb)
    have H1 := Lib.hid (H1.out.later hb)
    have H2 := Lib.hid (H2.out.later hb)
    clear hb HMV HF HP
    have c0 := BlkAt.cell G1.out (j := 0) rfl
    have c1 := BlkAt.cell G1.out (j := 1) rfl
    have c2 := BlkAt.cell G1.out (j := 2) rfl
    have c3 := BlkAt.cell G1.out (j := 3) rfl
    have c4 := BlkAt.cell G1.out (j := 4) rfl
    have c5 := BlkAt.cell G1.out (j := 5) rfl
    have c6 := BlkAt.cell G1.out (j := 6) rfl
    have c7 := BlkAt.cell G1.out (j := 7) rfl
    have c8 := BlkAt.cell G1.out (j := 8) rfl
    go_wp2_with fail
    refine (HFB.out _ _ HP2.out).mono ?_
    rintro e w3 ⟨x, rfl, hx, hb⟩
    obtain ⟨xa, xc, rfl⟩ := hx.form
    have hx := hx.bytes
    rw [HLB.out] at hx ⊢
    have HX := Lib.hid hx
    have HU := Lib.hid (HU.out.later hb)
    have H1 := Lib.hid (H1.out.later hb)
    have H2 := Lib.hid (H2.out.later hb)
    have HB := Lib.hid (below_of HB.out hb)
    clear hb hx
    clear c0 c1 c2 c3 c4 c5 c6 c7 c8
    go_wp2_with fail
    refine (HFO.out _ _ HX.out).mono ?_
    rintro e w4 ⟨y, rfl, hy, hb⟩
    obtain ⟨ya, yc, rfl⟩ := hy.form
    have hy := hy.bytes
    rw [HL6.out] at hy ⊢
    have q := hb.alloc hb.size (.cells #[.int .i64 2, .int .i64 1, .int .u64 (x1 : Nat), .int .u64 (y1 : Nat), .int .u64 (x2 : Nat), .int .u64 (y2 : Nat), .int .u64 (s : Nat), .int .u64 (k : Nat), .slice ya 6 yc] 28)
    have HY := Lib.hid (hy.later (ba1 _ (.cells #[.int .i64 2, .int .i64 1, .int .u64 (x1 : Nat), .int .u64 (y1 : Nat), .int .u64 (x2 : Nat), .int .u64 (y2 : Nat), .int .u64 (s : Nat), .int .u64 (k : Nat), .slice ya 6 yc] 28)))
    have RX := Lib.hid (show BlkAt 28 w4.heap.size [.int .i64 2, .int .i64 1, .int .u64 (x1 : Nat), .int .u64 (y1 : Nat), .int .u64 (x2 : Nat), .int .u64 (y2 : Nat), .int .u64 (s : Nat), .int .u64 (k : Nat), .slice ya 6 yc] (w4.alloc (.cells #[.int .i64 2, .int .i64 1, .int .u64 (x1 : Nat), .int .u64 (y1 : Nat), .int .u64 (x2 : Nat), .int .u64 (y2 : Nat), .int .u64 (s : Nat), .int .u64 (k : Nat), .slice ya 6 yc] 28)) from BlkAt.new w4 _)
    have HU := Lib.hid (HU.out.later q)
    have H1 := Lib.hid (H1.out.later q)
    have H2 := Lib.hid (H2.out.later q)
    have HB := Lib.hid (below_of HB.out q)
    clear hb hy q
    go_wp2_with fail
    refine (HUP.out _ _ HY.out).mono ?_
    rintro e w6 ⟨rfl, hb⟩
    have q := hb.alloc hb.size (.cells #[.int .u32 (a : Int), .int .i64 (n : Int), .int .i64 (d : Int)] 47)
    have RV := Lib.hid (show BlkAt 47 w6.heap.size [.int .u32 (a : Int), .int .i64 (n : Int), .int .i64 (d : Int)] (w6.alloc (.cells #[.int .u32 (a : Int), .int .i64 (n : Int), .int .i64 (d : Int)] 47)) from BlkAt.new w6 _)
    have HY := Lib.hid (Bytes.later HY.out q)
    have HU := Lib.hid (HU.out.later q)
    have H1 := Lib.hid (H1.out.later q)
    have H2 := Lib.hid (H2.out.later q)
    have RX := Lib.hid (RX.out.later q)
    have HB := Lib.hid (below_of HB.out q)
    clear hb q
    obtain ⟨wv, hwv⟩ : ∃ W, W = w6.alloc (.cells #[.int .u32 (a : Int), .int .i64 (n : Int), .int .i64 (d : Int)] 47) := ⟨_, rfl⟩
    go_wp2_with fail
    rw [← hwv] at HB HU H1 H2 RX RV HY ⊢
    clear hwv
    have c0 := BlkAt.cell RX.out (j := 0) rfl
    have c1 := BlkAt.cell RX.out (j := 1) rfl
    have c2 := BlkAt.cell RX.out (j := 2) rfl
    have c3 := BlkAt.cell RX.out (j := 3) rfl
    have c4 := BlkAt.cell RX.out (j := 4) rfl
    have c5 := BlkAt.cell RX.out (j := 5) rfl
    have c6 := BlkAt.cell RX.out (j := 6) rfl
    have c7 := BlkAt.cell RX.out (j := 7) rfl
    have c8 := BlkAt.cell RX.out (j := 8) rfl
    have v0 := BlkAt.cell RV.out (j := 0) rfl
    have v1 := BlkAt.cell RV.out (j := 1) rfl
    have v2 := BlkAt.cell RV.out (j := 2) rfl
    have u0 := BlkAt.cell HU.out (j := 0) rfl
    have u1 := BlkAt.cell HU.out (j := 1) rfl
    have u2 := BlkAt.cell HU.out (j := 2) rfl
    have d0 := BlkAt.cell H1.out (j := 0) rfl
    have d1 := BlkAt.cell H1.out (j := 1) rfl
    have e0 := BlkAt.cell H2.out (j := 0) rfl
    have e1 := BlkAt.cell H2.out (j := 1) rfl
    go_wp2_with (go_at_call 13; refine (num6_any _ _).mono ?_; rintro e wn ⟨rfl, rfl⟩)
    refine (HSE.out _ _ HY.out).mono ?_
    rintro e w8 ⟨rfl, hb⟩
    have HB := Lib.hid (below_of HB.out hb)
    clear hb
    clear c0 c1 c2 c3 c4 c5 c6 c7 c8 v0 v1 v2 u0 u1 u2 d0 d1 e0 e1
    go_wp2_with fail
    refine (head_any _).mono ?_
    rintro e wn ⟨rfl, rfl⟩
    go_wp2_with fail
    refine (known6_any _).mono ?_
    rintro e w9 ⟨rfl, hb⟩
    have HB := Lib.hid (below_of HB.out hb)
    go_wp2_with fail
    go_ret
    exact ⟨rfl, HB.out⟩
theorem frameUpdates_walk (u : Ud) (x1 y1 x2 y2 : Nat) (s k : Int) (w : World) (hu : u.Ok) (hx1 : x1 < 18446744073709551616) (hy1 : y1 < 18446744073709551616) (hx2 : x2 < 18446744073709551616) (hy2 : y2 < 18446744073709551616) (hs0 : 0 ≤ s) (hs1 : s < 18446744073709551616) (hk0 : 0 ≤ k) (hk1 : k < 18446744073709551616) :
    Calls Try.prog 7 #[.agg #[.int .u32 (u.a : Int), .int .i64 u.n, .int .i64 u.d], .agg #[.int .u64 (x1 : Nat), .int .u64 (y1 : Nat)], .agg #[.int .u64 (x2 : Nat), .int .u64 (y2 : Nat)], .int .u64 s, .int .u64 k] w fun e w' => e = .returned (.bool true) ∧ Below w.heap.size w w' := by
  obtain ⟨s, rfl⟩ := Int.eq_ofNat_of_zero_le hs0
  obtain ⟨k, rfl⟩ := Int.eq_ofNat_of_zero_le hk0
  cases e0 : mayU u.a u.n u.d with
  | false => exact hu0 u hu.a x1 y1 x2 y2 s k w e0
  | true =>
  cases e1 : tagB x1 y1 with
  | false => exact hu1 u hu.a x1 y1 x2 y2 s k w e0 e1
  | true =>
  cases e2 : tagB x2 y2 with
  | false => exact hu2 u hu.a x1 y1 x2 y2 s k w e0 e1 e2
  | true =>
  cases e3 : noneB x1 y1 with
  | true => exact hu3 u hu.a x1 y1 x2 y2 s k w e0 e1 e2 e3
  | false =>
  cases e4 : noneB x2 y2 with
  | true => exact hu4 u hu.a x1 y1 x2 y2 s k w e0 e1 e2 e3 e4
  | false =>
  by_cases hs : s = 0
  · exact hu5 u hu.a x1 y1 x2 y2 s k w e0 e1 e2 e3 e4 hs
  · obtain ⟨a, n, d⟩ := u
    obtain ⟨m1, m2, m3⟩ := mayU_of e0
    obtain ⟨n0, n1, _⟩ := Wp.may_of m1
    simp only at n0 m2 e0
    obtain ⟨n', rfl⟩ := Int.eq_ofNat_of_zero_le n0
    obtain ⟨d', rfl⟩ := Int.eq_ofNat_of_zero_le m2
    exact hu_main a n' d' hu.a x1 y1 x2 y2 s k ⟨by show (-9223372036854775808 : Int) ≤ 2 ∧ (2 : Int) < 9223372036854775808; decide, by show (-9223372036854775808 : Int) ≤ 1 ∧ (1 : Int) < 9223372036854775808; decide, hx1, hy1, hx2, hy2, by show s < _; omega, by show k < _; omega⟩ w e0 e1 e2 e3 e4 hs
end Go.Proofs.Ytcahfapffhcceaa
