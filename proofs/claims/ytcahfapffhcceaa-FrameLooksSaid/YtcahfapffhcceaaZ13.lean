/- A row of one-cell elements in memory: a slice value that reads as a list of values.
   The walk of the law FrameLooks. -/
import Derived.Test.YtcahfapffhcceaaZ01
import Derived.Test.YtcahfapffhcceaaZ11
import Derived.Test.YtcahfapffhcceaaZ12

set_option linter.unusedSimpArgs false
set_option linter.unusedVariables false
namespace Go.Proofs.Ytcahfapffhcceaa
open Go.RowKit
attribute [local go_sem ↓] Go.wp_at_zero Go.wp_at_succ

set_option maxHeartbeats 16000000 in
set_option maxRecDepth 100000 in
theorem ht_long (f g : Fr) (a a' : Option Addr) (c m c' m' x1 y1 x2 y2 : Nat) (w : World) (h : (5000 : Int) < m) :
    Calls Try.prog 4 #[.agg #[.int .i64 f.k, .int .i64 f.n, .int .u64 (f.mb : Nat), .int .u64 (f.mt : Nat), .int .u64 (f.tb : Nat), .int .u64 (f.tt : Nat), .int .u64 (f.s : Nat), .int .u64 (f.a : Nat), .slice a m c], .agg #[.int .i64 g.k, .int .i64 g.n, .int .u64 (g.mb : Nat), .int .u64 (g.mt : Nat), .int .u64 (g.tb : Nat), .int .u64 (g.tt : Nat), .int .u64 (g.s : Nat), .int .u64 (g.a : Nat), .slice a' m' c'], .agg #[.int .u64 (x1 : Nat), .int .u64 (y1 : Nat)], .agg #[.int .u64 (x2 : Nat), .int .u64 (y2 : Nat)]] w fun e w' => e = .returned (.bool true) ∧ Below w.heap.size w w' := by
  obtain ⟨wz, hwz⟩ : ∃ wz, wz = ((((w.alloc (.cells #[.int .i64 f.k, .int .i64 f.n, .int .u64 (f.mb : Nat), .int .u64 (f.mt : Nat), .int .u64 (f.tb : Nat), .int .u64 (f.tt : Nat), .int .u64 (f.s : Nat), .int .u64 (f.a : Nat), .slice a m c] 28)).alloc (.cells #[.int .i64 g.k, .int .i64 g.n, .int .u64 (g.mb : Nat), .int .u64 (g.mt : Nat), .int .u64 (g.tb : Nat), .int .u64 (g.tt : Nat), .int .u64 (g.s : Nat), .int .u64 (g.a : Nat), .slice a' m' c'] 28)).alloc (.cells #[.int .u64 (x1 : Nat), .int .u64 (y1 : Nat)] 25)).alloc (.cells #[.int .u64 (x2 : Nat), .int .u64 (y2 : Nat)] 25)) := ⟨_, rfl⟩
  have HB := Lib.hid (show Below w.heap.size w wz by rw [hwz]; go_grown)
  have HF := Lib.hid (show BlkAt 28 (w.heap.size) [.int .i64 f.k, .int .i64 f.n, .int .u64 (f.mb : Nat), .int .u64 (f.mt : Nat), .int .u64 (f.tb : Nat), .int .u64 (f.tt : Nat), .int .u64 (f.s : Nat), .int .u64 (f.a : Nat), .slice a m c] wz by
    have h9 := BlkAt.new (t := 28) w [.int .i64 f.k, .int .i64 f.n, .int .u64 (f.mb : Nat), .int .u64 (f.mt : Nat), .int .u64 (f.tb : Nat), .int .u64 (f.tt : Nat), .int .u64 (f.s : Nat), .int .u64 (f.a : Nat), .slice a m c]
    have h9 := h9.later (ba1 _ (.cells #[.int .i64 g.k, .int .i64 g.n, .int .u64 (g.mb : Nat), .int .u64 (g.mt : Nat), .int .u64 (g.tb : Nat), .int .u64 (g.tt : Nat), .int .u64 (g.s : Nat), .int .u64 (g.a : Nat), .slice a' m' c'] 28))
    have h9 := h9.later (ba1 _ (.cells #[.int .u64 (x1 : Nat), .int .u64 (y1 : Nat)] 25))
    have h9 := h9.later (ba1 _ (.cells #[.int .u64 (x2 : Nat), .int .u64 (y2 : Nat)] 25))
    rw [hwz]; simpa using h9)
  have HG := Lib.hid (show BlkAt 28 (w.heap.size + 1) [.int .i64 g.k, .int .i64 g.n, .int .u64 (g.mb : Nat), .int .u64 (g.mt : Nat), .int .u64 (g.tb : Nat), .int .u64 (g.tt : Nat), .int .u64 (g.s : Nat), .int .u64 (g.a : Nat), .slice a' m' c'] wz by
    have h9 := BlkAt.new (t := 28) (w.alloc (.cells #[.int .i64 f.k, .int .i64 f.n, .int .u64 (f.mb : Nat), .int .u64 (f.mt : Nat), .int .u64 (f.tb : Nat), .int .u64 (f.tt : Nat), .int .u64 (f.s : Nat), .int .u64 (f.a : Nat), .slice a m c] 28)) [.int .i64 g.k, .int .i64 g.n, .int .u64 (g.mb : Nat), .int .u64 (g.mt : Nat), .int .u64 (g.tb : Nat), .int .u64 (g.tt : Nat), .int .u64 (g.s : Nat), .int .u64 (g.a : Nat), .slice a' m' c']
    have h9 := h9.later (ba1 _ (.cells #[.int .u64 (x1 : Nat), .int .u64 (y1 : Nat)] 25))
    have h9 := h9.later (ba1 _ (.cells #[.int .u64 (x2 : Nat), .int .u64 (y2 : Nat)] 25))
    rw [hwz]; simpa using h9)
  have H1 := Lib.hid (show BlkAt 25 (w.heap.size + 1 + 1) [.int .u64 (x1 : Nat), .int .u64 (y1 : Nat)] wz by
    have h9 := BlkAt.new (t := 25) ((w.alloc (.cells #[.int .i64 f.k, .int .i64 f.n, .int .u64 (f.mb : Nat), .int .u64 (f.mt : Nat), .int .u64 (f.tb : Nat), .int .u64 (f.tt : Nat), .int .u64 (f.s : Nat), .int .u64 (f.a : Nat), .slice a m c] 28)).alloc (.cells #[.int .i64 g.k, .int .i64 g.n, .int .u64 (g.mb : Nat), .int .u64 (g.mt : Nat), .int .u64 (g.tb : Nat), .int .u64 (g.tt : Nat), .int .u64 (g.s : Nat), .int .u64 (g.a : Nat), .slice a' m' c'] 28)) [.int .u64 (x1 : Nat), .int .u64 (y1 : Nat)]
    have h9 := h9.later (ba1 _ (.cells #[.int .u64 (x2 : Nat), .int .u64 (y2 : Nat)] 25))
    rw [hwz]; simpa using h9)
  have H2 := Lib.hid (show BlkAt 25 (w.heap.size + 1 + 1 + 1) [.int .u64 (x2 : Nat), .int .u64 (y2 : Nat)] wz by
    have h9 := BlkAt.new (t := 25) (((w.alloc (.cells #[.int .i64 f.k, .int .i64 f.n, .int .u64 (f.mb : Nat), .int .u64 (f.mt : Nat), .int .u64 (f.tb : Nat), .int .u64 (f.tt : Nat), .int .u64 (f.s : Nat), .int .u64 (f.a : Nat), .slice a m c] 28)).alloc (.cells #[.int .i64 g.k, .int .i64 g.n, .int .u64 (g.mb : Nat), .int .u64 (g.mt : Nat), .int .u64 (g.tb : Nat), .int .u64 (g.tt : Nat), .int .u64 (g.s : Nat), .int .u64 (g.a : Nat), .slice a' m' c'] 28)).alloc (.cells #[.int .u64 (x1 : Nat), .int .u64 (y1 : Nat)] 25)) [.int .u64 (x2 : Nat), .int .u64 (y2 : Nat)]
    rw [hwz]; simpa using h9)
  go_enter Try.func4, Try.ntmps4
  go_wp2_with fail
  rw [← hwz]
  clear hwz
  have c0 := BlkAt.cell HF.out (j := 0) rfl
  have c1 := BlkAt.cell HF.out (j := 1) rfl
  have c2 := BlkAt.cell HF.out (j := 2) rfl
  have c3 := BlkAt.cell HF.out (j := 3) rfl
  have c4 := BlkAt.cell HF.out (j := 4) rfl
  have c5 := BlkAt.cell HF.out (j := 5) rfl
  have c6 := BlkAt.cell HF.out (j := 6) rfl
  have c7 := BlkAt.cell HF.out (j := 7) rfl
  have c8 := BlkAt.cell HF.out (j := 8) rfl
  have d0 := BlkAt.cell HG.out (j := 0) rfl
  have d1 := BlkAt.cell HG.out (j := 1) rfl
  have d2 := BlkAt.cell HG.out (j := 2) rfl
  have d3 := BlkAt.cell HG.out (j := 3) rfl
  have d4 := BlkAt.cell HG.out (j := 4) rfl
  have d5 := BlkAt.cell HG.out (j := 5) rfl
  have d6 := BlkAt.cell HG.out (j := 6) rfl
  have d7 := BlkAt.cell HG.out (j := 7) rfl
  have d8 := BlkAt.cell HG.out (j := 8) rfl
  go_wp2_with fail
  refine (known6_any _).mono ?_
  rintro e w1 ⟨rfl, hb⟩
  have HB := Lib.hid (below_of HB.out hb)
  go_wp2_with fail
  go_ret
  exact ⟨rfl, HB.out⟩
set_option maxHeartbeats 16000000 in
set_option maxRecDepth 100000 in
theorem ht_long2 (f g : Fr) (a a' : Option Addr) (c m c' m' x1 y1 x2 y2 : Nat) (w : World) (h0 : (m : Int) ≤ 5000) (h : (5000 : Int) < m') :
    Calls Try.prog 4 #[.agg #[.int .i64 f.k, .int .i64 f.n, .int .u64 (f.mb : Nat), .int .u64 (f.mt : Nat), .int .u64 (f.tb : Nat), .int .u64 (f.tt : Nat), .int .u64 (f.s : Nat), .int .u64 (f.a : Nat), .slice a m c], .agg #[.int .i64 g.k, .int .i64 g.n, .int .u64 (g.mb : Nat), .int .u64 (g.mt : Nat), .int .u64 (g.tb : Nat), .int .u64 (g.tt : Nat), .int .u64 (g.s : Nat), .int .u64 (g.a : Nat), .slice a' m' c'], .agg #[.int .u64 (x1 : Nat), .int .u64 (y1 : Nat)], .agg #[.int .u64 (x2 : Nat), .int .u64 (y2 : Nat)]] w fun e w' => e = .returned (.bool true) ∧ Below w.heap.size w w' := by
  obtain ⟨wz, hwz⟩ : ∃ wz, wz = ((((w.alloc (.cells #[.int .i64 f.k, .int .i64 f.n, .int .u64 (f.mb : Nat), .int .u64 (f.mt : Nat), .int .u64 (f.tb : Nat), .int .u64 (f.tt : Nat), .int .u64 (f.s : Nat), .int .u64 (f.a : Nat), .slice a m c] 28)).alloc (.cells #[.int .i64 g.k, .int .i64 g.n, .int .u64 (g.mb : Nat), .int .u64 (g.mt : Nat), .int .u64 (g.tb : Nat), .int .u64 (g.tt : Nat), .int .u64 (g.s : Nat), .int .u64 (g.a : Nat), .slice a' m' c'] 28)).alloc (.cells #[.int .u64 (x1 : Nat), .int .u64 (y1 : Nat)] 25)).alloc (.cells #[.int .u64 (x2 : Nat), .int .u64 (y2 : Nat)] 25)) := ⟨_, rfl⟩
  have HB := Lib.hid (show Below w.heap.size w wz by rw [hwz]; go_grown)
  have HF := Lib.hid (show BlkAt 28 (w.heap.size) [.int .i64 f.k, .int .i64 f.n, .int .u64 (f.mb : Nat), .int .u64 (f.mt : Nat), .int .u64 (f.tb : Nat), .int .u64 (f.tt : Nat), .int .u64 (f.s : Nat), .int .u64 (f.a : Nat), .slice a m c] wz by
    have h9 := BlkAt.new (t := 28) w [.int .i64 f.k, .int .i64 f.n, .int .u64 (f.mb : Nat), .int .u64 (f.mt : Nat), .int .u64 (f.tb : Nat), .int .u64 (f.tt : Nat), .int .u64 (f.s : Nat), .int .u64 (f.a : Nat), .slice a m c]
    have h9 := h9.later (ba1 _ (.cells #[.int .i64 g.k, .int .i64 g.n, .int .u64 (g.mb : Nat), .int .u64 (g.mt : Nat), .int .u64 (g.tb : Nat), .int .u64 (g.tt : Nat), .int .u64 (g.s : Nat), .int .u64 (g.a : Nat), .slice a' m' c'] 28))
    have h9 := h9.later (ba1 _ (.cells #[.int .u64 (x1 : Nat), .int .u64 (y1 : Nat)] 25))
    have h9 := h9.later (ba1 _ (.cells #[.int .u64 (x2 : Nat), .int .u64 (y2 : Nat)] 25))
    rw [hwz]; simpa using h9)
  have HG := Lib.hid (show BlkAt 28 (w.heap.size + 1) [.int .i64 g.k, .int .i64 g.n, .int .u64 (g.mb : Nat), .int .u64 (g.mt : Nat), .int .u64 (g.tb : Nat), .int .u64 (g.tt : Nat), .int .u64 (g.s : Nat), .int .u64 (g.a : Nat), .slice a' m' c'] wz by
    have h9 := BlkAt.new (t := 28) (w.alloc (.cells #[.int .i64 f.k, .int .i64 f.n, .int .u64 (f.mb : Nat), .int .u64 (f.mt : Nat), .int .u64 (f.tb : Nat), .int .u64 (f.tt : Nat), .int .u64 (f.s : Nat), .int .u64 (f.a : Nat), .slice a m c] 28)) [.int .i64 g.k, .int .i64 g.n, .int .u64 (g.mb : Nat), .int .u64 (g.mt : Nat), .int .u64 (g.tb : Nat), .int .u64 (g.tt : Nat), .int .u64 (g.s : Nat), .int .u64 (g.a : Nat), .slice a' m' c']
    have h9 := h9.later (ba1 _ (.cells #[.int .u64 (x1 : Nat), .int .u64 (y1 : Nat)] 25))
    have h9 := h9.later (ba1 _ (.cells #[.int .u64 (x2 : Nat), .int .u64 (y2 : Nat)] 25))
    rw [hwz]; simpa using h9)
  have H1 := Lib.hid (show BlkAt 25 (w.heap.size + 1 + 1) [.int .u64 (x1 : Nat), .int .u64 (y1 : Nat)] wz by
    have h9 := BlkAt.new (t := 25) ((w.alloc (.cells #[.int .i64 f.k, .int .i64 f.n, .int .u64 (f.mb : Nat), .int .u64 (f.mt : Nat), .int .u64 (f.tb : Nat), .int .u64 (f.tt : Nat), .int .u64 (f.s : Nat), .int .u64 (f.a : Nat), .slice a m c] 28)).alloc (.cells #[.int .i64 g.k, .int .i64 g.n, .int .u64 (g.mb : Nat), .int .u64 (g.mt : Nat), .int .u64 (g.tb : Nat), .int .u64 (g.tt : Nat), .int .u64 (g.s : Nat), .int .u64 (g.a : Nat), .slice a' m' c'] 28)) [.int .u64 (x1 : Nat), .int .u64 (y1 : Nat)]
    have h9 := h9.later (ba1 _ (.cells #[.int .u64 (x2 : Nat), .int .u64 (y2 : Nat)] 25))
    rw [hwz]; simpa using h9)
  have H2 := Lib.hid (show BlkAt 25 (w.heap.size + 1 + 1 + 1) [.int .u64 (x2 : Nat), .int .u64 (y2 : Nat)] wz by
    have h9 := BlkAt.new (t := 25) (((w.alloc (.cells #[.int .i64 f.k, .int .i64 f.n, .int .u64 (f.mb : Nat), .int .u64 (f.mt : Nat), .int .u64 (f.tb : Nat), .int .u64 (f.tt : Nat), .int .u64 (f.s : Nat), .int .u64 (f.a : Nat), .slice a m c] 28)).alloc (.cells #[.int .i64 g.k, .int .i64 g.n, .int .u64 (g.mb : Nat), .int .u64 (g.mt : Nat), .int .u64 (g.tb : Nat), .int .u64 (g.tt : Nat), .int .u64 (g.s : Nat), .int .u64 (g.a : Nat), .slice a' m' c'] 28)).alloc (.cells #[.int .u64 (x1 : Nat), .int .u64 (y1 : Nat)] 25)) [.int .u64 (x2 : Nat), .int .u64 (y2 : Nat)]
    rw [hwz]; simpa using h9)
  go_enter Try.func4, Try.ntmps4
  go_wp2_with fail
  rw [← hwz]
  clear hwz
  have c0 := BlkAt.cell HF.out (j := 0) rfl
  have c1 := BlkAt.cell HF.out (j := 1) rfl
  have c2 := BlkAt.cell HF.out (j := 2) rfl
  have c3 := BlkAt.cell HF.out (j := 3) rfl
  have c4 := BlkAt.cell HF.out (j := 4) rfl
  have c5 := BlkAt.cell HF.out (j := 5) rfl
  have c6 := BlkAt.cell HF.out (j := 6) rfl
  have c7 := BlkAt.cell HF.out (j := 7) rfl
  have c8 := BlkAt.cell HF.out (j := 8) rfl
  have d0 := BlkAt.cell HG.out (j := 0) rfl
  have d1 := BlkAt.cell HG.out (j := 1) rfl
  have d2 := BlkAt.cell HG.out (j := 2) rfl
  have d3 := BlkAt.cell HG.out (j := 3) rfl
  have d4 := BlkAt.cell HG.out (j := 4) rfl
  have d5 := BlkAt.cell HG.out (j := 5) rfl
  have d6 := BlkAt.cell HG.out (j := 6) rfl
  have d7 := BlkAt.cell HG.out (j := 7) rfl
  have d8 := BlkAt.cell HG.out (j := 8) rfl
  go_wp2_with fail
  refine (known6_any _).mono ?_
  rintro e w1 ⟨rfl, hb⟩
  have HB := Lib.hid (below_of HB.out hb)
  go_wp2_with fail
  go_ret
  exact ⟨rfl, HB.out⟩
set_option maxHeartbeats 16000000 in
set_option maxRecDepth 100000 in
theorem ht_main (f g : Fr) (a a' : Option Addr) (c m c' m' x1 y1 x2 y2 : Nat) (B C : List UInt8) (w : World) (hm : m = B.length) (hm' : m' = C.length) (hB : Bytes w (.slice a B.length c) B) (hC : Bytes w (.slice a' C.length c') C) (hl : B.length ≤ 5000) (hl' : C.length ≤ 5000) :
    Calls Try.prog 4 #[.agg #[.int .i64 f.k, .int .i64 f.n, .int .u64 (f.mb : Nat), .int .u64 (f.mt : Nat), .int .u64 (f.tb : Nat), .int .u64 (f.tt : Nat), .int .u64 (f.s : Nat), .int .u64 (f.a : Nat), .slice a m c], .agg #[.int .i64 g.k, .int .i64 g.n, .int .u64 (g.mb : Nat), .int .u64 (g.mt : Nat), .int .u64 (g.tb : Nat), .int .u64 (g.tt : Nat), .int .u64 (g.s : Nat), .int .u64 (g.a : Nat), .slice a' m' c'], .agg #[.int .u64 (x1 : Nat), .int .u64 (y1 : Nat)], .agg #[.int .u64 (x2 : Nat), .int .u64 (y2 : Nat)]] w fun e w' => e = .returned (.bool true) ∧ Below w.heap.size w w' := by
  obtain ⟨wz, hwz⟩ : ∃ wz, wz = ((((w.alloc (.cells #[.int .i64 f.k, .int .i64 f.n, .int .u64 (f.mb : Nat), .int .u64 (f.mt : Nat), .int .u64 (f.tb : Nat), .int .u64 (f.tt : Nat), .int .u64 (f.s : Nat), .int .u64 (f.a : Nat), .slice a m c] 28)).alloc (.cells #[.int .i64 g.k, .int .i64 g.n, .int .u64 (g.mb : Nat), .int .u64 (g.mt : Nat), .int .u64 (g.tb : Nat), .int .u64 (g.tt : Nat), .int .u64 (g.s : Nat), .int .u64 (g.a : Nat), .slice a' m' c'] 28)).alloc (.cells #[.int .u64 (x1 : Nat), .int .u64 (y1 : Nat)] 25)).alloc (.cells #[.int .u64 (x2 : Nat), .int .u64 (y2 : Nat)] 25)) := ⟨_, rfl⟩
  have HB := Lib.hid (show Below w.heap.size w wz by rw [hwz]; go_grown)
  have HF := Lib.hid (show BlkAt 28 (w.heap.size) [.int .i64 f.k, .int .i64 f.n, .int .u64 (f.mb : Nat), .int .u64 (f.mt : Nat), .int .u64 (f.tb : Nat), .int .u64 (f.tt : Nat), .int .u64 (f.s : Nat), .int .u64 (f.a : Nat), .slice a m c] wz by
    have h9 := BlkAt.new (t := 28) w [.int .i64 f.k, .int .i64 f.n, .int .u64 (f.mb : Nat), .int .u64 (f.mt : Nat), .int .u64 (f.tb : Nat), .int .u64 (f.tt : Nat), .int .u64 (f.s : Nat), .int .u64 (f.a : Nat), .slice a m c]
    have h9 := h9.later (ba1 _ (.cells #[.int .i64 g.k, .int .i64 g.n, .int .u64 (g.mb : Nat), .int .u64 (g.mt : Nat), .int .u64 (g.tb : Nat), .int .u64 (g.tt : Nat), .int .u64 (g.s : Nat), .int .u64 (g.a : Nat), .slice a' m' c'] 28))
    have h9 := h9.later (ba1 _ (.cells #[.int .u64 (x1 : Nat), .int .u64 (y1 : Nat)] 25))
    have h9 := h9.later (ba1 _ (.cells #[.int .u64 (x2 : Nat), .int .u64 (y2 : Nat)] 25))
    rw [hwz]; simpa using h9)
  have HG := Lib.hid (show BlkAt 28 (w.heap.size + 1) [.int .i64 g.k, .int .i64 g.n, .int .u64 (g.mb : Nat), .int .u64 (g.mt : Nat), .int .u64 (g.tb : Nat), .int .u64 (g.tt : Nat), .int .u64 (g.s : Nat), .int .u64 (g.a : Nat), .slice a' m' c'] wz by
    have h9 := BlkAt.new (t := 28) (w.alloc (.cells #[.int .i64 f.k, .int .i64 f.n, .int .u64 (f.mb : Nat), .int .u64 (f.mt : Nat), .int .u64 (f.tb : Nat), .int .u64 (f.tt : Nat), .int .u64 (f.s : Nat), .int .u64 (f.a : Nat), .slice a m c] 28)) [.int .i64 g.k, .int .i64 g.n, .int .u64 (g.mb : Nat), .int .u64 (g.mt : Nat), .int .u64 (g.tb : Nat), .int .u64 (g.tt : Nat), .int .u64 (g.s : Nat), .int .u64 (g.a : Nat), .slice a' m' c']
    have h9 := h9.later (ba1 _ (.cells #[.int .u64 (x1 : Nat), .int .u64 (y1 : Nat)] 25))
    have h9 := h9.later (ba1 _ (.cells #[.int .u64 (x2 : Nat), .int .u64 (y2 : Nat)] 25))
    rw [hwz]; simpa using h9)
  have H1 := Lib.hid (show BlkAt 25 (w.heap.size + 1 + 1) [.int .u64 (x1 : Nat), .int .u64 (y1 : Nat)] wz by
    have h9 := BlkAt.new (t := 25) ((w.alloc (.cells #[.int .i64 f.k, .int .i64 f.n, .int .u64 (f.mb : Nat), .int .u64 (f.mt : Nat), .int .u64 (f.tb : Nat), .int .u64 (f.tt : Nat), .int .u64 (f.s : Nat), .int .u64 (f.a : Nat), .slice a m c] 28)).alloc (.cells #[.int .i64 g.k, .int .i64 g.n, .int .u64 (g.mb : Nat), .int .u64 (g.mt : Nat), .int .u64 (g.tb : Nat), .int .u64 (g.tt : Nat), .int .u64 (g.s : Nat), .int .u64 (g.a : Nat), .slice a' m' c'] 28)) [.int .u64 (x1 : Nat), .int .u64 (y1 : Nat)]
    have h9 := h9.later (ba1 _ (.cells #[.int .u64 (x2 : Nat), .int .u64 (y2 : Nat)] 25))
    rw [hwz]; simpa using h9)
  have H2 := Lib.hid (show BlkAt 25 (w.heap.size + 1 + 1 + 1) [.int .u64 (x2 : Nat), .int .u64 (y2 : Nat)] wz by
    have h9 := BlkAt.new (t := 25) (((w.alloc (.cells #[.int .i64 f.k, .int .i64 f.n, .int .u64 (f.mb : Nat), .int .u64 (f.mt : Nat), .int .u64 (f.tb : Nat), .int .u64 (f.tt : Nat), .int .u64 (f.s : Nat), .int .u64 (f.a : Nat), .slice a m c] 28)).alloc (.cells #[.int .i64 g.k, .int .i64 g.n, .int .u64 (g.mb : Nat), .int .u64 (g.mt : Nat), .int .u64 (g.tb : Nat), .int .u64 (g.tt : Nat), .int .u64 (g.s : Nat), .int .u64 (g.a : Nat), .slice a' m' c'] 28)).alloc (.cells #[.int .u64 (x1 : Nat), .int .u64 (y1 : Nat)] 25)) [.int .u64 (x2 : Nat), .int .u64 (y2 : Nat)]
    rw [hwz]; simpa using h9)
  have k1 : (m : Int) ≤ 5000 := by omega
  have k2 : (m' : Int) ≤ 5000 := by omega
  obtain ⟨UA, hUA⟩ : ∃ x, x = uA f B := ⟨_, rfl⟩
  obtain ⟨UN, hUN⟩ : ∃ x, x = uN f B := ⟨_, rfl⟩
  obtain ⟨UD, hUD⟩ : ∃ x, x = uD f B := ⟨_, rfl⟩
  obtain ⟨UI, hUI⟩ : ∃ x, x = uI f B := ⟨_, rfl⟩
  obtain ⟨S0, hS0⟩ : ∃ x, x = sesF f B x1 y1 x2 y2 := ⟨_, rfl⟩
  obtain ⟨T0, hT0⟩ : ∃ x, x = tagB x1 y1 := ⟨_, rfl⟩
  obtain ⟨Q0, hQ0⟩ : ∃ x, x = sameF f g B C := ⟨_, rfl⟩
  have HUW : Hid (∀ W, Below w.heap.size w W → Calls Try.prog 17 #[.agg #[.int .i64 f.k, .int .i64 f.n, .int .u64 (f.mb : Nat), .int .u64 (f.mt : Nat), .int .u64 (f.tb : Nat), .int .u64 (f.tt : Nat), .int .u64 (f.s : Nat), .int .u64 (f.a : Nat), .slice a m c]] W fun e w' => e = .returned (.tuple #[.agg #[.int .u32 (UA : Int), .int .i64 (UN : Int), .int .i64 (UD : Int)], .bool UI]) ∧ Below W.heap.size W w') := fun W hW => by
    have h9 := updW_any f _ B W (hB.later hW) (by omega)
    unfold UpA at h9
    rw [← hUA, ← hUN, ← hUD, ← hUI, ← hm] at h9; exact h9
  have HUR : Hid (∀ W, Below w.heap.size w W → Calls Try.prog 18 #[.agg #[.int .i64 f.k, .int .i64 f.n, .int .u64 (f.mb : Nat), .int .u64 (f.mt : Nat), .int .u64 (f.tb : Nat), .int .u64 (f.tt : Nat), .int .u64 (f.s : Nat), .int .u64 (f.a : Nat), .slice a m c]] W fun e w' => e = .returned (.tuple #[.agg #[.int .u32 (UA : Int), .int .i64 (UN : Int), .int .i64 (UD : Int)], .bool UI]) ∧ Below W.heap.size W w') := fun W hW => by
    have h9 := updR_any f _ B W (hB.later hW) (by omega)
    unfold UpA at h9
    rw [← hUA, ← hUN, ← hUD, ← hUI, ← hm] at h9; exact h9
  have HSW : Hid (∀ W, Below w.heap.size w W → Calls Try.prog 19 #[.agg #[.int .i64 f.k, .int .i64 f.n, .int .u64 (f.mb : Nat), .int .u64 (f.mt : Nat), .int .u64 (f.tb : Nat), .int .u64 (f.tt : Nat), .int .u64 (f.s : Nat), .int .u64 (f.a : Nat), .slice a m c], .agg #[.int .u64 (x1 : Nat), .int .u64 (y1 : Nat)], .agg #[.int .u64 (x2 : Nat), .int .u64 (y2 : Nat)]] W fun e w' => e = .returned (.bool S0) ∧ Below W.heap.size W w') := fun W hW => by
    have h9 := sesW_any f _ B x1 y1 x2 y2 W (hB.later hW) (by omega)
    rw [← hS0, ← hm] at h9; exact h9
  have HSR : Hid (∀ W, Below w.heap.size w W → Calls Try.prog 20 #[.agg #[.int .i64 f.k, .int .i64 f.n, .int .u64 (f.mb : Nat), .int .u64 (f.mt : Nat), .int .u64 (f.tb : Nat), .int .u64 (f.tt : Nat), .int .u64 (f.s : Nat), .int .u64 (f.a : Nat), .slice a m c], .agg #[.int .u64 (x1 : Nat), .int .u64 (y1 : Nat)], .agg #[.int .u64 (x2 : Nat), .int .u64 (y2 : Nat)]] W fun e w' => e = .returned (.bool S0) ∧ Below W.heap.size W w') := fun W hW => by
    have h9 := sesR_any f _ B x1 y1 x2 y2 W (hB.later hW) (by omega)
    rw [← hS0, ← hm] at h9; exact h9
  have HTW : Hid (∀ W, Calls Try.prog 21 #[.agg #[.int .u64 (x1 : Nat), .int .u64 (y1 : Nat)]] W fun e w' => e = .returned (.bool T0) ∧ Below W.heap.size W w') := fun W => by
    have h9 := tagW_any x1 y1 W
    rw [← hT0] at h9; exact h9
  have HTR : Hid (∀ W, Calls Try.prog 22 #[.agg #[.int .u64 (x1 : Nat), .int .u64 (y1 : Nat)]] W fun e w' => e = .returned (.bool T0) ∧ Below W.heap.size W w') := fun W => by
    have h9 := tagR_any x1 y1 W
    rw [← hT0] at h9; exact h9
  have HQW : Hid (∀ W, Below w.heap.size w W → Calls Try.prog 23 #[.agg #[.int .i64 f.k, .int .i64 f.n, .int .u64 (f.mb : Nat), .int .u64 (f.mt : Nat), .int .u64 (f.tb : Nat), .int .u64 (f.tt : Nat), .int .u64 (f.s : Nat), .int .u64 (f.a : Nat), .slice a m c], .agg #[.int .i64 g.k, .int .i64 g.n, .int .u64 (g.mb : Nat), .int .u64 (g.mt : Nat), .int .u64 (g.tb : Nat), .int .u64 (g.tt : Nat), .int .u64 (g.s : Nat), .int .u64 (g.a : Nat), .slice a' m' c']] W fun e w' => e = .returned (.bool Q0) ∧ Below W.heap.size W w') := fun W hW => by
    have h9 := sameFW_any f g _ _ B C W (hB.later hW) (hC.later hW)
    rw [← hQ0, ← hm, ← hm'] at h9; exact h9
  have HQR : Hid (∀ W, Below w.heap.size w W → Calls Try.prog 16 #[.agg #[.int .i64 f.k, .int .i64 f.n, .int .u64 (f.mb : Nat), .int .u64 (f.mt : Nat), .int .u64 (f.tb : Nat), .int .u64 (f.tt : Nat), .int .u64 (f.s : Nat), .int .u64 (f.a : Nat), .slice a m c], .agg #[.int .i64 g.k, .int .i64 g.n, .int .u64 (g.mb : Nat), .int .u64 (g.mt : Nat), .int .u64 (g.tb : Nat), .int .u64 (g.tt : Nat), .int .u64 (g.s : Nat), .int .u64 (g.a : Nat), .slice a' m' c']] W fun e w' => e = .returned (.bool Q0) ∧ Below W.heap.size W w') := fun W hW => by
    have h9 := sameFR_any f g _ _ B C W (hB.later hW) (hC.later hW)
    rw [← hQ0, ← hm, ← hm'] at h9; exact h9
  have HQ1 : Hid (∀ W, Below w.heap.size w W → Calls Try.prog 23 #[.agg #[.int .i64 f.k, .int .i64 f.n, .int .u64 (f.mb : Nat), .int .u64 (f.mt : Nat), .int .u64 (f.tb : Nat), .int .u64 (f.tt : Nat), .int .u64 (f.s : Nat), .int .u64 (f.a : Nat), .slice a m c], .agg #[.int .i64 f.k, .int .i64 f.n, .int .u64 (f.mb : Nat), .int .u64 (f.mt : Nat), .int .u64 (f.tb : Nat), .int .u64 (f.tt : Nat), .int .u64 (f.s : Nat), .int .u64 (f.a : Nat), .slice a m c]] W fun e w' => e = .returned (.bool true) ∧ Below W.heap.size W w') := fun W hW => by
    have h9 := sameFW_any f f _ _ B B W (hB.later hW) (hB.later hW)
    rw [sameF_refl, ← hm] at h9; exact h9
  clear hUA hUN hUD hUI hS0 hT0 hQ0 hm hm' hB hC hl hl'
  go_enter Try.func4, Try.ntmps4
  go_wp2_with fail
  rw [← hwz]
  clear hwz
  have c0 := BlkAt.cell HF.out (j := 0) rfl
  have c1 := BlkAt.cell HF.out (j := 1) rfl
  have c2 := BlkAt.cell HF.out (j := 2) rfl
  have c3 := BlkAt.cell HF.out (j := 3) rfl
  have c4 := BlkAt.cell HF.out (j := 4) rfl
  have c5 := BlkAt.cell HF.out (j := 5) rfl
  have c6 := BlkAt.cell HF.out (j := 6) rfl
  have c7 := BlkAt.cell HF.out (j := 7) rfl
  have c8 := BlkAt.cell HF.out (j := 8) rfl
  have d0 := BlkAt.cell HG.out (j := 0) rfl
  have d1 := BlkAt.cell HG.out (j := 1) rfl
  have d2 := BlkAt.cell HG.out (j := 2) rfl
  have d3 := BlkAt.cell HG.out (j := 3) rfl
  have d4 := BlkAt.cell HG.out (j := 4) rfl
  have d5 := BlkAt.cell HG.out (j := 5) rfl
  have d6 := BlkAt.cell HG.out (j := 6) rfl
  have d7 := BlkAt.cell HG.out (j := 7) rfl
  have d8 := BlkAt.cell HG.out (j := 8) rfl
  go_wp2_with fail
  refine (HUW.out _ HB.out).mono ?_
  rintro e w1 ⟨rfl, hb⟩
  have q := hb.alloc hb.size (.cells #[.int .u32 (UA : Int), .int .i64 (UN : Int), .int .i64 (UD : Int)] 47)
  have HF := Lib.hid (HF.out.later q)
  have HG := Lib.hid (HG.out.later q)
  have H1 := Lib.hid (H1.out.later q)
  have H2 := Lib.hid (H2.out.later q)
  have HB := Lib.hid (below_of HB.out q)
  have HA := Lib.hid (show BlkAt 47 w1.heap.size [.int .u32 (UA : Int), .int .i64 (UN : Int), .int .i64 (UD : Int)] (w1.alloc (.cells #[.int .u32 (UA : Int), .int .i64 (UN : Int), .int .i64 (UD : Int)] 47)) from BlkAt.new w1 _)
  clear hb q
  clear c0 c1 c2 c3 c4 c5 c6 c7 c8
  clear d0 d1 d2 d3 d4 d5 d6 d7 d8
  have c0 := BlkAt.cell HF.out (j := 0) rfl
  have c1 := BlkAt.cell HF.out (j := 1) rfl
  have c2 := BlkAt.cell HF.out (j := 2) rfl
  have c3 := BlkAt.cell HF.out (j := 3) rfl
  have c4 := BlkAt.cell HF.out (j := 4) rfl
  have c5 := BlkAt.cell HF.out (j := 5) rfl
  have c6 := BlkAt.cell HF.out (j := 6) rfl
  have c7 := BlkAt.cell HF.out (j := 7) rfl
  have c8 := BlkAt.cell HF.out (j := 8) rfl
  go_wp2_with fail
  refine (HUR.out _ HB.out).mono ?_
  rintro e w2 ⟨rfl, hb⟩
  have q := hb.alloc hb.size (.cells #[.int .u32 (UA : Int), .int .i64 (UN : Int), .int .i64 (UD : Int)] 47)
  have HF := Lib.hid (HF.out.later q)
  have HG := Lib.hid (HG.out.later q)
  have H1 := Lib.hid (H1.out.later q)
  have H2 := Lib.hid (H2.out.later q)
  have HA := Lib.hid (HA.out.later q)
  have HB := Lib.hid (below_of HB.out q)
  have HE := Lib.hid (show BlkAt 47 w2.heap.size [.int .u32 (UA : Int), .int .i64 (UN : Int), .int .i64 (UD : Int)] (w2.alloc (.cells #[.int .u32 (UA : Int), .int .i64 (UN : Int), .int .i64 (UD : Int)] 47)) from BlkAt.new w2 _)
  clear hb q
  clear c0 c1 c2 c3 c4 c5 c6 c7 c8
  go_wp2_with fail
  obtain ⟨wy, hwy⟩ : ∃ W, W = w2.alloc (.cells #[.int .u32 (UA : Int), .int .i64 (UN : Int), .int .i64 (UD : Int)] 47) := ⟨_, rfl⟩
  rw [← hwy] at HB HF HG H1 H2 HA HE ⊢
  clear hwy
  have e1 : (UI == UI) = true := by simp
  have e2 : (S0 == S0) = true := by simp
  have e3 : (T0 == T0) = true := by simp
  have e4 : (Q0 == Q0) = true := by simp
  (refine wp_region_held_drew (S := (fun w' => Below wy.heap.size wy w')) (by kernel_rfl) ?_ (fun hHeld => ?_); (focus ((try dsimp only); (exact (Below.refl _ _).drew))))
  (try dsimp only at hHeld)
  obtain ⟨w0, hw0⟩ : ∃ W0, W0 = World.drew wy := ⟨_, rfl⟩
  rw [← hw0]
  rw [← hw0] at hHeld
  clear hw0
  (refine wpAnyH_take (i := 0) (v := ?_) rfl (by kernel_rfl) (by kernel_rfl) (by kernel_rfl) (fun _ _ _ h => h) (Or.inl ⟨by rfl, ?_⟩) hHeld ?_; rotate_left; (focus (intro w hSw; (try dsimp only at hSw); go_simp; (have hq := BlkAt.later HA.out hSw; have c0 := BlkAt.cell hq (j := 0) rfl; have c1 := BlkAt.cell hq (j := 1) rfl; have c2 := BlkAt.cell hq (j := 2) rfl; go_simp; try with_reducible rfl))); (try simp only [Act.put, List.setIfInBounds_toArray, List.set_cons_zero, List.set_cons_succ, List.getElem_toArray, List.getElem_cons_zero]))
  (refine wpAnyH_take (i := 1) (v := ?_) rfl (by kernel_rfl) (by kernel_rfl) (by kernel_rfl) (fun _ _ _ h => h) (Or.inl ⟨by rfl, ?_⟩) hHeld ?_; rotate_left; (focus (intro w hSw; (try dsimp only at hSw); go_simp; (have hq := BlkAt.later HE.out hSw; have c0 := BlkAt.cell hq (j := 0) rfl; have c1 := BlkAt.cell hq (j := 1) rfl; have c2 := BlkAt.cell hq (j := 2) rfl; go_simp; try with_reducible rfl))); (try simp only [Act.put, List.setIfInBounds_toArray, List.set_cons_zero, List.set_cons_succ, List.getElem_toArray, List.getElem_cons_zero, List.getElem_cons_succ]))
  (refine wpAnyH_take (i := 2) (v := ?_) rfl (by kernel_rfl) (by kernel_rfl) (by kernel_rfl) (fun _ _ _ h => h) (Or.inl ⟨by rfl, ?_⟩) hHeld ?_; rotate_left; (focus (intro w hSw; (try dsimp only at hSw); go_simp; try with_reducible rfl)); (try simp only [Act.put, List.setIfInBounds_toArray, List.set_cons_zero, List.set_cons_succ, List.getElem_toArray, List.getElem_cons_zero, List.getElem_cons_succ])); (refine wpAnyH_take (i := 3) (v := ?_) rfl (by kernel_rfl) (by kernel_rfl) (by kernel_rfl) (fun _ _ _ h => h) (Or.inl ⟨by rfl, ?_⟩) hHeld ?_; rotate_left; (focus (intro w hSw; (try dsimp only at hSw); go_simp; try with_reducible rfl)); (try simp only [Act.put, List.setIfInBounds_toArray, List.set_cons_zero, List.set_cons_succ, List.getElem_toArray, List.getElem_cons_zero, List.getElem_cons_succ])); (refine wpAnyH_take (i := 4) (v := ?_) rfl (by kernel_rfl) (by kernel_rfl) (by kernel_rfl) (fun _ _ _ h => h) (Or.inl ⟨by rfl, ?_⟩) hHeld ?_; rotate_left; (focus (intro w hSw; (try dsimp only at hSw); go_simp; try with_reducible rfl)); (try simp only [Act.put, List.setIfInBounds_toArray, List.set_cons_zero, List.set_cons_succ, List.getElem_toArray, List.getElem_cons_zero, List.getElem_cons_succ])); (refine wpAnyH_take (i := 5) (v := ?_) rfl (by kernel_rfl) (by kernel_rfl) (by kernel_rfl) (fun _ _ _ h => h) (Or.inl ⟨by rfl, ?_⟩) hHeld ?_; rotate_left; (focus (intro w hSw; (try dsimp only at hSw); go_simp; try with_reducible rfl)); (try simp only [Act.put, List.setIfInBounds_toArray, List.set_cons_zero, List.set_cons_succ, List.getElem_toArray, List.getElem_cons_zero, List.getElem_cons_succ])); (refine wpAnyH_take (i := 6) (v := ?_) rfl (by kernel_rfl) (by kernel_rfl) (by kernel_rfl) (fun _ _ _ h => h) (Or.inl ⟨by rfl, ?_⟩) hHeld ?_; rotate_left; (focus (intro w hSw; (try dsimp only at hSw); go_simp; try with_reducible rfl)); (try simp only [Act.put, List.setIfInBounds_toArray, List.set_cons_zero, List.set_cons_succ, List.getElem_toArray, List.getElem_cons_zero, List.getElem_cons_succ])); (refine wpAnyH_take (i := 7) (v := ?_) rfl (by kernel_rfl) (by kernel_rfl) (by kernel_rfl) (fun _ _ _ h => h) (Or.inl ⟨by rfl, ?_⟩) hHeld ?_; rotate_left; (focus (intro w hSw; (try dsimp only at hSw); go_simp; try with_reducible rfl)); (try simp only [Act.put, List.setIfInBounds_toArray, List.set_cons_zero, List.set_cons_succ, List.getElem_toArray, List.getElem_cons_zero, List.getElem_cons_succ])); (refine wpAnyH_take (i := 8) (v := ?_) rfl (by kernel_rfl) (by kernel_rfl) (by kernel_rfl) (fun _ _ _ h => h) (Or.inl ⟨by rfl, ?_⟩) hHeld ?_; rotate_left; (focus (intro w hSw; (try dsimp only at hSw); go_simp; try with_reducible rfl)); (try simp only [Act.put, List.setIfInBounds_toArray, List.set_cons_zero, List.set_cons_succ, List.getElem_toArray, List.getElem_cons_zero, List.getElem_cons_succ]))
  (refine wpAnyH_take (i := 9) (v := ?_) rfl (by kernel_rfl) (by kernel_rfl) (by kernel_rfl) (fun _ _ _ h => h) (Or.inl ⟨by rfl, ?_⟩) hHeld ?_; rotate_left; (focus (intro w hSw; (try dsimp only at hSw); go_simp; (have hq := BlkAt.later HF.out hSw; have c0 := BlkAt.cell hq (j := 0) rfl; have c1 := BlkAt.cell hq (j := 1) rfl; have c2 := BlkAt.cell hq (j := 2) rfl; have c3 := BlkAt.cell hq (j := 3) rfl; have c4 := BlkAt.cell hq (j := 4) rfl; have c5 := BlkAt.cell hq (j := 5) rfl; have c6 := BlkAt.cell hq (j := 6) rfl; have c7 := BlkAt.cell hq (j := 7) rfl; have c8 := BlkAt.cell hq (j := 8) rfl; go_simp; try with_reducible rfl))); (try simp only [Act.put, List.setIfInBounds_toArray, List.set_cons_zero, List.set_cons_succ, List.getElem_toArray, List.getElem_cons_zero, List.getElem_cons_succ]))
  (refine wpAnyH_take (i := 10) (v := ?_) rfl (by kernel_rfl) (by kernel_rfl) (by kernel_rfl) (fun _ _ _ h => h) (Or.inl ⟨by rfl, ?_⟩) hHeld ?_; rotate_left; (focus (intro w hSw; (try dsimp only at hSw); go_simp; (have hq := BlkAt.later H1.out hSw; have c0 := BlkAt.cell hq (j := 0) rfl; have c1 := BlkAt.cell hq (j := 1) rfl; go_simp; try with_reducible rfl))); (try simp only [Act.put, List.setIfInBounds_toArray, List.set_cons_zero, List.set_cons_succ, List.getElem_toArray, List.getElem_cons_zero, List.getElem_cons_succ]))
  (refine wpAnyH_take (i := 11) (v := ?_) rfl (by kernel_rfl) (by kernel_rfl) (by kernel_rfl) (fun _ _ _ h => h) (Or.inl ⟨by rfl, ?_⟩) hHeld ?_; rotate_left; (focus (intro w hSw; (try dsimp only at hSw); go_simp; (have hq := BlkAt.later H2.out hSw; have c0 := BlkAt.cell hq (j := 0) rfl; have c1 := BlkAt.cell hq (j := 1) rfl; go_simp; try with_reducible rfl))); (try simp only [Act.put, List.setIfInBounds_toArray, List.set_cons_zero, List.set_cons_succ, List.getElem_toArray, List.getElem_cons_zero, List.getElem_cons_succ]))
  (refine wpAnyH_take (i := 13) (v := ?_) rfl (by kernel_rfl) (by kernel_rfl) (by kernel_rfl) (fun _ _ _ h => h) (Or.inl ⟨by rfl, ?_⟩) hHeld ?_; rotate_left; (focus (intro w hSw; (try dsimp only at hSw); go_simp; (have hq := BlkAt.later HF.out hSw; have c0 := BlkAt.cell hq (j := 0) rfl; have c1 := BlkAt.cell hq (j := 1) rfl; have c2 := BlkAt.cell hq (j := 2) rfl; have c3 := BlkAt.cell hq (j := 3) rfl; have c4 := BlkAt.cell hq (j := 4) rfl; have c5 := BlkAt.cell hq (j := 5) rfl; have c6 := BlkAt.cell hq (j := 6) rfl; have c7 := BlkAt.cell hq (j := 7) rfl; have c8 := BlkAt.cell hq (j := 8) rfl; go_simp; try with_reducible rfl))); (try simp only [Act.put, List.setIfInBounds_toArray, List.set_cons_zero, List.set_cons_succ, List.getElem_toArray, List.getElem_cons_zero, List.getElem_cons_succ]))
  (refine wpAnyH_take (i := 14) (v := ?_) rfl (by kernel_rfl) (by kernel_rfl) (by kernel_rfl) (fun _ _ _ h => h) (Or.inl ⟨by rfl, ?_⟩) hHeld ?_; rotate_left; (focus (intro w hSw; (try dsimp only at hSw); go_simp; (have hq := BlkAt.later H1.out hSw; have c0 := BlkAt.cell hq (j := 0) rfl; have c1 := BlkAt.cell hq (j := 1) rfl; go_simp; try with_reducible rfl))); (try simp only [Act.put, List.setIfInBounds_toArray, List.set_cons_zero, List.set_cons_succ, List.getElem_toArray, List.getElem_cons_zero, List.getElem_cons_succ]))
  (refine wpAnyH_take (i := 15) (v := ?_) rfl (by kernel_rfl) (by kernel_rfl) (by kernel_rfl) (fun _ _ _ h => h) (Or.inl ⟨by rfl, ?_⟩) hHeld ?_; rotate_left; (focus (intro w hSw; (try dsimp only at hSw); go_simp; (have hq := BlkAt.later H2.out hSw; have c0 := BlkAt.cell hq (j := 0) rfl; have c1 := BlkAt.cell hq (j := 1) rfl; go_simp; try with_reducible rfl))); (try simp only [Act.put, List.setIfInBounds_toArray, List.set_cons_zero, List.set_cons_succ, List.getElem_toArray, List.getElem_cons_zero, List.getElem_cons_succ]))
  refine wpAnyH_at (m := #[true, true, true, true, true, true, true, true, true, true, true, true, false, true, true, true, false, false, false, false, false, false, false, false, false, false, false, false, false, false, false, false, false, false, false, false, false, false, false, false, false, false, false, false]) (by kernel_rfl) ?_
  (refine wpAnyH_ready (rs := [12]) (by kernel_rfl) (by simp) ?_; refine AllReadyH.cons rfl (fun K hK => ?_) AllReadyH.nil; go_simp; refine (HSW.out _ (below_of HB.out hHeld)).mono ?_; rintro e y12 ⟨rfl, hs⟩; refine hK.out _ _ ?_ (fun hHeldN => ?_); (focus ((try dsimp only); (exact hHeld.trans (hs.mono hHeld.size)))); clear hK K hHeld; have hHeld := hHeldN; clear hHeldN; (try simp only [Act.put, List.setIfInBounds_toArray, List.set_cons_zero, List.set_cons_succ, List.getElem_toArray, List.getElem_cons_zero, List.getElem_cons_succ]))
  clear hs
  refine wpAnyH_at (m := #[true, true, true, true, true, true, true, true, true, true, true, true, true, true, true, true, false, false, false, false, false, false, false, false, false, false, false, false, false, false, false, false, false, false, false, false, false, false, false, false, false, false, false, false]) (by kernel_rfl) ?_
  (refine wpAnyH_ready (rs := [16]) (by kernel_rfl) (by simp) ?_; refine AllReadyH.cons rfl (fun K hK => ?_) AllReadyH.nil; go_simp; refine (HSR.out _ (below_of HB.out hHeld)).mono ?_; rintro e y16 ⟨rfl, hs⟩; refine hK.out _ _ ?_ (fun hHeldN => ?_); (focus ((try dsimp only); (exact hHeld.trans (hs.mono hHeld.size)))); clear hK K hHeld; have hHeld := hHeldN; clear hHeldN; (try simp only [Act.put, List.setIfInBounds_toArray, List.set_cons_zero, List.set_cons_succ, List.getElem_toArray, List.getElem_cons_zero, List.getElem_cons_succ]))
  clear hs
  (refine wpAnyH_take (i := 17) (v := ?_) rfl (by kernel_rfl) (by kernel_rfl) (by kernel_rfl) (fun _ _ _ h => h) (Or.inl ⟨by rfl, ?_⟩) hHeld ?_; rotate_left; (focus (intro w hSw; (try dsimp only at hSw); go_simp; try with_reducible rfl)); (try simp only [Act.put, List.setIfInBounds_toArray, List.set_cons_zero, List.set_cons_succ, List.getElem_toArray, List.getElem_cons_zero, List.getElem_cons_succ])); (refine wpAnyH_take (i := 18) (v := ?_) rfl (by kernel_rfl) (by kernel_rfl) (by kernel_rfl) (fun _ _ _ h => h) (Or.inl ⟨by rfl, ?_⟩) hHeld ?_; rotate_left; (focus (intro w hSw; (try dsimp only at hSw); go_simp; try with_reducible rfl)); (try simp only [Act.put, List.setIfInBounds_toArray, List.set_cons_zero, List.set_cons_succ, List.getElem_toArray, List.getElem_cons_zero, List.getElem_cons_succ])); (refine wpAnyH_take (i := 19) (v := ?_) rfl (by kernel_rfl) (by kernel_rfl) (by kernel_rfl) (fun _ _ _ h => h) (Or.inl ⟨by rfl, ?_⟩) hHeld ?_; rotate_left; (focus (intro w hSw; (try dsimp only at hSw); go_simp; try with_reducible rfl)); (try simp only [Act.put, List.setIfInBounds_toArray, List.set_cons_zero, List.set_cons_succ, List.getElem_toArray, List.getElem_cons_zero, List.getElem_cons_succ]))
  (refine wpAnyH_take (i := 20) (v := ?_) rfl (by kernel_rfl) (by kernel_rfl) (by kernel_rfl) (fun _ _ _ h => h) (Or.inl ⟨by rfl, ?_⟩) hHeld ?_; rotate_left; (focus (intro w hSw; (try dsimp only at hSw); go_simp; (have hq := BlkAt.later H1.out hSw; have c0 := BlkAt.cell hq (j := 0) rfl; have c1 := BlkAt.cell hq (j := 1) rfl; go_simp; try with_reducible rfl))); (try simp only [Act.put, List.setIfInBounds_toArray, List.set_cons_zero, List.set_cons_succ, List.getElem_toArray, List.getElem_cons_zero, List.getElem_cons_succ]))
  (refine wpAnyH_take (i := 22) (v := ?_) rfl (by kernel_rfl) (by kernel_rfl) (by kernel_rfl) (fun _ _ _ h => h) (Or.inl ⟨by rfl, ?_⟩) hHeld ?_; rotate_left; (focus (intro w hSw; (try dsimp only at hSw); go_simp; (have hq := BlkAt.later H1.out hSw; have c0 := BlkAt.cell hq (j := 0) rfl; have c1 := BlkAt.cell hq (j := 1) rfl; go_simp; try with_reducible rfl))); (try simp only [Act.put, List.setIfInBounds_toArray, List.set_cons_zero, List.set_cons_succ, List.getElem_toArray, List.getElem_cons_zero, List.getElem_cons_succ]))
  refine wpAnyH_at (m := #[true, true, true, true, true, true, true, true, true, true, true, true, true, true, true, true, true, true, true, true, true, false, true, false, false, false, false, false, false, false, false, false, false, false, false, false, false, false, false, false, false, false, false, false]) (by kernel_rfl) ?_
  (refine wpAnyH_ready (rs := [21]) (by kernel_rfl) (by simp) ?_; refine AllReadyH.cons rfl (fun K hK => ?_) AllReadyH.nil; go_simp; refine (HTW.out _).mono ?_; rintro e y21 ⟨rfl, hs⟩; refine hK.out _ _ ?_ (fun hHeldN => ?_); (focus ((try dsimp only); (exact hHeld.trans (hs.mono hHeld.size)))); clear hK K hHeld; have hHeld := hHeldN; clear hHeldN; (try simp only [Act.put, List.setIfInBounds_toArray, List.set_cons_zero, List.set_cons_succ, List.getElem_toArray, List.getElem_cons_zero, List.getElem_cons_succ]))
  clear hs
  refine wpAnyH_at (m := #[true, true, true, true, true, true, true, true, true, true, true, true, true, true, true, true, true, true, true, true, true, true, true, false, false, false, false, false, false, false, false, false, false, false, false, false, false, false, false, false, false, false, false, false]) (by kernel_rfl) ?_
  (refine wpAnyH_ready (rs := [23]) (by kernel_rfl) (by simp) ?_; refine AllReadyH.cons rfl (fun K hK => ?_) AllReadyH.nil; go_simp; refine (HTR.out _).mono ?_; rintro e y23 ⟨rfl, hs⟩; refine hK.out _ _ ?_ (fun hHeldN => ?_); (focus ((try dsimp only); (exact hHeld.trans (hs.mono hHeld.size)))); clear hK K hHeld; have hHeld := hHeldN; clear hHeldN; (try simp only [Act.put, List.setIfInBounds_toArray, List.set_cons_zero, List.set_cons_succ, List.getElem_toArray, List.getElem_cons_zero, List.getElem_cons_succ]))
  clear hs
  (refine wpAnyH_take (i := 24) (v := ?_) rfl (by kernel_rfl) (by kernel_rfl) (by kernel_rfl) (fun _ _ _ h => h) (Or.inl ⟨by rfl, ?_⟩) hHeld ?_; rotate_left; (focus (intro w hSw; (try dsimp only at hSw); go_simp; try with_reducible rfl)); (try simp only [Act.put, List.setIfInBounds_toArray, List.set_cons_zero, List.set_cons_succ, List.getElem_toArray, List.getElem_cons_zero, List.getElem_cons_succ])); (refine wpAnyH_take (i := 25) (v := ?_) rfl (by kernel_rfl) (by kernel_rfl) (by kernel_rfl) (fun _ _ _ h => h) (Or.inl ⟨by rfl, ?_⟩) hHeld ?_; rotate_left; (focus (intro w hSw; (try dsimp only at hSw); go_simp; try with_reducible rfl)); (try simp only [Act.put, List.setIfInBounds_toArray, List.set_cons_zero, List.set_cons_succ, List.getElem_toArray, List.getElem_cons_zero, List.getElem_cons_succ])); (refine wpAnyH_take (i := 26) (v := ?_) rfl (by kernel_rfl) (by kernel_rfl) (by kernel_rfl) (fun _ _ _ h => h) (Or.inl ⟨by rfl, ?_⟩) hHeld ?_; rotate_left; (focus (intro w hSw; (try dsimp only at hSw); go_simp; try with_reducible rfl)); (try simp only [Act.put, List.setIfInBounds_toArray, List.set_cons_zero, List.set_cons_succ, List.getElem_toArray, List.getElem_cons_zero, List.getElem_cons_succ]))
  (refine wpAnyH_take (i := 27) (v := ?_) rfl (by kernel_rfl) (by kernel_rfl) (by kernel_rfl) (fun _ _ _ h => h) (Or.inl ⟨by rfl, ?_⟩) hHeld ?_; rotate_left; (focus (intro w hSw; (try dsimp only at hSw); go_simp; (have hq := BlkAt.later HF.out hSw; have c0 := BlkAt.cell hq (j := 0) rfl; have c1 := BlkAt.cell hq (j := 1) rfl; have c2 := BlkAt.cell hq (j := 2) rfl; have c3 := BlkAt.cell hq (j := 3) rfl; have c4 := BlkAt.cell hq (j := 4) rfl; have c5 := BlkAt.cell hq (j := 5) rfl; have c6 := BlkAt.cell hq (j := 6) rfl; have c7 := BlkAt.cell hq (j := 7) rfl; have c8 := BlkAt.cell hq (j := 8) rfl; go_simp; try with_reducible rfl))); (try simp only [Act.put, List.setIfInBounds_toArray, List.set_cons_zero, List.set_cons_succ, List.getElem_toArray, List.getElem_cons_zero, List.getElem_cons_succ]))
  (refine wpAnyH_take (i := 28) (v := ?_) rfl (by kernel_rfl) (by kernel_rfl) (by kernel_rfl) (fun _ _ _ h => h) (Or.inl ⟨by rfl, ?_⟩) hHeld ?_; rotate_left; (focus (intro w hSw; (try dsimp only at hSw); go_simp; (have hq := BlkAt.later HG.out hSw; have c0 := BlkAt.cell hq (j := 0) rfl; have c1 := BlkAt.cell hq (j := 1) rfl; have c2 := BlkAt.cell hq (j := 2) rfl; have c3 := BlkAt.cell hq (j := 3) rfl; have c4 := BlkAt.cell hq (j := 4) rfl; have c5 := BlkAt.cell hq (j := 5) rfl; have c6 := BlkAt.cell hq (j := 6) rfl; have c7 := BlkAt.cell hq (j := 7) rfl; have c8 := BlkAt.cell hq (j := 8) rfl; go_simp; try with_reducible rfl))); (try simp only [Act.put, List.setIfInBounds_toArray, List.set_cons_zero, List.set_cons_succ, List.getElem_toArray, List.getElem_cons_zero, List.getElem_cons_succ]))
  (refine wpAnyH_take (i := 30) (v := ?_) rfl (by kernel_rfl) (by kernel_rfl) (by kernel_rfl) (fun _ _ _ h => h) (Or.inl ⟨by rfl, ?_⟩) hHeld ?_; rotate_left; (focus (intro w hSw; (try dsimp only at hSw); go_simp; (have hq := BlkAt.later HF.out hSw; have c0 := BlkAt.cell hq (j := 0) rfl; have c1 := BlkAt.cell hq (j := 1) rfl; have c2 := BlkAt.cell hq (j := 2) rfl; have c3 := BlkAt.cell hq (j := 3) rfl; have c4 := BlkAt.cell hq (j := 4) rfl; have c5 := BlkAt.cell hq (j := 5) rfl; have c6 := BlkAt.cell hq (j := 6) rfl; have c7 := BlkAt.cell hq (j := 7) rfl; have c8 := BlkAt.cell hq (j := 8) rfl; go_simp; try with_reducible rfl))); (try simp only [Act.put, List.setIfInBounds_toArray, List.set_cons_zero, List.set_cons_succ, List.getElem_toArray, List.getElem_cons_zero, List.getElem_cons_succ]))
  (refine wpAnyH_take (i := 31) (v := ?_) rfl (by kernel_rfl) (by kernel_rfl) (by kernel_rfl) (fun _ _ _ h => h) (Or.inl ⟨by rfl, ?_⟩) hHeld ?_; rotate_left; (focus (intro w hSw; (try dsimp only at hSw); go_simp; (have hq := BlkAt.later HG.out hSw; have c0 := BlkAt.cell hq (j := 0) rfl; have c1 := BlkAt.cell hq (j := 1) rfl; have c2 := BlkAt.cell hq (j := 2) rfl; have c3 := BlkAt.cell hq (j := 3) rfl; have c4 := BlkAt.cell hq (j := 4) rfl; have c5 := BlkAt.cell hq (j := 5) rfl; have c6 := BlkAt.cell hq (j := 6) rfl; have c7 := BlkAt.cell hq (j := 7) rfl; have c8 := BlkAt.cell hq (j := 8) rfl; go_simp; try with_reducible rfl))); (try simp only [Act.put, List.setIfInBounds_toArray, List.set_cons_zero, List.set_cons_succ, List.getElem_toArray, List.getElem_cons_zero, List.getElem_cons_succ]))
  refine wpAnyH_at (m := #[true, true, true, true, true, true, true, true, true, true, true, true, true, true, true, true, true, true, true, true, true, true, true, true, true, true, true, true, true, false, true, true, false, false, false, false, false, false, false, false, false, false, false, false]) (by kernel_rfl) ?_
  (refine wpAnyH_ready (rs := [29]) (by kernel_rfl) (by simp) ?_; refine AllReadyH.cons rfl (fun K hK => ?_) AllReadyH.nil; go_simp; refine (HQW.out _ (below_of HB.out hHeld)).mono ?_; rintro e y29 ⟨rfl, hs⟩; refine hK.out _ _ ?_ (fun hHeldN => ?_); (focus ((try dsimp only); (exact hHeld.trans (hs.mono hHeld.size)))); clear hK K hHeld; have hHeld := hHeldN; clear hHeldN; (try simp only [Act.put, List.setIfInBounds_toArray, List.set_cons_zero, List.set_cons_succ, List.getElem_toArray, List.getElem_cons_zero, List.getElem_cons_succ]))
  clear hs
  refine wpAnyH_at (m := #[true, true, true, true, true, true, true, true, true, true, true, true, true, true, true, true, true, true, true, true, true, true, true, true, true, true, true, true, true, true, true, true, false, false, false, false, false, false, false, false, false, false, false, false]) (by kernel_rfl) ?_
  (refine wpAnyH_ready (rs := [32]) (by kernel_rfl) (by simp) ?_; refine AllReadyH.cons rfl (fun K hK => ?_) AllReadyH.nil; go_simp; refine (HQR.out _ (below_of HB.out hHeld)).mono ?_; rintro e y32 ⟨rfl, hs⟩; refine hK.out _ _ ?_ (fun hHeldN => ?_); (focus ((try dsimp only); (exact hHeld.trans (hs.mono hHeld.size)))); clear hK K hHeld; have hHeld := hHeldN; clear hHeldN; (try simp only [Act.put, List.setIfInBounds_toArray, List.set_cons_zero, List.set_cons_succ, List.getElem_toArray, List.getElem_cons_zero, List.getElem_cons_succ]))
  clear hs
  (refine wpAnyH_take (i := 33) (v := ?_) rfl (by kernel_rfl) (by kernel_rfl) (by kernel_rfl) (fun _ _ _ h => h) (Or.inl ⟨by rfl, ?_⟩) hHeld ?_; rotate_left; (focus (intro w hSw; (try dsimp only at hSw); go_simp; try with_reducible rfl)); (try simp only [Act.put, List.setIfInBounds_toArray, List.set_cons_zero, List.set_cons_succ, List.getElem_toArray, List.getElem_cons_zero, List.getElem_cons_succ])); (refine wpAnyH_take (i := 34) (v := ?_) rfl (by kernel_rfl) (by kernel_rfl) (by kernel_rfl) (fun _ _ _ h => h) (Or.inl ⟨by rfl, ?_⟩) hHeld ?_; rotate_left; (focus (intro w hSw; (try dsimp only at hSw); go_simp; try with_reducible rfl)); (try simp only [Act.put, List.setIfInBounds_toArray, List.set_cons_zero, List.set_cons_succ, List.getElem_toArray, List.getElem_cons_zero, List.getElem_cons_succ])); (refine wpAnyH_take (i := 35) (v := ?_) rfl (by kernel_rfl) (by kernel_rfl) (by kernel_rfl) (fun _ _ _ h => h) (Or.inl ⟨by rfl, ?_⟩) hHeld ?_; rotate_left; (focus (intro w hSw; (try dsimp only at hSw); go_simp; try with_reducible rfl)); (try simp only [Act.put, List.setIfInBounds_toArray, List.set_cons_zero, List.set_cons_succ, List.getElem_toArray, List.getElem_cons_zero, List.getElem_cons_succ]))
  (refine wpAnyH_take (i := 36) (v := ?_) rfl (by kernel_rfl) (by kernel_rfl) (by kernel_rfl) (fun _ _ _ h => h) (Or.inl ⟨by rfl, ?_⟩) hHeld ?_; rotate_left; (focus (intro w hSw; (try dsimp only at hSw); go_simp; (have hq := BlkAt.later HF.out hSw; have c0 := BlkAt.cell hq (j := 0) rfl; have c1 := BlkAt.cell hq (j := 1) rfl; have c2 := BlkAt.cell hq (j := 2) rfl; have c3 := BlkAt.cell hq (j := 3) rfl; have c4 := BlkAt.cell hq (j := 4) rfl; have c5 := BlkAt.cell hq (j := 5) rfl; have c6 := BlkAt.cell hq (j := 6) rfl; have c7 := BlkAt.cell hq (j := 7) rfl; have c8 := BlkAt.cell hq (j := 8) rfl; go_simp; try with_reducible rfl))); (try simp only [Act.put, List.setIfInBounds_toArray, List.set_cons_zero, List.set_cons_succ, List.getElem_toArray, List.getElem_cons_zero, List.getElem_cons_succ]))
  (refine wpAnyH_take (i := 37) (v := ?_) rfl (by kernel_rfl) (by kernel_rfl) (by kernel_rfl) (fun _ _ _ h => h) (Or.inl ⟨by rfl, ?_⟩) hHeld ?_; rotate_left; (focus (intro w hSw; (try dsimp only at hSw); go_simp; (have hq := BlkAt.later HF.out hSw; have c0 := BlkAt.cell hq (j := 0) rfl; have c1 := BlkAt.cell hq (j := 1) rfl; have c2 := BlkAt.cell hq (j := 2) rfl; have c3 := BlkAt.cell hq (j := 3) rfl; have c4 := BlkAt.cell hq (j := 4) rfl; have c5 := BlkAt.cell hq (j := 5) rfl; have c6 := BlkAt.cell hq (j := 6) rfl; have c7 := BlkAt.cell hq (j := 7) rfl; have c8 := BlkAt.cell hq (j := 8) rfl; go_simp; try with_reducible rfl))); (try simp only [Act.put, List.setIfInBounds_toArray, List.set_cons_zero, List.set_cons_succ, List.getElem_toArray, List.getElem_cons_zero, List.getElem_cons_succ]))
  refine wpAnyH_at (m := #[true, true, true, true, true, true, true, true, true, true, true, true, true, true, true, true, true, true, true, true, true, true, true, true, true, true, true, true, true, true, true, true, true, true, true, true, true, true, false, false, false, false, false, false]) (by kernel_rfl) ?_
  (refine wpAnyH_ready (rs := [38]) (by kernel_rfl) (by simp) ?_; refine AllReadyH.cons rfl (fun K hK => ?_) AllReadyH.nil; go_simp; refine (HQ1.out _ (below_of HB.out hHeld)).mono ?_; rintro e y38 ⟨rfl, hs⟩; refine hK.out _ _ ?_ (fun hHeldN => ?_); (focus ((try dsimp only); (exact hHeld.trans (hs.mono hHeld.size)))); clear hK K hHeld; have hHeld := hHeldN; clear hHeldN; (try simp only [Act.put, List.setIfInBounds_toArray, List.set_cons_zero, List.set_cons_succ, List.getElem_toArray, List.getElem_cons_zero, List.getElem_cons_succ]))
  clear hs
  (refine wpAnyH_take (i := 39) (v := ?_) rfl (by kernel_rfl) (by kernel_rfl) (by kernel_rfl) (fun _ _ _ h => h) (Or.inl ⟨by rfl, ?_⟩) hHeld ?_; rotate_left; (focus (intro w hSw; (try dsimp only at hSw); go_simp; try with_reducible rfl)); (try simp only [Act.put, List.setIfInBounds_toArray, List.set_cons_zero, List.set_cons_succ, List.getElem_toArray, List.getElem_cons_zero, List.getElem_cons_succ])); (refine wpAnyH_take (i := 40) (v := ?_) rfl (by kernel_rfl) (by kernel_rfl) (by kernel_rfl) (fun _ _ _ h => h) (Or.inl ⟨by rfl, ?_⟩) hHeld ?_; rotate_left; (focus (intro w hSw; (try dsimp only at hSw); go_simp; try with_reducible rfl)); (try simp only [Act.put, List.setIfInBounds_toArray, List.set_cons_zero, List.set_cons_succ, List.getElem_toArray, List.getElem_cons_zero, List.getElem_cons_succ]))
  refine wpAnyH_at (m := #[true, true, true, true, true, true, true, true, true, true, true, true, true, true, true, true, true, true, true, true, true, true, true, true, true, true, true, true, true, true, true, true, true, true, true, true, true, true, true, true, true, false, false, false]) (by kernel_rfl) ?_
  (refine wpAnyH_ready (rs := [41]) (by kernel_rfl) (by simp) ?_; refine AllReadyH.cons rfl (fun K hK => ?_) AllReadyH.nil; go_simp; refine (known6_any _).mono ?_; rintro e y41 ⟨rfl, hs⟩; refine hK.out _ _ ?_ (fun hHeldN => ?_); (focus ((try dsimp only); (exact hHeld.trans (hs.mono hHeld.size)))); clear hK K hHeld; have hHeld := hHeldN; clear hHeldN; (try simp only [Act.put, List.setIfInBounds_toArray, List.set_cons_zero, List.set_cons_succ, List.getElem_toArray, List.getElem_cons_zero, List.getElem_cons_succ]))
  clear hs
  (refine wpAnyH_take (i := 42) (v := ?_) rfl (by kernel_rfl) (by kernel_rfl) (by kernel_rfl) (fun _ _ _ h => h) (Or.inl ⟨by rfl, ?_⟩) hHeld ?_; rotate_left; (focus (intro w hSw; (try dsimp only at hSw); go_simp; try with_reducible rfl)); (try simp only [Act.put, List.setIfInBounds_toArray, List.set_cons_zero, List.set_cons_succ, List.getElem_toArray, List.getElem_cons_zero, List.getElem_cons_succ])); (refine wpAnyH_take (i := 43) (v := ?_) rfl (by kernel_rfl) (by kernel_rfl) (by kernel_rfl) (fun _ _ _ h => h) (Or.inl ⟨by rfl, ?_⟩) hHeld ?_; rotate_left; (focus (intro w hSw; (try dsimp only at hSw); go_simp; try with_reducible rfl)); (try simp only [Act.put, List.setIfInBounds_toArray, List.set_cons_zero, List.set_cons_succ, List.getElem_toArray, List.getElem_cons_zero, List.getElem_cons_succ]))
  refine wpAnyH_done (by kernel_rfl) ?_ _
  have HB := Lib.hid (below_of HB.out hHeld)
  clear hHeld
  go_wp2_with fail
  go_ret
  exact ⟨rfl, HB.out⟩
theorem frameLooks_walk (f : Fr) (u : Value) (B : List UInt8) (g : Fr) (v : Value) (C : List UInt8) (x1 y1 x2 y2 : Nat) (w : World) (_hk : f.Ok) (hB : Bytes w u B) (_hl : B.length ≤ 9223372036854775807) (_hg : g.Ok) (hC : Bytes w v C) (_hl' : C.length ≤ 9223372036854775807) (_hx1 : x1 < 18446744073709551616) (_hy1 : y1 < 18446744073709551616) (_hx2 : x2 < 18446744073709551616) (_hy2 : y2 < 18446744073709551616) :
    Calls Try.prog 4 #[.agg #[.int .i64 f.k, .int .i64 f.n, .int .u64 (f.mb : Nat), .int .u64 (f.mt : Nat), .int .u64 (f.tb : Nat), .int .u64 (f.tt : Nat), .int .u64 (f.s : Nat), .int .u64 (f.a : Nat), u], .agg #[.int .i64 g.k, .int .i64 g.n, .int .u64 (g.mb : Nat), .int .u64 (g.mt : Nat), .int .u64 (g.tb : Nat), .int .u64 (g.tt : Nat), .int .u64 (g.s : Nat), .int .u64 (g.a : Nat), v], .agg #[.int .u64 (x1 : Nat), .int .u64 (y1 : Nat)], .agg #[.int .u64 (x2 : Nat), .int .u64 (y2 : Nat)]] w fun e w' => e = .returned (.bool true) ∧ Below w.heap.size w w' := by
  obtain ⟨a, c, rfl⟩ := hB.form
  obtain ⟨a', c', rfl⟩ := hC.form
  rcases Nat.lt_or_ge 5000 B.length with h | h
  · exact ht_long f g a a' c _ c' _ x1 y1 x2 y2 w (by omega)
  · rcases Nat.lt_or_ge 5000 C.length with h' | h'
    · exact ht_long2 f g a a' c _ c' _ x1 y1 x2 y2 w (by omega) (by omega)
    · exact ht_main f g a a' c _ c' _ x1 y1 x2 y2 B C w rfl rfl hB hC h h'
end Go.Proofs.Ytcahfapffhcceaa

namespace Go.Proofs.Ytcahfapffhcceaa
open Go.RowKit

def Row (w : World) (v : Value) (xs : List Value) : Prop :=
  (xs = [] ∧ ∃ a c, v = .slice a 0 c ∧ (a = none → c = 0)) ∨
  ∃ b o c, v = .slice (some ⟨b, o, none⟩) xs.length c ∧ b < w.heap.size ∧ xs.length ≤ c ∧ ∀ j x, xs[j]? = some x → w.cell? ⟨b, o + j, none⟩ = some x
theorem Row.later {w w' : World} {v : Value} {l : List Value} (h : Row w v l) (hb : Below w.heap.size w w') : Row w' v l := by
  rcases h with h | ⟨b, o, c, h1, h2, hp, h3⟩
  · exact .inl h
  · exact .inr ⟨b, o, c, h1, Nat.lt_of_lt_of_le h2 hb.size, hp, fun j x hx => cell_later hb (h3 j x hx)⟩
theorem Row.form {w : World} {v : Value} {l : List Value} (h : Row w v l) : ∃ a c, v = .slice a l.length c := by
  rcases h with ⟨rfl, a, c, rfl, _⟩ | ⟨b, o, c, rfl, _, _⟩
  · exact ⟨a, c, rfl⟩
  · exact ⟨_, c, rfl⟩
theorem Row.at {w : World} {a : Option Addr} {n c : Nat} {l : List Value} (h : Row w (.slice a n c) l) {i : Nat} {x : Value} (hi : l[i]? = some x) :
    ∃ b o, a = some ⟨b, o, none⟩ ∧ b < w.heap.size ∧ w.cell? ⟨b, o + i, none⟩ = some x := by
  rcases h with ⟨rfl, _⟩ | ⟨b, o, c', h1, h2, _, h3⟩
  · simp at hi
  · simp only [Value.slice.injEq] at h1
    exact ⟨b, o, h1.1, h2, h3 i _ hi⟩
theorem Row.of_own {w : World} {base : Nat} {e : TypeId} {v : Value} {n : Nat} {l : List Value} (h : w.ownsRow base e 1 v n l) : Row w v l := by
  obtain ⟨hl, h0 | ⟨g, cap, cur, rfl, hb, hg, hn, hm, hc, ht⟩⟩ := h
  · obtain ⟨rfl, rfl⟩ := h0
    simp at hl
    subst hl
    exact .inl ⟨rfl, _, _, rfl, fun _ => rfl⟩
  · have hln : l.length = n := by simpa using hl
    subst hln
    refine .inr ⟨g, 0, cap, rfl, ?_, hn, fun j x hx => ?_⟩
    · rcases Nat.lt_or_ge g w.heap.size with h1 | h1
      · exact h1
      · rw [Array.getElem?_eq_none h1] at hg; cases hg
    · rw [Nat.zero_add, cell_of_row w g j cur e (0, 0) hg]
      have hj : j < l.length := (List.getElem?_eq_some_iff.1 hx).1
      have : l[j]? = some x := hx
      rw [← ht, List.getElem?_take, if_pos (by omega)] at this
      simpa using this
theorem Row.of_bytes {w : World} {v : Value} {l : List UInt8} (h : Bytes w v l) : Row w v (bv l) := by
  rcases h with ⟨rfl, a, c, rfl, h1⟩ | ⟨b, o, c, rfl, h2, hp, h3⟩
  · exact .inl ⟨rfl, a, c, rfl, h1⟩
  · refine .inr ⟨b, o, c, by simp [bv], h2, by simpa [bv] using hp, fun j x hx => ?_⟩
    simp only [bv, List.getElem?_map, Option.map_eq_some_iff] at hx
    obtain ⟨y, hy, rfl⟩ := hx
    exact h3 j y hy
theorem ownsRow_later {w w' : World} {B : Nat} {e : TypeId} {s n : Nat} {v : Value} {xs : List Value} (h : w.ownsRow B e s v n xs) (hb : Below w.heap.size w w') : w'.ownsRow B e s v n xs := by
  obtain ⟨hl, h0 | ⟨g, cap, cur, rfl, hb1, hg, hn, hm, hc, ht⟩⟩ := h
  · exact ⟨hl, .inl h0⟩
  · refine ⟨hl, .inr ⟨g, cap, cur, rfl, hb1, ?_, hn, hm, hc, ht⟩⟩
    rw [hb.block g ?_]
    · exact hg
    · rcases Nat.lt_or_ge g w.heap.size with h1 | h1
      · exact h1
      · rw [Array.getElem?_eq_none h1] at hg; cases hg
def iv (l : List Int) : List Value := l.map fun z => .int .i64 z
theorem iv_at {zs : List Int} {k : Nat} (h : k < zs.length) : (iv zs)[k]? = some (.int .i64 zs[k]) := by simp [iv, h]
end Go.Proofs.Ytcahfapffhcceaa
