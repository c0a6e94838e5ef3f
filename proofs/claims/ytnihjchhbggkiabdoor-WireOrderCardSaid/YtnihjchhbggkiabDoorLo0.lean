/- The walk of the law on the order of prefixes. -/
import Derived.Test.YtnihjchhbggkiabDoorWk
import Derived.Test.YtnihjchhbggkiabDoorP2
import Derived.Test.YtnihjchhbggkiabDoorWc
import Derived.Test.YtnihjchhbggkiabDoorWi
namespace Go.Proofs.YtnihjchhbggkiabDoor
open Go.RowKit
attribute [local go_sem ↓] Go.wp_at_zero Go.wp_at_succ

theorem cmp_as (a n b m x : Int) (w : World) (h : Wp.cmpI a n b m = x) :
    Calls Tryd.prog 5 #[.agg #[.int .u32 a, .int .i64 n], .agg #[.int .u32 b, .int .i64 m]] w fun e w' => e = .returned (.int .i64 x) ∧ Below w.heap.size w w' :=
  (cmpW_any a n b m w).mono fun _ _ ⟨he, hw⟩ => ⟨he.trans (ret_i h), hw⟩
theorem order_no {a n b m c r : Int} (hd : 0 < Wp.cmpI a n c r ∨ (!Wp.inB a n b m) = true) (hi : Wp.inB a n c r = true) (hm : Wp.mayB b m = true) (h1 : Wp.cmpI a n b m ≤ 0) (h2 : Wp.cmpI b m c r ≤ 0) : False := by
  rcases hd with h | h
  · have := Wp.in_cmp hi
    omega
  · rw [Wp.in_mid hi hm h1 h2] at h; cases h
theorem later6 {w wi wj : World} {a n b m c r : Int} (c0 : wi.cell? ⟨w.heap.size, 0, none⟩ = some (.int .u32 a)) (c1 : wi.cell? ⟨w.heap.size, 1, none⟩ = some (.int .i64 n)) (c2 : wi.cell? ⟨w.heap.size + 1, 0, none⟩ = some (.int .u32 b)) (c3 : wi.cell? ⟨w.heap.size + 1, 1, none⟩ = some (.int .i64 m))
    (c4 : wi.cell? ⟨w.heap.size + 1 + 1, 0, none⟩ = some (.int .u32 c)) (c5 : wi.cell? ⟨w.heap.size + 1 + 1, 1, none⟩ = some (.int .i64 r)) (hz : w.heap.size + 1 + 1 < wi.heap.size) (hB : Below w.heap.size w wi) (h : Below wi.heap.size wi wj) :
    wj.cell? ⟨w.heap.size, 0, none⟩ = some (.int .u32 a) ∧ wj.cell? ⟨w.heap.size, 1, none⟩ = some (.int .i64 n) ∧ wj.cell? ⟨w.heap.size + 1, 0, none⟩ = some (.int .u32 b) ∧ wj.cell? ⟨w.heap.size + 1, 1, none⟩ = some (.int .i64 m) ∧
    wj.cell? ⟨w.heap.size + 1 + 1, 0, none⟩ = some (.int .u32 c) ∧ wj.cell? ⟨w.heap.size + 1 + 1, 1, none⟩ = some (.int .i64 r) ∧ w.heap.size + 1 + 1 < wj.heap.size ∧ Below w.heap.size w wj :=
  ⟨cell_later h c0, cell_later h c1, cell_later h c2, cell_later h c3, cell_later h c4, cell_later h c5, Nat.lt_of_lt_of_le hz h.size, Below.trans hB (h.mono (by omega))⟩

end Go.Proofs.YtnihjchhbggkiabDoor
