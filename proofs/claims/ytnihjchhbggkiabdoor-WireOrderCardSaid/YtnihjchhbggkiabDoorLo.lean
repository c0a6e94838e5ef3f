/- The walk of the law on the order of prefixes: its cases together. -/
import Derived.Test.YtnihjchhbggkiabDoorLo1
import Derived.Test.YtnihjchhbggkiabDoorLo2
import Derived.Test.YtnihjchhbggkiabDoorLo3
import Derived.Test.YtnihjchhbggkiabDoorLo4
namespace Go.Proofs.YtnihjchhbggkiabDoor
open Go.RowKit

theorem wireOrder_walk (a n b m c r : Int) (w : World) (g : Gl w) (ha : 0 ≤ a) (ha2 : a < 4294967296) (hb : 0 ≤ b) (hb2 : b < 4294967296) (hc : 0 ≤ c) (hc2 : c < 4294967296) :
    Calls Tryd.prog 3 #[.agg #[.int .u32 a, .int .i64 n], .agg #[.int .u32 b, .int .i64 m], .agg #[.int .u32 c, .int .i64 r]] w fun e w' => e = .returned (.bool true) ∧ Below w.heap.size w w' := by
  have hx2 := Wp.cmp_neg a n b m
  have hbd := Wp.cmp_bd a n b m
  have htr := @Wp.cmp_tr a n b m c r
  have hx : Wp.cmpI a n b m = (if a < b then -1 else if b < a then 1 else if n < m then -1 else if m < n then 1 else 0) := rfl
  obtain ⟨x, ex⟩ : ∃ x, Wp.cmpI a n b m = x := ⟨_, rfl⟩
  obtain ⟨y, ey⟩ : ∃ y, Wp.cmpI b m c r = y := ⟨_, rfl⟩
  obtain ⟨z, ez⟩ : ∃ z, Wp.cmpI a n c r = z := ⟨_, rfl⟩
  rw [ex] at hx2 hbd htr hx
  rw [ey, ez] at htr
  by_cases hab : a = b
  · by_cases hnm : n = m
    · have hx0 : x = 0 := by rw [hx]; (repeat' split) <;> omega
      exact order_eq a n b m c r x y z w g ha ha2 hb hb2 hc hc2 ex hx2 ey ez hbd.1 hbd.2 (by simpa using hab) (by simpa using hnm) (by simpa using hx0) (by simp; omega)
    · rcases Int.lt_trichotomy x 0 with h | h | h
      · by_cases hy : y < 0
        · exact order_ll2 a n b m c r x y z w g ha ha2 hb hb2 hc hc2 ex hx2 ey ez hbd.1 hbd.2 (by simpa using hab) (by simpa using hnm) h hy (htr h hy)
        · exact order_lg2 a n b m c r x y z w g ha ha2 hb hb2 hc hc2 ex hx2 ey ez hbd.1 hbd.2 (by simpa using hab) (by simpa using hnm) h (by omega)
      · exfalso
        revert hx
        (repeat' split) <;> omega
      · exact order_gt2 a n b m c r x y z w g ha ha2 hb hb2 hc hc2 ex hx2 ey ez hbd.1 hbd.2 (by simpa using hab) (by simpa using hnm) h
  · rcases Int.lt_trichotomy x 0 with h | h | h
    · by_cases hy : y < 0
      · exact order_ll1 a n b m c r x y z w g ha ha2 hb hb2 hc hc2 ex hx2 ey ez hbd.1 hbd.2 (by simpa using hab) h hy (htr h hy)
      · exact order_lg1 a n b m c r x y z w g ha ha2 hb hb2 hc hc2 ex hx2 ey ez hbd.1 hbd.2 (by simpa using hab) h (by omega)
    · exfalso
      revert hx
      (repeat' split) <;> omega
    · exact order_gt1 a n b m c r x y z w g ha ha2 hb hb2 hc hc2 ex hx2 ey ez hbd.1 hbd.2 (by simpa using hab) h
end Go.Proofs.YtnihjchhbggkiabDoor
