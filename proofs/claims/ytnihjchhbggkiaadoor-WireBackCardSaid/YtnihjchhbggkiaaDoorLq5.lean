/- The walk of the theorem of the first stage: all cases. -/
import Derived.Test.YtnihjchhbggkiaaDoorLq1
import Derived.Test.YtnihjchhbggkiaaDoorLq2
import Derived.Test.YtnihjchhbggkiaaDoorLq3
import Derived.Test.YtnihjchhbggkiaaDoorLq4
namespace Go.Proofs.YtnihjchhbggkiaaDoor
open Go.RowKit

theorem wireBack_walk (x c a p b m : Int) (v : Value) (l : List UInt8) (w : World) (g : Gl w) (h0 : 0 ≤ x) (hx : x < 18446744073709551616) (hc : 0 ≤ c) (hc2 : c < 4294967296) (ha : 0 ≤ a) (ha2 : a < 4294967296) (hb : 0 ≤ b) (hb2 : b < 4294967296)
    (hl : Bytes w v l) (_hl : l.length ≤ 9223372036854775807) :
    Calls Tryd.prog 8 #[.int .u64 x, .int .u32 c, .agg #[.int .u32 a, .int .i64 p], .agg #[.int .u32 b, .int .i64 m], v] w fun e w' => e = .returned (.bool true) ∧ Below w.heap.size w w' := by
  obtain ⟨n, rfl⟩ := Int.eq_ofNat_of_zero_le h0
  have hn : n < 18446744073709551616 := by omega
  obtain ⟨a0, c0, rfl⟩ := hl.form
  rcases hm : Wp.mayB a p with _ | _
  · by_cases hle : l.length ≤ 9000
    · exact back_pno_le n c a p b m a0 c0 l w g hn hc hc2 ha ha2 hb hb2 hl hle hm
    · exact back_pno_gt n c a p b m a0 c0 l w g hn hc hc2 ha ha2 hb hb2 hl (by omega) hm
  rcases hq : Wp.mayB b m with _ | _
  · by_cases hle : l.length ≤ 9000
    · exact back_qno_le n c a p b m a0 c0 l w g hn hc hc2 ha ha2 hb hb2 hl hle hm hq
    · exact back_qno_gt n c a p b m a0 c0 l w g hn hc hc2 ha ha2 hb hb2 hl (by omega) hm hq
  rcases hi1 : Wp.inB a p b m with _ | _
  · rcases hi2 : Wp.inB b m a p with _ | _
    · rcases hh1 : Wp.hasB a p c with _ | _
      · by_cases hle : l.length ≤ 9000
        · exact back_has1_le n c a p b m a0 c0 l w g hn hc hc2 ha ha2 hb hb2 hl hle hm hq hi1 hi2 hh1
        · exact back_has1_gt n c a p b m a0 c0 l w g hn hc hc2 ha ha2 hb hb2 hl (by omega) hm hq hi1 hi2 hh1
      · have hh2 : Wp.hasB b m c = false := by
          rcases no_both (c := c) hm hq hi1 hi2 with h | h
          · rw [h] at hh1; cases hh1
          · exact h
        by_cases hle : l.length ≤ 9000
        · exact back_has2_le n c a p b m a0 c0 l w g hn hc hc2 ha ha2 hb hb2 hl hle hm hq hi1 hi2 hh1 hh2
        · exact back_has2_gt n c a p b m a0 c0 l w g hn hc hc2 ha ha2 hb hb2 hl (by omega) hm hq hi1 hi2 hh1 hh2
    · by_cases hle : l.length ≤ 9000
      · exact back_in2_le n c a p b m a0 c0 l w g hn hc hc2 ha ha2 hb hb2 hl hle hm hq hi1 hi2
      · exact back_in2_gt n c a p b m a0 c0 l w g hn hc hc2 ha ha2 hb hb2 hl (by omega) hm hq hi1 hi2
  · by_cases hle : l.length ≤ 9000
    · exact back_in1_le n c a p b m a0 c0 l w g hn hc hc2 ha ha2 hb hb2 hl hle hm hq hi1
    · exact back_in1_gt n c a p b m a0 c0 l w g hn hc hc2 ha ha2 hb hb2 hl (by omega) hm hq hi1
end Go.Proofs.YtnihjchhbggkiaaDoor
