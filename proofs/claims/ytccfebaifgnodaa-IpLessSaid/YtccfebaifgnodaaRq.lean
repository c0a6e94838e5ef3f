/- The walk of ref03.Parse where something is wrong. -/
import Derived.Test.YtccfebaifgnodaaIh
import Derived.Test.YtccfebaifgnodaaPr
import Derived.Test.YtccfebaifgnodaaRp0
import Derived.Test.YtccfebaifgnodaaRq1
import Derived.Test.YtccfebaifgnodaaRq5
namespace Go.Proofs.Ytccfebaifgnodaa
open Go.RowKit
attribute [local go_sem ↓] Go.wp_at_zero Go.wp_at_succ

theorem parseR_no (v : Value) (l : List UInt8) (hl : l.length ≤ 1000000) (wm : World) (hv : Bytes wm v l) (hf : flt l ≠ 0) : Calls Try.prog 11 #[v] wm (NoR wm l) := by
  obtain ⟨a, c, rfl⟩ := hv.form
  rcases Nat.lt_or_ge l.length 20 with h20 | h20
  · exact parseR_f1 a c l hl wm hv h20
  · by_cases h4 : Sm.at0 l 0 / 16 = 4
    · by_cases h : 20 ≤ hsz l ∧ hsz l ≤ l.length
      · by_cases h7 : hsz l ≤ numAt l 2 2 ∧ numAt l 2 2 ≤ l.length
        · by_cases h8 : Sm.tot (l.take (hsz l)) = 65535
          · cases h9 : Om.ok ((l.take (hsz l)).drop 20) with
            | true => exact absurd (flt0 h20 h4 h h7 h8 h9) hf
            | false => exact parseR_f6 a c l hl wm hv h20 h4 h h7 h8 h9
          · exact parseR_f5 a c l hl wm hv h20 h4 h h7 h8
        · exact parseR_f4 a c l hl wm hv h20 h4 h (by omega)
      · exact parseR_f3 a c l hl wm hv h20 h4 (by omega)
    · exact parseR_f2 a c l hl wm hv h20 h4
end Go.Proofs.Ytccfebaifgnodaa
