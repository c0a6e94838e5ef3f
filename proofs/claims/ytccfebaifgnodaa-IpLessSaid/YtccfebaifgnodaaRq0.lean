/- What the reference tells of a packet that is wrong. -/
import Derived.Test.YtccfebaifgnodaaIf
namespace Go.Proofs.Ytccfebaifgnodaa
open Go.RowKit
/-- What the reference tells of a packet that is wrong. -/
def NoR (wm : World) (l : List UInt8) (e : Ending) (w' : World) : Prop := e = .returned (.tuple #[.agg #[.int .u8 0, .int .u16 0, .bool false, .bool false, .bool false, .int .i64 0, .int .u8 0, .int .u8 0, .int .u32 0, .int .u32 0, .slice none 0 0], .slice none 0 0, .int .i64 (flt l : Nat)]) ∧ Below wm.heap.size wm w'
end Go.Proofs.Ytccfebaifgnodaa
