/- The walk of the law IpMeans. -/
import Derived.Test.YtccfebaifgnodaaKp
import Derived.Test.YtccfebaifgnodaaKh
import Derived.Test.YtccfebaifgnodaaKb
import Derived.Test.YtccfebaifgnodaaIk
import Derived.Test.YtccfebaifgnodaaSr
namespace Go.Proofs.Ytccfebaifgnodaa
open Go.RowKit
attribute [local go_sem ↓] Go.wp_at_zero Go.wp_at_succ

set_option maxHeartbeats 8000000 in
set_option maxRecDepth 100000 in
theorem means_a1 (h : Hd) (oa : Option Addr) (oc n : Nat) (O : List UInt8) (pa : Option Addr) (pc m : Nat) (P : List UInt8) (xa : Option Addr) (xc k : Nat) (X : List UInt8) (w : World) (h1 : (300 : Int) < n) :
    Calls Try.prog 7 #[.agg #[.int .u8 (h.tos : Nat), .int .u16 (h.id : Nat), .bool h.ev, .bool h.df, .bool h.mf, .int .i64 h.off, .int .u8 (h.ttl : Nat), .int .u8 (h.pr : Nat), .int .u32 (h.src : Nat), .int .u32 (h.dst : Nat), .slice oa n oc], .slice pa m pc, .slice xa k xc] w fun e w' => e = .returned (.bool true) ∧ Below w.heap.size w w' := by
  have hA : Below w.heap.size w (w.alloc (.cells #[.int .u8 (h.tos : Nat), .int .u16 (h.id : Nat), .bool h.ev, .bool h.df, .bool h.mf, .int .i64 h.off, .int .u8 (h.ttl : Nat), .int .u8 (h.pr : Nat), .int .u32 (h.src : Nat), .int .u32 (h.dst : Nat), .slice oa n oc] 28)) := (Below.refl _ _).alloc (Nat.le_refl _) _
  have HR0 : Hid (HdAt w.heap.size [.int .u8 (h.tos : Nat), .int .u16 (h.id : Nat), .bool h.ev, .bool h.df, .bool h.mf, .int .i64 h.off, .int .u8 (h.ttl : Nat), .int .u8 (h.pr : Nat), .int .u32 (h.src : Nat), .int .u32 (h.dst : Nat), .slice oa n oc] (w.alloc (.cells #[.int .u8 (h.tos : Nat), .int .u16 (h.id : Nat), .bool h.ev, .bool h.df, .bool h.mf, .int .i64 h.off, .int .u8 (h.ttl : Nat), .int .u8 (h.pr : Nat), .int .u32 (h.src : Nat), .int .u32 (h.dst : Nat), .slice oa n oc] 28))) := HdAt.new w [.int .u8 (h.tos : Nat), .int .u16 (h.id : Nat), .bool h.ev, .bool h.df, .bool h.mf, .int .i64 h.off, .int .u8 (h.ttl : Nat), .int .u8 (h.pr : Nat), .int .u32 (h.src : Nat), .int .u32 (h.dst : Nat), .slice oa n oc]
  have HA := Lib.hid hA
  clear hA
  go_enter Try.func7, Try.ntmps7
  go_wp2_with fail
  refine (known3_any _).mono ?_
  rintro e w1 ⟨rfl, hb1⟩
  have hr1 : HdAt w.heap.size [.int .u8 (h.tos : Nat), .int .u16 (h.id : Nat), .bool h.ev, .bool h.df, .bool h.mf, .int .i64 h.off, .int .u8 (h.ttl : Nat), .int .u8 (h.pr : Nat), .int .u32 (h.src : Nat), .int .u32 (h.dst : Nat), .slice oa n oc] w1 := HdAt.later HR0.out hb1
  have HB1 := Lib.hid (HA.out.trans (hb1.mono HA.out.size))
  have HR1 := Lib.hid hr1
  have hc10 := HdAt.cell hr1 (j := 10) rfl
  clear hb1 hr1
  go_wp2_with fail
  go_ret
  exact ⟨rfl, HB1.out⟩
set_option maxHeartbeats 8000000 in
set_option maxRecDepth 100000 in
theorem means_a2 (h : Hd) (oa : Option Addr) (oc n : Nat) (O : List UInt8) (pa : Option Addr) (pc m : Nat) (P : List UInt8) (xa : Option Addr) (xc k : Nat) (X : List UInt8) (w : World) (h1 : (n : Int) ≤ 300) (h2 : (3000 : Int) < m) :
    Calls Try.prog 7 #[.agg #[.int .u8 (h.tos : Nat), .int .u16 (h.id : Nat), .bool h.ev, .bool h.df, .bool h.mf, .int .i64 h.off, .int .u8 (h.ttl : Nat), .int .u8 (h.pr : Nat), .int .u32 (h.src : Nat), .int .u32 (h.dst : Nat), .slice oa n oc], .slice pa m pc, .slice xa k xc] w fun e w' => e = .returned (.bool true) ∧ Below w.heap.size w w' := by
  have hA : Below w.heap.size w (w.alloc (.cells #[.int .u8 (h.tos : Nat), .int .u16 (h.id : Nat), .bool h.ev, .bool h.df, .bool h.mf, .int .i64 h.off, .int .u8 (h.ttl : Nat), .int .u8 (h.pr : Nat), .int .u32 (h.src : Nat), .int .u32 (h.dst : Nat), .slice oa n oc] 28)) := (Below.refl _ _).alloc (Nat.le_refl _) _
  have HR0 : Hid (HdAt w.heap.size [.int .u8 (h.tos : Nat), .int .u16 (h.id : Nat), .bool h.ev, .bool h.df, .bool h.mf, .int .i64 h.off, .int .u8 (h.ttl : Nat), .int .u8 (h.pr : Nat), .int .u32 (h.src : Nat), .int .u32 (h.dst : Nat), .slice oa n oc] (w.alloc (.cells #[.int .u8 (h.tos : Nat), .int .u16 (h.id : Nat), .bool h.ev, .bool h.df, .bool h.mf, .int .i64 h.off, .int .u8 (h.ttl : Nat), .int .u8 (h.pr : Nat), .int .u32 (h.src : Nat), .int .u32 (h.dst : Nat), .slice oa n oc] 28))) := HdAt.new w [.int .u8 (h.tos : Nat), .int .u16 (h.id : Nat), .bool h.ev, .bool h.df, .bool h.mf, .int .i64 h.off, .int .u8 (h.ttl : Nat), .int .u8 (h.pr : Nat), .int .u32 (h.src : Nat), .int .u32 (h.dst : Nat), .slice oa n oc]
  have HA := Lib.hid hA
  clear hA
  go_enter Try.func7, Try.ntmps7
  go_wp2_with fail
  refine (known3_any _).mono ?_
  rintro e w1 ⟨rfl, hb1⟩
  have hr1 : HdAt w.heap.size [.int .u8 (h.tos : Nat), .int .u16 (h.id : Nat), .bool h.ev, .bool h.df, .bool h.mf, .int .i64 h.off, .int .u8 (h.ttl : Nat), .int .u8 (h.pr : Nat), .int .u32 (h.src : Nat), .int .u32 (h.dst : Nat), .slice oa n oc] w1 := HdAt.later HR0.out hb1
  have HB1 := Lib.hid (HA.out.trans (hb1.mono HA.out.size))
  have HR1 := Lib.hid hr1
  have hc10 := HdAt.cell hr1 (j := 10) rfl
  clear hb1 hr1
  go_wp2_with fail
  go_ret
  exact ⟨rfl, HB1.out⟩
set_option maxHeartbeats 8000000 in
set_option maxRecDepth 100000 in
theorem means_a3 (h : Hd) (oa : Option Addr) (oc n : Nat) (O : List UInt8) (pa : Option Addr) (pc m : Nat) (P : List UInt8) (xa : Option Addr) (xc k : Nat) (X : List UInt8) (w : World) (h1 : (n : Int) ≤ 300) (h2 : (m : Int) ≤ 3000) (h3 : (3000 : Int) < k) :
    Calls Try.prog 7 #[.agg #[.int .u8 (h.tos : Nat), .int .u16 (h.id : Nat), .bool h.ev, .bool h.df, .bool h.mf, .int .i64 h.off, .int .u8 (h.ttl : Nat), .int .u8 (h.pr : Nat), .int .u32 (h.src : Nat), .int .u32 (h.dst : Nat), .slice oa n oc], .slice pa m pc, .slice xa k xc] w fun e w' => e = .returned (.bool true) ∧ Below w.heap.size w w' := by
  have hA : Below w.heap.size w (w.alloc (.cells #[.int .u8 (h.tos : Nat), .int .u16 (h.id : Nat), .bool h.ev, .bool h.df, .bool h.mf, .int .i64 h.off, .int .u8 (h.ttl : Nat), .int .u8 (h.pr : Nat), .int .u32 (h.src : Nat), .int .u32 (h.dst : Nat), .slice oa n oc] 28)) := (Below.refl _ _).alloc (Nat.le_refl _) _
  have HR0 : Hid (HdAt w.heap.size [.int .u8 (h.tos : Nat), .int .u16 (h.id : Nat), .bool h.ev, .bool h.df, .bool h.mf, .int .i64 h.off, .int .u8 (h.ttl : Nat), .int .u8 (h.pr : Nat), .int .u32 (h.src : Nat), .int .u32 (h.dst : Nat), .slice oa n oc] (w.alloc (.cells #[.int .u8 (h.tos : Nat), .int .u16 (h.id : Nat), .bool h.ev, .bool h.df, .bool h.mf, .int .i64 h.off, .int .u8 (h.ttl : Nat), .int .u8 (h.pr : Nat), .int .u32 (h.src : Nat), .int .u32 (h.dst : Nat), .slice oa n oc] 28))) := HdAt.new w [.int .u8 (h.tos : Nat), .int .u16 (h.id : Nat), .bool h.ev, .bool h.df, .bool h.mf, .int .i64 h.off, .int .u8 (h.ttl : Nat), .int .u8 (h.pr : Nat), .int .u32 (h.src : Nat), .int .u32 (h.dst : Nat), .slice oa n oc]
  have HA := Lib.hid hA
  clear hA
  go_enter Try.func7, Try.ntmps7
  go_wp2_with fail
  refine (known3_any _).mono ?_
  rintro e w1 ⟨rfl, hb1⟩
  have hr1 : HdAt w.heap.size [.int .u8 (h.tos : Nat), .int .u16 (h.id : Nat), .bool h.ev, .bool h.df, .bool h.mf, .int .i64 h.off, .int .u8 (h.ttl : Nat), .int .u8 (h.pr : Nat), .int .u32 (h.src : Nat), .int .u32 (h.dst : Nat), .slice oa n oc] w1 := HdAt.later HR0.out hb1
  have HB1 := Lib.hid (HA.out.trans (hb1.mono HA.out.size))
  have HR1 := Lib.hid hr1
  have hc10 := HdAt.cell hr1 (j := 10) rfl
  clear hb1 hr1
  go_wp2_with fail
  go_ret
  exact ⟨rfl, HB1.out⟩
set_option maxHeartbeats 8000000 in
set_option maxRecDepth 100000 in
theorem means_b (h : Hd) (oa : Option Addr) (oc n : Nat) (O : List UInt8) (pa : Option Addr) (pc m : Nat) (P : List UInt8) (xa : Option Addr) (xc k : Nat) (X : List UInt8) (w : World) (hn : n = O.length) (hO : Bytes w (.slice oa n oc) O) (h1 : (n : Int) ≤ 300) (h2 : (m : Int) ≤ 3000) (h3 : (k : Int) ≤ 3000) (hm : mayB h.off O = false) :
    Calls Try.prog 7 #[.agg #[.int .u8 (h.tos : Nat), .int .u16 (h.id : Nat), .bool h.ev, .bool h.df, .bool h.mf, .int .i64 h.off, .int .u8 (h.ttl : Nat), .int .u8 (h.pr : Nat), .int .u32 (h.src : Nat), .int .u32 (h.dst : Nat), .slice oa n oc], .slice pa m pc, .slice xa k xc] w fun e w' => e = .returned (.bool true) ∧ Below w.heap.size w w' := by
  have HO := Lib.hid hO
  have HN := Lib.hid hn
  have HM := Lib.hid hm
  clear hO hn hm
  have hA : Below w.heap.size w (w.alloc (.cells #[.int .u8 (h.tos : Nat), .int .u16 (h.id : Nat), .bool h.ev, .bool h.df, .bool h.mf, .int .i64 h.off, .int .u8 (h.ttl : Nat), .int .u8 (h.pr : Nat), .int .u32 (h.src : Nat), .int .u32 (h.dst : Nat), .slice oa n oc] 28)) := (Below.refl _ _).alloc (Nat.le_refl _) _
  have HR0 : Hid (HdAt w.heap.size [.int .u8 (h.tos : Nat), .int .u16 (h.id : Nat), .bool h.ev, .bool h.df, .bool h.mf, .int .i64 h.off, .int .u8 (h.ttl : Nat), .int .u8 (h.pr : Nat), .int .u32 (h.src : Nat), .int .u32 (h.dst : Nat), .slice oa n oc] (w.alloc (.cells #[.int .u8 (h.tos : Nat), .int .u16 (h.id : Nat), .bool h.ev, .bool h.df, .bool h.mf, .int .i64 h.off, .int .u8 (h.ttl : Nat), .int .u8 (h.pr : Nat), .int .u32 (h.src : Nat), .int .u32 (h.dst : Nat), .slice oa n oc] 28))) := HdAt.new w [.int .u8 (h.tos : Nat), .int .u16 (h.id : Nat), .bool h.ev, .bool h.df, .bool h.mf, .int .i64 h.off, .int .u8 (h.ttl : Nat), .int .u8 (h.pr : Nat), .int .u32 (h.src : Nat), .int .u32 (h.dst : Nat), .slice oa n oc]
  have HA := Lib.hid hA
  clear hA
  go_enter Try.func7, Try.ntmps7
  go_wp2_with fail
  refine (known3_any _).mono ?_
  rintro e w1 ⟨rfl, hb1⟩
  have hr1 : HdAt w.heap.size [.int .u8 (h.tos : Nat), .int .u16 (h.id : Nat), .bool h.ev, .bool h.df, .bool h.mf, .int .i64 h.off, .int .u8 (h.ttl : Nat), .int .u8 (h.pr : Nat), .int .u32 (h.src : Nat), .int .u32 (h.dst : Nat), .slice oa n oc] w1 := HdAt.later HR0.out hb1
  have HB1 := Lib.hid (HA.out.trans (hb1.mono HA.out.size))
  have HR1 := Lib.hid hr1
  clear hb1 hr1
  have hcz := fun j x hx => HdAt.cell (show HdAt w.heap.size [.int .u8 (h.tos : Nat), .int .u16 (h.id : Nat), .bool h.ev, .bool h.df, .bool h.mf, .int .i64 h.off, .int .u8 (h.ttl : Nat), .int .u8 (h.pr : Nat), .int .u32 (h.src : Nat), .int .u32 (h.dst : Nat), .slice oa n oc] w1 from HR1.out) (j := j) (x := x) hx
  have c0 := hcz 0 _ rfl
  have c1 := hcz 1 _ rfl
  have c2 := hcz 2 _ rfl
  have c3 := hcz 3 _ rfl
  have c4 := hcz 4 _ rfl
  have c5 := hcz 5 _ rfl
  have c6 := hcz 6 _ rfl
  have c7 := hcz 7 _ rfl
  have c8 := hcz 8 _ rfl
  have c9 := hcz 9 _ rfl
  have c10 := hcz 10 _ rfl
  clear hcz
  go_wp2_with fail
  have hno := bytes_no h oa oc O pa m pc w1 (by rw [← HN.out]; exact (show Bytes w _ O from HO.out).later HB1.out) (by rw [← HN.out]; omega) (by omega) (.inl HM.out)
  rw [← HN.out] at hno
  refine hno.mono ?_
  rintro e w2 ⟨rfl, hb2⟩
  have HB2 := Lib.hid (HB1.out.trans (hb2.mono HB1.out.size))
  clear hb2 hno c0 c1 c2 c3 c4 c5 c6 c7 c8 c9 c10
  go_wp2_with fail
  refine (num3_any 2 w2).mono ?_
  rintro e w3 ⟨rfl, rfl⟩
  go_wp2_with fail
  go_ret
  exact ⟨rfl, HB2.out⟩
end Go.Proofs.Ytccfebaifgnodaa
