/- The walk of ip.Bytes where it refuses. -/
import Derived.Test.YtccfebaifgnodaaIv
import Derived.Test.YtccfebaifgnodaaSt
namespace Go.Proofs.Ytccfebaifgnodaa
open Go.RowKit
attribute [local go_sem ↓] Go.wp_at_zero Go.wp_at_succ
set_option maxHeartbeats 8000000 in
set_option maxRecDepth 100000 in
theorem bytes_no (h : Hd) (oa : Option Addr) (oc : Nat) (O : List UInt8) (pa : Option Addr) (n pc : Nat) (wm : World) (hO : Bytes wm (.slice oa O.length oc) O) (hl : O.length ≤ 9223372036854775807) (hn : n ≤ 9223372036854775807)
    (hm : mayB h.off O = false ∨ 65535 - 20 - O.length < n) :
    Calls Try.prog 21 #[.agg #[.int .u8 (h.tos : Nat), .int .u16 (h.id : Nat), .bool h.ev, .bool h.df, .bool h.mf, .int .i64 h.off, .int .u8 (h.ttl : Nat), .int .u8 (h.pr : Nat), .int .u32 (h.src : Nat), .int .u32 (h.dst : Nat), .slice oa O.length oc], .slice pa n pc] wm fun e w' => e = .returned (.tuple #[.slice none 0 0, .int .i64 2]) ∧ Below wm.heap.size wm w' := by
  have hA : Below wm.heap.size wm (wm.alloc (.cells #[.int .u8 (h.tos : Nat), .int .u16 (h.id : Nat), .bool h.ev, .bool h.df, .bool h.mf, .int .i64 h.off, .int .u8 (h.ttl : Nat), .int .u8 (h.pr : Nat), .int .u32 (h.src : Nat), .int .u32 (h.dst : Nat), .slice oa O.length oc] 28)) := (Below.refl _ _).alloc (Nat.le_refl _) _
  have hsz := size_any h oa oc O _ (hO.later hA) hl
  have g0 : (n : Int) ≤ 9223372036854775807 := by omega
  cases hm2 : mayB h.off O with
  | false =>
    rw [show sizeN h.off O = 0 from by unfold sizeN; rw [hm2]; rfl] at hsz
    have HSZ := Lib.hid hsz
    have HA := Lib.hid hA
    clear hsz hO hm hm2 hl hn hA
    go_enter Try.func21, Try.ntmps21
    go_wp2_with fail
    refine HSZ.out.mono ?_
    rintro e w1 ⟨rfl, hb1⟩
    have HB1 := Lib.hid (HA.out.trans (hb1.mono HA.out.size))
    clear hb1
    go_wp2_with fail
    go_ret2
    exact ⟨rfl, HB1.out⟩
  | true =>
    obtain ⟨hl40, hl4, ho0, ho1, _⟩ := mayB_len hm2
    have hlt : 65535 - 20 - O.length < n := by rw [hm2] at hm; simpa using hm
    obtain ⟨S, hS⟩ : ∃ S, S = 20 + O.length := ⟨_, rfl⟩
    rw [show sizeN h.off O = S from by unfold sizeN; rw [hm2, hS]; rfl] at hsz
    have k1 : (S : Int) ≤ 60 := by omega
    have k2 : (20 : Int) ≤ S := by omega
    have k5 : ((S : Int) == 0) = false := by rw [beq_eq_false_iff_ne]; omega
    have k6 : (65535 - (S : Int) < n) = True := by simp; omega
    have k7 : 65535 - (S : Int) < n := by omega
    have HSZ := Lib.hid hsz
    have HA := Lib.hid hA
    clear hsz hO hm hm2 hl hn hA hS hl40 hl4 ho0 ho1 hlt
    go_enter Try.func21, Try.ntmps21
    go_wp2_with fail
    refine HSZ.out.mono ?_
    rintro e w1 ⟨rfl, hb1⟩
    have HB1 := Lib.hid (HA.out.trans (hb1.mono HA.out.size))
    clear hb1
    go_wp2_with fail
    go_ret2
    exact ⟨rfl, HB1.out⟩
end Go.Proofs.Ytccfebaifgnodaa
