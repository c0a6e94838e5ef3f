/- The walk of the theorem of the first stage: has1. -/
import Derived.Test.YtnihjchhbggkiaaDoorLq0
namespace Go.Proofs.YtnihjchhbggkiaaDoor
open Go.RowKit
attribute [local go_sem ↓] Go.wp_at_zero Go.wp_at_succ
set_option maxHeartbeats 4000000 in
set_option maxRecDepth 100000 in
theorem back_has1_le (n : Nat) (c a p b m : Int) (a0 : Option Addr) (c0 : Nat) (l : List UInt8) (w : World) (g : Gl w) (hn : n < 18446744073709551616) (hc : 0 ≤ c) (hc2 : c < 4294967296) (ha : 0 ≤ a) (ha2 : a < 4294967296) (hb : 0 ≤ b) (hb2 : b < 4294967296)
    (hl : Bytes w (.slice a0 l.length c0) l) (hle : l.length ≤ 9000) (hm : Wp.mayB a p = true) (hq : Wp.mayB b m = true) (hi1 : Wp.inB a p b m = false) (hi2 : Wp.inB b m a p = false) (hh1 : Wp.hasB a p c = false) :
    Calls Tryd.prog 8 #[.int .u64 (n : Int), .int .u32 c, .agg #[.int .u32 a, .int .i64 p], .agg #[.int .u32 b, .int .i64 m], .slice a0 l.length c0] w fun e w' => e = .returned (.bool true) ∧ Below w.heap.size w w' := by
  have hlei : (l.length : Int) ≤ 9000 := by omega
  have Hl := Lib.hid hl
  have Hm := Lib.hid hm
  clear hl hm
  have HQ := Lib.hid hq; clear hq
  have HI1 := Lib.hid hi1; clear hi1
  have HI2 := Lib.hid hi2; clear hi2
  have HH1 := Lib.hid hh1; clear hh1
  go_enter Tryd.func8, Tryd.ntmps8
  go_wp2_with fail
  have hK : Hid (Kept a p b m w ((w.alloc (.cells #[.int .u32 a, .int .i64 p] 54)).alloc (.cells #[.int .u32 b, .int .i64 m] 54))) := by
    refine ⟨?_, ?_, ?_, ?_, ?_, ?_⟩ <;> first | go_side | (go_grown; done)
  refine (known_any _ (g.below hK.out.2.2.2.2.2)).mono ?_
  rintro e w1 ⟨rfl, hb1⟩
  have hK := Lib.hid (hK.out.later hb1)
  clear hb1
  go_wp2_with fail
  refine (putW_yes n 8 _ (by decide) (by decide) (by omega)).mono ?_
  rintro e w2 ⟨v2, rfl, hv2, hb2'⟩
  have hK := Lib.hid (hK.out.later hb2')
  clear hb2'
  go_wp2_with fail
  refine (getW_good2 n hn _ _ hv2).mono ?_
  rintro e w3 ⟨rfl, rfl⟩
  have Hv2 := Lib.hid hv2
  clear hv2
  go_wp2_with (first | (go_at_call 31; refine (addrText_any c hc hc2 _ (g.below hK.out.2.2.2.2.2)).mono ?_; rintro e wN ⟨rfl, hbN⟩; have hK := Lib.hid (hK.out.later hbN); clear hbN; obtain ⟨k0, k1, k2, k3, kz, kB⟩ := hK.out) | (go_at_call 26; refine (addrOf_text c hc hc2 _ (g.below hK.out.2.2.2.2.2)).mono ?_; rintro e wN ⟨rfl, hbN⟩; have hK := Lib.hid (hK.out.later hbN); clear hbN; obtain ⟨k0, k1, k2, k3, kz, kB⟩ := hK.out) | (go_at_call 13; refine (num_any _ _).mono ?_; rintro e wn ⟨rfl, rfl⟩))
  clear k0 k1 k2 k3 kz kB
  refine (hexW_any _ l _ (Hl.out.later hK.out.2.2.2.2.2) (by omega)).mono ?_
  rintro e w6 ⟨rfl, hb6⟩
  have hK := Lib.hid (hK.out.later hb6)
  clear hb6
  go_wp2_with fail
  refine (unhexW_hex l _ hle).mono ?_
  rintro e w7 ⟨a9, c9, rfl, hv9, hb7⟩
  have hK := Lib.hid (hK.out.later hb7)
  have Hv9 := Lib.hid hv9
  clear hb7 hv9
  go_wp2_with (go_at_call 13; refine (num_any _ _).mono ?_; rintro e wn ⟨rfl, rfl⟩)
  rw [Hv9.out.str Tryd.underlying23 Tryd.underlying5 Tryd.underlying9]
  go_wp2_with fail
  rw [(Hl.out.later hK.out.2.2.2.2.2).str Tryd.underlying23 Tryd.underlying5 Tryd.underlying9]
  obtain ⟨k0, k1, k2, k3, kz, kB⟩ := hK.out
  go_wp2_with fail
  refine (prefixText_yes a p ha ha2 Hm.out _ (g.below kB)).mono ?_
  rintro e w8 ⟨rfl, hb8⟩
  have hK := Lib.hid (hK.out.later hb8)
  clear k0 k1 k2 k3 kz kB hb8
  go_wp2_with (go_at_call 13; refine (num_any _ _).mono ?_; rintro e wn ⟨rfl, rfl⟩)
  refine (prefixOf_text a p ha ha2 Hm.out _ (g.below hK.out.2.2.2.2.2)).mono ?_
  rintro e w9 ⟨rfl, hb9⟩
  have hK := Lib.hid (hK.out.later hb9)
  clear hb9
  go_wp2_with fail
  refine (num_any _ _).mono ?_
  rintro e wn ⟨rfl, rfl⟩
  have r0 : (w9.alloc (.cells #[.int .u32 a, .int .i64 p] 54)).cell? ⟨w9.heap.size, 0, none⟩ = some (.int .u32 a) := by go_side
  have r1 : (w9.alloc (.cells #[.int .u32 a, .int .i64 p] 54)).cell? ⟨w9.heap.size, 1, none⟩ = some (.int .i64 p) := by go_side
  have hK := Lib.hid (hK.out.later ((Below.refl _ _).alloc (Nat.le_refl _) (.cells #[.int .u32 a, .int .i64 p] 54)))
  obtain ⟨k0, k1, k2, k3, kz, kB⟩ := hK.out
  generalize w9.alloc (.cells #[.int .u32 a, .int .i64 p] 54) = wA at *
  go_wp2_with fail
  refine (mayW_any a p _).mono ?_
  rintro e wN ⟨rfl, hbN⟩
  rw [Hm.out]
  clear k0 k1 k2 k3 kz kB
  have hK := Lib.hid (hK.out.later hbN); clear hbN; obtain ⟨k0, k1, k2, k3, kz, kB⟩ := hK.out
  go_wp2_with fail
  refine (mayW_any b m _).mono ?_
  rintro e wN ⟨rfl, hbN⟩
  rw [HQ.out]
  clear k0 k1 k2 k3 kz kB
  have hK := Lib.hid (hK.out.later hbN); clear hbN; obtain ⟨k0, k1, k2, k3, kz, kB⟩ := hK.out
  go_wp2_with fail
  refine (inW_any a p b m _ ha ha2 hb hb2).mono ?_
  rintro e wN ⟨rfl, hbN⟩
  rw [HI1.out]
  clear k0 k1 k2 k3 kz kB
  have hK := Lib.hid (hK.out.later hbN); clear hbN; obtain ⟨k0, k1, k2, k3, kz, kB⟩ := hK.out
  go_wp2_with fail
  refine (inW_any b m a p _ hb hb2 ha ha2).mono ?_
  rintro e wN ⟨rfl, hbN⟩
  rw [HI2.out]
  clear k0 k1 k2 k3 kz kB
  have hK := Lib.hid (hK.out.later hbN); clear hbN; obtain ⟨k0, k1, k2, k3, kz, kB⟩ := hK.out
  go_wp2_with fail
  refine (hasW_any a p c _ ha ha2 hc hc2).mono ?_
  rintro e wN ⟨rfl, hbN⟩
  rw [HH1.out]
  clear k0 k1 k2 k3 kz kB
  have hK := Lib.hid (hK.out.later hbN); clear hbN; obtain ⟨k0, k1, k2, k3, kz, kB⟩ := hK.out
  go_wp2_with fail
  go_ret
  exact ⟨rfl, hK.out.2.2.2.2.2⟩

set_option maxHeartbeats 4000000 in
set_option maxRecDepth 100000 in
theorem back_has1_gt (n : Nat) (c a p b m : Int) (a0 : Option Addr) (c0 : Nat) (l : List UInt8) (w : World) (g : Gl w) (hn : n < 18446744073709551616) (hc : 0 ≤ c) (hc2 : c < 4294967296) (ha : 0 ≤ a) (ha2 : a < 4294967296) (hb : 0 ≤ b) (hb2 : b < 4294967296)
    (hl : Bytes w (.slice a0 l.length c0) l) (hle : 9000 < l.length) (hm : Wp.mayB a p = true) (hq : Wp.mayB b m = true) (hi1 : Wp.inB a p b m = false) (hi2 : Wp.inB b m a p = false) (hh1 : Wp.hasB a p c = false) :
    Calls Tryd.prog 8 #[.int .u64 (n : Int), .int .u32 c, .agg #[.int .u32 a, .int .i64 p], .agg #[.int .u32 b, .int .i64 m], .slice a0 l.length c0] w fun e w' => e = .returned (.bool true) ∧ Below w.heap.size w w' := by
  have hlei : (9000 : Int) < l.length := by omega
  have Hl := Lib.hid hl
  have Hm := Lib.hid hm
  clear hl hm
  have HQ := Lib.hid hq; clear hq
  have HI1 := Lib.hid hi1; clear hi1
  have HI2 := Lib.hid hi2; clear hi2
  have HH1 := Lib.hid hh1; clear hh1
  go_enter Tryd.func8, Tryd.ntmps8
  go_wp2_with fail
  have hK : Hid (Kept a p b m w ((w.alloc (.cells #[.int .u32 a, .int .i64 p] 54)).alloc (.cells #[.int .u32 b, .int .i64 m] 54))) := by
    refine ⟨?_, ?_, ?_, ?_, ?_, ?_⟩ <;> first | go_side | (go_grown; done)
  refine (known_any _ (g.below hK.out.2.2.2.2.2)).mono ?_
  rintro e w1 ⟨rfl, hb1⟩
  have hK := Lib.hid (hK.out.later hb1)
  clear hb1
  go_wp2_with fail
  refine (putW_yes n 8 _ (by decide) (by decide) (by omega)).mono ?_
  rintro e w2 ⟨v2, rfl, hv2, hb2'⟩
  have hK := Lib.hid (hK.out.later hb2')
  clear hb2'
  go_wp2_with fail
  refine (getW_good2 n hn _ _ hv2).mono ?_
  rintro e w3 ⟨rfl, rfl⟩
  have Hv2 := Lib.hid hv2
  clear hv2
  obtain ⟨k0, k1, k2, k3, kz, kB⟩ := hK.out
  go_wp2_with (first | (go_at_call 31; refine (addrText_any c hc hc2 _ (g.below hK.out.2.2.2.2.2)).mono ?_; rintro e wN ⟨rfl, hbN⟩; have hK := Lib.hid (hK.out.later hbN); clear hbN; obtain ⟨k0, k1, k2, k3, kz, kB⟩ := hK.out) | (go_at_call 26; refine (addrOf_text c hc hc2 _ (g.below hK.out.2.2.2.2.2)).mono ?_; rintro e wN ⟨rfl, hbN⟩; have hK := Lib.hid (hK.out.later hbN); clear hbN; obtain ⟨k0, k1, k2, k3, kz, kB⟩ := hK.out) | (go_at_call 13; refine (num_any _ _).mono ?_; rintro e wn ⟨rfl, rfl⟩))
  refine (prefixText_yes a p ha ha2 Hm.out _ (g.below kB)).mono ?_
  rintro e w8 ⟨rfl, hb8⟩
  have hK := Lib.hid (hK.out.later hb8)
  clear k0 k1 k2 k3 kz kB hb8
  go_wp2_with (go_at_call 13; refine (num_any _ _).mono ?_; rintro e wn ⟨rfl, rfl⟩)
  refine (prefixOf_text a p ha ha2 Hm.out _ (g.below hK.out.2.2.2.2.2)).mono ?_
  rintro e w9 ⟨rfl, hb9⟩
  have hK := Lib.hid (hK.out.later hb9)
  clear hb9
  go_wp2_with fail
  refine (num_any _ _).mono ?_
  rintro e wn ⟨rfl, rfl⟩
  have r0 : (w9.alloc (.cells #[.int .u32 a, .int .i64 p] 54)).cell? ⟨w9.heap.size, 0, none⟩ = some (.int .u32 a) := by go_side
  have r1 : (w9.alloc (.cells #[.int .u32 a, .int .i64 p] 54)).cell? ⟨w9.heap.size, 1, none⟩ = some (.int .i64 p) := by go_side
  have hK := Lib.hid (hK.out.later ((Below.refl _ _).alloc (Nat.le_refl _) (.cells #[.int .u32 a, .int .i64 p] 54)))
  obtain ⟨k0, k1, k2, k3, kz, kB⟩ := hK.out
  generalize w9.alloc (.cells #[.int .u32 a, .int .i64 p] 54) = wA at *
  go_wp2_with fail
  refine (mayW_any a p _).mono ?_
  rintro e wN ⟨rfl, hbN⟩
  rw [Hm.out]
  clear k0 k1 k2 k3 kz kB
  have hK := Lib.hid (hK.out.later hbN); clear hbN; obtain ⟨k0, k1, k2, k3, kz, kB⟩ := hK.out
  go_wp2_with fail
  refine (mayW_any b m _).mono ?_
  rintro e wN ⟨rfl, hbN⟩
  rw [HQ.out]
  clear k0 k1 k2 k3 kz kB
  have hK := Lib.hid (hK.out.later hbN); clear hbN; obtain ⟨k0, k1, k2, k3, kz, kB⟩ := hK.out
  go_wp2_with fail
  refine (inW_any a p b m _ ha ha2 hb hb2).mono ?_
  rintro e wN ⟨rfl, hbN⟩
  rw [HI1.out]
  clear k0 k1 k2 k3 kz kB
  have hK := Lib.hid (hK.out.later hbN); clear hbN; obtain ⟨k0, k1, k2, k3, kz, kB⟩ := hK.out
  go_wp2_with fail
  refine (inW_any b m a p _ hb hb2 ha ha2).mono ?_
  rintro e wN ⟨rfl, hbN⟩
  rw [HI2.out]
  clear k0 k1 k2 k3 kz kB
  have hK := Lib.hid (hK.out.later hbN); clear hbN; obtain ⟨k0, k1, k2, k3, kz, kB⟩ := hK.out
  go_wp2_with fail
  refine (hasW_any a p c _ ha ha2 hc hc2).mono ?_
  rintro e wN ⟨rfl, hbN⟩
  rw [HH1.out]
  clear k0 k1 k2 k3 kz kB
  have hK := Lib.hid (hK.out.later hbN); clear hbN; obtain ⟨k0, k1, k2, k3, kz, kB⟩ := hK.out
  go_wp2_with fail
  go_ret
  exact ⟨rfl, hK.out.2.2.2.2.2⟩

end Go.Proofs.YtnihjchhbggkiaaDoor
