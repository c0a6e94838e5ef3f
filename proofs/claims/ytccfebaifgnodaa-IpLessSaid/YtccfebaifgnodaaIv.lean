/- The walks of ip.May, ip.Size, ip.flags. -/
import Derived.Test.YtccfebaifgnodaaIm
import Derived.Test.YtccfebaifgnodaaIb
namespace Go.Proofs.Ytccfebaifgnodaa
open Go.RowKit
attribute [local go_sem ↓] Go.wp_at_zero Go.wp_at_succ

/-- A header's fields, but its options. -/
structure Hd where
  (tos id : Nat) (ev df mf : Bool) (off : Int) (ttl pr src dst : Nat)
structure Hd.Ok (h : Hd) : Prop where
  (tos : h.tos < 256) (id : h.id < 65536) (ttl : h.ttl < 256) (pr : h.pr < 256) (src : h.src < 4294967296) (dst : h.dst < 4294967296)
/-- May such a header be? -/
def mayB (off : Int) (O : List UInt8) : Bool := decide (0 ≤ off) && (decide (off ≤ 8191) && (decide (O.length ≤ 40) && (decide (O.length % 4 = 0) && Om.ok O)))
def sizeN (off : Int) (O : List UInt8) : Nat := if mayB off O then 20 + O.length else 0
/-- The word of flags and offset. -/
def flagsN (h : Hd) : Nat := h.ev.toNat * 32768 + h.df.toNat * 16384 + h.mf.toNat * 8192 + h.off.toNat

theorem may_of {off : Int} {O : List UInt8} (h1 : 0 ≤ off) (h2 : off ≤ 8191) (h3 : O.length ≤ 40) (h4 : O.length % 4 = 0) : mayB off O = Om.ok O := by
  unfold mayB; simp [h1, h2, h3, h4]
theorem may_no {off : Int} {O : List UInt8} (h : ¬ (0 ≤ off ∧ off ≤ 8191 ∧ O.length ≤ 40 ∧ O.length % 4 = 0)) : mayB off O = false := by
  cases hm : mayB off O with
  | false => rfl
  | true =>
    unfold mayB at hm
    simp only [Bool.and_eq_true, decide_eq_true_eq] at hm
    exact absurd ⟨hm.1, hm.2.1, hm.2.2.1, hm.2.2.2.1⟩ h

set_option maxHeartbeats 4000000 in
set_option maxRecDepth 100000 in
theorem mayW3_any (h : Hd) (a : Option Addr) (c : Nat) (O : List UInt8) (w : World) (hv : Bytes w (.slice a O.length c) O) (hO : O.length ≤ 9223372036854775807) :
    Calls Try.prog 14 #[.agg #[.int .u8 (h.tos : Nat), .int .u16 (h.id : Nat), .bool h.ev, .bool h.df, .bool h.mf, .int .i64 h.off, .int .u8 (h.ttl : Nat), .int .u8 (h.pr : Nat), .int .u32 (h.src : Nat), .int .u32 (h.dst : Nat), .slice a O.length c]] w fun e w' => e = .returned (.bool (mayB h.off O)) ∧ Below w.heap.size w w' := by
  have hA : Below w.heap.size w (w.alloc (.cells #[.int .u8 (h.tos : Nat), .int .u16 (h.id : Nat), .bool h.ev, .bool h.df, .bool h.mf, .int .i64 h.off, .int .u8 (h.ttl : Nat), .int .u8 (h.pr : Nat), .int .u32 (h.src : Nat), .int .u32 (h.dst : Nat), .slice a O.length c] 28)) := (Below.refl _ _).alloc (Nat.le_refl _) _
  have hg2 : (O.length : Int) ≤ 9223372036854775807 := by omega
  by_cases h1 : 0 ≤ h.off
  · by_cases h2 : h.off ≤ 8191
    · rcases Nat.lt_or_ge 40 O.length with h3 | h3
      · have HM := Lib.hid (may_no (off := h.off) (O := O) (by omega))
        have g3 : (40 : Int) < O.length := by omega
        have HA := Lib.hid hA
        clear hv hA
        go_enter Try.func14, Try.ntmps14
        go_wp2_with fail
        go_ret
        exact ⟨ret_b HM.out.symm, HA.out⟩
      · have g3 : (O.length : Int) ≤ 40 := by omega
        by_cases h4 : O.length % 4 = 0
        · have HM := Lib.hid (may_of (O := O) h1 h2 h3 h4)
          have g4 : ((O.length : Int) % 4 == 0) = true := by rw [beq_iff_eq]; omega
          have HMO := Lib.hid (mayOptions_any _ O (by omega) _ (hv.later hA))
          have HA := Lib.hid hA
          clear hv hA h4
          go_enter Try.func14, Try.ntmps14
          go_wp2_with fail
          refine HMO.out.mono ?_
          rintro e w1 ⟨rfl, hb1⟩
          go_wp2_with fail
          go_ret
          exact ⟨ret_b HM.out.symm, HA.out.trans (hb1.mono HA.out.size)⟩
        · have HM := Lib.hid (may_no (off := h.off) (O := O) (by omega))
          have g4 : ((O.length : Int) % 4 == 0) = false := by rw [beq_eq_false_iff_ne]; omega
          have HA := Lib.hid hA
          clear hv hA h4
          go_enter Try.func14, Try.ntmps14
          go_wp2_with fail
          go_ret
          exact ⟨ret_b HM.out.symm, HA.out⟩
    · have HM := Lib.hid (may_no (off := h.off) (O := O) (by omega))
      have HA := Lib.hid hA
      clear hv hA
      go_enter Try.func14, Try.ntmps14
      go_wp2_with fail
      go_ret
      exact ⟨ret_b HM.out.symm, HA.out⟩
  · have HM := Lib.hid (may_no (off := h.off) (O := O) (by omega))
    have HA := Lib.hid hA
    clear hv hA
    go_enter Try.func14, Try.ntmps14
    go_wp2_with fail
    go_ret
    exact ⟨ret_b HM.out.symm, HA.out⟩

theorem mayB_len {off : Int} {O : List UInt8} (h : mayB off O = true) : O.length ≤ 40 ∧ O.length % 4 = 0 ∧ 0 ≤ off ∧ off ≤ 8191 ∧ Om.ok O = true := by
  unfold mayB at h
  simp only [Bool.and_eq_true, decide_eq_true_eq] at h
  exact ⟨h.2.2.1, h.2.2.2.1, h.1, h.2.1, h.2.2.2.2⟩
set_option maxHeartbeats 4000000 in
set_option maxRecDepth 100000 in
theorem size_any (h : Hd) (a : Option Addr) (c : Nat) (O : List UInt8) (w : World) (hv : Bytes w (.slice a O.length c) O) (hO : O.length ≤ 9223372036854775807) :
    Calls Try.prog 15 #[.agg #[.int .u8 (h.tos : Nat), .int .u16 (h.id : Nat), .bool h.ev, .bool h.df, .bool h.mf, .int .i64 h.off, .int .u8 (h.ttl : Nat), .int .u8 (h.pr : Nat), .int .u32 (h.src : Nat), .int .u32 (h.dst : Nat), .slice a O.length c]] w fun e w' => e = .returned (.int .i64 (sizeN h.off O : Nat)) ∧ Below w.heap.size w w' := by
  have hA : Below w.heap.size w (w.alloc (.cells #[.int .u8 (h.tos : Nat), .int .u16 (h.id : Nat), .bool h.ev, .bool h.df, .bool h.mf, .int .i64 h.off, .int .u8 (h.ttl : Nat), .int .u8 (h.pr : Nat), .int .u32 (h.src : Nat), .int .u32 (h.dst : Nat), .slice a O.length c] 28)) := (Below.refl _ _).alloc (Nat.le_refl _) _
  have hmay := mayW3_any h a c O _ (hv.later hA) hO
  have hcell : (w.alloc (.cells #[.int .u8 (h.tos : Nat), .int .u16 (h.id : Nat), .bool h.ev, .bool h.df, .bool h.mf, .int .i64 h.off, .int .u8 (h.ttl : Nat), .int .u8 (h.pr : Nat), .int .u32 (h.src : Nat), .int .u32 (h.dst : Nat), .slice a O.length c] 28)).cell? ⟨w.heap.size, 10, none⟩ = some (.slice a O.length c) := by simp
  have HC := Lib.hid hcell
  have HMAY := Lib.hid hmay
  have HA := Lib.hid hA
  clear hv hA hmay hcell
  cases hm : mayB h.off O with
  | false =>
    have HS : Hid (sizeN h.off O = 0) := by show _ = _; unfold sizeN; rw [hm]; rfl
    have HM := Lib.hid hm
    clear hm
    go_enter Try.func15, Try.ntmps15
    go_wp2_with fail
    refine HMAY.out.mono ?_
    rintro e w1 ⟨rfl, hb1⟩
    rw [HM.out]
    go_wp2_with fail
    go_ret
    exact ⟨ret_i (by rw [HS.out]; rfl), HA.out.trans (hb1.mono HA.out.size)⟩
  | true =>
    have hl := mayB_len hm
    have HS : Hid (sizeN h.off O = 20 + O.length) := by show _ = _; unfold sizeN; rw [hm]; rfl
    have HM := Lib.hid hm
    have g : (O.length : Int) ≤ 40 := by omega
    clear hm hl
    go_enter Try.func15, Try.ntmps15
    go_wp2_with fail
    refine HMAY.out.mono ?_
    rintro e w1 ⟨rfl, hb1⟩
    rw [HM.out]
    have hc := cell_later hb1 HC.out
    go_wp2_with fail
    go_ret
    exact ⟨ret_i (by rw [HS.out]; omega), HA.out.trans (hb1.mono HA.out.size)⟩
end Go.Proofs.Ytccfebaifgnodaa
