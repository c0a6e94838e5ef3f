/- Walks of small functions of the layer wire and of its reference: what they return, and that they leave memory alone but for new blocks. -/
import Derived.Test.YtlgdmfbpkmokaaaDoorC0
import Derived.Test.YtlgdmfbpkmokaaaDoorP
namespace Go.Proofs.YtlgdmfbpkmokaaaDoor
open Go.RowKit
attribute [local go_sem ↓] Go.wp_at_zero Go.wp_at_succ

set_option maxHeartbeats 400000 in
theorem num_any (n : Int) (w : World) :
    Calls Tryd.prog 13 #[.int .i64 n] w fun e w' => e = .returned (.int .i64 n) ∧ w = w' := by
  go_enter Tryd.func13, Tryd.ntmps13
  go_wp2
  go_ret
  exact ⟨rfl, rfl⟩

set_option maxHeartbeats 400000 in
theorem mayW_any (a n : Int) (w : World) :
    Calls Tryd.prog 34 #[.agg #[.int .u32 a, .int .i64 n]] w fun e w' => e = .returned (.bool (Wp.mayB a n)) ∧ Below w.heap.size w w' := by
  go_enter Tryd.func34, Tryd.ntmps34
  go_wp2
  · have h1 : 0 ≤ n := by assumption
    have h2 : n ≤ 32 := by assumption
    go_ret
    exact ⟨ret_b (by rw [Wp.shl_zero h1 h2]; simp [Wp.mayB, h1, h2]), by go_grown⟩
  · have h1 : 0 ≤ n := by assumption
    have h2 : ¬ n ≤ 32 := by omega
    go_ret
    exact ⟨ret_b (by simp [Wp.mayB, h2]), by go_grown⟩
  · have h1 : ¬ 0 ≤ n := by omega
    go_ret
    exact ⟨ret_b (by simp [Wp.mayB, h1]), by go_grown⟩

theorem xor_shr {a b n : Int} (ha : 0 ≤ a) (ha2 : a < 4294967296) (hb : 0 ≤ b) (hb2 : b < 4294967296) (h : Wp.fst a n = a) :
    (bits BinOp.xor IntKind.u32 a b / 2 ^ (32 - n).toNat == 0) = decide (Wp.fst b n = a) := by
  rw [u32_xor a b ha ha2 hb hb2]
  obtain ⟨a', rfl⟩ := Int.eq_ofNat_of_zero_le ha
  obtain ⟨b', rfl⟩ := Int.eq_ofNat_of_zero_le hb
  exact Wp.xor_fst a' b' _ n rfl h

set_option maxHeartbeats 400000 in
theorem hasW_any (a n b : Int) (w : World) (ha : 0 ≤ a) (ha2 : a < 4294967296) (hb : 0 ≤ b) (hb2 : b < 4294967296) :
    Calls Tryd.prog 25 #[.agg #[.int .u32 a, .int .i64 n], .int .u32 b] w fun e w' => e = .returned (.bool (Wp.hasB a n b)) ∧ Below w.heap.size w w' := by
  rcases hm : Wp.mayB a n with _ | _
  · have hf : Wp.hasB a n b = false := by simp [Wp.hasB, hm]
    have Hm := Lib.hid hm
    clear hm
    go_enter Tryd.func25, Tryd.ntmps25
    go_wp2_with (go_at_call 34; refine (mayW_any _ _ _).mono ?_; rintro e w1 ⟨rfl, hb1⟩; rw [Hm.out]; obtain ⟨hc, hfz⟩ := bcell hb1)
    go_ret
    exact ⟨ret_b hf.symm, ((Below.refl _ _).alloc (Nat.le_refl _) _).trans (hb1.mono (by simp))⟩
  · have hn : 0 ≤ n ∧ n ≤ 32 ∧ Wp.fst a n = a := by simpa [Wp.mayB] using hm
    obtain ⟨hn1, hn2, hn3⟩ := hn
    have Hn3 := Lib.hid hn3
    have Hm := Lib.hid hm
    clear hm hn3
    go_enter Tryd.func25, Tryd.ntmps25
    go_wp2_with (go_at_call 34; refine (mayW_any _ _ _).mono ?_; rintro e w1 ⟨rfl, hb1⟩; rw [Hm.out]; obtain ⟨hc, hfz⟩ := bcell hb1)
    go_ret
    exact ⟨ret_b (by rw [xor_shr ha ha2 hb hb2 Hn3.out]; simp [Wp.hasB, Hm.out]), ((Below.refl _ _).alloc (Nat.le_refl _) _).trans (hb1.mono (by simp))⟩

end Go.Proofs.YtlgdmfbpkmokaaaDoor
