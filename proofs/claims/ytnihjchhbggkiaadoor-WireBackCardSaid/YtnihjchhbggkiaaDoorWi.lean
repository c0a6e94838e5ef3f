/- The walk of wire.Within. -/
import Derived.Test.YtnihjchhbggkiaaDoorWa
namespace Go.Proofs.YtnihjchhbggkiaaDoor
open Go.RowKit
attribute [local go_sem ↓] Go.wp_at_zero Go.wp_at_succ

set_option maxHeartbeats 400000 in
theorem inW_any (a n b m : Int) (w : World) (ha : 0 ≤ a) (ha2 : a < 4294967296) (hb : 0 ≤ b) (hb2 : b < 4294967296) :
    Calls Tryd.prog 38 #[.agg #[.int .u32 a, .int .i64 n], .agg #[.int .u32 b, .int .i64 m]] w fun e w' => e = .returned (.bool (Wp.inB a n b m)) ∧ Below w.heap.size w w' := by
  have he := Wp.inB_has a n b m
  rcases hm : Wp.mayB b m with _ | _
  · rw [hm] at he
    have He := Lib.hid he
    have Hm := Lib.hid hm
    clear hm he
    go_enter Tryd.func38, Tryd.ntmps38
    go_wp2_with (go_at_call 35; refine (mayW_any _ _ _).mono ?_; rintro e w1 ⟨rfl, hb1⟩; rw [Hm.out]; obtain ⟨hc, hfz⟩ := bcell hb1)
    go_ret
    refine ⟨ret_b ?_, ?_⟩
    · rw [He.out]; rfl
    · exact Below.trans (((Below.refl _ _).alloc (Nat.le_refl _) _).alloc (by simp) _) (hb1.mono (by simp; omega))
  · rw [hm] at he
    have He := Lib.hid he
    have Hm := Lib.hid hm
    clear hm he
    by_cases hnm : n ≤ m
    · go_enter Tryd.func38, Tryd.ntmps38
      go_wp2_with (first | (go_at_call 35; refine (mayW_any _ _ _).mono ?_; rintro e w1 ⟨rfl, hb1⟩; rw [Hm.out]; obtain ⟨hc, hfz⟩ := bcell hb1) | (go_at_call 36; refine (hasW_any _ _ _ _ ha ha2 hb hb2).mono ?_; rintro e w2 ⟨rfl, hb22⟩))
      go_ret
      refine ⟨ret_b ?_, ?_⟩
      · rw [He.out]; simp [hnm]
      · exact Below.trans (((Below.refl _ _).alloc (Nat.le_refl _) _).alloc (by simp) _) ((hb1.trans (hb22.mono hb1.size)).mono (by simp; omega))
    · go_enter Tryd.func38, Tryd.ntmps38
      go_wp2_with (first | (go_at_call 35; refine (mayW_any _ _ _).mono ?_; rintro e w1 ⟨rfl, hb1⟩; rw [Hm.out]; obtain ⟨hc, hfz⟩ := bcell hb1))
      go_ret
      refine ⟨ret_b ?_, ?_⟩
      · have hd : decide (n ≤ m) = false := by simp; omega
        rw [He.out, hd]; rfl
      · exact Below.trans (((Below.refl _ _).alloc (Nat.le_refl _) _).alloc (by simp) _) (hb1.mono (by simp; omega))

end Go.Proofs.YtnihjchhbggkiaaDoor
