/- Walks of the reference's looks at prefixes, of Within and of both orders. -/
import Derived.Test.YtlgdmfbpkmokaaaDoorWa
namespace Go.Proofs.YtlgdmfbpkmokaaaDoor
open Go.RowKit


set_option maxHeartbeats 400000 in
theorem first_any (a n : Int) (w : World) (ha : 0 ≤ a) (ha2 : a < 4294967296) (hn : 0 ≤ n) (hn2 : n ≤ 32) :
    Calls Tryd.prog 38 #[.int .u32 a, .int .i64 n] w fun e w' => e = .returned (.int .u32 (Wp.fst a n)) ∧ w = w' := by
  go_enter Tryd.func38, Tryd.ntmps38
  go_wp2
  go_loop [0, 5] (fun x i => ∃ k : Nat, k ≤ (32 - n).toNat ∧ i = .int .i64 k ∧ x = .int .u32 (a / 2 ^ k)) (fun _ i => (32 - n).toNat - (intOf i).toNat)
  case atStart => exact ⟨0, Nat.zero_le _, rfl, by simp⟩
  case round =>
    obtain ⟨k, hk, rfl, rfl⟩ := hrel
    have p1 := Wp.div_lo a k ha
    have p2 := Wp.div_hi a k ha ha2
    have hs := Wp.div_succ a k
    have Hs := Lib.hid hs
    clear hs
    by_cases hlt : (k : Int) < 32 - n
    · go_wp2
      go_round
      case rel => exact ⟨k + 1, by omega, by go_num, by rw [Hs.out]⟩
      case measure => simp [intOf]; omega
    · have hk2 : k = (32 - n).toNat := by omega
      subst hk2
      go_wp2
      go_loop [0, 6] (fun x i => ∃ k : Nat, k ≤ (32 - n).toNat ∧ i = .int .i64 k ∧ x = .int .u32 (a / 2 ^ (32 - n).toNat * 2 ^ k)) (fun _ i => (32 - n).toNat - (intOf i).toNat)
      case atStart => exact ⟨0, Nat.zero_le _, rfl, by simp⟩
      case round =>
        obtain ⟨k, hk, rfl, rfl⟩ := hrel
        have q1 := Wp.mul_lo a (32 - n).toNat k ha
        have q2 := Wp.mul_hi a (32 - n).toNat k ha ha2 hk
        by_cases hlt : (k : Int) < 32 - n
        · have q3 := Wp.mul_hi2 a (32 - n).toNat k ha ha2 (by omega)
          have Hs := Lib.hid (Wp.mul_succ' a (32 - n).toNat k)
          go_wp2
          go_round
          case rel => exact ⟨k + 1, by omega, by go_num, by rw [Hs.out]⟩
          case measure => simp [intOf]; omega
        · have hk2 : k = (32 - n).toNat := by omega
          subst hk2
          go_wp2
          go_ret
          exact ⟨rfl, rfl⟩
theorem quiet_same {P : Program} {f : FuncId} {args : Array Value} {w : World} {n : Nat} {v : Value}
    (h : Calls P f args (w.drewN n) fun e w' => e = .returned v ∧ w.drewN n = w') : Calls P f args (w.drewN n) fun e w'' => e = .returned v ∧ ∃ m, w'' = w.drewN m :=
  h.mono fun _ _ ⟨he, hm⟩ => ⟨he, n, hm.symm⟩

set_option maxHeartbeats 400000 in
theorem mayR_any (a n : Int) (w : World) (ha : 0 ≤ a) (ha2 : a < 4294967296) :
    Calls Tryd.prog 21 #[.agg #[.int .u32 a, .int .i64 n]] w fun e w' => e = .returned (.bool (Wp.mayB a n)) ∧ Below w.heap.size w w' := by
  by_cases h1 : 0 ≤ n
  · by_cases h2 : n ≤ 32
    · have hd1 : decide (0 ≤ n) = true := by simpa using h1
      have hd2 : decide (n ≤ 32) = true := by simpa using h2
      have hf : Wp.mayB a n = (Wp.fst a n == a) := by simp [Wp.mayB, h1, h2]; rfl
      have Hf := Lib.hid hf
      clear hf
      go_enter Tryd.func21, Tryd.ntmps21
      go_wp2_with fail
      go_quiet ((go_at_call 38; exact quiet_same (first_any _ _ _ ha ha2 h1 h2)))
      go_wp2
      go_ret
      exact ⟨ret_b Hf.out.symm, below_drewN ((Below.refl _ _).alloc (Nat.le_refl _) _) _⟩
    · have hd1 : decide (0 ≤ n) = true := by simpa using h1
      have hd2 : decide (n ≤ 32) = false := by simpa using h2
      have hf : Wp.mayB a n = false := by simp [Wp.mayB, h2]
      have Hf := Lib.hid hf
      clear hf
      go_enter Tryd.func21, Tryd.ntmps21
      go_wp2_with fail
      go_quiet (fail)
      go_wp2
      go_ret
      exact ⟨ret_b Hf.out.symm, below_drewN ((Below.refl _ _).alloc (Nat.le_refl _) _) _⟩
  · have hd1 : decide (0 ≤ n) = false := by simpa using h1
    have hf : Wp.mayB a n = false := by simp [Wp.mayB, h1]
    have Hf := Lib.hid hf
    clear hf
    go_enter Tryd.func21, Tryd.ntmps21
    go_wp2_with fail
    go_quiet (fail)
    go_wp2
    go_ret
    exact ⟨ret_b Hf.out.symm, below_drewN ((Below.refl _ _).alloc (Nat.le_refl _) _) _⟩

end Go.Proofs.YtlgdmfbpkmokaaaDoor
