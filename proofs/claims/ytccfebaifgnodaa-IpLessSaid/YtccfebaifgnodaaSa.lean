/- The walks of sum.Add, the reference's Add, sum.Change, the reference's Change. -/
import Derived.Test.YtccfebaifgnodaaSm
import Derived.Test.YtccfebaifgnodaaC0
namespace Go.Proofs.Ytccfebaifgnodaa
open Go.RowKit
attribute [local go_sem ↓] Go.wp_at_zero Go.wp_at_succ

theorem addW_any (x y : Nat) (w : World) (hx : x < 65536) (hy : y < 65536) :
    Calls Try.prog 67 #[.int .u16 (x : Int), .int .u16 (y : Int)] w fun e w' => e = .returned (.int .u16 (Sm.addC x y : Nat)) ∧ w = w' := by
  have hx2 : (x : Int) < 65536 := by omega
  have hy2 : (y : Int) < 65536 := by omega
  go_enter Try.func67, Try.ntmps67
  go_wp2
  go_ret
  refine ⟨ret_i ?_, rfl⟩
  rw [wrap16]
  unfold Sm.addC
  split <;> omega
theorem addR_any (x y : Nat) (w : World) (hx : x < 65536) (hy : y < 65536) :
    Calls Try.prog 56 #[.int .u16 (x : Int), .int .u16 (y : Int)] w fun e w' => e = .returned (.int .u16 (Sm.addC x y : Nat)) ∧ w = w' := by
  have hx2 : (x : Int) < 65536 := by omega
  have hy2 : (y : Int) < 65536 := by omega
  by_cases h : 65536 ≤ (x : Int) + y
  all_goals
    go_enter Try.func56, Try.ntmps56
    go_wp2
    go_ret
    refine ⟨ret_i ?_, rfl⟩
    (try rw [wrap16])
    unfold Sm.addC
    split <;> omega
theorem addW_int (x y : Int) (w : World) (hx0 : 0 ≤ x) (hx : x < 65536) (hy0 : 0 ≤ y) (hy : y < 65536) (z : Int) (hz : z = (Sm.addC x.toNat y.toNat : Nat)) :
    Calls Try.prog 67 #[.int .u16 x, .int .u16 y] w fun e w' => e = .returned (.int .u16 z) ∧ w = w' := by
  have := addW_any x.toNat y.toNat w (by omega) (by omega)
  rw [show ((x.toNat : Nat) : Int) = x by omega, show ((y.toNat : Nat) : Int) = y by omega, ← hz] at this
  exact this
theorem addR_int (x y : Int) (w : World) (hx0 : 0 ≤ x) (hx : x < 65536) (hy0 : 0 ≤ y) (hy : y < 65536) (z : Int) (hz : z = (Sm.addC x.toNat y.toNat : Nat)) :
    Calls Try.prog 56 #[.int .u16 x, .int .u16 y] w fun e w' => e = .returned (.int .u16 z) ∧ w = w' := by
  have := addR_any x.toNat y.toNat w (by omega) (by omega)
  rw [show ((x.toNat : Nat) : Int) = x by omega, show ((y.toNat : Nat) : Int) = y by omega, ← hz] at this
  exact this

theorem changeW_any (c m n : Nat) (w : World) (hc : c < 65536) (hm : m < 65536) (hn : n < 65536) :
    Calls Try.prog 53 #[.int .u16 (c : Int), .int .u16 (m : Int), .int .u16 (n : Int)] w fun e w' => e = .returned (.int .u16 (Sm.changed c m n : Nat)) ∧ w = w' := by
  have hc2 : (c : Int) < 65536 := by omega
  have hm2 : (m : Int) < 65536 := by omega
  have hn2 : (n : Int) < 65536 := by omega
  obtain ⟨z, hz⟩ : ∃ z : Nat, z = Sm.addC (65535 - c) (65535 - m) := ⟨_, rfl⟩
  obtain ⟨y, hy⟩ : ∃ y : Nat, y = Sm.addC z n := ⟨_, rfl⟩
  have h1 : z < 65536 := by rw [hz]; exact Sm.addC_lt (by omega) (by omega)
  have h2 : y < 65536 := by rw [hy]; exact Sm.addC_lt h1 hn
  have he : Sm.changed c m n = 65535 - y := by rw [hy, hz]; rfl
  have HZ := Lib.hid hz
  have HY := Lib.hid hy
  have HE := Lib.hid he
  clear hz hy he
  go_enter Try.func53, Try.ntmps53
  go_wp2_with fail
  refine (addW_int _ _ _ (by omega) (by omega) (by omega) (by omega) (z : Int) (by rw [HZ.out, show (65535 - (c : Int)).toNat = 65535 - c by omega, show (65535 - (m : Int)).toNat = 65535 - m by omega])).mono ?_
  rintro e w1 ⟨rfl, rfl⟩
  go_wp2_with fail
  refine (addW_int _ _ _ (by omega) (by omega) (by omega) (by omega) (y : Int) (by rw [HY.out]; rfl)).mono ?_
  rintro e w1 ⟨rfl, rfl⟩
  go_wp2_with fail
  go_ret
  exact ⟨ret_i (by rw [HE.out]; omega), rfl⟩
theorem changeR_any (c m n : Nat) (w : World) (hc : c < 65536) (hm : m < 65536) (hn : n < 65536) :
    Calls Try.prog 54 #[.int .u16 (c : Int), .int .u16 (m : Int), .int .u16 (n : Int)] w fun e w' => e = .returned (.int .u16 (Sm.changed c m n : Nat)) ∧ w = w' := by
  have hc2 : (c : Int) < 65536 := by omega
  have hm2 : (m : Int) < 65536 := by omega
  have hn2 : (n : Int) < 65536 := by omega
  obtain ⟨z, hz⟩ : ∃ z : Nat, z = Sm.addC (65535 - c) (65535 - m) := ⟨_, rfl⟩
  obtain ⟨y, hy⟩ : ∃ y : Nat, y = Sm.addC z n := ⟨_, rfl⟩
  have h1 : z < 65536 := by rw [hz]; exact Sm.addC_lt (by omega) (by omega)
  have h2 : y < 65536 := by rw [hy]; exact Sm.addC_lt h1 hn
  have he : Sm.changed c m n = 65535 - y := by rw [hy, hz]; rfl
  have HZ := Lib.hid hz
  have HY := Lib.hid hy
  have HE := Lib.hid he
  clear hz hy he
  go_enter Try.func54, Try.ntmps54
  go_wp2_with fail
  refine (addR_int _ _ _ (by omega) (by omega) (by omega) (by omega) (z : Int) (by rw [HZ.out, show (65535 - (c : Int)).toNat = 65535 - c by omega, show (65535 - (m : Int)).toNat = 65535 - m by omega])).mono ?_
  rintro e w1 ⟨rfl, rfl⟩
  go_wp2_with fail
  refine (addR_int _ _ _ (by omega) (by omega) (by omega) (by omega) (y : Int) (by rw [HY.out]; rfl)).mono ?_
  rintro e w1 ⟨rfl, rfl⟩
  go_wp2_with fail
  go_ret
  exact ⟨ret_i (by rw [HE.out]; omega), rfl⟩

/-- The first words of a number, the highest first, summed. -/
def foldK (x : Nat) : Nat → Nat
  | 0 => 0
  | 1 => Sm.addC 0 (x / 281474976710656 % 65536)
  | 2 => Sm.addC (Sm.addC 0 (x / 281474976710656 % 65536)) (x / 4294967296 % 65536)
  | 3 => Sm.addC (Sm.addC (Sm.addC 0 (x / 281474976710656 % 65536)) (x / 4294967296 % 65536)) (x / 65536 % 65536)
  | _ => Sm.addC (Sm.addC (Sm.addC (Sm.addC 0 (x / 281474976710656 % 65536)) (x / 4294967296 % 65536)) (x / 65536 % 65536)) (x % 65536)
theorem foldK_lt (x k : Nat) : foldK x k < 65536 := by
  have h1 : Sm.addC 0 (x / 281474976710656 % 65536) < 65536 := Sm.addC_lt (by omega) (by omega)
  have h2 : Sm.addC (Sm.addC 0 (x / 281474976710656 % 65536)) (x / 4294967296 % 65536) < 65536 := Sm.addC_lt h1 (by omega)
  have h3 := Sm.addC_lt h2 (show x / 65536 % 65536 < 65536 by omega)
  have h4 := Sm.addC_lt h3 (show x % 65536 < 65536 by omega)
  unfold foldK
  split
  · omega
  · exact h1
  · exact h2
  · exact h3
  · exact h4
theorem fold_arg0 (x : Nat) (y : Int) (h : y.toNat = x / 281474976710656 % 65536) : ((foldK x 1 : Nat) : Int) = (Sm.addC ((foldK x 0 : Nat) : Int).toNat y.toNat : Nat) := by
  rw [Int.toNat_natCast, h]; rfl
theorem fold_arg1 (x : Nat) (y : Int) (h : y.toNat = x / 4294967296 % 65536) : ((foldK x 2 : Nat) : Int) = (Sm.addC ((foldK x 1 : Nat) : Int).toNat y.toNat : Nat) := by
  rw [Int.toNat_natCast, h]; rfl
theorem fold_arg2 (x : Nat) (y : Int) (h : y.toNat = x / 65536 % 65536) : ((foldK x 3 : Nat) : Int) = (Sm.addC ((foldK x 2 : Nat) : Int).toNat y.toNat : Nat) := by
  rw [Int.toNat_natCast, h]; rfl
theorem fold_arg3 (x : Nat) (y : Int) (h : y.toNat = x / 1 % 65536) : ((foldK x 4 : Nat) : Int) = (Sm.addC ((foldK x 3 : Nat) : Int).toNat y.toNat : Nat) := by
  rw [Int.toNat_natCast, h]; simp [foldK]
def foldN (x : Nat) : Nat := foldK x 4
end Go.Proofs.Ytccfebaifgnodaa
