/- The walks of the laws SumRing and SumChanges. -/
import Derived.Test.YtlgdmfbpkmokaaaSk
namespace Go.Proofs.Ytlgdmfbpkmokaaa
open Go.RowKit
attribute [local go_sem ↓] Go.wp_at_zero Go.wp_at_succ

set_option maxHeartbeats 1000000 in
theorem sumRing_nat (x y z : Nat) (w : World) (hx : x < 65536) (hy : y < 65536) (hz : z < 65536) :
    Calls Try.prog 5 #[.int .u16 (x : Int), .int .u16 (y : Int), .int .u16 (z : Int)] w fun e w' => e = .returned (.bool true) ∧ Below w.heap.size w w' := by
  obtain ⟨s, hs⟩ : ∃ s, s = Sm.addC x y := ⟨_, rfl⟩
  obtain ⟨t, ht⟩ : ∃ t, t = Sm.addC s z := ⟨_, rfl⟩
  obtain ⟨u, hu⟩ : ∃ u, u = Sm.addC y z := ⟨_, rfl⟩
  have hs2 : s < 65536 := by rw [hs]; exact Sm.addC_lt hx hy
  have ht2 : t < 65536 := by rw [ht]; exact Sm.addC_lt hs2 hz
  have hu2 : u < 65536 := by rw [hu]; exact Sm.addC_lt hy hz
  have hs3 : s = Sm.addC y x := by rw [hs, Sm.addC_comm]
  have ht3 : t = Sm.addC x u := by rw [ht, hs, hu, Sm.addC_assoc hx hy hz]
  have HS := Lib.hid hs
  have HT := Lib.hid ht
  have HU := Lib.hid hu
  have HS3 := Lib.hid hs3
  have HT3 := Lib.hid ht3
  have b1 : (x : Int) < 65536 := by omega
  clear hs ht hu hs3 ht3
  go_enter Try.func5, Try.ntmps5
  go_wp2_with fail
  refine (addW_int _ _ _ (by omega) (by omega) (by omega) (by omega) (s : Int) (by rw [HS.out]; rfl)).mono ?_
  rintro e w1 ⟨rfl, rfl⟩
  go_wp2_with fail
  refine (addW_int _ _ _ (by omega) (by omega) (by omega) (by omega) (s : Int) (by rw [HS3.out]; rfl)).mono ?_
  rintro e w1 ⟨rfl, rfl⟩
  go_wp2_with fail
  refine (addW_int _ _ _ (by omega) (by omega) (by omega) (by omega) (s : Int) (by rw [HS.out]; rfl)).mono ?_
  rintro e w1 ⟨rfl, rfl⟩
  go_wp2_with fail
  refine (addW_int _ _ _ (by omega) (by omega) (by omega) (by omega) (t : Int) (by rw [HT.out]; rfl)).mono ?_
  rintro e w1 ⟨rfl, rfl⟩
  go_wp2_with fail
  refine (addW_int _ _ _ (by omega) (by omega) (by omega) (by omega) (u : Int) (by rw [HU.out]; rfl)).mono ?_
  rintro e w1 ⟨rfl, rfl⟩
  go_wp2_with fail
  refine (addW_int _ _ _ (by omega) (by omega) (by omega) (by omega) (t : Int) (by rw [HT3.out]; rfl)).mono ?_
  rintro e w1 ⟨rfl, rfl⟩
  go_wp2_with fail
  refine (addW_int _ _ _ (by omega) (by omega) (by omega) (by omega) (x : Int) (by rw [Int.toNat_natCast, Int.toNat_zero, Sm.addC_zero hx])).mono ?_
  rintro e w1 ⟨rfl, rfl⟩
  go_wp2_with fail
  refine (addW_int _ _ _ (by omega) (by omega) (by omega) (by omega) 65535 (by rw [Int.toNat_natCast, show (65535 - (x : Int)).toNat = 65535 - x by omega, Sm.addC_rest hx]; rfl)).mono ?_
  rintro e w1 ⟨rfl, rfl⟩
  go_wp2_with fail
  refine (known2_any _).mono ?_
  rintro e w1 ⟨rfl, hb⟩
  go_wp2_with fail
  go_ret
  exact ⟨rfl, hb⟩
theorem sumRing_walk (a b c : Int) (w : World) (ha : 0 ≤ a) (ha2 : a < 65536) (hb : 0 ≤ b) (hb2 : b < 65536) (hc : 0 ≤ c) (hc2 : c < 65536) :
    Calls Try.prog 5 #[.int .u16 a, .int .u16 b, .int .u16 c] w fun e w' => e = .returned (.bool true) ∧ Below w.heap.size w w' := by
  obtain ⟨x, rfl⟩ := Int.eq_ofNat_of_zero_le ha
  obtain ⟨y, rfl⟩ := Int.eq_ofNat_of_zero_le hb
  obtain ⟨z, rfl⟩ := Int.eq_ofNat_of_zero_le hc
  exact sumRing_nat x y z w (by omega) (by omega) (by omega)

set_option maxHeartbeats 1000000 in
theorem sumChanges_nat (c m n x : Nat) (w : World) (hc : c < 65536) (hm : m < 65536) (hn : n < 65536) (hx : x < 18446744073709551616) :
    Calls Try.prog 4 #[.int .u16 (c : Int), .int .u16 (m : Int), .int .u16 (n : Int), .int .u64 (x : Int)] w fun e w' => e = .returned (.bool true) ∧ Below w.heap.size w w' := by
  go_enter Try.func4, Try.ntmps4
  go_wp2_with fail
  refine (addW_any c m _ hc hm).mono ?_
  rintro e w1 ⟨rfl, rfl⟩
  go_wp2_with fail
  refine (addR_any c m _ hc hm).mono ?_
  rintro e w1 ⟨rfl, rfl⟩
  go_wp2_with fail
  refine (changeW_any c m n _ hc hm hn).mono ?_
  rintro e w1 ⟨rfl, rfl⟩
  go_wp2_with fail
  refine (changeR_any c m n _ hc hm hn).mono ?_
  rintro e w1 ⟨rfl, rfl⟩
  go_wp2_with fail
  refine (foldW_any x _ hx).mono ?_
  rintro e w1 ⟨rfl, rfl⟩
  go_wp2_with fail
  refine (foldR_any x _ hx).mono ?_
  rintro e w1 ⟨rfl, rfl⟩
  go_wp2_with fail
  refine (known2_any _).mono ?_
  rintro e w1 ⟨rfl, hb⟩
  go_wp2_with fail
  go_ret
  exact ⟨rfl, hb⟩
theorem sumChanges_walk (a b c d : Int) (w : World) (ha : 0 ≤ a) (ha2 : a < 65536) (hb : 0 ≤ b) (hb2 : b < 65536) (hc : 0 ≤ c) (hc2 : c < 65536) (hd : 0 ≤ d) (hd2 : d < 18446744073709551616) :
    Calls Try.prog 4 #[.int .u16 a, .int .u16 b, .int .u16 c, .int .u64 d] w fun e w' => e = .returned (.bool true) ∧ Below w.heap.size w w' := by
  obtain ⟨x, rfl⟩ := Int.eq_ofNat_of_zero_le ha
  obtain ⟨y, rfl⟩ := Int.eq_ofNat_of_zero_le hb
  obtain ⟨z, rfl⟩ := Int.eq_ofNat_of_zero_le hc
  obtain ⟨t, rfl⟩ := Int.eq_ofNat_of_zero_le hd
  exact sumChanges_nat x y z t w (by omega) (by omega) (by omega) (by omega)
end Go.Proofs.Ytlgdmfbpkmokaaa
