/- Bits of a header's word of flags; numbers of one byte. -/
import Derived.Test.YtccfebaifgnodaaIs
namespace Go.Proofs.Ytccfebaifgnodaa
open Go.RowKit
def evB (f : Nat) : Bool := decide (f / 32768 % 2 = 1)
def dfB (f : Nat) : Bool := decide (f / 16384 % 2 = 1)
def mfB (f : Nat) : Bool := decide (f / 8192 % 2 = 1)
theorem and_bit (f k : Nat) : (f &&& 2 ^ k != 0) = f.testBit k := by
  cases h : f.testBit k with
  | true =>
    rw [bne_iff_ne]
    intro e
    have h2 : (f &&& 2 ^ k).testBit k = true := by rw [Nat.testBit_and, Nat.testBit_two_pow, h]; simp
    rw [e] at h2; simp at h2
  | false =>
    rw [bne_eq_false_iff_eq]
    refine Nat.eq_of_testBit_eq fun j => ?_
    rw [Nat.testBit_and, Nat.testBit_two_pow]
    by_cases e : k = j
    · subst e; rw [h]; simp
    · simp [e]
theorem cast_bne (n : Nat) : ((n : Int) != 0) = (n != 0) := by rw [Bool.eq_iff_iff]; simp
theorem and_pow {f : Nat} (hf : f < 65536) (m k : Nat) (hm : m = 2 ^ k) (hk : m < 65536) : (bits .and .u64 (f : Int) (m : Int) != 0) = decide (f / 2 ^ k % 2 = 1) := by
  rw [u64_and _ _ (by omega) (by omega) (by omega) (by omega), Int.toNat_natCast, Int.toNat_natCast, cast_bne, hm, and_bit, Nat.testBit_eq_decide_div_mod_eq]
theorem ev_bits {f : Nat} (hf : f < 65536) : (bits .and .u64 (f : Int) 32768 != 0) = evB f := and_pow hf 32768 15 (by decide) (by decide)
theorem df_bits {f : Nat} (hf : f < 65536) : (bits .and .u64 (f : Int) 16384 != 0) = dfB f := and_pow hf 16384 14 (by decide) (by decide)
theorem mf_bits {f : Nat} (hf : f < 65536) : (bits .and .u64 (f : Int) 8192 != 0) = mfB f := and_pow hf 8192 13 (by decide) (by decide)
theorem off_bits {f : Nat} (hf : f < 65536) : bits .and .u64 (f : Int) 8191 = ((f % 8192 : Nat) : Int) := by
  rw [u64_and _ _ (by omega) (by omega) (by omega) (by omega), Int.toNat_natCast]
  have : (8191 : Int).toNat = 8191 := rfl
  rw [this, Nat.and_two_pow_sub_one_eq_mod f 13]
theorem drop_take_cons {l : List UInt8} {i k : Nat} (h : i < l.length) : (l.take (i + (k + 1))).drop i = l[i] :: (l.take (i + 1 + k)).drop (i + 1) := by
  rw [show i + (k + 1) = i + 1 + k by omega, List.drop_eq_getElem_cons (by simp; omega), List.getElem_take]
theorem drop_take_nil {l : List UInt8} {i : Nat} : (l.take (i + 0)).drop i = [] := by rw [List.drop_eq_nil_of_le]; simp; omega
theorem numAt_1 {l : List UInt8} {i : Nat} (h : i + 1 ≤ l.length) : numAt l i 1 = Sm.at0 l i := by
  unfold numAt
  rw [drop_take_cons (k := 0) (by omega), drop_take_nil, at0_get (by omega)]
  simp [getL]
theorem numAt_2 {l : List UInt8} {i : Nat} (h : i + 2 ≤ l.length) : numAt l i 2 = 256 * Sm.at0 l i + Sm.at0 l (i + 1) := by
  unfold numAt
  rw [drop_take_cons (k := 1) (by omega), drop_take_cons (k := 0) (by omega), drop_take_nil, at0_get (by omega), at0_get (by omega)]
  simp [getL]; omega
end Go.Proofs.Ytccfebaifgnodaa
