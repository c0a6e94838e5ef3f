/- Walks of small functions of the layer wire and of its reference: what they return, and that they leave memory alone but for new blocks.
   Plain numbers of the layer wire: prefixes, their order; no program in it.
   What all walks import; small lemmas on endings and on what a call leaves as it was. -/
import Derived.Test.YtijkahamgnpobaaDoorRows
import Derived.WalkKit
import Derived.WalkSpells
import Derived.WalkLawsBesides
import Derived.Lib.Hide
import Derived.Deep.QuietTactic
import Derived.BigQuiet
import Derived.Handy
import Derived.Deep.RegionWith
import Derived.Deep.RegionHeld3
import Derived.StillTailTactics
import Derived.Deep.DrawnRows
import Derived.Laws.BitsAllLaws
import Derived.Lib.AtoiAll
import Derived.Lib.ItoaNum
import Derived.Lib.IndexMore

set_option linter.unusedSimpArgs false
set_option linter.unusedVariables false
namespace Go.Proofs.YtijkahamgnpobaaDoor
open Go.RowKit
attribute [local go_sem ↓] Go.wp_at_zero Go.wp_at_succ

theorem ret_b {a b : Bool} (h : a = b) : Ending.returned (.bool a) = .returned (.bool b) := by rw [h]
theorem ret_i {k : IntKind} {a b : Int} (h : a = b) : Ending.returned (.int k a) = .returned (.int k b) := by rw [h]
theorem ret_ii {k k2 : IntKind} {a a' b b' : Int} (h : a = a') (h2 : b = b') : Ending.returned (.tuple #[.int k a, .int k2 b]) = .returned (.tuple #[.int k a', .int k2 b']) := by rw [h, h2]
theorem bcell {W w1 : World} (hb : Below W.heap.size W w1) : (∀ b o, b < W.heap.size → w1.cell? ⟨b, o, none⟩ = W.cell? ⟨b, o, none⟩) ∧ (∀ b o, b < W.heap.size → w1.frozen? ⟨b, o, none⟩ = W.frozen? ⟨b, o, none⟩) :=
  ⟨fun b o h => hb.cell (p := ⟨b, o, none⟩) h, fun b o h => hb.frozen (p := ⟨b, o, none⟩) h⟩
theorem below_of {w w1 w2 : World} (h : Below w.heap.size w w1) (h2 : Below w1.heap.size w1 w2) : Below w.heap.size w w2 := h.trans (h2.mono h.size)
theorem below_dr0 (B : Nat) (w : World) (n : Nat) : Below B w (w.drewN n) := ⟨rfl, rfl, rfl, Nat.le_refl _, fun _ _ => rfl⟩
theorem wrap8 (n : Int) : IntKind.u8.wrap n = n % 256 := rfl
theorem wrap16 (n : Int) : IntKind.u16.wrap n = n % 65536 := rfl
theorem wrap32 (n : Int) : IntKind.u32.wrap n = n % 4294967296 := rfl

end Go.Proofs.YtijkahamgnpobaaDoor

namespace Go.Proofs.YtijkahamgnpobaaDoor
namespace Wp

/-- The first n of 32 bits, the others noughts. -/
def fst (a n : Int) : Int := a / 2 ^ (32 - n).toNat * 2 ^ (32 - n).toNat
/-- A prefix that may be. -/
def mayB (a n : Int) : Bool := decide (0 ≤ n) && (decide (n ≤ 32) && decide (fst a n = a))
def hasB (a n b : Int) : Bool := mayB a n && decide (fst b n = a)
def inB (a n b m : Int) : Bool := mayB a n && (mayB b m && (decide (n ≤ m) && decide (fst b n = a)))
def cmpI (a n b m : Int) : Int := if a < b then -1 else if b < a then 1 else if n < m then -1 else if m < n then 1 else 0

theorem pow_pos' (k : Nat) : (0 : Int) < 2 ^ k := Int.pow_pos (by decide)

theorem fst_nonneg {a n : Int} (h : 0 ≤ a) : 0 ≤ fst a n := by
  unfold fst
  exact Int.mul_nonneg (Int.ediv_nonneg h (Int.le_of_lt (pow_pos' _))) (Int.le_of_lt (pow_pos' _))
theorem fst_le {a n : Int} : fst a n ≤ a := by
  unfold fst
  exact Int.ediv_mul_le a (Int.ne_of_gt (pow_pos' _))

/-- The shift to the left leaves nothing: the bits behind the first n are noughts. -/
theorem shl_zero {a n : Int} (hn : 0 ≤ n) (hn2 : n ≤ 32) : (a * 2 ^ n.toNat % 4294967296 == 0) = decide (fst a n = a) := by
  have e : (4294967296 : Int) = 2 ^ (32 - n).toNat * 2 ^ n.toNat := by
    rw [← Int.pow_add]
    have : (32 - n).toNat + n.toNat = 32 := by omega
    rw [this]; decide
  have hp := pow_pos' n.toNat
  rw [Bool.eq_iff_iff]
  simp only [beq_iff_eq, decide_eq_true_eq]
  rw [e, Int.mul_comm a, Int.mul_comm (2 ^ (32 - n).toNat : Int), Int.mul_emod_mul_of_pos _ _ hp]
  constructor
  · intro h
    have h2 : a % 2 ^ (32 - n).toNat = 0 := by
      rcases Int.mul_eq_zero.1 h with h | h
      · omega
      · exact h
    unfold fst
    have := Int.mul_ediv_add_emod a (2 ^ (32 - n).toNat)
    rw [h2] at this
    rw [Int.mul_comm]; omega
  · intro h
    unfold fst at h
    have := Int.mul_ediv_add_emod a (2 ^ (32 - n).toNat)
    rw [Int.mul_comm] at h
    have h2 : a % 2 ^ (32 - n).toNat = 0 := by omega
    rw [h2]; simp


theorem div_lo (a : Int) (k : Nat) (h : 0 ≤ a) : 0 ≤ a / 2 ^ k := Int.ediv_nonneg h (Int.le_of_lt (pow_pos' _))
theorem div_hi (a : Int) (k : Nat) (h : 0 ≤ a) (h2 : a < 4294967296) : a / 2 ^ k < 4294967296 := by
  have := Int.ediv_le_self (2 ^ k) h
  omega
theorem div_succ (a : Int) (k : Nat) : a / 2 ^ (k + 1) = a / 2 ^ k / 2 := by
  rw [Int.pow_succ, Int.ediv_ediv_of_nonneg (Int.le_of_lt (pow_pos' _))]

theorem nat_xor_self_iff (a b : Nat) : a ^^^ b = 0 ↔ a = b := by
  constructor
  · intro h
    have h2 : a ^^^ b ^^^ b = 0 ^^^ b := by rw [h]
    rw [Nat.xor_assoc, Nat.xor_self, Nat.xor_zero, Nat.zero_xor] at h2
    exact h2
  · rintro rfl; exact Nat.xor_self a
theorem nat_xor_zero (a b k : Nat) : ((a ^^^ b) / 2 ^ k = 0) ↔ a / 2 ^ k = b / 2 ^ k := by
  rw [← Nat.shiftRight_eq_div_pow, ← Nat.shiftRight_eq_div_pow, ← Nat.shiftRight_eq_div_pow, Nat.shiftRight_xor_distrib]
  exact nat_xor_self_iff _ _
theorem fst_nat (a k : Nat) (n : Int) (hk : (32 - n).toNat = k) : fst (a : Int) n = ((a / 2 ^ k * 2 ^ k : Nat) : Int) := by
  unfold fst; rw [hk]; simp
theorem xor_fst (a b k : Nat) (n : Int) (hk : (32 - n).toNat = k) (h : fst (a : Int) n = a) : ((((a ^^^ b : Nat) : Int) / 2 ^ k) == 0) = decide (fst (b : Int) n = (a : Int)) := by
  rw [Bool.eq_iff_iff, decide_eq_true_eq, beq_iff_eq]
  rw [fst_nat b k n hk]
  rw [fst_nat a k n hk] at h
  have e : ((((a ^^^ b : Nat) : Int) / 2 ^ k) = 0) ↔ ((a ^^^ b) / 2 ^ k = 0) := by
    constructor
    · intro h2
      have : (((a ^^^ b) / 2 ^ k : Nat) : Int) = 0 := by simpa using h2
      omega
    · intro h2
      have : (((a ^^^ b) / 2 ^ k : Nat) : Int) = 0 := by rw [h2]; rfl
      simpa using this
  rw [e, nat_xor_zero]
  have hp : 0 < 2 ^ k := Nat.pow_pos (by decide)
  constructor
  · intro h2; rw [← h2]; exact h
  · intro h2
    have h3 : a / 2 ^ k * 2 ^ k = b / 2 ^ k * 2 ^ k := by omega
    exact Nat.eq_of_mul_eq_mul_right hp h3

theorem mul_lo (a : Int) (m k : Nat) (h : 0 ≤ a) : 0 ≤ a / 2 ^ m * 2 ^ k := Int.mul_nonneg (div_lo a m h) (Int.le_of_lt (pow_pos' _))
theorem mul_hi (a : Int) (m k : Nat) (h : 0 ≤ a) (h2 : a < 4294967296) (hk : k ≤ m) : a / 2 ^ m * 2 ^ k < 4294967296 := by
  have h3 : a / 2 ^ m * 2 ^ k ≤ a / 2 ^ m * 2 ^ m := by
    refine Int.mul_le_mul_of_nonneg_left ?_ (div_lo a m h)
    have := Nat.pow_le_pow_right (n := 2) (by decide) hk
    exact_mod_cast this
  have h4 := Int.ediv_mul_le a (Int.ne_of_gt (pow_pos' m))
  omega
theorem mul_succ' (a : Int) (m k : Nat) : a / 2 ^ m * 2 ^ (k + 1) = a / 2 ^ m * 2 ^ k * 2 := by
  rw [Int.pow_succ, Int.mul_assoc]
theorem mul_hi2 (a : Int) (m k : Nat) (h : 0 ≤ a) (h2 : a < 4294967296) (hk : k + 1 ≤ m) : a / 2 ^ m * 2 ^ k * 2 < 4294967296 := by
  rw [← mul_succ']; exact mul_hi a m (k + 1) h h2 hk

theorem inB_has (a n b m : Int) : inB a n b m = (mayB b m && (decide (n ≤ m) && hasB a n b)) := by
  unfold inB hasB
  cases mayB a n <;> cases mayB b m <;> cases decide (n ≤ m) <;> simp

theorem atoi_range {l : List UInt8} {v : Int} (h : Lib.atoiAll l = .ok v) : -9223372036854775808 ≤ v ∧ v ≤ 9223372036854775807 := by
  unfold Lib.atoiAll at h
  split at h
  · cases h
  · dsimp only at h
    split at h
    · cases h
    · cases h
    · split at h
      · cases h
      · split at h
        · cases h
        · split at h <;> (injection h with h; omega)

theorem cut_len (l sep : List UInt8) : (Lib.cut l sep).1.length ≤ l.length ∧ (Lib.cut l sep).2.1.length ≤ l.length := by
  unfold Lib.cut
  split
  · simp; omega
  · simp
theorem bsize (t : ByteArray) : t.size = t.data.toList.length := by
  show t.data.size = _
  rw [Array.length_toList]
theorem cut_left {t p : ByteArray} {sep : List UInt8} (h : p.data.toList = (Lib.cut t.data.toList sep).1) (ht : t.size ≤ 1000000) : p.size ≤ 1000000 := by
  have h1 := (cut_len t.data.toList sep).1
  rw [← h] at h1
  have e1 := bsize p
  have e2 := bsize t
  omega
theorem cut_right {t p : ByteArray} {sep : List UInt8} (h : p.data.toList = (Lib.cut t.data.toList sep).2.1) (ht : t.size ≤ 1000000) : p.size ≤ 1000000 := by
  have h1 := (cut_len t.data.toList sep).2
  rw [← h] at h1
  have e1 := bsize p
  have e2 := bsize t
  omega
theorem pow256 {k : Nat} (h : k ≤ 3) : (256 : Int) ^ k ≤ 16777216 := by
  have : k = 0 ∨ k = 1 ∨ k = 2 ∨ k = 3 := by omega
  rcases this with rfl | rfl | rfl | rfl <;> decide

theorem pow256_succ {x n : Int} {k : Nat} (h : x < 256 ^ k) (hn : n ≤ 255) : x * 256 + n < 256 ^ (k + 1) := by
  rw [Int.pow_succ]; omega

end Wp
end Go.Proofs.YtijkahamgnpobaaDoor

namespace Go.Proofs.YtijkahamgnpobaaDoor
open Go.RowKit
set_option maxHeartbeats 400000 in
theorem mayW_any (a n : Int) (w : World) :
    Calls Tryd.prog 30 #[.agg #[.int .u32 a, .int .i64 n]] w fun e w' => e = .returned (.bool (Wp.mayB a n)) ∧ Below w.heap.size w w' := by
  go_enter Tryd.func30, Tryd.ntmps30
  go_wp2
  · have h1 : 0 ≤ n := by assumption
    have h2 : n ≤ 32 := by assumption
    go_ret
    exact ⟨ret_b (by rw [Wp.shl_zero h1 h2]; simp [Wp.mayB, h1, h2]), by go_grown⟩
  · have h1 : 0 ≤ n := by assumption
    have h2 : ¬ n ≤ 32 := by omega
    go_ret
    exact ⟨ret_b (by simp [Wp.mayB, h2]), by go_grown⟩
  · have h1 : ¬ 0 ≤ n := by omega
    go_ret
    exact ⟨ret_b (by simp [Wp.mayB, h1]), by go_grown⟩

theorem xor_shr {a b n : Int} (ha : 0 ≤ a) (ha2 : a < 4294967296) (hb : 0 ≤ b) (hb2 : b < 4294967296) (h : Wp.fst a n = a) :
    (bits BinOp.xor IntKind.u32 a b / 2 ^ (32 - n).toNat == 0) = decide (Wp.fst b n = a) := by
  rw [u32_xor a b ha ha2 hb hb2]
  obtain ⟨a', rfl⟩ := Int.eq_ofNat_of_zero_le ha
  obtain ⟨b', rfl⟩ := Int.eq_ofNat_of_zero_le hb
  exact Wp.xor_fst a' b' _ n rfl h

end Go.Proofs.YtijkahamgnpobaaDoor
