/- Plain numbers: the order of prefixes and what is within what. -/
import Derived.Test.YtlgdmfbpkmokaaaDoorP
namespace Go.Proofs.YtlgdmfbpkmokaaaDoor
namespace Wp

theorem pow_split {n m : Int} (_h0 : 0 ≤ n) (h : n ≤ m) (h2 : m ≤ 32) : (2 : Int) ^ (32 - n).toNat = 2 ^ (32 - m).toNat * 2 ^ (m - n).toNat := by
  rw [← Int.pow_add]
  congr 1
  omega
theorem fst_fst {c n m : Int} (h0 : 0 ≤ n) (h : n ≤ m) (h2 : m ≤ 32) : fst (fst c m) n = fst c n := by
  have hp := pow_pos' (32 - m).toNat
  unfold fst
  rw [pow_split h0 h h2, ← Int.ediv_ediv_of_nonneg (Int.le_of_lt hp), ← Int.ediv_ediv_of_nonneg (Int.le_of_lt hp), Int.mul_ediv_cancel _ (Int.ne_of_gt hp)]
theorem fst_mono {a b n : Int} (h : a ≤ b) : fst a n ≤ fst b n := by
  unfold fst
  exact Int.mul_le_mul_of_nonneg_right (Int.ediv_le_ediv (pow_pos' _) h) (Int.le_of_lt (pow_pos' _))
theorem fst_more {b n m : Int} (h0 : 0 ≤ m) (h : m ≤ n) (h2 : n ≤ 32) (hb : fst b m = b) : fst b n = b := by
  unfold fst at *
  have hp := pow_pos' (32 - n).toNat
  rw [pow_split h0 h h2] at hb
  have h3 : b % 2 ^ (32 - n).toNat = 0 := by
    rw [← hb, Int.mul_comm (2 ^ (32 - n).toNat : Int), ← Int.mul_assoc]
    exact Int.mul_emod_left _ _
  have := Int.mul_ediv_add_emod b (2 ^ (32 - n).toNat)
  rw [Int.mul_comm]; omega

theorem may_of {a n : Int} (h : mayB a n = true) : 0 ≤ n ∧ n ≤ 32 ∧ fst a n = a := by simpa [mayB] using h
theorem in_of {a n b m : Int} (h : inB a n b m = true) : mayB a n = true ∧ mayB b m = true ∧ n ≤ m ∧ fst b n = a := by simpa [inB] using h
theorem in_mk {a n b m : Int} (h1 : mayB a n = true) (h2 : mayB b m = true) (h3 : n ≤ m) (h4 : fst b n = a) : inB a n b m = true := by simp [inB, h1, h2, h3, h4]

theorem cmp_neg (a n b m : Int) : cmpI b m a n = - cmpI a n b m := by
  unfold cmpI; (repeat' split) <;> omega
theorem cmp_bd (a n b m : Int) : -1 ≤ cmpI a n b m ∧ cmpI a n b m ≤ 1 := by
  unfold cmpI; (repeat' split) <;> omega
theorem cmp_le {a n b m : Int} : cmpI a n b m ≤ 0 ↔ a < b ∨ (a = b ∧ n ≤ m) := by
  unfold cmpI; (repeat' split) <;> omega
theorem cmp_lt {a n b m : Int} : cmpI a n b m < 0 ↔ a < b ∨ (a = b ∧ n < m) := by
  unfold cmpI; (repeat' split) <;> omega
theorem cmp_tr {a n b m c r : Int} (h : cmpI a n b m < 0) (h2 : cmpI b m c r < 0) : cmpI a n c r < 0 := by
  rw [cmp_lt] at *; omega
theorem in_cmp {a n c r : Int} (h : inB a n c r = true) : cmpI a n c r ≤ 0 := by
  obtain ⟨_, _, h3, h4⟩ := in_of h
  have := fst_le (a := c) (n := n)
  rw [cmp_le]; omega
theorem in_mid {a n b m c r : Int} (h : inB a n c r = true) (hb : mayB b m = true) (h1 : cmpI a n b m ≤ 0) (h2 : cmpI b m c r ≤ 0) : inB a n b m = true := by
  obtain ⟨ha, _, h3, h4⟩ := in_of h
  obtain ⟨n0, n1, n2⟩ := may_of ha
  obtain ⟨m0, m1, m2⟩ := may_of hb
  rw [cmp_le] at h1 h2
  have e1 := fst_mono (a := a) (b := b) (n := n) (by omega)
  have e2 := fst_mono (a := b) (b := c) (n := n) (by omega)
  have e3 : fst b n = a := by omega
  refine in_mk ha hb ?_ e3
  rcases Int.lt_or_le m n with hlt | hle
  · have := fst_more m0 (Int.le_of_lt hlt) n1 m2
    omega
  · exact hle
theorem in_tr {a n b m c r : Int} (h : inB a n b m = true) (h2 : inB b m c r = true) : inB a n c r = true := by
  obtain ⟨ha, hb, h3, h4⟩ := in_of h
  obtain ⟨_, hc, h5, h6⟩ := in_of h2
  obtain ⟨n0, n1, n2⟩ := may_of ha
  obtain ⟨m0, m1, m2⟩ := may_of hb
  refine in_mk ha hc (by omega) ?_
  rw [← fst_fst n0 h3 m1, h6]; exact h4

end Wp
end Go.Proofs.YtlgdmfbpkmokaaaDoor
