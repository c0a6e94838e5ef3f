/- What is told is read as it was: plain lists and numbers. -/
import Derived.Test.YtlgdmfbpkmokaaaDoorWf
import Derived.Test.YtlgdmfbpkmokaaaDoorWg
import Derived.Test.YtlgdmfbpkmokaaaDoorWum
import Derived.Test.YtlgdmfbpkmokaaaDoorWh
import Derived.Test.YtlgdmfbpkmokaaaDoorP2
namespace Go.Proofs.YtlgdmfbpkmokaaaDoor
open Go.RowKit

theorem index_at (c : UInt8) (r : List UInt8) : ∀ a : List UInt8, c ∉ a → Lib.index (a ++ c :: r) [c] = a.length
  | [], _ => by simp [Lib.index, List.isPrefixOf]
  | x :: a, h => by
    have hx : ¬ c = x := fun e => h (by simp [e])
    have ih := index_at c r a (fun e => h (by simp [e]))
    simp only [List.cons_append, Lib.index, List.isPrefixOf]
    rw [ih]
    simp [hx]
theorem index_no (c : UInt8) : ∀ a : List UInt8, c ∉ a → Lib.index a [c] = -1
  | [], _ => by simp [Lib.index]
  | x :: a, h => by
    have hx : ¬ c = x := fun e => h (by simp [e])
    have ih := index_no c a (fun e => h (by simp [e]))
    simp only [Lib.index, List.isPrefixOf]
    rw [ih]
    simp [hx]
theorem cut_mid (a r : List UInt8) (c : UInt8) (h : c ∉ a) : Lib.cut (a ++ c :: r) [c] = (a, r, true) := by
  unfold Lib.cut
  rw [index_at c r a h, if_pos (by omega)]
  simp
theorem cut_no (a : List UInt8) (c : UInt8) (h : c ∉ a) : Lib.cut a [c] = (a, [], false) := by
  unfold Lib.cut
  rw [index_no c a h, if_neg (by omega)]

theorem num_fin : ∀ v : Fin 256, num? (Lib.itoa (v.val : Int)) 255 = some (v.val : Int) ∧ 46 ∉ Lib.itoa (v.val : Int) ∧ 47 ∉ Lib.itoa (v.val : Int) := by decide +kernel
theorem num32_fin : ∀ v : Fin 33, num? (Lib.itoa (v.val : Int)) 32 = some (v.val : Int) := by decide +kernel
theorem num_itoa {v : Int} (h : 0 ≤ v) (h2 : v ≤ 255) : num? (Lib.itoa v) 255 = some v ∧ 46 ∉ Lib.itoa v ∧ 47 ∉ Lib.itoa v := by
  obtain ⟨n, rfl⟩ := Int.eq_ofNat_of_zero_le h
  exact num_fin ⟨n, by omega⟩
theorem num32_itoa {v : Int} (h : 0 ≤ v) (h2 : v ≤ 32) : num? (Lib.itoa v) 32 = some v := by
  obtain ⟨n, rfl⟩ := Int.eq_ofNat_of_zero_le h
  exact num32_fin ⟨n, by omega⟩

theorem addrT_eq (a : Int) : addrT a = Lib.itoa (bt a 3) ++ 46 :: (Lib.itoa (bt a 2) ++ 46 :: (Lib.itoa (bt a 1) ++ 46 :: Lib.itoa (bt a 0))) := by
  simp [addrT, Lib.join, List.intercalate, List.intersperse]
theorem addrF_part (k : Nat) (x v : Int) (r : List UInt8) (h : 0 ≤ v) (h2 : v ≤ 255) : addrF (k + 2) x (Lib.itoa v ++ 46 :: r) = addrF (k + 1) (x * 256 + v) r := by
  obtain ⟨n1, n2, _⟩ := num_itoa h h2
  rw [addrF_step, cut_mid _ _ _ n2]
  simp [numB, numI, n1]
theorem addrF_last (x v : Int) (h : 0 ≤ v) (h2 : v ≤ 255) : addrF 1 x (Lib.itoa v) = some (x * 256 + v) := by
  obtain ⟨n1, n2, _⟩ := num_itoa h h2
  rw [addrF_step, cut_no _ _ n2]
  simp [numB, numI, n1]
theorem addr_back {a : Int} (h : 0 ≤ a) (h2 : a < 4294967296) : addrF 4 0 (addrT a) = some a := by
  rw [addrT_eq, addrF_part 2 _ _ _ (bt_bd a 3).1 (bt_bd a 3).2, addrF_part 1 _ _ _ (bt_bd a 2).1 (bt_bd a 2).2, addrF_part 0 _ _ _ (bt_bd a 1).1 (bt_bd a 1).2, addrF_last _ _ (bt_bd a 0).1 (bt_bd a 0).2]
  congr 1
  simp only [bt, Nat.mul_zero, Nat.mul_one]
  rw [show (2 : Int) ^ (8 * 3) = 16777216 by decide, show (2 : Int) ^ (8 * 2) = 65536 by decide, show (2 : Int) ^ 8 = 256 by decide, show (2 : Int) ^ 0 = 1 by decide]
  omega
theorem no47_addr (a : Int) : 47 ∉ addrT a := by
  rw [addrT_eq]
  have h0 := (num_itoa (bt_bd a 0).1 (bt_bd a 0).2).2.2
  have h1 := (num_itoa (bt_bd a 1).1 (bt_bd a 1).2).2.2
  have h2 := (num_itoa (bt_bd a 2).1 (bt_bd a 2).2).2.2
  have h3 := (num_itoa (bt_bd a 3).1 (bt_bd a 3).2).2.2
  simp [h0, h1, h2, h3]
/-- The text of a prefix. -/
def pfT (a n : Int) : List UInt8 := addrT a ++ 47 :: Lib.itoa n
theorem pf_back {a n : Int} (h : 0 ≤ a) (h2 : a < 4294967296) (hm : Wp.mayB a n = true) : pfA (pfT a n) = a ∧ pfN (pfT a n) = n ∧ pfE (pfT a n) = 0 := by
  obtain ⟨n0, n1, _⟩ := Wp.may_of hm
  have hc : Lib.cut (pfT a n) [47] = (addrT a, Lib.itoa n, true) := cut_mid _ _ _ (no47_addr a)
  obtain ⟨e1, e2⟩ := addr_some (addr_back h h2)
  have e3 := num32_itoa n0 n1
  have hok : pfOk (pfT a n) = true := by simp [pfOk, hc, e1, e2, numB, numI, e3, hm]
  obtain ⟨q1, q2, q3⟩ := pf_yes hok
  rw [q1, q2, q3, hc]
  exact ⟨e1, by simp [numI, e3], rfl⟩

theorem hexv_fin : ∀ n : Fin 16, hexv (hexd n.val) = (n.val : Int) := by decide +kernel
theorem hexv_hexd {n : Nat} (h : n < 16) : hexv (hexd n) = (n : Int) := hexv_fin ⟨n, h⟩
theorem unhex_hex : ∀ l : List UInt8, unhexL (hexL l) = some l
  | [] => rfl
  | b :: l => by
    have hb := b.toNat_lt
    simp only [hexL, unhexL]
    rw [hexv_hexd (by omega), hexv_hexd (by omega), unhex_hex l, if_neg (by omega)]
    simp only [Option.map_some, Int.toNat_natCast]
    rw [show 16 * (b.toNat / 16) + b.toNat % 16 = b.toNat by omega]
    simp

theorem getL_from (l : List UInt8) : ∀ x : Nat, l.foldl (fun n b => n * 256 + b.toNat) x = x * 256 ^ l.length + getL l := by
  induction l with
  | nil => intro x; simp [getL]
  | cons b l ih =>
    intro x
    simp only [List.foldl_cons, getL, List.length_cons]
    rw [ih, ih (0 * 256 + b.toNat), Nat.pow_succ]
    rw [Nat.zero_mul, Nat.zero_add, Nat.add_mul, Nat.mul_comm (256 ^ l.length) 256, Nat.mul_assoc]
    omega
theorem get_put (n : Nat) : ∀ k : Nat, getL (putL n k) = n % 256 ^ k
  | 0 => by simp [getL, putL, Nat.mod_one]
  | k + 1 => by
    show (UInt8.ofNat (n / 256 ^ k) :: putL n k).foldl (fun n b => n * 256 + b.toNat) 0 = _
    rw [List.foldl_cons, getL_from, putL_length, get_put n k, Nat.mod_pow_succ, UInt8.toNat_ofNat', Nat.zero_mul, Nat.zero_add]
    rw [show (2 : Nat) ^ 8 = 256 from rfl, Nat.mul_comm]
    omega

/-- Of two prefixes that may be one is within the other, or no address is in both. -/
theorem no_both {a n b m c : Int} (h1 : Wp.mayB a n = true) (h2 : Wp.mayB b m = true) (h3 : Wp.inB a n b m = false) (h4 : Wp.inB b m a n = false) : Wp.hasB a n c = false ∨ Wp.hasB b m c = false := by
  obtain ⟨n0, n1, n2⟩ := Wp.may_of h1
  obtain ⟨m0, m1, m2⟩ := Wp.may_of h2
  by_cases e1 : Wp.fst c n = a
  · by_cases e2 : Wp.fst c m = b
    · rcases Int.le_total n m with h | h
      · have := Wp.in_mk h1 h2 h (by rw [← e2, Wp.fst_fst n0 h m1, e1])
        rw [this] at h3; cases h3
      · have := Wp.in_mk h2 h1 h (by rw [← e1, Wp.fst_fst m0 h n1, e2])
        rw [this] at h4; cases h4
    · exact .inr (by simp [Wp.hasB, e2])
  · exact .inl (by simp [Wp.hasB, e1])
end Go.Proofs.YtlgdmfbpkmokaaaDoor
