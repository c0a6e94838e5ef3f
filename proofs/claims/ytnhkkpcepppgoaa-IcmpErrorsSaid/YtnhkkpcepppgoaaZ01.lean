/- Options of a header: plain mathematics; no program in it.
   Plain numbers of the layer sum: sums of words with carry; no program in it.
   The walks of ip's closures that read and write numbers.
   Lists of bytes in memory: a slice value that reads as a list of lists of bytes.
   The walks of Put and Get, and of the reference's.
   Bytes in memory: a slice value that reads as a list of bytes; no function of the program in it.
   Walks of small functions of the layer wire and of its reference: what they return, and that they leave memory alone but for new blocks.
   Plain numbers of the layer wire: prefixes, their order; no program in it.
   What all walks import; small lemmas on endings and on what a call leaves as it was. -/
import Derived.Test.YtnhkkpcepppgoaaRows
import Derived.WalkKit
import Derived.WalkSpells
import Derived.WalkLawsBesides
import Derived.Lib.Hide
import Derived.Deep.QuietTactic
import Derived.BigQuiet
import Derived.Handy
import Derived.Deep.RegionWith
import Derived.Deep.RegionHeld3
import Derived.StillTailTactics
import Derived.Deep.DrawnRows
import Derived.Laws.BitsAllLaws
import Derived.Lib.AtoiAll
import Derived.Lib.ItoaNum
import Derived.Lib.IndexMore

set_option linter.unusedSimpArgs false
set_option linter.unusedVariables false
namespace Go.Proofs.Ytnhkkpcepppgoaa
open Go.RowKit
attribute [local go_sem ↓] Go.wp_at_zero Go.wp_at_succ

theorem ret_b {a b : Bool} (h : a = b) : Ending.returned (.bool a) = .returned (.bool b) := by rw [h]
theorem ret_i {k : IntKind} {a b : Int} (h : a = b) : Ending.returned (.int k a) = .returned (.int k b) := by rw [h]
theorem ret_ii {k k2 : IntKind} {a a' b b' : Int} (h : a = a') (h2 : b = b') : Ending.returned (.tuple #[.int k a, .int k2 b]) = .returned (.tuple #[.int k a', .int k2 b']) := by rw [h, h2]
theorem bcell {W w1 : World} (hb : Below W.heap.size W w1) : (∀ b o, b < W.heap.size → w1.cell? ⟨b, o, none⟩ = W.cell? ⟨b, o, none⟩) ∧ (∀ b o, b < W.heap.size → w1.frozen? ⟨b, o, none⟩ = W.frozen? ⟨b, o, none⟩) :=
  ⟨fun b o h => hb.cell (p := ⟨b, o, none⟩) h, fun b o h => hb.frozen (p := ⟨b, o, none⟩) h⟩
theorem below_of {w w1 w2 : World} (h : Below w.heap.size w w1) (h2 : Below w1.heap.size w1 w2) : Below w.heap.size w w2 := h.trans (h2.mono h.size)
theorem below_dr0 (B : Nat) (w : World) (n : Nat) : Below B w (w.drewN n) := ⟨rfl, rfl, rfl, Nat.le_refl _, fun _ _ => rfl⟩
theorem wrap8 (n : Int) : IntKind.u8.wrap n = n % 256 := rfl
theorem wrap16 (n : Int) : IntKind.u16.wrap n = n % 65536 := rfl
theorem wrap32 (n : Int) : IntKind.u32.wrap n = n % 4294967296 := rfl

end Go.Proofs.Ytnhkkpcepppgoaa

namespace Go.Proofs.Ytnhkkpcepppgoaa
namespace Wp

/-- The first n of 32 bits, the others noughts. -/
def fst (a n : Int) : Int := a / 2 ^ (32 - n).toNat * 2 ^ (32 - n).toNat
/-- A prefix that may be. -/
def mayB (a n : Int) : Bool := decide (0 ≤ n) && (decide (n ≤ 32) && decide (fst a n = a))
def hasB (a n b : Int) : Bool := mayB a n && decide (fst b n = a)
def inB (a n b m : Int) : Bool := mayB a n && (mayB b m && (decide (n ≤ m) && decide (fst b n = a)))
def cmpI (a n b m : Int) : Int := if a < b then -1 else if b < a then 1 else if n < m then -1 else if m < n then 1 else 0

theorem pow_pos' (k : Nat) : (0 : Int) < 2 ^ k := Int.pow_pos (by decide)

theorem fst_nonneg {a n : Int} (h : 0 ≤ a) : 0 ≤ fst a n := by
  unfold fst
  exact Int.mul_nonneg (Int.ediv_nonneg h (Int.le_of_lt (pow_pos' _))) (Int.le_of_lt (pow_pos' _))
theorem fst_le {a n : Int} : fst a n ≤ a := by
  unfold fst
  exact Int.ediv_mul_le a (Int.ne_of_gt (pow_pos' _))

/-- The shift to the left leaves nothing: the bits behind the first n are noughts. -/
theorem shl_zero {a n : Int} (hn : 0 ≤ n) (hn2 : n ≤ 32) : (a * 2 ^ n.toNat % 4294967296 == 0) = decide (fst a n = a) := by
  have e : (4294967296 : Int) = 2 ^ (32 - n).toNat * 2 ^ n.toNat := by
    rw [← Int.pow_add]
    have : (32 - n).toNat + n.toNat = 32 := by omega
    rw [this]; decide
  have hp := pow_pos' n.toNat
  rw [Bool.eq_iff_iff]
  simp only [beq_iff_eq, decide_eq_true_eq]
  rw [e, Int.mul_comm a, Int.mul_comm (2 ^ (32 - n).toNat : Int), Int.mul_emod_mul_of_pos _ _ hp]
  constructor
  · intro h
    have h2 : a % 2 ^ (32 - n).toNat = 0 := by
      rcases Int.mul_eq_zero.1 h with h | h
      · omega
      · exact h
    unfold fst
    have := Int.mul_ediv_add_emod a (2 ^ (32 - n).toNat)
    rw [h2] at this
    rw [Int.mul_comm]; omega
  · intro h
    unfold fst at h
    have := Int.mul_ediv_add_emod a (2 ^ (32 - n).toNat)
    rw [Int.mul_comm] at h
    have h2 : a % 2 ^ (32 - n).toNat = 0 := by omega
    rw [h2]; simp


theorem div_lo (a : Int) (k : Nat) (h : 0 ≤ a) : 0 ≤ a / 2 ^ k := Int.ediv_nonneg h (Int.le_of_lt (pow_pos' _))
theorem div_hi (a : Int) (k : Nat) (h : 0 ≤ a) (h2 : a < 4294967296) : a / 2 ^ k < 4294967296 := by
  have := Int.ediv_le_self (2 ^ k) h
  omega
theorem div_succ (a : Int) (k : Nat) : a / 2 ^ (k + 1) = a / 2 ^ k / 2 := by
  rw [Int.pow_succ, Int.ediv_ediv_of_nonneg (Int.le_of_lt (pow_pos' _))]

theorem nat_xor_self_iff (a b : Nat) : a ^^^ b = 0 ↔ a = b := by
  constructor
  · intro h
    have h2 : a ^^^ b ^^^ b = 0 ^^^ b := by rw [h]
    rw [Nat.xor_assoc, Nat.xor_self, Nat.xor_zero, Nat.zero_xor] at h2
    exact h2
  · rintro rfl; exact Nat.xor_self a
theorem nat_xor_zero (a b k : Nat) : ((a ^^^ b) / 2 ^ k = 0) ↔ a / 2 ^ k = b / 2 ^ k := by
  rw [← Nat.shiftRight_eq_div_pow, ← Nat.shiftRight_eq_div_pow, ← Nat.shiftRight_eq_div_pow, Nat.shiftRight_xor_distrib]
  exact nat_xor_self_iff _ _
theorem fst_nat (a k : Nat) (n : Int) (hk : (32 - n).toNat = k) : fst (a : Int) n = ((a / 2 ^ k * 2 ^ k : Nat) : Int) := by
  unfold fst; rw [hk]; simp
theorem xor_fst (a b k : Nat) (n : Int) (hk : (32 - n).toNat = k) (h : fst (a : Int) n = a) : ((((a ^^^ b : Nat) : Int) / 2 ^ k) == 0) = decide (fst (b : Int) n = (a : Int)) := by
  rw [Bool.eq_iff_iff, decide_eq_true_eq, beq_iff_eq]
  rw [fst_nat b k n hk]
  rw [fst_nat a k n hk] at h
  have e : ((((a ^^^ b : Nat) : Int) / 2 ^ k) = 0) ↔ ((a ^^^ b) / 2 ^ k = 0) := by
    constructor
    · intro h2
      have : (((a ^^^ b) / 2 ^ k : Nat) : Int) = 0 := by simpa using h2
      omega
    · intro h2
      have : (((a ^^^ b) / 2 ^ k : Nat) : Int) = 0 := by rw [h2]; rfl
      simpa using this
  rw [e, nat_xor_zero]
  have hp : 0 < 2 ^ k := Nat.pow_pos (by decide)
  constructor
  · intro h2; rw [← h2]; exact h
  · intro h2
    have h3 : a / 2 ^ k * 2 ^ k = b / 2 ^ k * 2 ^ k := by omega
    exact Nat.eq_of_mul_eq_mul_right hp h3

theorem mul_lo (a : Int) (m k : Nat) (h : 0 ≤ a) : 0 ≤ a / 2 ^ m * 2 ^ k := Int.mul_nonneg (div_lo a m h) (Int.le_of_lt (pow_pos' _))
theorem mul_hi (a : Int) (m k : Nat) (h : 0 ≤ a) (h2 : a < 4294967296) (hk : k ≤ m) : a / 2 ^ m * 2 ^ k < 4294967296 := by
  have h3 : a / 2 ^ m * 2 ^ k ≤ a / 2 ^ m * 2 ^ m := by
    refine Int.mul_le_mul_of_nonneg_left ?_ (div_lo a m h)
    have := Nat.pow_le_pow_right (n := 2) (by decide) hk
    exact_mod_cast this
  have h4 := Int.ediv_mul_le a (Int.ne_of_gt (pow_pos' m))
  omega
theorem mul_succ' (a : Int) (m k : Nat) : a / 2 ^ m * 2 ^ (k + 1) = a / 2 ^ m * 2 ^ k * 2 := by
  rw [Int.pow_succ, Int.mul_assoc]
theorem mul_hi2 (a : Int) (m k : Nat) (h : 0 ≤ a) (h2 : a < 4294967296) (hk : k + 1 ≤ m) : a / 2 ^ m * 2 ^ k * 2 < 4294967296 := by
  rw [← mul_succ']; exact mul_hi a m (k + 1) h h2 hk

theorem inB_has (a n b m : Int) : inB a n b m = (mayB b m && (decide (n ≤ m) && hasB a n b)) := by
  unfold inB hasB
  cases mayB a n <;> cases mayB b m <;> cases decide (n ≤ m) <;> simp

theorem atoi_range {l : List UInt8} {v : Int} (h : Lib.atoiAll l = .ok v) : -9223372036854775808 ≤ v ∧ v ≤ 9223372036854775807 := by
  unfold Lib.atoiAll at h
  split at h
  · cases h
  · dsimp only at h
    split at h
    · cases h
    · cases h
    · split at h
      · cases h
      · split at h
        · cases h
        · split at h <;> (injection h with h; omega)

theorem cut_len (l sep : List UInt8) : (Lib.cut l sep).1.length ≤ l.length ∧ (Lib.cut l sep).2.1.length ≤ l.length := by
  unfold Lib.cut
  split
  · simp; omega
  · simp
theorem bsize (t : ByteArray) : t.size = t.data.toList.length := by
  show t.data.size = _
  rw [Array.length_toList]
theorem cut_left {t p : ByteArray} {sep : List UInt8} (h : p.data.toList = (Lib.cut t.data.toList sep).1) (ht : t.size ≤ 1000000) : p.size ≤ 1000000 := by
  have h1 := (cut_len t.data.toList sep).1
  rw [← h] at h1
  have e1 := bsize p
  have e2 := bsize t
  omega
theorem cut_right {t p : ByteArray} {sep : List UInt8} (h : p.data.toList = (Lib.cut t.data.toList sep).2.1) (ht : t.size ≤ 1000000) : p.size ≤ 1000000 := by
  have h1 := (cut_len t.data.toList sep).2
  rw [← h] at h1
  have e1 := bsize p
  have e2 := bsize t
  omega
theorem pow256 {k : Nat} (h : k ≤ 3) : (256 : Int) ^ k ≤ 16777216 := by
  have : k = 0 ∨ k = 1 ∨ k = 2 ∨ k = 3 := by omega
  rcases this with rfl | rfl | rfl | rfl <;> decide

theorem pow256_succ {x n : Int} {k : Nat} (h : x < 256 ^ k) (hn : n ≤ 255) : x * 256 + n < 256 ^ (k + 1) := by
  rw [Int.pow_succ]; omega

end Wp
end Go.Proofs.Ytnhkkpcepppgoaa

namespace Go.Proofs.Ytnhkkpcepppgoaa
open Go.RowKit
theorem xor_shr {a b n : Int} (ha : 0 ≤ a) (ha2 : a < 4294967296) (hb : 0 ≤ b) (hb2 : b < 4294967296) (h : Wp.fst a n = a) :
    (bits BinOp.xor IntKind.u32 a b / 2 ^ (32 - n).toNat == 0) = decide (Wp.fst b n = a) := by
  rw [u32_xor a b ha ha2 hb hb2]
  obtain ⟨a', rfl⟩ := Int.eq_ofNat_of_zero_le ha
  obtain ⟨b', rfl⟩ := Int.eq_ofNat_of_zero_le hb
  exact Wp.xor_fst a' b' _ n rfl h

end Go.Proofs.Ytnhkkpcepppgoaa

namespace Go.Proofs.Ytnhkkpcepppgoaa
open Go.RowKit

def bv (l : List UInt8) : List Value := l.map fun b => .int .u8 (b.toNat : Int)

/-- The value reads as these bytes. -/
def Bytes (w : World) (v : Value) (l : List UInt8) : Prop :=
  (l = [] ∧ ∃ a c, v = .slice a 0 c ∧ (a = none → c = 0)) ∨
  ∃ b o c, v = .slice (some ⟨b, o, none⟩) l.length c ∧ b < w.heap.size ∧ l.length ≤ c ∧ ∀ j x, l[j]? = some x → w.cell? ⟨b, o + j, none⟩ = some (.int .u8 (x.toNat : Int))

theorem Bytes.later {w w' : World} {v : Value} {l : List UInt8} (h : Bytes w v l) (hb : Below w.heap.size w w') : Bytes w' v l := by
  rcases h with h | ⟨b, o, c, h1, h2, hp, h3⟩
  · exact .inl h
  · exact .inr ⟨b, o, c, h1, Nat.lt_of_lt_of_le h2 hb.size, hp, fun j x hx => cell_later hb (h3 j x hx)⟩

theorem cell_later' {w wr : World} {B : Nat} {b o : Nat} {v : Value} (h : Below B w wr) (hb : b < B) (hc : w.cell? ⟨b, o, none⟩ = some v) : wr.cell? ⟨b, o, none⟩ = some v :=
  (h.cell (p := ⟨b, o, none⟩) hb).trans hc

theorem own_ne {w : World} {B : Nat} {e : TypeId} {size n : Nat} {v : Value} {xs : List Value} {b : Nat} (h : w.ownsRow B e size v n xs) (hb : b < B) : some b ≠ v.ownBlock := by
  rcases h.2 with ⟨rfl, _⟩ | ⟨g, cap, cur, rfl, hg, _⟩
  · simp [Value.ownBlock]
  · simp [Value.ownBlock]; omega

theorem Bytes.form {w : World} {v : Value} {l : List UInt8} (h : Bytes w v l) : ∃ a c, v = .slice a l.length c := by
  rcases h with ⟨rfl, a, c, rfl, _⟩ | ⟨b, o, c, rfl, _, _⟩
  · exact ⟨a, c, rfl⟩
  · exact ⟨_, c, rfl⟩

theorem Bytes.nil (w : World) (a : Option Addr) (c : Nat) (h : a = none → c = 0 := by intros; first | rfl | contradiction | simp_all) : Bytes w (.slice a 0 c) [] := .inl ⟨rfl, a, c, rfl, h⟩
/-- Without an address there is nothing. -/
theorem Bytes.noaddr {w : World} {n c : Nat} {l : List UInt8} (h : Bytes w (.slice none n c) l) : n = 0 ∧ c = 0 ∧ l = [] := by
  rcases h with ⟨rfl, a, c', h1, h2⟩ | ⟨b, o, c', h1, _, _⟩
  · simp only [Value.slice.injEq] at h1
    obtain ⟨rfl, rfl, rfl⟩ := h1
    exact ⟨rfl, h2 rfl, rfl⟩
  · simp at h1

theorem Bytes.of_own {w : World} {base : Nat} {e : TypeId} {v : Value} {n : Nat} {l : List UInt8} (h : w.ownsRow base e 1 v n (bv l)) : Bytes w v l := by
  obtain ⟨hl, h0 | ⟨g, cap, cur, rfl, hb, hg, hn, hm, hc, ht⟩⟩ := h
  · obtain ⟨rfl, rfl⟩ := h0
    simp [bv] at hl
    subst hl
    exact Bytes.nil _ _ _
  · have hln : l.length = n := by simpa [bv] using hl
    subst hln
    refine .inr ⟨g, 0, cap, rfl, ?_, hn, fun j x hx => ?_⟩
    · rcases Nat.lt_or_ge g w.heap.size with h1 | h1
      · exact h1
      · rw [Array.getElem?_eq_none h1] at hg; cases hg
    · rw [Nat.zero_add, cell_of_row w g j cur e (0, 0) hg]
      have hj : j < l.length := (List.getElem?_eq_some_iff.1 hx).1
      have : (bv l)[j]? = some (.int .u8 (x.toNat : Int)) := by simp [bv, hx]
      rw [← ht, List.getElem?_take, if_pos (by omega)] at this
      simpa using this

theorem push_fold : ∀ (l : List UInt8) (s : ByteArray), (l.map fun b => (b.toNat : Int)).foldl (fun r n => r.push (UInt8.ofNat n.toNat)) s = ⟨(s.data.toList ++ l).toArray⟩
  | [], s => by simp
  | b :: l, s => by
    simp only [List.map_cons, List.foldl_cons]
    rw [push_fold l]
    have : (s.push (UInt8.ofNat ((b.toNat : Int)).toNat)).data.toList = s.data.toList ++ [b] := by
      simp [ByteArray.push]
    rw [this]
    simp

/-- string(b). -/
theorem Bytes.str {P : Program} {w : World} {v : Value} {l : List UInt8} (h : Bytes w v l) {src dst e : TypeId}
    (hs : P.underlying src = some (.slice e)) (he : P.underlying e = some (.int .u8)) (hd : P.underlying dst = some .string) :
    (convert src dst v).run P w = .ok (.string ⟨l.toArray⟩) w := by
  rcases h with ⟨rfl, a, c, rfl, _⟩ | ⟨b, o, c, rfl, hb, _, hc⟩
  · rw [run_convert_bytes_string w src dst e a 0 c hs he hd]
    cases a with
    | none => simp [Conv.bytesToString]; rfl
    | some a =>
      have := run_bytesToString (P := P) w a 0 c [] (by have := run_loadCells_list (P := P) w a [] (by simp); simpa using this)
      rw [this]; rfl
  · rw [run_convert_bytes_string w src dst e _ _ c hs he hd]
    have hl : (loadCells ⟨b, o, none⟩ l.length).run P w = .ok ((l.map fun b => (b.toNat : Int)).map (Value.int .u8)).toArray w := by
      have := run_loadCells_list (P := P) w ⟨b, o, none⟩ (bv l) (fun j u hu => by
        simp only [bv, List.getElem?_map, Option.map_eq_some_iff] at hu
        obtain ⟨x, hx, rfl⟩ := hu
        have := hc j x hx
        cases j with
        | zero => simpa [Addr.add] using this
        | succ j => simpa [Addr.add] using this)
      simpa [bv, List.map_map, Function.comp_def] using this
    rw [run_bytesToString (P := P) w _ _ c _ hl, push_fold]
    rfl

theorem str_eq {a b : List UInt8} (h : a = b) : ((⟨a.toArray⟩ : ByteArray).toList == (⟨b.toArray⟩ : ByteArray).toList) = true := by rw [h]; simp

theorem news_one (w : World) (v : Value) (t : TypeId) : ∀ (j : Nat) (u : Value), [v][j]? = some u → (w.alloc (.cells #[v] t)).cell? ((⟨w.heap.size, 0, none⟩ : Addr).add j) = some u := by
  intro j u hj
  match j, hj with
  | 0, hj => simp at hj; subst hj; simp [Addr.add]
theorem one_int (k : IntKind) (x : Int) : ∀ u ∈ [Value.int k x], u.oneCell' = true := by intro u hu; simp at hu; subst hu; rfl
theorem one_slice (a : Option Addr) (n c : Nat) : ∀ u ∈ [Value.slice a n c], u.oneCell' = true := by intro u hu; simp at hu; subst hu; rfl

theorem own_base {w : World} {B : Nat} {e : TypeId} {size n : Nat} {v : Value} {xs : List Value} (h : w.ownsRow B e size v n xs) {j : Nat} (hj : v.ownBlock = some j) : B ≤ j := by
  rcases h.2 with ⟨rfl, _⟩ | ⟨g, cap, cur, rfl, hg, _⟩
  · simp [Value.ownBlock] at hj
  · simp [Value.ownBlock] at hj; omega

theorem bv_append (a b : List UInt8) : bv (a ++ b) = bv a ++ bv b := by simp [bv]
theorem bv_one (l : List UInt8) : ∀ u ∈ bv l, u.oneCell' = true := by
  intro u hu
  simp only [bv, List.mem_map] at hu
  obtain ⟨b, _, rfl⟩ := hu
  rfl
theorem Bytes.news {w : World} {x : Addr} {n c : Nat} {l : List UInt8} (h : Bytes w (.slice (some x) n c) l) : ∀ (j : Nat) (u : Value), (bv l)[j]? = some u → w.cell? (x.add j) = some u := by
  intro j u hu
  simp only [bv, List.getElem?_map, Option.map_eq_some_iff] at hu
  obtain ⟨y, hy, rfl⟩ := hu
  rcases h with ⟨rfl, _⟩ | ⟨b, o, c', h1, h2, _, h3⟩
  · simp at hy
  · simp only [Value.slice.injEq, Option.some.injEq] at h1
    obtain ⟨rfl, rfl, rfl⟩ := h1
    have := h3 j y hy
    cases j with
    | zero => simpa [Addr.add] using this
    | succ j => simpa [Addr.add] using this
end Go.Proofs.Ytnhkkpcepppgoaa

namespace Go.Proofs.Ytnhkkpcepppgoaa
open Go.RowKit
attribute [local go_sem ↓] Go.wp_at_zero Go.wp_at_succ

/-- The last k bytes of a number, the highest first. -/
def putL (n : Nat) : Nat → List UInt8
  | 0 => []
  | k + 1 => UInt8.ofNat (n / 256 ^ k) :: putL n k
theorem putL_length (n : Nat) : ∀ k, (putL n k).length = k
  | 0 => rfl
  | k + 1 => by simp [putL, putL_length n k]
/-- Has a number room in so many bytes? -/
def room (n : Nat) (size : Int) : Bool := decide (1 ≤ size) && (decide (size ≤ 8) && decide (n < 256 ^ size.toNat))
theorem room_div {n m : Nat} (h1 : 1 ≤ (m : Int)) (h2 : (m : Int) ≤ 8) : room n (m : Int) = decide (n / 256 ^ m = 0) := by
  have e1 : decide (1 ≤ (m : Int)) = true := by simpa using h1
  have e2 : decide ((m : Int) ≤ 8) = true := by simpa using h2
  unfold room
  rw [e1, e2, Int.toNat_natCast, Bool.true_and, Bool.true_and]
  congr 1
  rw [eq_iff_iff, Nat.div_eq_zero_iff]
  have : 0 < 256 ^ m := Nat.pow_pos (by decide)
  omega
/-- What a row of so many noughts is behind k stores from its end on. -/
def putR (n size k : Nat) : List UInt8 := List.replicate (size - k) 0 ++ putL n k
theorem putR_set (n size k : Nat) (h : k < size) : (bv (putR n size k)).set (size - 1 - k) (.int .u8 ((UInt8.ofNat (n / 256 ^ k)).toNat : Int)) = bv (putR n size (k + 1)) := by
  have e : size - k = (size - 1 - k) + 1 := by omega
  have e2 : size - (k + 1) = size - 1 - k := by omega
  unfold putR bv
  rw [e, e2, List.replicate_succ']
  simp only [List.map_append, List.append_assoc, List.map_cons, List.cons_append, List.nil_append, putL]
  rw [List.set_append_right _ _ (by simp)]
  simp

/-- An answer of bytes and an error's number, in new memory. -/
def AnsB (l : List UInt8) (n : Int) (w : World) (e : Ending) (w' : World) : Prop := ∃ v, e = .returned (.tuple #[v, .int .i64 n]) ∧ Bytes w' v l ∧ Below w.heap.size w w'

theorem byte_of (n k : Nat) : (n : Int) / 2 ^ (8 * k) % 256 = ((UInt8.ofNat (n / 256 ^ k)).toNat : Int) := by
  have e : (2 : Nat) ^ (8 * k) = 256 ^ k := by rw [Nat.pow_mul]
  have e2 : (n : Int) / 2 ^ (8 * k) = ((n / 2 ^ (8 * k) : Nat) : Int) := by simp
  rw [e2, e, UInt8.toNat_ofNat']
  simp
theorem shr_zero {n size : Nat} (h : n < 256 ^ size) : ((n : Int) / 2 ^ (8 * size) != 0) = false := by
  have e : (2 : Nat) ^ (8 * size) = 256 ^ size := by rw [Nat.pow_mul]
  have : (n : Int) / 2 ^ (8 * size) = ((n / 2 ^ (8 * size) : Nat) : Int) := by simp
  rw [this, e, Nat.div_eq_of_lt h]; rfl
theorem shr_some {n size : Nat} (h : ¬ n < 256 ^ size) : ((n : Int) / 2 ^ (8 * size) != 0) = true := by
  have e : (2 : Nat) ^ (8 * size) = 256 ^ size := by rw [Nat.pow_mul]
  have e2 : (n : Int) / 2 ^ (8 * size) = ((n / 2 ^ (8 * size) : Nat) : Int) := by simp
  have h3 : 0 < n / 256 ^ size := Nat.div_pos (by omega) (Nat.pow_pos (by decide))
  rw [e2, e, bne_iff_ne]; omega
theorem own_cell {w : World} {base g n cap : Nat} {e : TypeId} {xs : List Value} (h : w.ownsRow base e 1 (.slice (some ⟨g, 0, none⟩) n cap) n xs) (hl : xs.length = n) {j : Nat} (hj : j < n) : ∃ u, w.cell? ⟨g, j, none⟩ = some u := by
  rw [h.cellAt j (by omega)]
  exact ⟨xs[j], List.getElem?_eq_getElem (by omega)⟩

set_option maxHeartbeats 1000000 in
set_option maxRecDepth 100000 in
theorem putW_yes (n size : Nat) (w : World) (h1 : 1 ≤ size) (h2 : size ≤ 8) (h3 : n < 256 ^ size) :
    Calls Try.prog 80 #[.int .u64 (n : Int), .int .i64 (size : Int)] w (AnsB (putL n size) 0 w) := by
  have hi5 : (Try.prog.info? 5).map (fun i => (i.zero, i.size, i.bytes)) = some (some (.int .u8 0), 1, 1) := by kernel_rfl
  obtain ⟨i0, hi, hx⟩ := Option.map_eq_some_iff.1 hi5
  simp only [Prod.mk.injEq] at hx
  obtain ⟨hz0, hz1, hz2⟩ := hx
  obtain ⟨w1, hmk, hown0, hg0⟩ := run_make_full (P := Try.prog) (w := w) w.heap.size 22 5 i0 (.int .u8 0) 1 Try.underlying22 hi hz0 hz1 .i64 .i64 size (by rw [hz2]; omega) (by unfold maxLen; omega) (Nat.le_refl _)
  clear hi5
  have ht : ((n : Int) / 2 ^ (8 * size) != 0) = false := shr_zero h3
  have HU := Lib.hid (show Below w.heap.size w w1 from (Below.refl _ _).grown hg0 (Nat.le_refl _) (by simp))
  have hm : (madeCells (Value.int IntKind.u8 0).cells (size * 1)).toList = bv (putR n size 0) := by
    rw [Nat.mul_one]; show (madeCells #[.int .u8 0] size).toList = _
    rw [toList_madeCells_one]; simp [putR, putL, bv]
  rw [hm] at hown0
  have HO := Lib.hid hown0
  clear h3 hm hown0 hg0
  go_enter Try.func80, Try.ntmps80
  go_wp2
  clear hmk
  go_loopw [24] (fun i wr => ∃ k : Nat, k ≤ size ∧ i = .int .i64 k ∧ Hid (wr.ownsRow w.heap.size 5 1 (.slice (some ⟨w.heap.size, 0, none⟩) size size) size (bv (putR n size k))) ∧ Hid (Below w.heap.size w wr)) (fun i _ => size - (intOf i).toNat)
  case atStart => exact ⟨0, Nat.zero_le _, rfl, HO.out, HU⟩
  case round =>
    obtain ⟨k, hk, rfl, HW, HB⟩ := hrel
    by_cases hlt : k < size
    · obtain ⟨u, hu⟩ := own_cell HW.out (by simp [bv, putR, putL_length]; omega) (j := size - 1 - k) (by omega)
      have hf := HW.out.frozenAt (size - 1 - k)
      go_wp2
      have hst := (HW.out.stored (size - 1 - k) (.int .u8 ((UInt8.ofNat (n / 256 ^ k)).toNat : Int)))
      rw [putR_set n size k hlt] at hst
      rw [byte_of n k]
      exact ⟨⟨k + 1, by omega, by go_num, hst.1, HB.out.setCell (Nat.le_refl _) _⟩, by simp [intOf]; omega⟩
    · have hk2 : k = size := by omega
      subst hk2
      go_wp2
      go_ret2
      refine ⟨_, rfl, Bytes.of_own (base := w.heap.size) (e := 5) (n := k) ?_, HB.out⟩
      have := HW.out
      rwa [show putR n k k = putL n k from by simp [putR]] at this

theorem ret_ansE {n : Int} {w w' : World} (h : Below w.heap.size w w') : AnsB [] n w (.returned (.tuple #[.slice none 0 0, .int .i64 n])) w' := ⟨_, rfl, Bytes.nil _ _ _, h⟩

set_option maxHeartbeats 1000000 in
theorem putW_no (n : Nat) (size : Int) (w : World) (h : room n size = false) :
    Calls Try.prog 80 #[.int .u64 (n : Int), .int .i64 size] w (AnsB [] 2 w) := by
  by_cases h1 : 1 ≤ size
  · by_cases h2 : size ≤ 8
    · obtain ⟨k, rfl⟩ := Int.eq_ofNat_of_zero_le (show 0 ≤ size by omega)
      have h3 : ¬ n < 256 ^ k := by
        intro h3
        have hd : decide (n < 256 ^ k) = true := by simpa using h3
        have e1 : decide (1 ≤ (k : Int)) = true := by simpa using h1
        have e2 : decide ((k : Int) ≤ 8) = true := by simpa using h2
        unfold room at h
        rw [Int.toNat_natCast, hd, e1, e2] at h
        cases h
      have ht : ((n : Int) / 2 ^ (8 * k) != 0) = true := shr_some h3
      clear h h3
      go_enter Try.func80, Try.ntmps80
      go_wp2
      go_ret2
      exact ret_ansE (Below.refl _ _)
    · clear h
      go_enter Try.func80, Try.ntmps80
      go_wp2
      go_ret2
      exact ret_ansE (Below.refl _ _)
  · clear h
    go_enter Try.func80, Try.ntmps80
    go_wp2
    go_ret2
    exact ret_ansE (Below.refl _ _)

/-- The number that bytes are. -/
def getL (l : List UInt8) : Nat := l.foldl (fun n b => n * 256 + b.toNat) 0
theorem getL_snoc (l : List UInt8) (b : UInt8) : getL (l ++ [b]) = getL l * 256 + b.toNat := by simp [getL]
theorem getL_lt : ∀ (k : Nat) (l : List UInt8), l.length = k → getL l < 256 ^ k := by
  intro k
  induction k with
  | zero => intro l h; have := List.eq_nil_of_length_eq_zero h; subst this; decide
  | succ k ih =>
    intro l h
    obtain ⟨r, b, rfl⟩ : ∃ r b, l = r ++ [b] := ⟨l.dropLast, l.getLast (by intro e; subst e; simp at h), (List.dropLast_concat_getLast _).symm⟩
    have hr := ih r (by simp at h; omega)
    rw [getL_snoc, Nat.pow_succ]
    have := b.toNat_lt
    omega
theorem getL_take (l : List UInt8) (k : Nat) (h : k < l.length) : getL (l.take (k + 1)) = getL (l.take k) * 256 + l[k].toNat := by
  rw [List.take_succ_eq_append_getElem h, getL_snoc]
theorem getL_take_lt (l : List UInt8) {k : Nat} (h : k ≤ l.length) (h2 : k ≤ 7) : getL (l.take k) < 72057594037927936 := by
  have h1 := getL_lt k (l.take k) (by simp; omega)
  have h3 : 256 ^ k ≤ 256 ^ 7 := Nat.pow_le_pow_right (by decide) h2
  omega
theorem shl_or64 {a n : Nat} (h : a < 72057594037927936) (h2 : n < 256) : bits .or .u64 ((a : Int) * 256) (n : Int) = ((a * 256 + n : Nat) : Int) := by
  have e : (a : Int) * 256 = ((a * 256 : Nat) : Int) := by omega
  rw [e, u64_or_nat _ _ (by omega) (by omega), nat_join 8 _ _ (by omega) (by omega)]

def getE (l : List UInt8) : Int := if 1 ≤ l.length ∧ l.length ≤ 8 then 0 else 2
def getN (l : List UInt8) : Int := if 1 ≤ l.length ∧ l.length ≤ 8 then (getL l : Int) else 0
theorem get_no {l : List UInt8} (h : ¬ (1 ≤ l.length ∧ l.length ≤ 8)) : getN l = 0 ∧ getE l = 2 := by simp [getN, getE, h]
theorem get_yes {l : List UInt8} (h : 1 ≤ l.length) (h2 : l.length ≤ 8) : getN l = getL l ∧ getE l = 0 := by simp [getN, getE, h, h2]

set_option maxHeartbeats 1000000 in
theorem getW_any (v : Value) (l : List UInt8) (w : World) (hv : Bytes w v l) (hl : l.length ≤ 9223372036854775807) :
    Calls Try.prog 78 #[v] w fun e w' => e = .returned (.tuple #[.int .u64 (getN l), .int .i64 (getE l)]) ∧ w = w' := by
  rcases hv with ⟨rfl, a, c, rfl, _⟩ | ⟨b, o, c, rfl, hb, _, hc⟩
  · go_enter Try.func78, Try.ntmps78
    go_wp2
    go_ret2
    exact ⟨rfl, rfl⟩
  · by_cases h1 : 1 ≤ l.length
    · by_cases h2 : l.length ≤ 8
      · have hG := Lib.hid (get_yes h1 h2)
        have HC := Lib.hid hc
        clear hc
        have c1 : (1 : Int) ≤ l.length := by omega
        have c2 : (l.length : Int) ≤ 8 := by omega
        go_enter Try.func78, Try.ntmps78
        go_wp2
        go_loop [4, 16] (fun x i => ∃ k : Nat, k ≤ l.length ∧ i = .int .i64 k ∧ x = .int .u64 ((getL (l.take k) : Nat) : Int)) (fun _ i => l.length - (intOf i).toNat)
        case atStart => exact ⟨0, Nat.zero_le _, rfl, by simp [getL]⟩
        case round =>
          obtain ⟨k, hk, rfl, rfl⟩ := hrel
          obtain ⟨y, hy⟩ : ∃ y : Nat, y = getL (l.take k) := ⟨_, rfl⟩
          by_cases hlt : k < l.length
          · have hyn : y < 72057594037927936 := by rw [hy]; exact getL_take_lt l (by omega) (by omega)
            have hs := getL_take l k hlt
            have hcell := HC.out k l[k] (List.getElem?_eq_getElem hlt)
            obtain ⟨z, hz⟩ : ∃ z : Nat, z = l[k].toNat := ⟨_, rfl⟩
            have hzn : z < 256 := by rw [hz]; exact l[k].toNat_lt
            rw [← hy]
            rw [← hy, ← hz] at hs
            rw [← hz] at hcell
            have Hs := Lib.hid hs
            clear hs hy hz
            go_wp2
            go_round
            case rel => exact ⟨k + 1, by omega, by go_num, by rw [shl_or64 hyn hzn, Hs.out]⟩
            case measure => simp [intOf]; omega
          · have hk2 : k = l.length := by omega
            subst hk2
            rw [← hy]
            have Hy : Hid (y = getL l) := by rw [List.take_length] at hy; exact hy
            clear hy
            go_wp2
            go_ret2
            exact ⟨ret_ii (by rw [hG.out.1, ← Hy.out]) hG.out.2.symm, rfl⟩
      · have hG := Lib.hid (get_no (l := l) (by omega))
        go_enter Try.func78, Try.ntmps78
        go_wp2
        go_ret2
        exact ⟨ret_ii hG.out.1.symm hG.out.2.symm, rfl⟩
    · have hG := Lib.hid (get_no (l := l) (by omega))
      go_enter Try.func78, Try.ntmps78
      go_wp2
      go_ret2
      exact ⟨ret_ii hG.out.1.symm hG.out.2.symm, rfl⟩

end Go.Proofs.Ytnhkkpcepppgoaa

namespace Go.Proofs.Ytnhkkpcepppgoaa
open Go.RowKit

/-- The value reads as these lists of bytes. -/
def Lists (w : World) (v : Value) (L : List (List UInt8)) : Prop :=
  (L = [] ∧ ∃ a c, v = .slice a 0 c ∧ (a = none → c = 0)) ∨
  ∃ b o c, v = .slice (some ⟨b, o, none⟩) L.length c ∧ b < w.heap.size ∧ L.length ≤ c ∧ ∀ j l, L[j]? = some l → ∃ u, w.cell? ⟨b, o + j, none⟩ = some u ∧ Bytes w u l

theorem Lists.later {w w' : World} {v : Value} {L : List (List UInt8)} (h : Lists w v L) (hb : Below w.heap.size w w') : Lists w' v L := by
  rcases h with h | ⟨b, o, c, h1, h2, hp, h3⟩
  · exact .inl h
  · refine .inr ⟨b, o, c, h1, Nat.lt_of_lt_of_le h2 hb.size, hp, fun j l hl => ?_⟩
    obtain ⟨u, hu, hx⟩ := h3 j l hl
    exact ⟨u, cell_later hb hu, hx.later hb⟩
theorem Lists.form {w : World} {v : Value} {L : List (List UInt8)} (h : Lists w v L) : ∃ a c, v = .slice a L.length c := by
  rcases h with ⟨rfl, a, c, rfl, _⟩ | ⟨b, o, c, rfl, _, _⟩
  · exact ⟨a, c, rfl⟩
  · exact ⟨_, c, rfl⟩
/-- The element at a place: where it lies, in every later world. -/
theorem Lists.at {w : World} {a : Option Addr} {n c : Nat} {L : List (List UInt8)} (h : Lists w (.slice a n c) L) {i : Nat} (hi : i < L.length) :
    ∃ b o, a = some ⟨b, o, none⟩ ∧ b < w.heap.size ∧ ∃ x d, w.cell? ⟨b, o + i, none⟩ = some (.slice x L[i].length d) ∧ Bytes w (.slice x L[i].length d) L[i] := by
  rcases h with ⟨rfl, _⟩ | ⟨b, o, c', h1, h2, _, h3⟩
  · simp at hi
  · obtain ⟨u, hu, hx⟩ := h3 i L[i] (List.getElem?_eq_getElem hi)
    obtain ⟨x, d, rfl⟩ := hx.form
    simp only [Value.slice.injEq] at h1
    exact ⟨b, o, h1.1, h2, x, d, hu, hx⟩
theorem Bytes.at {w : World} {a : Option Addr} {n c : Nat} {l : List UInt8} (h : Bytes w (.slice a n c) l) {i : Nat} (hi : i < l.length) :
    ∃ b o, a = some ⟨b, o, none⟩ ∧ b < w.heap.size ∧ w.cell? ⟨b, o + i, none⟩ = some (.int .u8 (l[i].toNat : Int)) := by
  rcases h with ⟨rfl, _⟩ | ⟨b, o, c', h1, h2, _, h3⟩
  · simp at hi
  · simp only [Value.slice.injEq] at h1
    exact ⟨b, o, h1.1, h2, h3 i _ (List.getElem?_eq_getElem hi)⟩
theorem Lists.nil (w : World) (a : Option Addr) (c : Nat) (h : a = none → c = 0 := by intros; first | rfl | contradiction | simp_all) : Lists w (.slice a 0 c) [] := .inl ⟨rfl, a, c, rfl, h⟩

theorem bytes_lit (w : World) (l : List UInt8) : Bytes (w.alloc (.cells (bv l).toArray 5)) (.slice (some ⟨w.heap.size, 0, none⟩) l.length l.length) l :=
  .inr ⟨w.heap.size, 0, l.length, rfl, by simp, Nat.le_refl _, fun j x hx => by
    have : (bv l)[j]? = some (.int .u8 (x.toNat : Int)) := by simp [bv, hx]
    simp [this]⟩

/-- Bytes that are kept, and all that was there ahead. -/
def KeptB (w0 : World) (v : Value) (l : List UInt8) (w' : World) : Prop := Bytes w' v l ∧ w0.heap.size < w'.heap.size ∧ Below w0.heap.size w0 w'
theorem KeptB.later {w0 w1 w2 : World} {v : Value} {l : List UInt8} (h : KeptB w0 v l w1) (hb : Below w1.heap.size w1 w2) : KeptB w0 v l w2 :=
  ⟨h.1.later hb, Nat.lt_of_lt_of_le h.2.1 hb.size, h.2.2.trans (hb.mono (Nat.le_of_lt h.2.1))⟩
theorem KeptB.drew {w0 w1 : World} {v : Value} {l : List UInt8} (h : KeptB w0 v l w1) : KeptB w0 v l w1.drew := h.later (Below.refl _ _).drew
theorem KeptB.alloc {w0 w1 : World} {v : Value} {l : List UInt8} (h : KeptB w0 v l w1) (o : Obj) : KeptB w0 v l (w1.alloc o) := h.later ((Below.refl _ _).alloc (Nat.le_refl _) o)
theorem KeptB.allocDrew {w0 w1 : World} {v : Value} {l : List UInt8} (h : KeptB w0 v l w1) (o : Obj) : KeptB w0 v l (w1.alloc o).drew := (h.alloc o).drew

theorem ret_u {k : IntKind} {a : Nat} {b : Int} (h : (a : Int) = b) : Ending.returned (.int k a) = .returned (.int k b) := by rw [h]
theorem bytes_take {w : World} {b : Option Addr} {n c : Nat} {l : List UInt8} (h : Bytes w (.slice b n c) l) {k : Nat} (hk : k ≤ l.length) : Bytes w (.slice b k c) (l.take k) := by
  rcases h with ⟨rfl, a, c', h1, h2⟩ | ⟨bl, o, c', h1, h2, hp, h3⟩
  · simp only [Value.slice.injEq] at h1
    obtain ⟨rfl, rfl, rfl⟩ := h1
    have : k = 0 := by simpa using hk
    subst this
    exact .inl ⟨by simp, _, _, rfl, h2⟩
  · simp only [Value.slice.injEq] at h1
    obtain ⟨rfl, rfl, rfl⟩ := h1
    refine .inr ⟨bl, o, c, by rw [List.length_take, Nat.min_eq_left hk], h2, by rw [List.length_take]; omega, fun j x hx => h3 j x ?_⟩
    rw [List.getElem?_take] at hx
    split at hx
    · exact hx
    · cases hx
theorem bytes_drop {w : World} {bl o c : Nat} {l : List UInt8} {n : Nat} (h : Bytes w (.slice (some ⟨bl, o, none⟩) n c) l) (k : Nat) (m : Nat) (hm : m = l.length - k) (d : Nat) (hd : m ≤ d) : Bytes w (.slice (some ⟨bl, o + k, none⟩) m d) (l.drop k) := by
  subst hm
  rcases h with ⟨rfl, a, c', h1, h2⟩ | ⟨bl, o, c', h1, h2, hp, h3⟩
  · simp only [Value.slice.injEq] at h1
    exact .inl ⟨by simp, some ⟨bl, o + k, none⟩, d, by simp, fun h => by cases h⟩
  · simp only [Value.slice.injEq, Option.some.injEq, Addr.mk.injEq] at h1
    obtain ⟨⟨rfl, rfl, _⟩, rfl, rfl⟩ := h1
    refine .inr ⟨bl, o + k, d, by simp, h2, by simpa using hd, fun j x hx => ?_⟩
    rw [List.getElem?_drop] at hx
    rw [Nat.add_assoc]
    exact h3 (k + j) x hx

theorem lists_one3 {W : World} {v : Value} {l : List UInt8} {n : Nat} (h : Bytes W v l) (hc : W.cell? ⟨n, 0, none⟩ = some v) (hn : n < W.heap.size) : Lists W (.slice (some ⟨n, 0, none⟩) 1 1) [l] :=
  .inr ⟨n, 0, 1, rfl, hn, Nat.le_refl _, fun j x hx => by
    match j, hx with
    | 0, hx => simp at hx; subst hx; exact ⟨v, hc, h⟩⟩
theorem lists_two3 {W : World} {u v : Value} {k l : List UInt8} {n : Nat} (g : Bytes W u k) (h : Bytes W v l) (hu : W.cell? ⟨n, 0, none⟩ = some u) (hc : W.cell? ⟨n, 1, none⟩ = some v) (hn : n < W.heap.size) : Lists W (.slice (some ⟨n, 0, none⟩) 2 2) [k, l] :=
  .inr ⟨n, 0, 2, rfl, hn, Nat.le_refl _, fun j x hx => by
    match j, hx with
    | 0, hx => simp at hx; subst hx; exact ⟨u, by simpa using hu, g⟩
    | 1, hx => simp at hx; subst hx; exact ⟨v, by simpa using hc, h⟩⟩

theorem Bytes.cap {w : World} {a : Option Addr} {n c : Nat} {l : List UInt8} (h : Bytes w (.slice a n c) l) : l.length ≤ c := by
  rcases h with ⟨rfl, _⟩ | ⟨b, o, c', e1, e2, e3, e4⟩
  · simp
  · simp only [Value.slice.injEq] at e1
    obtain ⟨rfl, rfl, rfl⟩ := e1
    exact e3
/-- What is cut out of a slice reads as the part. -/
theorem Bytes.sliced {w : World} {a : Option Addr} {n c : Nat} {l : List UInt8} (h : Bytes w (.slice a n c) l) {lo hi m : Nat} (h1 : lo ≤ hi) (h2 : hi ≤ l.length) (h3 : hi ≤ m) (h4 : m ≤ c) : Bytes w (Go.sliced a lo hi m 1) ((l.take hi).drop lo) := by
  unfold Go.sliced
  rcases h with ⟨rfl, a', c', e1, e2⟩ | ⟨b, o, c', e1, e2, e3, e4⟩
  · simp only [Value.slice.injEq] at e1
    obtain ⟨rfl, rfl, rfl⟩ := e1
    have : hi = 0 := by simpa using h2
    subst this
    have : lo = 0 := by omega
    subst this
    refine .inl ⟨by simp, _, _, rfl, fun h => ?_⟩
    split at h
    · omega
    · have : a = none := by simpa using h
      have := e2 this
      omega
  · simp only [Value.slice.injEq] at e1
    obtain ⟨rfl, rfl, rfl⟩ := e1
    rcases Nat.eq_or_lt_of_le h1 with rfl | h5
    · refine .inl ⟨by simp, _, _, by rw [Nat.sub_self], fun h => ?_⟩
      split at h <;> simp at h
    · have hlen : ((l.take hi).drop lo).length = hi - lo := by simp; omega
      rw [if_neg (by omega)]
      refine .inr ⟨b, o + lo, m - lo, ?_, e2, by omega, fun j x hx => ?_⟩
      · rw [hlen]
        simp only [Option.map_some, Nat.mul_one, Value.slice.injEq, and_true]
        unfold Addr.add
        by_cases h0 : lo = 0 <;> simp [h0]
      · rw [List.getElem?_drop, List.getElem?_take] at hx
        split at hx
        · have := e4 (lo + j) x hx
          rw [Nat.add_assoc]; exact this
        · cases hx
theorem cells1 : (Try.prog.underlying 22) = some (.slice (Try.prog.elem 22)) := by kernel_rfl
theorem size1 (w : World) : (sizeOf (Try.prog.elem 22)).run Try.prog w = .ok 1 w := by kernel_rfl
/-- b[i:]. -/
theorem Bytes.cut_l {w : World} {a : Option Addr} {c : Nat} {l : List UInt8} (h : Bytes w (.slice a l.length c) l) (i : Int) (lo : Nat) (hi : i = lo) (hlo : lo ≤ l.length) :
    ∃ a', (∀ w, (Instr.slice 22 (.slice a l.length c) (some (.int .i64 i)) none none).run Try.prog w = .ok (.slice a' (l.length - lo) (c - lo)) w) ∧ Bytes w (.slice a' (l.length - lo) (c - lo)) (l.drop lo) := by
  have hc := h.cap
  subst hi
  have hb := h.sliced hlo (Nat.le_refl _) hc (Nat.le_refl _)
  rw [List.take_length] at hb
  refine ⟨_, fun w => ?_, hb⟩
  rw [run_slice_l w _ a _ _ cells1 _ _ (by omega) (by omega), size1]
  rfl
/-- b[:i]. -/
theorem Bytes.cut_h {w : World} {a : Option Addr} {n c : Nat} {l : List UInt8} (h : Bytes w (.slice a n c) l) (i : Int) (hi : Nat) (he : i = hi) (hlo : hi ≤ l.length) :
    (∀ w, (Instr.slice 22 (.slice a n c) none (some (.int .i64 i)) none).run Try.prog w = .ok (.slice a hi c) w) ∧ Bytes w (.slice a hi c) (l.take hi) := by
  have hc := h.cap
  subst he
  have hb := h.sliced (lo := 0) (Nat.zero_le _) hlo (by omega) (Nat.le_refl _)
  have e : Go.sliced a 0 hi c 1 = .slice a hi c := by
    unfold Go.sliced
    congr 1
    split
    · rfl
    · cases a <;> simp [Addr.add]
  refine ⟨fun w => ?_, bytes_take h hlo⟩
  rw [run_slice_h w _ a _ _ cells1 _ _ (by omega) (by omega), size1]
  show Result.ok (Go.sliced a 0 _ c 1) w = _
  rw [Int.toNat_natCast, e]
end Go.Proofs.Ytnhkkpcepppgoaa

namespace Go.Proofs.Ytnhkkpcepppgoaa
open Go.RowKit
attribute [local go_sem ↓] Go.wp_at_zero Go.wp_at_succ

/-- b[i:j]. -/
theorem Bytes.cut_lh {w : World} {a : Option Addr} {n c : Nat} {l : List UInt8} (h : Bytes w (.slice a n c) l) (i j : Int) (lo hi : Nat) (ei : i = lo) (ej : j = hi) (h1 : lo ≤ hi) (h2 : hi ≤ l.length) :
    ∃ a', (∀ w, (Instr.slice 22 (.slice a n c) (some (.int .i64 i)) (some (.int .i64 j)) none).run Try.prog w = .ok (.slice a' (hi - lo) (c - lo)) w) ∧ Bytes w (.slice a' (hi - lo) (c - lo)) ((l.take hi).drop lo) := by
  have hc := h.cap
  subst ei ej
  have hb := h.sliced h1 h2 (by omega) (Nat.le_refl _)
  refine ⟨_, fun w => ?_, hb⟩
  rw [run_slice_lh w _ a _ _ cells1 _ _ _ _ (by omega) (by omega) (by omega), size1]
  rfl

/-- b[:i], i of whatever kind. -/
theorem Bytes.cut_hk {w : World} {a : Option Addr} {n c : Nat} {l : List UInt8} (kh : IntKind) (h : Bytes w (.slice a n c) l) (i : Int) (hi : Nat) (he : i = hi) (hlo : hi ≤ l.length) :
    (∀ w, (Instr.slice 22 (.slice a n c) none (some (.int kh i)) none).run Try.prog w = .ok (.slice a hi c) w) ∧ Bytes w (.slice a hi c) (l.take hi) := by
  have hc := h.cap
  subst he
  have e : Go.sliced a 0 hi c 1 = .slice a hi c := by
    unfold Go.sliced
    congr 1
    split
    · rfl
    · cases a <;> simp [Addr.add]
  refine ⟨fun w => ?_, bytes_take h hlo⟩
  rw [run_slice_h w _ a _ _ cells1 _ _ (by omega) (by omega), size1]
  show Result.ok (Go.sliced a 0 _ c 1) w = _
  rw [Int.toNat_natCast, e]
theorem quiet_left {P : Program} {f : FuncId} {args : Array Value} {w : World} {n : Nat} {v : Value}
    (h : Calls P f args (w.drewN n) fun e w' => e = .returned v ∧ w.drewN n = w') : Calls P f args (w.drewN n) fun e w'' => e = .returned v ∧ ∃ m, w'' = w.drewN m :=
  h.mono fun _ _ ⟨he, hm⟩ => ⟨he, n, hm.symm⟩
theorem get_part {l : List UInt8} (h : 1 ≤ l.length) (h2 : l.length ≤ 8) : getN l = getL l ∧ getE l = 0 := get_yes h h2

set_option maxHeartbeats 1000000 in
theorem numG_any (at_ size : Nat) (B : Nat) (v : Value) (l : List UInt8) (w : World) (hc : w.cell? ⟨B, 0, none⟩ = some v) (hv : Bytes w v l) (h1 : 1 ≤ size) (h8 : size ≤ 8) (h2 : at_ + size ≤ l.length) (hl : l.length ≤ 1000000) :
    Calls Try.prog 77 #[.int .i64 (at_ : Int), .int .i64 (size : Int), .pointer (some ⟨B, 0, none⟩)] w fun e w' => e = .returned (.int .u64 (getL ((l.take (at_ + size)).drop at_) : Nat)) ∧ w = w' := by
  obtain ⟨a, c, rfl⟩ := hv.form
  obtain ⟨a', hs, hb⟩ := hv.cut_lh (at_ : Int) ((at_ : Int) + size) at_ (at_ + size) rfl (by omega) (by omega) h2
  have hlen : ((l.take (at_ + size)).drop at_).length = size := by simp; omega
  obtain ⟨hg1, hg2⟩ := get_yes (l := (l.take (at_ + size)).drop at_) (by omega) (by omega)
  rw [Nat.add_sub_cancel_left] at hs hb
  have hget := getW_any _ _ w hb (by omega)
  rw [hg1, hg2] at hget
  have HG := Lib.hid hget
  have hs' := hs w
  clear hget hg1 hg2 hlen hb hs hv h1 h8
  have g1 : (at_ : Int) + size ≤ 1000000 := by omega
  clear h2 hl
  go_enter Try.func77, Try.ntmps77
  go_wp2_with fail
  refine HG.out.mono ?_
  rintro e w1 ⟨rfl, rfl⟩
  go_wp2_with fail
  go_ret
  exact ⟨rfl, rfl⟩
end Go.Proofs.Ytnhkkpcepppgoaa

namespace Go.Proofs.Ytnhkkpcepppgoaa
namespace Sm

/-- x + y with carry, of words. -/
def addC (x y : Nat) : Nat := if x + y < 65536 then x + y else x + y - 65535
/-- A number's words, summed with carry. -/
def canon (n : Nat) : Nat := if n = 0 then 0 else (n - 1) % 65535 + 1

theorem addC_lt {x y : Nat} (hx : x < 65536) (hy : y < 65536) : addC x y < 65536 := by unfold addC; split <;> omega
theorem canon_lt (n : Nat) : canon n < 65536 := by unfold canon; split <;> omega
theorem addC_canon (n w : Nat) (hw : w < 65536) : addC (canon n) w = canon (n + w) := by
  unfold addC canon
  by_cases h : n = 0
  · subst h
    by_cases h2 : w = 0
    · subst h2; rfl
    · simp only [if_true]; rw [if_neg (by omega : ¬ 0 + w = 0)]; split <;> omega
  · simp only [if_neg h, if_neg (show ¬ n + w = 0 by omega)]
    split <;> omega
theorem canon_id {n : Nat} (h : n < 65536) : canon n = n := by unfold canon; split <;> omega
theorem addC_canon2 (n m : Nat) : addC (canon n) (canon m) = canon (n + m) := by
  rw [addC_canon _ _ (canon_lt m)]
  unfold canon
  by_cases h : m = 0
  · subst h; simp
  · rw [if_neg h, if_neg (by omega : ¬ n + ((m - 1) % 65535 + 1) = 0), if_neg (by omega : ¬ n + m = 0)]; omega
theorem addC_comm (x y : Nat) : addC x y = addC y x := by unfold addC; rw [Nat.add_comm]
theorem addC_zero {x : Nat} (h : x < 65536) : addC x 0 = x := by unfold addC; rw [if_pos (by omega)]; rfl
theorem addC_rest {x : Nat} (h : x < 65536) : addC x (65535 - x) = 65535 := by unfold addC; split <;> omega
theorem addC_assoc {x y z : Nat} (hx : x < 65536) (hy : y < 65536) (hz : z < 65536) : addC (addC x y) z = addC x (addC y z) := by
  unfold addC; (repeat' split) <;> omega

/-- The byte at a place, a nought behind the end. -/
def at0 (l : List UInt8) (i : Nat) : Nat := (l[i]?.map UInt8.toNat).getD 0
theorem at0_lt (l : List UInt8) (i : Nat) : at0 l i < 256 := by
  unfold at0
  cases h : l[i]? with
  | none => simp
  | some x => simp; exact x.toNat_lt
/-- Word k. -/
def word (l : List UInt8) (k : Nat) : Nat := 256 * at0 l (2 * k) + at0 l (2 * k + 1)
theorem word_lt (l : List UInt8) (k : Nat) : word l k < 65536 := by
  unfold word; have := at0_lt l (2 * k); have := at0_lt l (2 * k + 1); omega
/-- The sum of the first k words, without carry. -/
def upto (l : List UInt8) : Nat → Nat
  | 0 => 0
  | k + 1 => upto l k + word l k
/-- The sum of bytes. -/
def tot (l : List UInt8) : Nat := canon (upto l ((l.length + 1) / 2))
theorem tot_lt (l : List UInt8) : tot l < 65536 := canon_lt _
theorem step (l : List UInt8) (k : Nat) : addC (canon (upto l k)) (word l k) = canon (upto l (k + 1)) := addC_canon _ _ (word_lt l k)

theorem at0_zero {l : List UInt8} {i : Nat} (h : l.length ≤ i) : at0 l i = 0 := by
  unfold at0; rw [List.getElem?_eq_none h]; rfl
theorem upto_more (l : List UInt8) : ∀ d : Nat, upto l ((l.length + 1) / 2 + d) = upto l ((l.length + 1) / 2)
  | 0 => rfl
  | d + 1 => by
    show upto l ((l.length + 1) / 2 + d) + word l ((l.length + 1) / 2 + d) = _
    rw [upto_more l d]
    unfold word
    rw [at0_zero (by omega), at0_zero (by omega)]
    rfl
theorem upto_any (l : List UInt8) {k : Nat} (h : (l.length + 1) / 2 ≤ k) : upto l k = upto l ((l.length + 1) / 2) := by
  have := upto_more l (k - (l.length + 1) / 2)
  rwa [show (l.length + 1) / 2 + (k - (l.length + 1) / 2) = k by omega] at this

theorem at0_left {a b : List UInt8} {i : Nat} (h : i < a.length) : at0 (a ++ b) i = at0 a i := by
  unfold at0; rw [List.getElem?_append_left h]
theorem at0_right {a b : List UInt8} {i : Nat} (h : a.length ≤ i) : at0 (a ++ b) i = at0 b (i - a.length) := by
  unfold at0; rw [List.getElem?_append_right h]
theorem upto_left {a b : List UInt8} : ∀ k : Nat, 2 * k ≤ a.length → upto (a ++ b) k = upto a k
  | 0, _ => rfl
  | k + 1, h => by
    show upto (a ++ b) k + word (a ++ b) k = upto a k + word a k
    rw [upto_left k (by omega)]
    unfold word
    rw [at0_left (by omega), at0_left (by omega)]
theorem upto_right {a b : List UInt8} {n : Nat} (h : a.length = 2 * n) : ∀ k : Nat, upto (a ++ b) (n + k) = upto a n + upto b k
  | 0 => by rw [Nat.add_zero, upto_left n (by omega)]; rfl
  | k + 1 => by
    show upto (a ++ b) (n + k) + word (a ++ b) (n + k) = upto a n + (upto b k + word b k)
    rw [upto_right h k]
    unfold word
    rw [at0_right (by omega), at0_right (by omega), h, show 2 * (n + k) - 2 * n = 2 * k by omega, show 2 * (n + k) + 1 - 2 * n = 2 * k + 1 by omega]
    omega
/-- All words' sum, without carry. -/
def all (l : List UInt8) : Nat := upto l ((l.length + 1) / 2)
theorem tot_all (l : List UInt8) : tot l = canon (all l) := rfl
theorem all_append {a b : List UInt8} {n : Nat} (h : a.length = 2 * n) : all (a ++ b) = all a + all b := by
  unfold all
  rw [List.length_append, show (a.length + b.length + 1) / 2 = n + (b.length + 1) / 2 by omega, upto_right h, show (a.length + 1) / 2 = n by omega]
theorem tot_append {a b : List UInt8} {n : Nat} (h : a.length = 2 * n) : tot (a ++ b) = addC (tot a) (tot b) := by
  rw [tot_all, tot_all, tot_all, addC_canon2, all_append h]
theorem all_pair (x y : UInt8) : all [x, y] = 256 * x.toNat + y.toNat := by
  simp [all, upto, word, at0]
theorem all_zeros2 : all [0, 0] = 0 := by rw [all_pair]; rfl
/-- Turned at an even place. -/
theorem tot_turned {l : List UInt8} {n : Nat} (h : 2 * n ≤ l.length) (he : l.length % 2 = 0) : tot (l.drop (2 * n) ++ l.take (2 * n)) = tot l := by
  have h1 : (l.take (2 * n)).length = 2 * n := by simp; omega
  have h2 : (l.drop (2 * n)).length = 2 * ((l.length - 2 * n) / 2) := by simp; omega
  rw [tot_append h2, addC_comm, ← tot_append h1, List.take_append_drop]
theorem tot_wide {l : List UInt8} {n : Nat} (h : 2 * n ≤ l.length) : tot (l.take (2 * n) ++ [0, 0] ++ l.drop (2 * n)) = tot l := by
  have h1 : (l.take (2 * n)).length = 2 * n := by simp; omega
  have h3 : (l.take (2 * n) ++ [0, 0]).length = 2 * (n + 1) := by simp; omega
  rw [tot_all, all_append h3, all_append h1, all_zeros2, Nat.add_zero, ← all_append h1, List.take_append_drop]
  rfl
theorem tot_parts {l : List UInt8} {n : Nat} (h : 2 * n ≤ l.length) : tot l = addC (tot (l.take (2 * n))) (tot (l.drop (2 * n))) := by
  have h1 : (l.take (2 * n)).length = 2 * n := by simp; omega
  rw [← tot_append h1, List.take_append_drop]
/-- With their checksum behind them they are good. -/
theorem tot_good {l : List UInt8} {n : Nat} (h : l.length = 2 * n) {x y : UInt8} (hx : x.toNat = (65535 - tot l) / 256) (hy : y.toNat = (65535 - tot l) % 256) : tot (l ++ [x, y]) = 65535 := by
  have := tot_lt l
  rw [tot_append h, tot_all [x, y], all_pair, canon_id (by omega), hx, hy]
  have e : 256 * ((65535 - tot l) / 256) + (65535 - tot l) % 256 = 65535 - tot l := by omega
  rw [e]
  exact addC_rest this
/-- The words are changed by one: the sums go along. -/
theorem all_change {a b : List UInt8} {n : Nat} (h : a.length = 2 * n) (x y x' y' : UInt8) :
    all (a ++ [x', y'] ++ b) + (256 * x.toNat + y.toNat) = all (a ++ [x, y] ++ b) + (256 * x'.toNat + y'.toNat) := by
  have h1 : (a ++ [x, y]).length = 2 * (n + 1) := by simp; omega
  have h2 : (a ++ [x', y']).length = 2 * (n + 1) := by simp; omega
  rw [all_append h1, all_append h2, all_append h, all_append h, all_pair, all_pair]
  omega
theorem all_zero_iff : ∀ (l : List UInt8), all l = 0 ↔ ∀ i < l.length, at0 l i = 0 := by
  intro l
  have key : ∀ k, upto l k = 0 ↔ ∀ i < 2 * k, at0 l i = 0 := by
    intro k
    induction k with
    | zero => simp [upto]
    | succ k ih =>
      show upto l k + word l k = 0 ↔ _
      constructor
      · intro h i hi
        have h1 : upto l k = 0 := by omega
        have h2 : word l k = 0 := by omega
        unfold word at h2
        rcases Nat.lt_or_ge i (2 * k) with h3 | h3
        · exact ih.1 h1 i h3
        · rcases (show i = 2 * k ∨ i = 2 * k + 1 by omega) with rfl | rfl <;> omega
      · intro h
        have h1 := ih.2 (fun i hi => h i (by omega))
        unfold word
        rw [h1, h (2 * k) (by omega), h (2 * k + 1) (by omega)]
  unfold all
  rw [key]
  constructor
  · intro h i hi; exact h i (by omega)
  · intro h i hi
    rcases Nat.lt_or_ge i l.length with h1 | h1
    · exact h i h1
    · exact at0_zero h1
/-- The changed checksum. -/
def changed (c m n : Nat) : Nat := 65535 - addC (addC (65535 - c) (65535 - m)) n
theorem canon_pos {n : Nat} (h : 0 < n) : canon (n + 65535) = canon n := by
  unfold canon; rw [if_neg (by omega), if_neg (by omega)]; omega
theorem changed_of {S S' m n : Nat} (hm : m < 65536) (hn : n < 65536) (hS : S' + m = S + n) :
    65535 - canon S' = changed (65535 - canon S) m n ∨ S' = 0 ∧ 65535 - canon S' = 65535 ∧ changed (65535 - canon S) m n = 0 := by
  have hc := canon_lt S
  have e : changed (65535 - canon S) m n = 65535 - canon (S' + 65535) := by
    unfold changed
    rw [show 65535 - (65535 - canon S) = canon S by omega, addC_canon _ _ (by omega), addC_canon _ _ hn]
    congr 2
    omega
  rw [e]
  rcases Nat.eq_zero_or_pos S' with h | h
  · right; subst h; exact ⟨rfl, rfl, rfl⟩
  · left; rw [canon_pos h]

end Sm
end Go.Proofs.Ytnhkkpcepppgoaa

namespace Go.Proofs.Ytnhkkpcepppgoaa
namespace Om
open Sm

/-- What goes over bytes tells: each option, and nothing where one may not be (the last then). -/
def seq (l : List UInt8) : List (Option (List UInt8)) :=
  if l = [] then []
  else if at0 l 0 = 0 then []
  else if at0 l 0 = 1 then seq (l.drop 1)
  else if l.length < 2 ∨ at0 l 1 < 2 ∨ l.length < at0 l 1 then [none]
  else some (l.take (at0 l 1)) :: seq (l.drop (at0 l 1))
termination_by l.length
decreasing_by
  · rename_i h _ _; have : 0 < l.length := List.length_pos_iff.2 h; simp; omega
  · rename_i h _ _ h2; have : 0 < l.length := List.length_pos_iff.2 h; simp; omega

theorem seq_nil : seq [] = [] := by rw [seq]; rfl
theorem seq_end {l : List UInt8} (h : at0 l 0 = 0) : seq l = [] := by
  rw [seq]; split <;> first | rfl | rw [if_pos h]
theorem seq_nop {l : List UInt8} (h0 : 0 < l.length) (h : at0 l 0 = 1) : seq l = seq (l.drop 1) := by
  rw [seq, if_neg (List.length_pos_iff.1 h0), if_neg (by omega), if_pos h]
theorem seq_bad {l : List UInt8} (h0 : 0 < l.length) (h1 : 2 ≤ at0 l 0) (h : l.length < 2 ∨ at0 l 1 < 2 ∨ l.length < at0 l 1) : seq l = [none] := by
  rw [seq, if_neg (List.length_pos_iff.1 h0), if_neg (by omega), if_neg (by omega), if_pos h]
theorem seq_opt {l : List UInt8} (h1 : 2 ≤ at0 l 0) (h2 : 2 ≤ at0 l 1) (h3 : at0 l 1 ≤ l.length) : seq l = some (l.take (at0 l 1)) :: seq (l.drop (at0 l 1)) := by
  rw [seq, if_neg (List.length_pos_iff.1 (by omega)), if_neg (by omega), if_neg (by omega), if_neg (by omega)]

/-- May they be? -/
def ok (l : List UInt8) : Bool := !(seq l).contains none
/-- The options, whole, where they may be; none where not. -/
def raws (l : List UInt8) : List (List UInt8) := if ok l then (seq l).filterMap id else []
theorem seq_some : ∀ (n : Nat) (l : List UInt8), l.length ≤ n → ∀ r, some r ∈ seq l → 2 ≤ r.length ∧ 2 ≤ at0 r 0 ∧ at0 r 1 = r.length
  | 0, l, h, r, hr => by
    have : l = [] := List.length_eq_zero_iff.1 (by omega)
    subst this; rw [seq_nil] at hr; cases hr
  | n + 1, l, h, r, hr => by
    rcases Nat.eq_zero_or_pos l.length with h0 | h0
    · have : l = [] := List.length_eq_zero_iff.1 h0
      subst this; rw [seq_nil] at hr; cases hr
    · by_cases h1 : at0 l 0 = 0
      · rw [seq_end h1] at hr; cases hr
      · by_cases h2 : at0 l 0 = 1
        · rw [seq_nop h0 h2] at hr
          exact seq_some n _ (by simp; omega) r hr
        · by_cases h3 : l.length < 2 ∨ at0 l 1 < 2 ∨ l.length < at0 l 1
          · rw [seq_bad h0 (by omega) h3] at hr; simp at hr
          · rw [seq_opt (by omega) (by omega) (by omega)] at hr
            rcases List.mem_cons.1 hr with e | e
            · simp only [Option.some.injEq] at e
              subst e
              have e0 : at0 (l.take (at0 l 1)) 0 = at0 l 0 := by unfold at0; rw [List.getElem?_take, if_pos (by show 0 < at0 l 1; omega)]
              have e1 : at0 (l.take (at0 l 1)) 1 = at0 l 1 := by
                have : 1 < at0 l 1 := by omega
                show (((l.take (at0 l 1))[1]?).map UInt8.toNat).getD 0 = _
                rw [List.getElem?_take, if_pos this]; rfl
              rw [e0, e1, List.length_take]; omega
            · exact seq_some n _ (by simp; omega) r e
theorem seq_len : ∀ (n : Nat) (l : List UInt8), l.length ≤ n → (seq l).length ≤ l.length
  | 0, l, h => by
    have : l = [] := List.length_eq_zero_iff.1 (by omega)
    subst this; rw [seq_nil]; simp
  | n + 1, l, h => by
    rcases Nat.eq_zero_or_pos l.length with h0 | h0
    · have : l = [] := List.length_eq_zero_iff.1 h0
      subst this; rw [seq_nil]; simp
    · by_cases h1 : at0 l 0 = 0
      · rw [seq_end h1]; simp
      · by_cases h2 : at0 l 0 = 1
        · rw [seq_nop h0 h2]
          have := seq_len n (l.drop 1) (by simp; omega)
          simp at this ⊢; omega
        · by_cases h3 : l.length < 2 ∨ at0 l 1 < 2 ∨ l.length < at0 l 1
          · rw [seq_bad h0 (by omega) h3]; simp; omega
          · rw [seq_opt (by omega) (by omega) (by omega)]
            have := seq_len n (l.drop (at0 l 1)) (by simp; omega)
            simp at this ⊢; omega
end Om
end Go.Proofs.Ytnhkkpcepppgoaa
