/- Walks of the reference's looks at prefixes, of Within and of both orders.
   The walks of the reference's Split, AddrOf, PrefixOf.
   A row of one-cell elements in memory: a slice value that reads as a list of values.
   Plain: texts split, and what the reference reads of them, is what the program reads.
   What is told is read as it was: plain lists and numbers.
   Plain numbers: the order of prefixes and what is within what.
   The walks of Put and Get, and of the reference's.
   What Unhex gives.
   The walk of wire.Hex. -/
import Derived.Deep.AppendLies
import Derived.Test.YtijkahamgnpobaaDoorZ01
import Derived.Test.YtijkahamgnpobaaDoorZ02
import Derived.Test.YtijkahamgnpobaaDoorZ03

set_option linter.unusedSimpArgs false
set_option linter.unusedVariables false
namespace Go.Proofs.YtijkahamgnpobaaDoor
open Go.RowKit
attribute [local go_sem ↓] Go.wp_at_zero Go.wp_at_succ

/-- A digit of sixteen. -/
def hexd (n : Nat) : UInt8 := if n < 10 then UInt8.ofNat (48 + n) else UInt8.ofNat (87 + n)
def hexL : List UInt8 → List UInt8
  | [] => []
  | b :: l => hexd (b.toNat / 16) :: hexd (b.toNat % 16) :: hexL l
theorem hexL_append : ∀ a b : List UInt8, hexL (a ++ b) = hexL a ++ hexL b
  | [], _ => rfl
  | x :: a, b => by simp [hexL, hexL_append a b]
theorem hexL_length : ∀ l : List UInt8, (hexL l).length = 2 * l.length
  | [] => rfl
  | x :: l => by simp [hexL, hexL_length l]; omega
theorem hexL_take (l : List UInt8) (k : Nat) (h : k < l.length) : hexL (l.take (k + 1)) = hexL (l.take k) ++ [hexd (l[k].toNat / 16), hexd (l[k].toNat % 16)] := by
  rw [List.take_succ_eq_append_getElem h, hexL_append]; rfl

theorem and15 {x : Nat} (h : x < 256) : bits BinOp.and IntKind.u8 (x : Int) 15 = (x : Int) % 16 := by
  have := u8_and_nat x 15 h (by omega)
  rw [show ((15 : Nat) : Int) = 15 from rfl] at this
  rw [this, Nat.and_two_pow_sub_one_eq_mod x 4]; omega

def digA : ByteArray := ⟨#[48, 49, 50, 51, 52, 53, 54, 55, 56, 57, 97, 98, 99, 100, 101, 102]⟩
theorem digA_fin : ∀ n : Fin 16, digA.data[n.val]'(by have := n.2; exact this) = hexd n.val := by decide
theorem digA_at (i n : Nat) (hi : i = n) (h : n < 16) (p : i < digA.size) : digA[i]'p = hexd n := by
  subst hi
  exact digA_fin ⟨i, h⟩
theorem digs {x : Nat} (h : x < 256) {p : ((x : Int) / 16).toNat < digA.size} {q : ((x : Int) % 16).toNat < digA.size} :
    (#[Value.int .u8 ((digA[((x : Int) / 16).toNat]'p).toNat : Int), Value.int .u8 ((digA[((x : Int) % 16).toNat]'q).toNat : Int)] : Array Value).toList = bv [hexd (x / 16), hexd (x % 16)] := by
  rw [digA_at _ (x / 16) (by omega) (by omega) p, digA_at _ (x % 16) (by omega) (by omega) q]
  rfl
end Go.Proofs.YtijkahamgnpobaaDoor

namespace Go.Proofs.YtijkahamgnpobaaDoor
open Go.RowKit
attribute [local go_sem ↓] Go.wp_at_zero Go.wp_at_succ

/-- The number of a digit of sixteen, or -1. -/
def hexv (c : UInt8) : Int := if 48 ≤ c.toNat ∧ c.toNat ≤ 57 then (c.toNat : Int) - 48 else if 97 ≤ c.toNat ∧ c.toNat ≤ 102 then (c.toNat : Int) - 87 else -1
def unhexL : List UInt8 → Option (List UInt8)
  | [] => some []
  | [_] => none
  | a :: b :: r => if hexv a < 0 ∨ hexv b < 0 then none else (unhexL r).map fun t => UInt8.ofNat (16 * (hexv a).toNat + (hexv b).toNat) :: t
theorem hexv_bd (c : UInt8) : -1 ≤ hexv c ∧ hexv c ≤ 15 := by
  unfold hexv
  (repeat' split) <;> omega
theorem index_fin : ∀ c : Fin 256, Lib.indexByte [48, 49, 50, 51, 52, 53, 54, 55, 56, 57, 97, 98, 99, 100, 101, 102] (UInt8.ofNat c.val) = hexv (UInt8.ofNat c.val) := by decide +kernel
theorem index_hex (c : UInt8) : Lib.indexByte [48, 49, 50, 51, 52, 53, 54, 55, 56, 57, 97, 98, 99, 100, 101, 102] c = hexv c := by
  have := index_fin ⟨c.toNat, c.toNat_lt⟩
  simpa using this

def unhexB (s : ByteArray) : List UInt8 := (unhexL s.data.toList).getD []
def unhexE (s : ByteArray) : Int := if (unhexL s.data.toList).isSome then 0 else 4

theorem unhexL_append : ∀ (n : Nat) (a b x : List UInt8), a.length ≤ n → unhexL a = some x → unhexL (a ++ b) = (unhexL b).map (x ++ ·) := by
  intro n
  induction n with
  | zero =>
    intro a b x ha h
    have := List.eq_nil_of_length_eq_zero (Nat.le_zero.1 ha)
    subst this
    simp only [unhexL, Option.some.injEq] at h
    subst h
    simp
  | succ n ih =>
    intro a b x ha h
    match a, h with
    | [], h => simp only [unhexL, Option.some.injEq] at h; subst h; simp
    | [_], h => simp [unhexL] at h
    | p :: q :: r, h =>
      simp only [unhexL, List.cons_append] at h ⊢
      split at h
      · cases h
      · rename_i hc
        rw [if_neg hc]
        cases hr : unhexL r with
        | none => rw [hr] at h; cases h
        | some t =>
          rw [hr] at h
          simp only [Option.map_some, Option.some.injEq] at h
          subst h
          rw [ih r b t (by simp at ha; omega) hr]
          cases unhexL b <;> simp
theorem unhexL_step {l x : List UInt8} {k : Nat} (h : unhexL (l.take (2 * k)) = some x) (hk : 2 * k + 1 < l.length) (h0 : ¬ hexv l[2 * k] < 0) (h1 : ¬ hexv l[2 * k + 1] < 0) :
    unhexL (l.take (2 * (k + 1))) = some (x ++ [UInt8.ofNat (16 * (hexv l[2 * k]).toNat + (hexv l[2 * k + 1]).toNat)]) := by
  have e : l.take (2 * (k + 1)) = l.take (2 * k) ++ [l[2 * k], l[2 * k + 1]] := by
    rw [show 2 * (k + 1) = 2 * k + 2 by omega, List.take_add, ← List.getElem_cons_drop (h := show 2 * k < l.length by omega), ← List.getElem_cons_drop (h := hk)]
    rfl
  rw [e, unhexL_append _ _ _ _ (Nat.le_refl _) h]
  simp [unhexL, h0, h1]
theorem unhexL_bad {l x : List UInt8} {k : Nat} (h : unhexL (l.take (2 * k)) = some x) (hk : 2 * k + 1 < l.length) (h0 : hexv l[2 * k] < 0 ∨ hexv l[2 * k + 1] < 0) :
    unhexL l = none := by
  have e : l = l.take (2 * k) ++ (l[2 * k] :: l[2 * k + 1] :: l.drop (2 * k + 2)) := by
    conv => lhs; rw [← List.take_append_drop (2 * k) l]
    rw [← List.getElem_cons_drop (h := show 2 * k < l.length by omega), ← List.getElem_cons_drop (h := hk)]
  rw [e, unhexL_append _ _ _ _ (Nat.le_refl _) h]
  simp [unhexL, h0]
theorem unhexL_odd {l x : List UInt8} {k : Nat} (h : unhexL (l.take (2 * k)) = some x) (hk : l.length = 2 * k + 1) : unhexL l = none := by
  have e : l = l.take (2 * k) ++ [l[2 * k]] := by
    conv => lhs; rw [← List.take_append_drop (2 * k) l]
    rw [← List.getElem_cons_drop (h := show 2 * k < l.length by omega), List.drop_eq_nil_of_le (by omega)]
  rw [e, unhexL_append _ _ _ _ (Nat.le_refl _) h]
  simp [unhexL]

/-- A row whose first bytes are x and whose others are nought. -/
def rowU (x : List UInt8) (m : Nat) : List UInt8 := x ++ List.replicate (m - x.length) 0
theorem rowU_set {x : List UInt8} {m : Nat} (h : x.length < m) (c : UInt8) : (bv (rowU x m)).set x.length (.int .u8 (c.toNat : Int)) = bv (rowU (x ++ [c]) m) := by
  have e : m - x.length = (m - (x ++ [c]).length) + 1 := by simp; omega
  unfold rowU bv
  rw [e, List.replicate_succ, List.map_append, List.set_append_right _ _ (by simp)]
  simp

theorem unhexL_len : ∀ (n : Nat) (a x : List UInt8), a.length ≤ n → unhexL a = some x → a.length = 2 * x.length := by
  intro n
  induction n with
  | zero =>
    intro a x ha h
    have := List.eq_nil_of_length_eq_zero (Nat.le_zero.1 ha)
    subst this
    simp only [unhexL, Option.some.injEq] at h
    subst h
    rfl
  | succ n ih =>
    intro a x ha h
    match a, h with
    | [], h => simp only [unhexL, Option.some.injEq] at h; subst h; rfl
    | [_], h => simp [unhexL] at h
    | p :: q :: r, h =>
      simp only [unhexL] at h
      split at h
      · cases h
      · cases hr : unhexL r with
        | none => rw [hr] at h; cases h
        | some t =>
          rw [hr] at h
          simp only [Option.map_some, Option.some.injEq] at h
          subst h
          have := ih r t (by simp at ha; omega) hr
          simp; omega
theorem at_list (s : ByteArray) (j : Nat) (h : j < s.size) (h2 : j < s.data.toList.length) : s.data.toList[j] = s[j] := by
  rw [Array.getElem_toList]; rfl
theorem or_zero8 : ∀ d : Fin 16, bits .or .u8 0 (d.val : Int) = (d.val : Int) := by decide +kernel
theorem or_join8 : ∀ d e : Fin 16, bits .or .u8 ((d.val : Int) * 16) (e.val : Int) = (d.val : Int) * 16 + (e.val : Int) := by decide +kernel
theorem or_z {d : Int} (h : 0 ≤ d) (h2 : d ≤ 15) : bits .or .u8 0 d = d := by
  have := or_zero8 ⟨d.toNat, by omega⟩
  simpa [Int.toNat_of_nonneg h] using this
theorem or_j {d e : Int} (h : 0 ≤ d) (h2 : d ≤ 15) (h3 : 0 ≤ e) (h4 : e ≤ 15) : bits .or .u8 (d * 16) e = d * 16 + e := by
  have := or_join8 ⟨d.toNat, by omega⟩ ⟨e.toNat, by omega⟩
  simpa [Int.toNat_of_nonneg h, Int.toNat_of_nonneg h3] using this
theorem unhex_no {s : ByteArray} (h : unhexL s.data.toList = none) : unhexB s = [] ∧ unhexE s = 4 := by simp [unhexB, unhexE, h]
theorem unhex_yes {s : ByteArray} {x : List UInt8} (h : unhexL s.data.toList = some x) : unhexB s = x ∧ unhexE s = 0 := by simp [unhexB, unhexE, h]
/-- What of two digits has been read. -/
def Acc (p q : Int) (t : Nat) (a : Int) : Prop := (t = 0 → a = 0) ∧ (t = 1 → a = p ∧ 0 ≤ p) ∧ (t = 2 → 0 ≤ p ∧ 0 ≤ q ∧ a = 16 * p + q)
theorem Acc.step {p q : Int} {t : Nat} {a d : Int} (h : Acc p q t a) (ht : t < 2) (h0 : t = 0 → d = p) (h1 : t = 1 → d = q) (hd : 0 ≤ d) : Acc p q (t + 1) (16 * a + d) := by
  obtain ⟨a0, a1, a2⟩ := h
  unfold Acc
  have : t = 0 ∨ t = 1 := by omega
  rcases this with rfl | rfl
  · have := a0 rfl; have := h0 rfl; exact ⟨by omega, by omega, by omega⟩
  · have := a1 rfl; have := h1 rfl; exact ⟨by omega, by omega, by omega⟩
end Go.Proofs.YtijkahamgnpobaaDoor

namespace Go.Proofs.YtijkahamgnpobaaDoor
open Go.RowKit
attribute [local go_sem ↓] Go.wp_at_zero Go.wp_at_succ

/-- The last k bytes of a number, the highest first. -/
def putL (n : Nat) : Nat → List UInt8
  | 0 => []
  | k + 1 => UInt8.ofNat (n / 256 ^ k) :: putL n k
theorem putL_length (n : Nat) : ∀ k, (putL n k).length = k
  | 0 => rfl
  | k + 1 => by simp [putL, putL_length n k]
/-- Has a number room in so many bytes? -/
def room (n : Nat) (size : Int) : Bool := decide (1 ≤ size) && (decide (size ≤ 8) && decide (n < 256 ^ size.toNat))
theorem room_div {n m : Nat} (h1 : 1 ≤ (m : Int)) (h2 : (m : Int) ≤ 8) : room n (m : Int) = decide (n / 256 ^ m = 0) := by
  have e1 : decide (1 ≤ (m : Int)) = true := by simpa using h1
  have e2 : decide ((m : Int) ≤ 8) = true := by simpa using h2
  unfold room
  rw [e1, e2, Int.toNat_natCast, Bool.true_and, Bool.true_and]
  congr 1
  rw [eq_iff_iff, Nat.div_eq_zero_iff]
  have : 0 < 256 ^ m := Nat.pow_pos (by decide)
  omega
/-- What a row of so many noughts is behind k stores from its end on. -/
def putR (n size k : Nat) : List UInt8 := List.replicate (size - k) 0 ++ putL n k
theorem putR_set (n size k : Nat) (h : k < size) : (bv (putR n size k)).set (size - 1 - k) (.int .u8 ((UInt8.ofNat (n / 256 ^ k)).toNat : Int)) = bv (putR n size (k + 1)) := by
  have e : size - k = (size - 1 - k) + 1 := by omega
  have e2 : size - (k + 1) = size - 1 - k := by omega
  unfold putR bv
  rw [e, e2, List.replicate_succ']
  simp only [List.map_append, List.append_assoc, List.map_cons, List.cons_append, List.nil_append, putL]
  rw [List.set_append_right _ _ (by simp)]
  simp

/-- An answer of bytes and an error's number, in new memory. -/
def AnsB (l : List UInt8) (n : Int) (w : World) (e : Ending) (w' : World) : Prop := ∃ v, e = .returned (.tuple #[v, .int .i64 n]) ∧ Bytes w' v l ∧ Below w.heap.size w w'

theorem byte_of (n k : Nat) : (n : Int) / 2 ^ (8 * k) % 256 = ((UInt8.ofNat (n / 256 ^ k)).toNat : Int) := by
  have e : (2 : Nat) ^ (8 * k) = 256 ^ k := by rw [Nat.pow_mul]
  have e2 : (n : Int) / 2 ^ (8 * k) = ((n / 2 ^ (8 * k) : Nat) : Int) := by simp
  rw [e2, e, UInt8.toNat_ofNat']
  simp
theorem shr_zero {n size : Nat} (h : n < 256 ^ size) : ((n : Int) / 2 ^ (8 * size) != 0) = false := by
  have e : (2 : Nat) ^ (8 * size) = 256 ^ size := by rw [Nat.pow_mul]
  have : (n : Int) / 2 ^ (8 * size) = ((n / 2 ^ (8 * size) : Nat) : Int) := by simp
  rw [this, e, Nat.div_eq_of_lt h]; rfl
theorem shr_some {n size : Nat} (h : ¬ n < 256 ^ size) : ((n : Int) / 2 ^ (8 * size) != 0) = true := by
  have e : (2 : Nat) ^ (8 * size) = 256 ^ size := by rw [Nat.pow_mul]
  have e2 : (n : Int) / 2 ^ (8 * size) = ((n / 2 ^ (8 * size) : Nat) : Int) := by simp
  have h3 : 0 < n / 256 ^ size := Nat.div_pos (by omega) (Nat.pow_pos (by decide))
  rw [e2, e, bne_iff_ne]; omega
theorem own_cell {w : World} {base g n cap : Nat} {e : TypeId} {xs : List Value} (h : w.ownsRow base e 1 (.slice (some ⟨g, 0, none⟩) n cap) n xs) (hl : xs.length = n) {j : Nat} (hj : j < n) : ∃ u, w.cell? ⟨g, j, none⟩ = some u := by
  rw [h.cellAt j (by omega)]
  exact ⟨xs[j], List.getElem?_eq_getElem (by omega)⟩

set_option maxHeartbeats 1000000 in
set_option maxRecDepth 100000 in
theorem putW_yes (n size : Nat) (w : World) (h1 : 1 ≤ size) (h2 : size ≤ 8) (h3 : n < 256 ^ size) :
    Calls Tryd.prog 46 #[.int .u64 (n : Int), .int .i64 (size : Int)] w (AnsB (putL n size) 0 w) := by
  have hi5 : (Tryd.prog.info? 5).map (fun i => (i.zero, i.size, i.bytes)) = some (some (.int .u8 0), 1, 1) := by kernel_rfl
  obtain ⟨i0, hi, hx⟩ := Option.map_eq_some_iff.1 hi5
  simp only [Prod.mk.injEq] at hx
  obtain ⟨hz0, hz1, hz2⟩ := hx
  obtain ⟨w1, hmk, hown0, hg0⟩ := run_make_full (P := Tryd.prog) (w := w) w.heap.size 28 5 i0 (.int .u8 0) 1 Tryd.underlying28 hi hz0 hz1 .i64 .i64 size (by rw [hz2]; omega) (by unfold maxLen; omega) (Nat.le_refl _)
  clear hi5
  have ht : ((n : Int) / 2 ^ (8 * size) != 0) = false := shr_zero h3
  have HU := Lib.hid (show Below w.heap.size w w1 from (Below.refl _ _).grown hg0 (Nat.le_refl _) (by simp))
  have hm : (madeCells (Value.int IntKind.u8 0).cells (size * 1)).toList = bv (putR n size 0) := by
    rw [Nat.mul_one]; show (madeCells #[.int .u8 0] size).toList = _
    rw [toList_madeCells_one]; simp [putR, putL, bv]
  rw [hm] at hown0
  have HO := Lib.hid hown0
  clear h3 hm hown0 hg0
  go_enter Tryd.func46, Tryd.ntmps46
  go_wp2
  clear hmk
  go_loopw [24] (fun i wr => ∃ k : Nat, k ≤ size ∧ i = .int .i64 k ∧ Hid (wr.ownsRow w.heap.size 5 1 (.slice (some ⟨w.heap.size, 0, none⟩) size size) size (bv (putR n size k))) ∧ Hid (Below w.heap.size w wr)) (fun i _ => size - (intOf i).toNat)
  case atStart => exact ⟨0, Nat.zero_le _, rfl, HO.out, HU⟩
  case round =>
    obtain ⟨k, hk, rfl, HW, HB⟩ := hrel
    by_cases hlt : k < size
    · obtain ⟨u, hu⟩ := own_cell HW.out (by simp [bv, putR, putL_length]; omega) (j := size - 1 - k) (by omega)
      have hf := HW.out.frozenAt (size - 1 - k)
      go_wp2
      have hst := (HW.out.stored (size - 1 - k) (.int .u8 ((UInt8.ofNat (n / 256 ^ k)).toNat : Int)))
      rw [putR_set n size k hlt] at hst
      rw [byte_of n k]
      exact ⟨⟨k + 1, by omega, by go_num, hst.1, HB.out.setCell (Nat.le_refl _) _⟩, by simp [intOf]; omega⟩
    · have hk2 : k = size := by omega
      subst hk2
      go_wp2
      go_ret2
      refine ⟨_, rfl, Bytes.of_own (base := w.heap.size) (e := 5) (n := k) ?_, HB.out⟩
      have := HW.out
      rwa [show putR n k k = putL n k from by simp [putR]] at this

theorem ret_ansE {n : Int} {w w' : World} (h : Below w.heap.size w w') : AnsB [] n w (.returned (.tuple #[.slice none 0 0, .int .i64 n])) w' := ⟨_, rfl, Bytes.nil _ _ _, h⟩

set_option maxHeartbeats 1000000 in
theorem putW_no (n : Nat) (size : Int) (w : World) (h : room n size = false) :
    Calls Tryd.prog 46 #[.int .u64 (n : Int), .int .i64 size] w (AnsB [] 2 w) := by
  by_cases h1 : 1 ≤ size
  · by_cases h2 : size ≤ 8
    · obtain ⟨k, rfl⟩ := Int.eq_ofNat_of_zero_le (show 0 ≤ size by omega)
      have h3 : ¬ n < 256 ^ k := by
        intro h3
        have hd : decide (n < 256 ^ k) = true := by simpa using h3
        have e1 : decide (1 ≤ (k : Int)) = true := by simpa using h1
        have e2 : decide ((k : Int) ≤ 8) = true := by simpa using h2
        unfold room at h
        rw [Int.toNat_natCast, hd, e1, e2] at h
        cases h
      have ht : ((n : Int) / 2 ^ (8 * k) != 0) = true := shr_some h3
      clear h h3
      go_enter Tryd.func46, Tryd.ntmps46
      go_wp2
      go_ret2
      exact ret_ansE (Below.refl _ _)
    · clear h
      go_enter Tryd.func46, Tryd.ntmps46
      go_wp2
      go_ret2
      exact ret_ansE (Below.refl _ _)
  · clear h
    go_enter Tryd.func46, Tryd.ntmps46
    go_wp2
    go_ret2
    exact ret_ansE (Below.refl _ _)

/-- The number that bytes are. -/
def getL (l : List UInt8) : Nat := l.foldl (fun n b => n * 256 + b.toNat) 0
theorem getL_snoc (l : List UInt8) (b : UInt8) : getL (l ++ [b]) = getL l * 256 + b.toNat := by simp [getL]
theorem getL_lt : ∀ (k : Nat) (l : List UInt8), l.length = k → getL l < 256 ^ k := by
  intro k
  induction k with
  | zero => intro l h; have := List.eq_nil_of_length_eq_zero h; subst this; decide
  | succ k ih =>
    intro l h
    obtain ⟨r, b, rfl⟩ : ∃ r b, l = r ++ [b] := ⟨l.dropLast, l.getLast (by intro e; subst e; simp at h), (List.dropLast_concat_getLast _).symm⟩
    have hr := ih r (by simp at h; omega)
    rw [getL_snoc, Nat.pow_succ]
    have := b.toNat_lt
    omega
theorem getL_take (l : List UInt8) (k : Nat) (h : k < l.length) : getL (l.take (k + 1)) = getL (l.take k) * 256 + l[k].toNat := by
  rw [List.take_succ_eq_append_getElem h, getL_snoc]
theorem getL_take_lt (l : List UInt8) {k : Nat} (h : k ≤ l.length) (h2 : k ≤ 7) : getL (l.take k) < 72057594037927936 := by
  have h1 := getL_lt k (l.take k) (by simp; omega)
  have h3 : 256 ^ k ≤ 256 ^ 7 := Nat.pow_le_pow_right (by decide) h2
  omega
theorem shl_or64 {a n : Nat} (h : a < 72057594037927936) (h2 : n < 256) : bits .or .u64 ((a : Int) * 256) (n : Int) = ((a * 256 + n : Nat) : Int) := by
  have e : (a : Int) * 256 = ((a * 256 : Nat) : Int) := by omega
  rw [e, u64_or_nat _ _ (by omega) (by omega), nat_join 8 _ _ (by omega) (by omega)]

def getE (l : List UInt8) : Int := if 1 ≤ l.length ∧ l.length ≤ 8 then 0 else 2
def getN (l : List UInt8) : Int := if 1 ≤ l.length ∧ l.length ≤ 8 then (getL l : Int) else 0
theorem get_no {l : List UInt8} (h : ¬ (1 ≤ l.length ∧ l.length ≤ 8)) : getN l = 0 ∧ getE l = 2 := by simp [getN, getE, h]
theorem get_yes {l : List UInt8} (h : 1 ≤ l.length) (h2 : l.length ≤ 8) : getN l = getL l ∧ getE l = 0 := by simp [getN, getE, h, h2]

set_option maxHeartbeats 1000000 in
theorem getW_any (v : Value) (l : List UInt8) (w : World) (hv : Bytes w v l) (hl : l.length ≤ 9223372036854775807) :
    Calls Tryd.prog 47 #[v] w fun e w' => e = .returned (.tuple #[.int .u64 (getN l), .int .i64 (getE l)]) ∧ w = w' := by
  rcases hv with ⟨rfl, a, c, rfl, _⟩ | ⟨b, o, c, rfl, hb, _, hc⟩
  · go_enter Tryd.func47, Tryd.ntmps47
    go_wp2
    go_ret2
    exact ⟨rfl, rfl⟩
  · by_cases h1 : 1 ≤ l.length
    · by_cases h2 : l.length ≤ 8
      · have hG := Lib.hid (get_yes h1 h2)
        have HC := Lib.hid hc
        clear hc
        have c1 : (1 : Int) ≤ l.length := by omega
        have c2 : (l.length : Int) ≤ 8 := by omega
        go_enter Tryd.func47, Tryd.ntmps47
        go_wp2
        go_loop [4, 16] (fun x i => ∃ k : Nat, k ≤ l.length ∧ i = .int .i64 k ∧ x = .int .u64 ((getL (l.take k) : Nat) : Int)) (fun _ i => l.length - (intOf i).toNat)
        case atStart => exact ⟨0, Nat.zero_le _, rfl, by simp [getL]⟩
        case round =>
          obtain ⟨k, hk, rfl, rfl⟩ := hrel
          obtain ⟨y, hy⟩ : ∃ y : Nat, y = getL (l.take k) := ⟨_, rfl⟩
          by_cases hlt : k < l.length
          · have hyn : y < 72057594037927936 := by rw [hy]; exact getL_take_lt l (by omega) (by omega)
            have hs := getL_take l k hlt
            have hcell := HC.out k l[k] (List.getElem?_eq_getElem hlt)
            obtain ⟨z, hz⟩ : ∃ z : Nat, z = l[k].toNat := ⟨_, rfl⟩
            have hzn : z < 256 := by rw [hz]; exact l[k].toNat_lt
            rw [← hy]
            rw [← hy, ← hz] at hs
            rw [← hz] at hcell
            have Hs := Lib.hid hs
            clear hs hy hz
            go_wp2
            go_round
            case rel => exact ⟨k + 1, by omega, by go_num, by rw [shl_or64 hyn hzn, Hs.out]⟩
            case measure => simp [intOf]; omega
          · have hk2 : k = l.length := by omega
            subst hk2
            rw [← hy]
            have Hy : Hid (y = getL l) := by rw [List.take_length] at hy; exact hy
            clear hy
            go_wp2
            go_ret2
            exact ⟨ret_ii (by rw [hG.out.1, ← Hy.out]) hG.out.2.symm, rfl⟩
      · have hG := Lib.hid (get_no (l := l) (by omega))
        go_enter Tryd.func47, Tryd.ntmps47
        go_wp2
        go_ret2
        exact ⟨ret_ii hG.out.1.symm hG.out.2.symm, rfl⟩
    · have hG := Lib.hid (get_no (l := l) (by omega))
      go_enter Tryd.func47, Tryd.ntmps47
      go_wp2
      go_ret2
      exact ⟨ret_ii hG.out.1.symm hG.out.2.symm, rfl⟩

end Go.Proofs.YtijkahamgnpobaaDoor

namespace Go.Proofs.YtijkahamgnpobaaDoor
namespace Wp

theorem pow_split {n m : Int} (_h0 : 0 ≤ n) (h : n ≤ m) (h2 : m ≤ 32) : (2 : Int) ^ (32 - n).toNat = 2 ^ (32 - m).toNat * 2 ^ (m - n).toNat := by
  rw [← Int.pow_add]
  congr 1
  omega
theorem fst_fst {c n m : Int} (h0 : 0 ≤ n) (h : n ≤ m) (h2 : m ≤ 32) : fst (fst c m) n = fst c n := by
  have hp := pow_pos' (32 - m).toNat
  unfold fst
  rw [pow_split h0 h h2, ← Int.ediv_ediv_of_nonneg (Int.le_of_lt hp), ← Int.ediv_ediv_of_nonneg (Int.le_of_lt hp), Int.mul_ediv_cancel _ (Int.ne_of_gt hp)]
theorem fst_mono {a b n : Int} (h : a ≤ b) : fst a n ≤ fst b n := by
  unfold fst
  exact Int.mul_le_mul_of_nonneg_right (Int.ediv_le_ediv (pow_pos' _) h) (Int.le_of_lt (pow_pos' _))
theorem fst_more {b n m : Int} (h0 : 0 ≤ m) (h : m ≤ n) (h2 : n ≤ 32) (hb : fst b m = b) : fst b n = b := by
  unfold fst at *
  have hp := pow_pos' (32 - n).toNat
  rw [pow_split h0 h h2] at hb
  have h3 : b % 2 ^ (32 - n).toNat = 0 := by
    rw [← hb, Int.mul_comm (2 ^ (32 - n).toNat : Int), ← Int.mul_assoc]
    exact Int.mul_emod_left _ _
  have := Int.mul_ediv_add_emod b (2 ^ (32 - n).toNat)
  rw [Int.mul_comm]; omega

theorem may_of {a n : Int} (h : mayB a n = true) : 0 ≤ n ∧ n ≤ 32 ∧ fst a n = a := by simpa [mayB] using h
theorem in_of {a n b m : Int} (h : inB a n b m = true) : mayB a n = true ∧ mayB b m = true ∧ n ≤ m ∧ fst b n = a := by simpa [inB] using h
theorem in_mk {a n b m : Int} (h1 : mayB a n = true) (h2 : mayB b m = true) (h3 : n ≤ m) (h4 : fst b n = a) : inB a n b m = true := by simp [inB, h1, h2, h3, h4]

theorem cmp_neg (a n b m : Int) : cmpI b m a n = - cmpI a n b m := by
  unfold cmpI; (repeat' split) <;> omega
theorem cmp_bd (a n b m : Int) : -1 ≤ cmpI a n b m ∧ cmpI a n b m ≤ 1 := by
  unfold cmpI; (repeat' split) <;> omega
theorem cmp_le {a n b m : Int} : cmpI a n b m ≤ 0 ↔ a < b ∨ (a = b ∧ n ≤ m) := by
  unfold cmpI; (repeat' split) <;> omega
theorem cmp_lt {a n b m : Int} : cmpI a n b m < 0 ↔ a < b ∨ (a = b ∧ n < m) := by
  unfold cmpI; (repeat' split) <;> omega
theorem cmp_tr {a n b m c r : Int} (h : cmpI a n b m < 0) (h2 : cmpI b m c r < 0) : cmpI a n c r < 0 := by
  rw [cmp_lt] at *; omega
theorem in_cmp {a n c r : Int} (h : inB a n c r = true) : cmpI a n c r ≤ 0 := by
  obtain ⟨_, _, h3, h4⟩ := in_of h
  have := fst_le (a := c) (n := n)
  rw [cmp_le]; omega
theorem in_mid {a n b m c r : Int} (h : inB a n c r = true) (hb : mayB b m = true) (h1 : cmpI a n b m ≤ 0) (h2 : cmpI b m c r ≤ 0) : inB a n b m = true := by
  obtain ⟨ha, _, h3, h4⟩ := in_of h
  obtain ⟨n0, n1, n2⟩ := may_of ha
  obtain ⟨m0, m1, m2⟩ := may_of hb
  rw [cmp_le] at h1 h2
  have e1 := fst_mono (a := a) (b := b) (n := n) (by omega)
  have e2 := fst_mono (a := b) (b := c) (n := n) (by omega)
  have e3 : fst b n = a := by omega
  refine in_mk ha hb ?_ e3
  rcases Int.lt_or_le m n with hlt | hle
  · have := fst_more m0 (Int.le_of_lt hlt) n1 m2
    omega
  · exact hle
theorem in_tr {a n b m c r : Int} (h : inB a n b m = true) (h2 : inB b m c r = true) : inB a n c r = true := by
  obtain ⟨ha, hb, h3, h4⟩ := in_of h
  obtain ⟨_, hc, h5, h6⟩ := in_of h2
  obtain ⟨n0, n1, n2⟩ := may_of ha
  obtain ⟨m0, m1, m2⟩ := may_of hb
  refine in_mk ha hc (by omega) ?_
  rw [← fst_fst n0 h3 m1, h6]; exact h4

end Wp
end Go.Proofs.YtijkahamgnpobaaDoor

namespace Go.Proofs.YtijkahamgnpobaaDoor
open Go.RowKit

theorem index_at (c : UInt8) (r : List UInt8) : ∀ a : List UInt8, c ∉ a → Lib.index (a ++ c :: r) [c] = a.length
  | [], _ => by simp [Lib.index, List.isPrefixOf]
  | x :: a, h => by
    have hx : ¬ c = x := fun e => h (by simp [e])
    have ih := index_at c r a (fun e => h (by simp [e]))
    simp only [List.cons_append, Lib.index, List.isPrefixOf]
    rw [ih]
    simp [hx]
theorem index_no (c : UInt8) : ∀ a : List UInt8, c ∉ a → Lib.index a [c] = -1
  | [], _ => by simp [Lib.index]
  | x :: a, h => by
    have hx : ¬ c = x := fun e => h (by simp [e])
    have ih := index_no c a (fun e => h (by simp [e]))
    simp only [Lib.index, List.isPrefixOf]
    rw [ih]
    simp [hx]
theorem cut_mid (a r : List UInt8) (c : UInt8) (h : c ∉ a) : Lib.cut (a ++ c :: r) [c] = (a, r, true) := by
  unfold Lib.cut
  rw [index_at c r a h, if_pos (by omega)]
  simp
theorem cut_no (a : List UInt8) (c : UInt8) (h : c ∉ a) : Lib.cut a [c] = (a, [], false) := by
  unfold Lib.cut
  rw [index_no c a h, if_neg (by omega)]

theorem num_fin : ∀ v : Fin 256, num? (Lib.itoa (v.val : Int)) 255 = some (v.val : Int) ∧ 46 ∉ Lib.itoa (v.val : Int) ∧ 47 ∉ Lib.itoa (v.val : Int) := by decide +kernel
theorem num32_fin : ∀ v : Fin 33, num? (Lib.itoa (v.val : Int)) 32 = some (v.val : Int) := by decide +kernel
theorem num_itoa {v : Int} (h : 0 ≤ v) (h2 : v ≤ 255) : num? (Lib.itoa v) 255 = some v ∧ 46 ∉ Lib.itoa v ∧ 47 ∉ Lib.itoa v := by
  obtain ⟨n, rfl⟩ := Int.eq_ofNat_of_zero_le h
  exact num_fin ⟨n, by omega⟩
theorem num32_itoa {v : Int} (h : 0 ≤ v) (h2 : v ≤ 32) : num? (Lib.itoa v) 32 = some v := by
  obtain ⟨n, rfl⟩ := Int.eq_ofNat_of_zero_le h
  exact num32_fin ⟨n, by omega⟩

theorem addrT_eq (a : Int) : addrT a = Lib.itoa (bt a 3) ++ 46 :: (Lib.itoa (bt a 2) ++ 46 :: (Lib.itoa (bt a 1) ++ 46 :: Lib.itoa (bt a 0))) := by
  simp [addrT, Lib.join, List.intercalate, List.intersperse]
theorem addrF_part (k : Nat) (x v : Int) (r : List UInt8) (h : 0 ≤ v) (h2 : v ≤ 255) : addrF (k + 2) x (Lib.itoa v ++ 46 :: r) = addrF (k + 1) (x * 256 + v) r := by
  obtain ⟨n1, n2, _⟩ := num_itoa h h2
  rw [addrF_step, cut_mid _ _ _ n2]
  simp [numB, numI, n1]
theorem addrF_last (x v : Int) (h : 0 ≤ v) (h2 : v ≤ 255) : addrF 1 x (Lib.itoa v) = some (x * 256 + v) := by
  obtain ⟨n1, n2, _⟩ := num_itoa h h2
  rw [addrF_step, cut_no _ _ n2]
  simp [numB, numI, n1]
theorem addr_back {a : Int} (h : 0 ≤ a) (h2 : a < 4294967296) : addrF 4 0 (addrT a) = some a := by
  rw [addrT_eq, addrF_part 2 _ _ _ (bt_bd a 3).1 (bt_bd a 3).2, addrF_part 1 _ _ _ (bt_bd a 2).1 (bt_bd a 2).2, addrF_part 0 _ _ _ (bt_bd a 1).1 (bt_bd a 1).2, addrF_last _ _ (bt_bd a 0).1 (bt_bd a 0).2]
  congr 1
  simp only [bt, Nat.mul_zero, Nat.mul_one]
  rw [show (2 : Int) ^ (8 * 3) = 16777216 by decide, show (2 : Int) ^ (8 * 2) = 65536 by decide, show (2 : Int) ^ 8 = 256 by decide, show (2 : Int) ^ 0 = 1 by decide]
  omega
theorem no47_addr (a : Int) : 47 ∉ addrT a := by
  rw [addrT_eq]
  have h0 := (num_itoa (bt_bd a 0).1 (bt_bd a 0).2).2.2
  have h1 := (num_itoa (bt_bd a 1).1 (bt_bd a 1).2).2.2
  have h2 := (num_itoa (bt_bd a 2).1 (bt_bd a 2).2).2.2
  have h3 := (num_itoa (bt_bd a 3).1 (bt_bd a 3).2).2.2
  simp [h0, h1, h2, h3]
/-- The text of a prefix. -/
def pfT (a n : Int) : List UInt8 := addrT a ++ 47 :: Lib.itoa n
theorem pf_back {a n : Int} (h : 0 ≤ a) (h2 : a < 4294967296) (hm : Wp.mayB a n = true) : pfA (pfT a n) = a ∧ pfN (pfT a n) = n ∧ pfE (pfT a n) = 0 := by
  obtain ⟨n0, n1, _⟩ := Wp.may_of hm
  have hc : Lib.cut (pfT a n) [47] = (addrT a, Lib.itoa n, true) := cut_mid _ _ _ (no47_addr a)
  obtain ⟨e1, e2⟩ := addr_some (addr_back h h2)
  have e3 := num32_itoa n0 n1
  have hok : pfOk (pfT a n) = true := by simp [pfOk, hc, e1, e2, numB, numI, e3, hm]
  obtain ⟨q1, q2, q3⟩ := pf_yes hok
  rw [q1, q2, q3, hc]
  exact ⟨e1, by simp [numI, e3], rfl⟩

theorem hexv_fin : ∀ n : Fin 16, hexv (hexd n.val) = (n.val : Int) := by decide +kernel
theorem hexv_hexd {n : Nat} (h : n < 16) : hexv (hexd n) = (n : Int) := hexv_fin ⟨n, h⟩
theorem unhex_hex : ∀ l : List UInt8, unhexL (hexL l) = some l
  | [] => rfl
  | b :: l => by
    have hb := b.toNat_lt
    simp only [hexL, unhexL]
    rw [hexv_hexd (by omega), hexv_hexd (by omega), unhex_hex l, if_neg (by omega)]
    simp only [Option.map_some, Int.toNat_natCast]
    rw [show 16 * (b.toNat / 16) + b.toNat % 16 = b.toNat by omega]
    simp

theorem getL_from (l : List UInt8) : ∀ x : Nat, l.foldl (fun n b => n * 256 + b.toNat) x = x * 256 ^ l.length + getL l := by
  induction l with
  | nil => intro x; simp [getL]
  | cons b l ih =>
    intro x
    simp only [List.foldl_cons, getL, List.length_cons]
    rw [ih, ih (0 * 256 + b.toNat), Nat.pow_succ]
    rw [Nat.zero_mul, Nat.zero_add, Nat.add_mul, Nat.mul_comm (256 ^ l.length) 256, Nat.mul_assoc]
    omega
theorem get_put (n : Nat) : ∀ k : Nat, getL (putL n k) = n % 256 ^ k
  | 0 => by simp [getL, putL, Nat.mod_one]
  | k + 1 => by
    show (UInt8.ofNat (n / 256 ^ k) :: putL n k).foldl (fun n b => n * 256 + b.toNat) 0 = _
    rw [List.foldl_cons, getL_from, putL_length, get_put n k, Nat.mod_pow_succ, UInt8.toNat_ofNat', Nat.zero_mul, Nat.zero_add]
    rw [show (2 : Nat) ^ 8 = 256 from rfl, Nat.mul_comm]
    omega

/-- Of two prefixes that may be one is within the other, or no address is in both. -/
theorem no_both {a n b m c : Int} (h1 : Wp.mayB a n = true) (h2 : Wp.mayB b m = true) (h3 : Wp.inB a n b m = false) (h4 : Wp.inB b m a n = false) : Wp.hasB a n c = false ∨ Wp.hasB b m c = false := by
  obtain ⟨n0, n1, n2⟩ := Wp.may_of h1
  obtain ⟨m0, m1, m2⟩ := Wp.may_of h2
  by_cases e1 : Wp.fst c n = a
  · by_cases e2 : Wp.fst c m = b
    · rcases Int.le_total n m with h | h
      · have := Wp.in_mk h1 h2 h (by rw [← e2, Wp.fst_fst n0 h m1, e1])
        rw [this] at h3; cases h3
      · have := Wp.in_mk h2 h1 h (by rw [← e1, Wp.fst_fst m0 h n1, e2])
        rw [this] at h4; cases h4
    · exact .inr (by simp [Wp.hasB, e2])
  · exact .inl (by simp [Wp.hasB, e1])
end Go.Proofs.YtijkahamgnpobaaDoor

namespace Go.Proofs.YtijkahamgnpobaaDoor
open Go.RowKit

/-- A text's parts between bytes c. -/
def splitL (c : UInt8) : List UInt8 → List (List UInt8)
  | [] => [[]]
  | x :: r => if x = c then [] :: splitL c r else match splitL c r with
    | [] => [[x]]
    | p :: ps => (x :: p) :: ps
/-- Bytes ahead of the first part. -/
def ahead (q : List UInt8) : List (List UInt8) → List (List UInt8)
  | [] => [q]
  | p :: ps => (q ++ p) :: ps
theorem splitL_ne (c : UInt8) (l : List UInt8) : ∃ p ps, splitL c l = p :: ps := by
  cases l with
  | nil => exact ⟨[], [], rfl⟩
  | cons x r =>
    unfold splitL
    split
    · exact ⟨_, _, rfl⟩
    · split <;> exact ⟨_, _, rfl⟩
theorem split_hit (c : UInt8) (r : List UInt8) : splitL c (c :: r) = [] :: splitL c r := by simp [splitL]
theorem split_miss {c x : UInt8} (h : x ≠ c) (r : List UInt8) : splitL c (x :: r) = ahead [x] (splitL c r) := by
  obtain ⟨p, ps, e⟩ := splitL_ne c r
  rw [show splitL c (x :: r) = (match splitL c r with | [] => [[x]] | p :: ps => (x :: p) :: ps) by rw [splitL, if_neg h], e]; rfl
theorem ahead_ahead (a b : List UInt8) (s : List (List UInt8)) : ahead a (ahead b s) = ahead (a ++ b) s := by
  cases s <;> simp [ahead]
theorem ahead_nil (c : UInt8) (l : List UInt8) : ahead [] (splitL c l) = splitL c l := by
  obtain ⟨p, ps, e⟩ := splitL_ne c l
  rw [e]; rfl
theorem split_no {c : UInt8} : ∀ {a : List UInt8}, c ∉ a → splitL c a = [a]
  | [], _ => rfl
  | x :: a, h => by
    have h1 : x ≠ c := fun e => h (by simp [e])
    have h2 : c ∉ a := fun e => h (by simp [e])
    rw [split_miss h1, split_no h2]; rfl
theorem split_mid {c : UInt8} (r : List UInt8) : ∀ {a : List UInt8}, c ∉ a → splitL c (a ++ c :: r) = a :: splitL c r
  | [], _ => split_hit c r
  | x :: a, h => by
    have h1 : x ≠ c := fun e => h (by simp [e])
    have h2 : c ∉ a := fun e => h (by simp [e])
    rw [List.cons_append, split_miss h1, split_mid r h2]; rfl
theorem split_cut (c : UInt8) (l : List UInt8) : splitL c l = if (Lib.cut l [c]).2.2 = true then (Lib.cut l [c]).1 :: splitL c (Lib.cut l [c]).2.1 else [(Lib.cut l [c]).1] := by
  by_cases h : c ∈ l
  · obtain ⟨a, r, rfl, ha⟩ := List.eq_append_cons_of_mem h
    rw [cut_mid a r c ha, split_mid r ha]; rfl
  · rw [cut_no l c h, split_no h]; rfl

/-! ### Numbers -/
theorem table : ∀ v : Fin 256, Lib.atoiAll (Lib.itoa (v.val : Int)) = .ok (v.val : Int) ∧ refOk (Lib.itoa (v.val : Int)) = true ∧ decN (Lib.itoa (v.val : Int)) = v.val := by decide +kernel
theorem decN_snoc (r : List UInt8) (b : UInt8) : decN (r ++ [b]) = 10 * decN r + (b.toNat - 48) := by simp [decN]
theorem decN_pos : ∀ (l : List UInt8), l ≠ [] → l.all dig = true → l.head? ≠ some 48 → 0 < decN l := by
  intro l
  induction h : l.length generalizing l with
  | zero => intro h1; exact absurd (List.eq_nil_of_length_eq_zero h) h1
  | succ n ih =>
    intro h1 h2 h3
    obtain ⟨r, b, rfl⟩ : ∃ r b, l = r ++ [b] := ⟨l.dropLast, l.getLast h1, (List.dropLast_concat_getLast _).symm⟩
    rw [decN_snoc]
    by_cases hr : r = []
    · subst hr
      have hb : b ≠ 48 := fun e => h3 (by simp [e])
      have hd : dig b = true := by simpa using h2
      simp [dig] at hd
      have : b.toNat ≠ 48 := fun e => hb (UInt8.toNat_inj.1 e)
      omega
    · have := ih r (by simp at h; omega) hr (by simp at h2; simpa using h2.1) (by
        cases r with
        | nil => exact absurd rfl hr
        | cons x r => simpa using h3)
      omega
theorem dec_text : ∀ (l : List UInt8), l ≠ [] → l.all dig = true → (1 < l.length → l.head? ≠ some 48) → Lib.decDigits (decN l) = l := by
  intro l
  induction h : l.length generalizing l with
  | zero => intro h1; exact absurd (List.eq_nil_of_length_eq_zero h) h1
  | succ n ih =>
    intro h1 h2 h3
    obtain ⟨r, b, rfl⟩ : ∃ r b, l = r ++ [b] := ⟨l.dropLast, l.getLast h1, (List.dropLast_concat_getLast _).symm⟩
    have hd : dig b = true := by
      rw [List.all_append, Bool.and_eq_true] at h2
      simpa using h2.2
    simp [dig] at hd
    have hb : UInt8.ofNat (48 + (b.toNat - 48)) = b := by rw [show 48 + (b.toNat - 48) = b.toNat by omega]; exact UInt8.ofNat_toNat
    rw [decN_snoc, Lib.decDigits]
    by_cases hr : r = []
    · subst hr
      have e : decN [] = 0 := rfl
      rw [e, dif_pos (by omega), show 48 + (10 * 0 + (b.toNat - 48)) = 48 + (b.toNat - 48) by omega, hb]; rfl
    · have hra : r.all dig = true := by rw [List.all_append, Bool.and_eq_true] at h2; exact h2.1
      have hlr : 1 < n + 1 := by
        have := List.length_pos_iff.2 hr
        rw [← h]; simp; omega
      have hrh : r.head? ≠ some 48 := by
        cases r with
        | nil => exact absurd rfl hr
        | cons x r => simpa using h3 hlr
      have hp := decN_pos r hr hra hrh
      rw [dif_neg (by omega), show (10 * decN r + (b.toNat - 48)) / 10 = decN r by omega, show (10 * decN r + (b.toNat - 48)) % 10 = b.toNat - 48 by omega, hb]
      rw [ih r (by simp at h; omega) hr hra (fun _ => hrh)]
theorem num_ref (l : List UInt8) (most : Int) (hm : 0 ≤ most ∧ most ≤ 255) : numB l most = refB l most ∧ (refB l most = true → numI l most = decN l) := by
  have back : ∀ v : Int, 0 ≤ v → v ≤ most → l = Lib.itoa v → num? l most = some v ∧ refB l most = true ∧ (decN l : Int) = v := by
    intro v h0 h1 hl
    obtain ⟨n, rfl⟩ := Int.eq_ofNat_of_zero_le h0
    have ht := table ⟨n, by omega⟩
    simp only at ht
    subst hl
    refine ⟨?_, ?_, by rw [ht.2.2]⟩
    · unfold num?
      rw [ht.1]
      simp [h1]
    · unfold refB
      rw [ht.2.1, ht.2.2]
      simpa using h1
  have fwd : refB l most = true → l = Lib.itoa (decN l : Int) ∧ (decN l : Int) ≤ most := by
    intro h
    unfold refB at h
    simp only [Bool.and_eq_true, decide_eq_true_eq] at h
    obtain ⟨hok, hle⟩ := h
    unfold refOk at hok
    simp only [Bool.and_eq_true, decide_eq_true_eq, Bool.not_eq_true', Bool.and_eq_false_iff, decide_eq_false_iff_not] at hok
    obtain ⟨h1, h2, h3, h4⟩ := hok
    have hne : l ≠ [] := by intro e; subst e; simp at h1
    have := dec_text l hne h4 (fun hlt => by rcases h3 with h3 | h3; exact absurd hlt h3; exact h3)
    refine ⟨?_, hle⟩
    unfold Lib.itoa
    rw [if_neg (by omega), Int.toNat_natCast, this]
  constructor
  · cases hr : refB l most with
    | true =>
      obtain ⟨h1, h2⟩ := fwd hr
      have := back _ (by omega) h2 h1
      unfold numB
      rw [this.1]; rfl
    | false =>
      unfold numB
      cases hn : num? l most with
      | none => rfl
      | some v =>
        exfalso
        unfold num? at hn
        split at hn
        · split at hn
          · rename_i hc
            obtain ⟨q1, q2, q3⟩ := hc
            have := back _ q1 q2 q3.symm
            rw [hr] at this
            cases this.2.1
          · cases hn
        · cases hn
  · intro hr
    obtain ⟨h1, h2⟩ := fwd hr
    have := back _ (by omega) h2 h1
    unfold numI
    rw [this.1]; rfl
end Go.Proofs.YtijkahamgnpobaaDoor

namespace Go.Proofs.YtijkahamgnpobaaDoor
open Go.RowKit

def Row (w : World) (v : Value) (xs : List Value) : Prop :=
  (xs = [] ∧ ∃ a c, v = .slice a 0 c ∧ (a = none → c = 0)) ∨
  ∃ b o c, v = .slice (some ⟨b, o, none⟩) xs.length c ∧ b < w.heap.size ∧ xs.length ≤ c ∧ ∀ j x, xs[j]? = some x → w.cell? ⟨b, o + j, none⟩ = some x
theorem Row.later {w w' : World} {v : Value} {l : List Value} (h : Row w v l) (hb : Below w.heap.size w w') : Row w' v l := by
  rcases h with h | ⟨b, o, c, h1, h2, hp, h3⟩
  · exact .inl h
  · exact .inr ⟨b, o, c, h1, Nat.lt_of_lt_of_le h2 hb.size, hp, fun j x hx => cell_later hb (h3 j x hx)⟩
theorem Row.form {w : World} {v : Value} {l : List Value} (h : Row w v l) : ∃ a c, v = .slice a l.length c := by
  rcases h with ⟨rfl, a, c, rfl, _⟩ | ⟨b, o, c, rfl, _, _⟩
  · exact ⟨a, c, rfl⟩
  · exact ⟨_, c, rfl⟩
theorem Row.at {w : World} {a : Option Addr} {n c : Nat} {l : List Value} (h : Row w (.slice a n c) l) {i : Nat} {x : Value} (hi : l[i]? = some x) :
    ∃ b o, a = some ⟨b, o, none⟩ ∧ b < w.heap.size ∧ w.cell? ⟨b, o + i, none⟩ = some x := by
  rcases h with ⟨rfl, _⟩ | ⟨b, o, c', h1, h2, _, h3⟩
  · simp at hi
  · simp only [Value.slice.injEq] at h1
    exact ⟨b, o, h1.1, h2, h3 i _ hi⟩
theorem Row.of_own {w : World} {base : Nat} {e : TypeId} {v : Value} {n : Nat} {l : List Value} (h : w.ownsRow base e 1 v n l) : Row w v l := by
  obtain ⟨hl, h0 | ⟨g, cap, cur, rfl, hb, hg, hn, hm, hc, ht⟩⟩ := h
  · obtain ⟨rfl, rfl⟩ := h0
    simp at hl
    subst hl
    exact .inl ⟨rfl, _, _, rfl, fun _ => rfl⟩
  · have hln : l.length = n := by simpa using hl
    subst hln
    refine .inr ⟨g, 0, cap, rfl, ?_, hn, fun j x hx => ?_⟩
    · rcases Nat.lt_or_ge g w.heap.size with h1 | h1
      · exact h1
      · rw [Array.getElem?_eq_none h1] at hg; cases hg
    · rw [Nat.zero_add, cell_of_row w g j cur e (0, 0) hg]
      have hj : j < l.length := (List.getElem?_eq_some_iff.1 hx).1
      have : l[j]? = some x := hx
      rw [← ht, List.getElem?_take, if_pos (by omega)] at this
      simpa using this
theorem Row.of_bytes {w : World} {v : Value} {l : List UInt8} (h : Bytes w v l) : Row w v (bv l) := by
  rcases h with ⟨rfl, a, c, rfl, h1⟩ | ⟨b, o, c, rfl, h2, hp, h3⟩
  · exact .inl ⟨rfl, a, c, rfl, h1⟩
  · refine .inr ⟨b, o, c, by simp [bv], h2, by simpa [bv] using hp, fun j x hx => ?_⟩
    simp only [bv, List.getElem?_map, Option.map_eq_some_iff] at hx
    obtain ⟨y, hy, rfl⟩ := hx
    exact h3 j y hy
theorem ownsRow_later {w w' : World} {B : Nat} {e : TypeId} {s n : Nat} {v : Value} {xs : List Value} (h : w.ownsRow B e s v n xs) (hb : Below w.heap.size w w') : w'.ownsRow B e s v n xs := by
  obtain ⟨hl, h0 | ⟨g, cap, cur, rfl, hb1, hg, hn, hm, hc, ht⟩⟩ := h
  · exact ⟨hl, .inl h0⟩
  · refine ⟨hl, .inr ⟨g, cap, cur, rfl, hb1, ?_, hn, hm, hc, ht⟩⟩
    rw [hb.block g ?_]
    · exact hg
    · rcases Nat.lt_or_ge g w.heap.size with h1 | h1
      · exact h1
      · rw [Array.getElem?_eq_none h1] at hg; cases hg
def iv (l : List Int) : List Value := l.map fun z => .int .i64 z
theorem iv_at {zs : List Int} {k : Nat} (h : k < zs.length) : (iv zs)[k]? = some (.int .i64 zs[k]) := by simp [iv, h]
end Go.Proofs.YtijkahamgnpobaaDoor

namespace Go.Proofs.YtijkahamgnpobaaDoor
open Go.RowKit
attribute [local go_sem ↓] Go.wp_at_zero Go.wp_at_succ

def sv (ps : List (List UInt8)) : List Value := ps.map fun p => .string ⟨p.toArray⟩
theorem sv_append (a b : List (List UInt8)) : sv (a ++ b) = sv a ++ sv b := by simp [sv]
theorem sv_at {ps : List (List UInt8)} {k : Nat} (h : k < ps.length) : (sv ps)[k]? = some (.string ⟨ps[k].toArray⟩) := by simp [sv, h]
theorem extract_eq (s : ByteArray) (a b : Nat) : s.extract a b = ⟨((s.data.toList.take b).drop a).toArray⟩ := by
  apply ByteArray.ext
  apply Array.toList_inj.1
  simp [List.drop_take]
theorem split_end {c : UInt8} {l : List UInt8} {ps : List (List UInt8)} {k m : Nat} (hk : k = l.length) (h : splitL c l = ps ++ ahead ((l.take k).drop m) (splitL c (l.drop k))) : splitL c l = ps ++ [(l.take k).drop m] := by
  rw [h, hk, List.drop_length]
  simp [splitL, ahead]
theorem split_at {c : UInt8} {l : List UInt8} {ps : List (List UInt8)} {k m : Nat} (hk : k < l.length) (hc : l[k] = c) (h : splitL c l = ps ++ ahead ((l.take k).drop m) (splitL c (l.drop k))) : splitL c l = (ps ++ [(l.take k).drop m]) ++ ahead ((l.take (k + 1)).drop (k + 1)) (splitL c (l.drop (k + 1))) := by
  rw [List.drop_eq_getElem_cons hk, hc, split_hit] at h
  have e : (l.take (k + 1)).drop (k + 1) = [] := by simp
  rw [e, ahead_nil, h]
  simp [ahead]
theorem split_on {c : UInt8} {l : List UInt8} {ps : List (List UInt8)} {k m : Nat} (hk : k < l.length) (hm : m ≤ k) (hc : l[k] ≠ c) (h : splitL c l = ps ++ ahead ((l.take k).drop m) (splitL c (l.drop k))) : splitL c l = ps ++ ahead ((l.take (k + 1)).drop m) (splitL c (l.drop (k + 1))) := by
  rw [List.drop_eq_getElem_cons hk, split_miss hc, ahead_ahead] at h
  rw [h, List.take_succ_eq_append_getElem hk, List.drop_append_of_le_length (by simp; omega)]
theorem info16 : ∃ i0, Tryd.prog.info? 9 = some i0 ∧ i0.zero = some (.string ⟨#[]⟩) ∧ i0.size = 1 ∧ i0.bytes = 16 := by
  have hi5 : (Tryd.prog.info? 9).map (fun i => (i.zero, i.size, i.bytes)) = some (some (.string ⟨#[]⟩), 1, 16) := by kernel_rfl
  obtain ⟨i0, hi, hx⟩ := Option.map_eq_some_iff.1 hi5
  simp only [Prod.mk.injEq] at hx
  exact ⟨i0, hi, hx.1, hx.2.1, hx.2.2⟩
theorem one_string (s : ByteArray) : ∀ u ∈ [Value.string s], u.oneCell' = true := by intro u hu; simp at hu; subst hu; rfl

set_option maxHeartbeats 2000000 in
set_option maxRecDepth 100000 in
theorem splitR_any (s : ByteArray) (c : UInt8) (w : World) (hs : s.size ≤ 1000000) :
    Calls Tryd.prog 42 #[.string s, .int .u8 (c.toNat : Int)] w fun e w' => ∃ v, e = .returned v ∧ Row w' v (sv (splitL c s.data.toList)) ∧ Below w.heap.size w w' := by
  have hsl : s.data.toList.length = s.size := by rw [Array.length_toList]; rfl
  have HSL := Lib.hid hsl
  have hs2 : (s.size : Int) ≤ 1000000 := by omega
  obtain ⟨i0, hi, hz0, hz1, hby⟩ := info16
  have hcb := c.toNat_lt
  clear hsl hs
  go_enter Tryd.func42, Tryd.ntmps42
  go_wp2_with fail
  go_loopw [5, 6, 7] (fun v f i wr => ∃ (k m : Nat) (ps : List (List UInt8)), k ≤ s.size + 1 ∧ i = .int .i64 k ∧ f = .int .i64 m ∧ m ≤ k ∧ Hid (ps.length ≤ k) ∧ Hid (wr.ownsRow w.heap.size 9 1 v ps.length (sv ps)) ∧ Hid (Below w.heap.size w wr) ∧
    Hid (splitL c s.data.toList = if k ≤ s.size then ps ++ ahead ((s.data.toList.take k).drop m) (splitL c (s.data.toList.drop k)) else ps)) (fun _ _ i _ => s.size + 1 - (intOf i).toNat)
  case atStart =>
    refine ⟨0, 0, [], Nat.zero_le _, rfl, rfl, Nat.le_refl _, Nat.le_refl _, World.ownsRow_nil w _ _ _, Below.refl _ _, ?_⟩
    show _ = _
    rw [if_pos (Nat.zero_le _)]
    simp [ahead_nil]
  case round =>
    obtain ⟨k, m, ps, hk, rfl, rfl, hm, HP, HW, HB, HS⟩ := hrel
    rcases Nat.lt_or_ge s.size k with hgt | hle
    · have g1 : (s.size : Int) < k := by omega
      have hfin := HS.out
      rw [if_neg (by omega)] at hfin
      have HF := Lib.hid hfin
      clear hfin
      go_wp2_with fail
      go_ret
      exact ⟨_, rfl, by rw [HF.out]; exact Row.of_own HW.out, HB.out⟩
    · have g1 : (k : Int) ≤ s.size := by omega
      have g2 : (m : Int) ≤ k := by omega
      have hst := HS.out
      rw [if_pos hle] at hst
      have HST := Lib.hid hst
      have HMk := Lib.hid hm
      clear hst hm
      rcases Nat.lt_or_ge k s.size with hlt | hge
      · have g3 : (k : Int) < s.size := by omega
        obtain ⟨y, hy⟩ : ∃ y : UInt8, s[k]'hlt = y := ⟨_, rfl⟩
        have hkl : k < s.data.toList.length := by have := HSL.out; omega
        have hly : s.data.toList[k]'hkl = y := (at_byte s k hlt hkl).trans hy
        by_cases hc : y = c
        · have HN : Hid (splitL c s.data.toList = if k + 1 ≤ s.size then (ps ++ [(s.data.toList.take k).drop m]) ++ ahead ((s.data.toList.take (k + 1)).drop (k + 1)) (splitL c (s.data.toList.drop (k + 1))) else ps ++ [(s.data.toList.take k).drop m]) := by
            show _ = _
            rw [if_pos (by omega)]
            exact split_at hkl (hly.trans hc) HST.out
          subst hc
          clear hly hkl
          go_wp2_with (at_builtin; refine wpList_append_own _ rfl _ _ 78 rfl w.heap.size 9 i0 (.string ⟨#[]⟩) 1 16 Tryd.underlying78 hi hz0 hz1 hby rfl (by decide) _ _ _ rfl (HW.out.alloc _) ⟨wr.heap.size, 0, none⟩ 1 1 [.string (s.extract m k)] rfl rfl (news_one wr _ _) (one_string _) (by unfold maxLen; have := HP.out; omega) (by have := HP.out; omega) (by simp; exact Nat.le_succ_of_le HB.out.size) ?_)
          intro v' w3 hown' hgrow _
          have HO3 : Hid (w3.ownsRow w.heap.size 9 1 v' (ps ++ [(s.data.toList.take k).drop m]).length (sv (ps ++ [(s.data.toList.take k).drop m]))) := by
            show World.ownsRow _ _ _ _ _ _ _
            rw [sv_append, List.length_append]
            rw [extract_eq] at hown'
            exact hown'
          have HB3 : Hid (Below w.heap.size w w3) := (HB.out.alloc HB.out.size _).grown hgrow (by simp; exact Nat.le_succ_of_le HB.out.size) (fun j hj => own_base HW.out hj)
          have HP3 : Hid ((ps ++ [(s.data.toList.take k).drop m]).length ≤ k + 1) := by
            show _ ≤ _
            have := HP.out
            simp; omega
          clear hown' hgrow
          go_wp2_with fail
          go_roundw
          case rel => exact ⟨k + 1, k + 1, ps ++ [(s.data.toList.take k).drop m], by omega, by go_num, by go_num, Nat.le_refl _, HP3, HO3, HB3, HN⟩
          case measure => simp [intOf]; omega
        · have HN : Hid (splitL c s.data.toList = if k + 1 ≤ s.size then ps ++ ahead ((s.data.toList.take (k + 1)).drop m) (splitL c (s.data.toList.drop (k + 1))) else ps) := by
            show _ = _
            rw [if_pos (by omega)]
            exact split_on hkl HMk.out (fun e => hc (hly.symm.trans e)) HST.out
          have q2 : ((y.toNat : Int) == (c.toNat : Int)) = false := by
            rw [beq_eq_false_iff_ne]
            intro e
            exact hc (UInt8.toNat_inj.1 (by omega))
          have HP3 : Hid (ps.length ≤ k + 1) := Nat.le_succ_of_le HP.out
          clear hly hkl hc
          go_wp2_with fail
          go_roundw
          case rel => exact ⟨k + 1, m, ps, by omega, by go_num, rfl, by omega, HP3, HW, HB, HN⟩
          case measure => simp [intOf]; omega
      · have hke : k = s.size := by omega
        have HN : Hid (splitL c s.data.toList = if k + 1 ≤ s.size then (ps ++ [(s.data.toList.take k).drop m]) ++ ahead ((s.data.toList.take (k + 1)).drop (k + 1)) (splitL c (s.data.toList.drop (k + 1))) else ps ++ [(s.data.toList.take k).drop m]) := by
          show _ = _
          rw [if_neg (by omega)]
          exact split_end (by have := HSL.out; omega) HST.out
        have q1 : ((k : Int) == s.size) = true := by simp; omega
        clear hke
        go_wp2_with (at_builtin; refine wpList_append_own _ rfl _ _ 78 rfl w.heap.size 9 i0 (.string ⟨#[]⟩) 1 16 Tryd.underlying78 hi hz0 hz1 hby rfl (by decide) _ _ _ rfl (HW.out.alloc _) ⟨wr.heap.size, 0, none⟩ 1 1 [.string (s.extract m k)] rfl rfl (news_one wr _ _) (one_string _) (by unfold maxLen; have := HP.out; omega) (by have := HP.out; omega) (by simp; exact Nat.le_succ_of_le HB.out.size) ?_)
        intro v' w3 hown' hgrow _
        have HO3 : Hid (w3.ownsRow w.heap.size 9 1 v' (ps ++ [(s.data.toList.take k).drop m]).length (sv (ps ++ [(s.data.toList.take k).drop m]))) := by
          show World.ownsRow _ _ _ _ _ _ _
          rw [sv_append, List.length_append]
          rw [extract_eq] at hown'
          exact hown'
        have HB3 : Hid (Below w.heap.size w w3) := (HB.out.alloc HB.out.size _).grown hgrow (by simp; exact Nat.le_succ_of_le HB.out.size) (fun j hj => own_base HW.out hj)
        have HP3 : Hid ((ps ++ [(s.data.toList.take k).drop m]).length ≤ k + 1) := by
          show _ ≤ _
          have := HP.out
          simp; omega
        clear hown' hgrow
        go_wp2_with fail
        go_roundw
        case rel => exact ⟨k + 1, k + 1, ps ++ [(s.data.toList.take k).drop m], by omega, by go_num, by go_num, Nat.le_refl _, HP3, HO3, HB3, HN⟩
        case measure => simp [intOf]; omega
end Go.Proofs.YtijkahamgnpobaaDoor

namespace Go.Proofs.YtijkahamgnpobaaDoor
open Go.RowKit


set_option maxHeartbeats 400000 in
theorem first_any (a n : Int) (w : World) (ha : 0 ≤ a) (ha2 : a < 4294967296) (hn : 0 ≤ n) (hn2 : n ≤ 32) :
    Calls Tryd.prog 48 #[.int .u32 a, .int .i64 n] w fun e w' => e = .returned (.int .u32 (Wp.fst a n)) ∧ w = w' := by
  go_enter Tryd.func48, Tryd.ntmps48
  go_wp2
  go_loop [0, 5] (fun x i => ∃ k : Nat, k ≤ (32 - n).toNat ∧ i = .int .i64 k ∧ x = .int .u32 (a / 2 ^ k)) (fun _ i => (32 - n).toNat - (intOf i).toNat)
  case atStart => exact ⟨0, Nat.zero_le _, rfl, by simp⟩
  case round =>
    obtain ⟨k, hk, rfl, rfl⟩ := hrel
    have p1 := Wp.div_lo a k ha
    have p2 := Wp.div_hi a k ha ha2
    have hs := Wp.div_succ a k
    have Hs := Lib.hid hs
    clear hs
    by_cases hlt : (k : Int) < 32 - n
    · go_wp2
      go_round
      case rel => exact ⟨k + 1, by omega, by go_num, by rw [Hs.out]⟩
      case measure => simp [intOf]; omega
    · have hk2 : k = (32 - n).toNat := by omega
      subst hk2
      go_wp2
      go_loop [0, 6] (fun x i => ∃ k : Nat, k ≤ (32 - n).toNat ∧ i = .int .i64 k ∧ x = .int .u32 (a / 2 ^ (32 - n).toNat * 2 ^ k)) (fun _ i => (32 - n).toNat - (intOf i).toNat)
      case atStart => exact ⟨0, Nat.zero_le _, rfl, by simp⟩
      case round =>
        obtain ⟨k, hk, rfl, rfl⟩ := hrel
        have q1 := Wp.mul_lo a (32 - n).toNat k ha
        have q2 := Wp.mul_hi a (32 - n).toNat k ha ha2 hk
        by_cases hlt : (k : Int) < 32 - n
        · have q3 := Wp.mul_hi2 a (32 - n).toNat k ha ha2 (by omega)
          have Hs := Lib.hid (Wp.mul_succ' a (32 - n).toNat k)
          go_wp2
          go_round
          case rel => exact ⟨k + 1, by omega, by go_num, by rw [Hs.out]⟩
          case measure => simp [intOf]; omega
        · have hk2 : k = (32 - n).toNat := by omega
          subst hk2
          go_wp2
          go_ret
          exact ⟨rfl, rfl⟩
theorem quiet_same {P : Program} {f : FuncId} {args : Array Value} {w : World} {n : Nat} {v : Value}
    (h : Calls P f args (w.drewN n) fun e w' => e = .returned v ∧ w.drewN n = w') : Calls P f args (w.drewN n) fun e w'' => e = .returned v ∧ ∃ m, w'' = w.drewN m :=
  h.mono fun _ _ ⟨he, hm⟩ => ⟨he, n, hm.symm⟩

set_option maxHeartbeats 400000 in
theorem mayR_any (a n : Int) (w : World) (ha : 0 ≤ a) (ha2 : a < 4294967296) :
    Calls Tryd.prog 32 #[.agg #[.int .u32 a, .int .i64 n]] w fun e w' => e = .returned (.bool (Wp.mayB a n)) ∧ Below w.heap.size w w' := by
  by_cases h1 : 0 ≤ n
  · by_cases h2 : n ≤ 32
    · have hd1 : decide (0 ≤ n) = true := by simpa using h1
      have hd2 : decide (n ≤ 32) = true := by simpa using h2
      have hf : Wp.mayB a n = (Wp.fst a n == a) := by simp [Wp.mayB, h1, h2]; rfl
      have Hf := Lib.hid hf
      clear hf
      go_enter Tryd.func32, Tryd.ntmps32
      go_wp2_with fail
      go_quiet ((go_at_call 48; exact quiet_same (first_any _ _ _ ha ha2 h1 h2)))
      go_wp2
      go_ret
      exact ⟨ret_b Hf.out.symm, below_drewN ((Below.refl _ _).alloc (Nat.le_refl _) _) _⟩
    · have hd1 : decide (0 ≤ n) = true := by simpa using h1
      have hd2 : decide (n ≤ 32) = false := by simpa using h2
      have hf : Wp.mayB a n = false := by simp [Wp.mayB, h2]
      have Hf := Lib.hid hf
      clear hf
      go_enter Tryd.func32, Tryd.ntmps32
      go_wp2_with fail
      go_quiet (fail)
      go_wp2
      go_ret
      exact ⟨ret_b Hf.out.symm, below_drewN ((Below.refl _ _).alloc (Nat.le_refl _) _) _⟩
  · have hd1 : decide (0 ≤ n) = false := by simpa using h1
    have hf : Wp.mayB a n = false := by simp [Wp.mayB, h1]
    have Hf := Lib.hid hf
    clear hf
    go_enter Tryd.func32, Tryd.ntmps32
    go_wp2_with fail
    go_quiet (fail)
    go_wp2
    go_ret
    exact ⟨ret_b Hf.out.symm, below_drewN ((Below.refl _ _).alloc (Nat.le_refl _) _) _⟩

end Go.Proofs.YtijkahamgnpobaaDoor
