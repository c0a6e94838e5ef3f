/- The walks of sum.Add, the reference's Add, sum.Change, the reference's Change.
   What goes over options, as a contract; the walk of ip.mayOptions.
   The walk of ip.each and of what goes over options.
   The walks of ip.numbers, ip.sizes, ip.first.
   Options of a header: plain mathematics; no program in it.
   Plain numbers of the layer sum: sums of words with carry; no program in it.
   The walks of ip's closures that read and write numbers.
   The walks of Put and Get, and of the reference's. -/
import Derived.RangeFuncNested
import Derived.RangeFuncBound
import Derived.RangeFuncCalls
import Derived.RangeFuncLeaves
import Derived.Shelf.Abstract
import Derived.Shelf.RegionOpen
import Derived.OwnWalkIn
import Derived.TacticsInMore
import Derived.LoopNIn
import Derived.LoopIn
import Derived.Lib.SliceRun
import Derived.Test.YtdjhgahdiggahaaZ01

set_option linter.unusedSimpArgs false
set_option linter.unusedVariables false
namespace Go.Proofs.Ytdjhgahdiggahaa
open Go.RowKit
attribute [local go_sem ↓] Go.wp_at_zero Go.wp_at_succ

/-- The last k bytes of a number, the highest first. -/
def putL (n : Nat) : Nat → List UInt8
  | 0 => []
  | k + 1 => UInt8.ofNat (n / 256 ^ k) :: putL n k
theorem putL_length (n : Nat) : ∀ k, (putL n k).length = k
  | 0 => rfl
  | k + 1 => by simp [putL, putL_length n k]
/-- Has a number room in so many bytes? -/
def room (n : Nat) (size : Int) : Bool := decide (1 ≤ size) && (decide (size ≤ 8) && decide (n < 256 ^ size.toNat))
theorem room_div {n m : Nat} (h1 : 1 ≤ (m : Int)) (h2 : (m : Int) ≤ 8) : room n (m : Int) = decide (n / 256 ^ m = 0) := by
  have e1 : decide (1 ≤ (m : Int)) = true := by simpa using h1
  have e2 : decide ((m : Int) ≤ 8) = true := by simpa using h2
  unfold room
  rw [e1, e2, Int.toNat_natCast, Bool.true_and, Bool.true_and]
  congr 1
  rw [eq_iff_iff, Nat.div_eq_zero_iff]
  have : 0 < 256 ^ m := Nat.pow_pos (by decide)
  omega
/-- What a row of so many noughts is behind k stores from its end on. -/
def putR (n size k : Nat) : List UInt8 := List.replicate (size - k) 0 ++ putL n k
theorem putR_set (n size k : Nat) (h : k < size) : (bv (putR n size k)).set (size - 1 - k) (.int .u8 ((UInt8.ofNat (n / 256 ^ k)).toNat : Int)) = bv (putR n size (k + 1)) := by
  have e : size - k = (size - 1 - k) + 1 := by omega
  have e2 : size - (k + 1) = size - 1 - k := by omega
  unfold putR bv
  rw [e, e2, List.replicate_succ']
  simp only [List.map_append, List.append_assoc, List.map_cons, List.cons_append, List.nil_append, putL]
  rw [List.set_append_right _ _ (by simp)]
  simp

/-- An answer of bytes and an error's number, in new memory. -/
def AnsB (l : List UInt8) (n : Int) (w : World) (e : Ending) (w' : World) : Prop := ∃ v, e = .returned (.tuple #[v, .int .i64 n]) ∧ Bytes w' v l ∧ Below w.heap.size w w'

theorem byte_of (n k : Nat) : (n : Int) / 2 ^ (8 * k) % 256 = ((UInt8.ofNat (n / 256 ^ k)).toNat : Int) := by
  have e : (2 : Nat) ^ (8 * k) = 256 ^ k := by rw [Nat.pow_mul]
  have e2 : (n : Int) / 2 ^ (8 * k) = ((n / 2 ^ (8 * k) : Nat) : Int) := by simp
  rw [e2, e, UInt8.toNat_ofNat']
  simp
theorem shr_zero {n size : Nat} (h : n < 256 ^ size) : ((n : Int) / 2 ^ (8 * size) != 0) = false := by
  have e : (2 : Nat) ^ (8 * size) = 256 ^ size := by rw [Nat.pow_mul]
  have : (n : Int) / 2 ^ (8 * size) = ((n / 2 ^ (8 * size) : Nat) : Int) := by simp
  rw [this, e, Nat.div_eq_of_lt h]; rfl
theorem shr_some {n size : Nat} (h : ¬ n < 256 ^ size) : ((n : Int) / 2 ^ (8 * size) != 0) = true := by
  have e : (2 : Nat) ^ (8 * size) = 256 ^ size := by rw [Nat.pow_mul]
  have e2 : (n : Int) / 2 ^ (8 * size) = ((n / 2 ^ (8 * size) : Nat) : Int) := by simp
  have h3 : 0 < n / 256 ^ size := Nat.div_pos (by omega) (Nat.pow_pos (by decide))
  rw [e2, e, bne_iff_ne]; omega
theorem own_cell {w : World} {base g n cap : Nat} {e : TypeId} {xs : List Value} (h : w.ownsRow base e 1 (.slice (some ⟨g, 0, none⟩) n cap) n xs) (hl : xs.length = n) {j : Nat} (hj : j < n) : ∃ u, w.cell? ⟨g, j, none⟩ = some u := by
  rw [h.cellAt j (by omega)]
  exact ⟨xs[j], List.getElem?_eq_getElem (by omega)⟩

set_option maxHeartbeats 1000000 in
set_option maxRecDepth 100000 in
theorem putW_yes (n size : Nat) (w : World) (h1 : 1 ≤ size) (h2 : size ≤ 8) (h3 : n < 256 ^ size) :
    Calls Try.prog 76 #[.int .u64 (n : Int), .int .i64 (size : Int)] w (AnsB (putL n size) 0 w) := by
  have hi5 : (Try.prog.info? 5).map (fun i => (i.zero, i.size, i.bytes)) = some (some (.int .u8 0), 1, 1) := by kernel_rfl
  obtain ⟨i0, hi, hx⟩ := Option.map_eq_some_iff.1 hi5
  simp only [Prod.mk.injEq] at hx
  obtain ⟨hz0, hz1, hz2⟩ := hx
  obtain ⟨w1, hmk, hown0, hg0⟩ := run_make_full (P := Try.prog) (w := w) w.heap.size 97 5 i0 (.int .u8 0) 1 Try.underlying97 hi hz0 hz1 .i64 .i64 size (by rw [hz2]; omega) (by unfold maxLen; omega) (Nat.le_refl _)
  clear hi5
  have ht : ((n : Int) / 2 ^ (8 * size) != 0) = false := shr_zero h3
  have HU := Lib.hid (show Below w.heap.size w w1 from (Below.refl _ _).grown hg0 (Nat.le_refl _) (by simp))
  have hm : (madeCells (Value.int IntKind.u8 0).cells (size * 1)).toList = bv (putR n size 0) := by
    rw [Nat.mul_one]; show (madeCells #[.int .u8 0] size).toList = _
    rw [toList_madeCells_one]; simp [putR, putL, bv]
  rw [hm] at hown0
  have HO := Lib.hid hown0
  clear h3 hm hown0 hg0
  go_enter Try.func76, Try.ntmps76
  go_wp2
  clear hmk
  go_loopw [24] (fun i wr => ∃ k : Nat, k ≤ size ∧ i = .int .i64 k ∧ Hid (wr.ownsRow w.heap.size 5 1 (.slice (some ⟨w.heap.size, 0, none⟩) size size) size (bv (putR n size k))) ∧ Hid (Below w.heap.size w wr)) (fun i _ => size - (intOf i).toNat)
  case atStart => exact ⟨0, Nat.zero_le _, rfl, HO.out, HU⟩
  case round =>
    obtain ⟨k, hk, rfl, HW, HB⟩ := hrel
    by_cases hlt : k < size
    · obtain ⟨u, hu⟩ := own_cell HW.out (by simp [bv, putR, putL_length]; omega) (j := size - 1 - k) (by omega)
      have hf := HW.out.frozenAt (size - 1 - k)
      go_wp2
      have hst := (HW.out.stored (size - 1 - k) (.int .u8 ((UInt8.ofNat (n / 256 ^ k)).toNat : Int)))
      rw [putR_set n size k hlt] at hst
      rw [byte_of n k]
      exact ⟨⟨k + 1, by omega, by go_num, hst.1, HB.out.setCell (Nat.le_refl _) _⟩, by simp [intOf]; omega⟩
    · have hk2 : k = size := by omega
      subst hk2
      go_wp2
      go_ret2
      refine ⟨_, rfl, Bytes.of_own (base := w.heap.size) (e := 5) (n := k) ?_, HB.out⟩
      have := HW.out
      rwa [show putR n k k = putL n k from by simp [putR]] at this

theorem ret_ansE {n : Int} {w w' : World} (h : Below w.heap.size w w') : AnsB [] n w (.returned (.tuple #[.slice none 0 0, .int .i64 n])) w' := ⟨_, rfl, Bytes.nil _ _ _, h⟩

set_option maxHeartbeats 1000000 in
theorem putW_no (n : Nat) (size : Int) (w : World) (h : room n size = false) :
    Calls Try.prog 76 #[.int .u64 (n : Int), .int .i64 size] w (AnsB [] 2 w) := by
  by_cases h1 : 1 ≤ size
  · by_cases h2 : size ≤ 8
    · obtain ⟨k, rfl⟩ := Int.eq_ofNat_of_zero_le (show 0 ≤ size by omega)
      have h3 : ¬ n < 256 ^ k := by
        intro h3
        have hd : decide (n < 256 ^ k) = true := by simpa using h3
        have e1 : decide (1 ≤ (k : Int)) = true := by simpa using h1
        have e2 : decide ((k : Int) ≤ 8) = true := by simpa using h2
        unfold room at h
        rw [Int.toNat_natCast, hd, e1, e2] at h
        cases h
      have ht : ((n : Int) / 2 ^ (8 * k) != 0) = true := shr_some h3
      clear h h3
      go_enter Try.func76, Try.ntmps76
      go_wp2
      go_ret2
      exact ret_ansE (Below.refl _ _)
    · clear h
      go_enter Try.func76, Try.ntmps76
      go_wp2
      go_ret2
      exact ret_ansE (Below.refl _ _)
  · clear h
    go_enter Try.func76, Try.ntmps76
    go_wp2
    go_ret2
    exact ret_ansE (Below.refl _ _)

/-- The number that bytes are. -/
def getL (l : List UInt8) : Nat := l.foldl (fun n b => n * 256 + b.toNat) 0
theorem getL_snoc (l : List UInt8) (b : UInt8) : getL (l ++ [b]) = getL l * 256 + b.toNat := by simp [getL]
theorem getL_lt : ∀ (k : Nat) (l : List UInt8), l.length = k → getL l < 256 ^ k := by
  intro k
  induction k with
  | zero => intro l h; have := List.eq_nil_of_length_eq_zero h; subst this; decide
  | succ k ih =>
    intro l h
    obtain ⟨r, b, rfl⟩ : ∃ r b, l = r ++ [b] := ⟨l.dropLast, l.getLast (by intro e; subst e; simp at h), (List.dropLast_concat_getLast _).symm⟩
    have hr := ih r (by simp at h; omega)
    rw [getL_snoc, Nat.pow_succ]
    have := b.toNat_lt
    omega
theorem getL_take (l : List UInt8) (k : Nat) (h : k < l.length) : getL (l.take (k + 1)) = getL (l.take k) * 256 + l[k].toNat := by
  rw [List.take_succ_eq_append_getElem h, getL_snoc]
theorem getL_take_lt (l : List UInt8) {k : Nat} (h : k ≤ l.length) (h2 : k ≤ 7) : getL (l.take k) < 72057594037927936 := by
  have h1 := getL_lt k (l.take k) (by simp; omega)
  have h3 : 256 ^ k ≤ 256 ^ 7 := Nat.pow_le_pow_right (by decide) h2
  omega
theorem shl_or64 {a n : Nat} (h : a < 72057594037927936) (h2 : n < 256) : bits .or .u64 ((a : Int) * 256) (n : Int) = ((a * 256 + n : Nat) : Int) := by
  have e : (a : Int) * 256 = ((a * 256 : Nat) : Int) := by omega
  rw [e, u64_or_nat _ _ (by omega) (by omega), nat_join 8 _ _ (by omega) (by omega)]

def getW (l : List UInt8) : Int := if 1 ≤ l.length ∧ l.length ≤ 8 then 0 else 2
def getN (l : List UInt8) : Int := if 1 ≤ l.length ∧ l.length ≤ 8 then (getL l : Int) else 0
theorem get_no {l : List UInt8} (h : ¬ (1 ≤ l.length ∧ l.length ≤ 8)) : getN l = 0 ∧ getW l = 2 := by simp [getN, getW, h]
theorem get_yes {l : List UInt8} (h : 1 ≤ l.length) (h2 : l.length ≤ 8) : getN l = getL l ∧ getW l = 0 := by simp [getN, getW, h, h2]

set_option maxHeartbeats 1000000 in
theorem getW_any (v : Value) (l : List UInt8) (w : World) (hv : Bytes w v l) (hl : l.length ≤ 9223372036854775807) :
    Calls Try.prog 128 #[v] w fun e w' => e = .returned (.tuple #[.int .u64 (getN l), .int .i64 (getW l)]) ∧ w = w' := by
  rcases hv with ⟨rfl, a, c, rfl, _⟩ | ⟨b, o, c, rfl, hb, _, hc⟩
  · go_enter Try.func128, Try.ntmps128
    go_wp2
    go_ret2
    exact ⟨rfl, rfl⟩
  · by_cases h1 : 1 ≤ l.length
    · by_cases h2 : l.length ≤ 8
      · have hG := Lib.hid (get_yes h1 h2)
        have HC := Lib.hid hc
        clear hc
        have c1 : (1 : Int) ≤ l.length := by omega
        have c2 : (l.length : Int) ≤ 8 := by omega
        go_enter Try.func128, Try.ntmps128
        go_wp2
        go_loop [4, 16] (fun x i => ∃ k : Nat, k ≤ l.length ∧ i = .int .i64 k ∧ x = .int .u64 ((getL (l.take k) : Nat) : Int)) (fun _ i => l.length - (intOf i).toNat)
        case atStart => exact ⟨0, Nat.zero_le _, rfl, by simp [getL]⟩
        case round =>
          obtain ⟨k, hk, rfl, rfl⟩ := hrel
          obtain ⟨y, hy⟩ : ∃ y : Nat, y = getL (l.take k) := ⟨_, rfl⟩
          by_cases hlt : k < l.length
          · have hyn : y < 72057594037927936 := by rw [hy]; exact getL_take_lt l (by omega) (by omega)
            have hs := getL_take l k hlt
            have hcell := HC.out k l[k] (List.getElem?_eq_getElem hlt)
            obtain ⟨z, hz⟩ : ∃ z : Nat, z = l[k].toNat := ⟨_, rfl⟩
            have hzn : z < 256 := by rw [hz]; exact l[k].toNat_lt
            rw [← hy]
            rw [← hy, ← hz] at hs
            rw [← hz] at hcell
            have Hs := Lib.hid hs
            clear hs hy hz
            go_wp2
            go_round
            case rel => exact ⟨k + 1, by omega, by go_num, by rw [shl_or64 hyn hzn, Hs.out]⟩
            case measure => simp [intOf]; omega
          · have hk2 : k = l.length := by omega
            subst hk2
            rw [← hy]
            have Hy : Hid (y = getL l) := by rw [List.take_length] at hy; exact hy
            clear hy
            go_wp2
            go_ret2
            exact ⟨ret_ii (by rw [hG.out.1, ← Hy.out]) hG.out.2.symm, rfl⟩
      · have hG := Lib.hid (get_no (l := l) (by omega))
        go_enter Try.func128, Try.ntmps128
        go_wp2
        go_ret2
        exact ⟨ret_ii hG.out.1.symm hG.out.2.symm, rfl⟩
    · have hG := Lib.hid (get_no (l := l) (by omega))
      go_enter Try.func128, Try.ntmps128
      go_wp2
      go_ret2
      exact ⟨ret_ii hG.out.1.symm hG.out.2.symm, rfl⟩

end Go.Proofs.Ytdjhgahdiggahaa

namespace Go.Proofs.Ytdjhgahdiggahaa
open Go.RowKit
attribute [local go_sem ↓] Go.wp_at_zero Go.wp_at_succ

/-- b[i:j]. -/
theorem Bytes.cut_lh {w : World} {a : Option Addr} {n c : Nat} {l : List UInt8} (h : Bytes w (.slice a n c) l) (i j : Int) (lo hi : Nat) (ei : i = lo) (ej : j = hi) (h1 : lo ≤ hi) (h2 : hi ≤ l.length) :
    ∃ a', (∀ w, (Instr.slice 97 (.slice a n c) (some (.int .i64 i)) (some (.int .i64 j)) none).run Try.prog w = .ok (.slice a' (hi - lo) (c - lo)) w) ∧ Bytes w (.slice a' (hi - lo) (c - lo)) ((l.take hi).drop lo) := by
  have hc := h.cap
  subst ei ej
  have hb := h.sliced h1 h2 (by omega) (Nat.le_refl _)
  refine ⟨_, fun w => ?_, hb⟩
  rw [run_slice_lh w _ a _ _ cells1 _ _ _ _ (by omega) (by omega) (by omega), size1]
  rfl

/-- b[:i], i of whatever kind. -/
theorem Bytes.cut_hk {w : World} {a : Option Addr} {n c : Nat} {l : List UInt8} (kh : IntKind) (h : Bytes w (.slice a n c) l) (i : Int) (hi : Nat) (he : i = hi) (hlo : hi ≤ l.length) :
    (∀ w, (Instr.slice 97 (.slice a n c) none (some (.int kh i)) none).run Try.prog w = .ok (.slice a hi c) w) ∧ Bytes w (.slice a hi c) (l.take hi) := by
  have hc := h.cap
  subst he
  have e : Go.sliced a 0 hi c 1 = .slice a hi c := by
    unfold Go.sliced
    congr 1
    split
    · rfl
    · cases a <;> simp [Addr.add]
  refine ⟨fun w => ?_, bytes_take h hlo⟩
  rw [run_slice_h w _ a _ _ cells1 _ _ (by omega) (by omega), size1]
  show Result.ok (Go.sliced a 0 _ c 1) w = _
  rw [Int.toNat_natCast, e]
theorem quiet_left {P : Program} {f : FuncId} {args : Array Value} {w : World} {n : Nat} {v : Value}
    (h : Calls P f args (w.drewN n) fun e w' => e = .returned v ∧ w.drewN n = w') : Calls P f args (w.drewN n) fun e w'' => e = .returned v ∧ ∃ m, w'' = w.drewN m :=
  h.mono fun _ _ ⟨he, hm⟩ => ⟨he, n, hm.symm⟩
theorem get_part {l : List UInt8} (h : 1 ≤ l.length) (h2 : l.length ≤ 8) : getN l = getL l ∧ getW l = 0 := get_yes h h2

set_option maxHeartbeats 1000000 in
theorem numG_any (at_ size : Nat) (B : Nat) (v : Value) (l : List UInt8) (w : World) (hc : w.cell? ⟨B, 0, none⟩ = some v) (hv : Bytes w v l) (h1 : 1 ≤ size) (h8 : size ≤ 8) (h2 : at_ + size ≤ l.length) (hl : l.length ≤ 1000000) :
    Calls Try.prog 127 #[.int .i64 (at_ : Int), .int .i64 (size : Int), .pointer (some ⟨B, 0, none⟩)] w fun e w' => e = .returned (.int .u64 (getL ((l.take (at_ + size)).drop at_) : Nat)) ∧ w = w' := by
  obtain ⟨a, c, rfl⟩ := hv.form
  obtain ⟨a', hs, hb⟩ := hv.cut_lh (at_ : Int) ((at_ : Int) + size) at_ (at_ + size) rfl (by omega) (by omega) h2
  have hlen : ((l.take (at_ + size)).drop at_).length = size := by simp; omega
  obtain ⟨hg1, hg2⟩ := get_yes (l := (l.take (at_ + size)).drop at_) (by omega) (by omega)
  rw [Nat.add_sub_cancel_left] at hs hb
  have hget := getW_any _ _ w hb (by omega)
  rw [hg1, hg2] at hget
  have HG := Lib.hid hget
  have hs' := hs w
  clear hget hg1 hg2 hlen hb hs hv h1 h8
  have g1 : (at_ : Int) + size ≤ 1000000 := by omega
  clear h2 hl
  go_enter Try.func127, Try.ntmps127
  go_wp2_with fail
  refine HG.out.mono ?_
  rintro e w1 ⟨rfl, rfl⟩
  go_wp2_with fail
  go_ret
  exact ⟨rfl, rfl⟩
end Go.Proofs.Ytdjhgahdiggahaa

namespace Go.Proofs.Ytdjhgahdiggahaa
namespace Sm

/-- x + y with carry, of words. -/
def addC (x y : Nat) : Nat := if x + y < 65536 then x + y else x + y - 65535
/-- A number's words, summed with carry. -/
def canon (n : Nat) : Nat := if n = 0 then 0 else (n - 1) % 65535 + 1

theorem addC_lt {x y : Nat} (hx : x < 65536) (hy : y < 65536) : addC x y < 65536 := by unfold addC; split <;> omega
theorem canon_lt (n : Nat) : canon n < 65536 := by unfold canon; split <;> omega
theorem addC_canon (n w : Nat) (hw : w < 65536) : addC (canon n) w = canon (n + w) := by
  unfold addC canon
  by_cases h : n = 0
  · subst h
    by_cases h2 : w = 0
    · subst h2; rfl
    · simp only [if_true]; rw [if_neg (by omega : ¬ 0 + w = 0)]; split <;> omega
  · simp only [if_neg h, if_neg (show ¬ n + w = 0 by omega)]
    split <;> omega
theorem canon_id {n : Nat} (h : n < 65536) : canon n = n := by unfold canon; split <;> omega
theorem addC_canon2 (n m : Nat) : addC (canon n) (canon m) = canon (n + m) := by
  rw [addC_canon _ _ (canon_lt m)]
  unfold canon
  by_cases h : m = 0
  · subst h; simp
  · rw [if_neg h, if_neg (by omega : ¬ n + ((m - 1) % 65535 + 1) = 0), if_neg (by omega : ¬ n + m = 0)]; omega
theorem addC_comm (x y : Nat) : addC x y = addC y x := by unfold addC; rw [Nat.add_comm]
theorem addC_zero {x : Nat} (h : x < 65536) : addC x 0 = x := by unfold addC; rw [if_pos (by omega)]; rfl
theorem addC_rest {x : Nat} (h : x < 65536) : addC x (65535 - x) = 65535 := by unfold addC; split <;> omega
theorem addC_assoc {x y z : Nat} (hx : x < 65536) (hy : y < 65536) (hz : z < 65536) : addC (addC x y) z = addC x (addC y z) := by
  unfold addC; (repeat' split) <;> omega

/-- The byte at a place, a nought behind the end. -/
def at0 (l : List UInt8) (i : Nat) : Nat := (l[i]?.map UInt8.toNat).getD 0
theorem at0_lt (l : List UInt8) (i : Nat) : at0 l i < 256 := by
  unfold at0
  cases h : l[i]? with
  | none => simp
  | some x => simp; exact x.toNat_lt
/-- Word k. -/
def word (l : List UInt8) (k : Nat) : Nat := 256 * at0 l (2 * k) + at0 l (2 * k + 1)
theorem word_lt (l : List UInt8) (k : Nat) : word l k < 65536 := by
  unfold word; have := at0_lt l (2 * k); have := at0_lt l (2 * k + 1); omega
/-- The sum of the first k words, without carry. -/
def upto (l : List UInt8) : Nat → Nat
  | 0 => 0
  | k + 1 => upto l k + word l k
/-- The sum of bytes. -/
def tot (l : List UInt8) : Nat := canon (upto l ((l.length + 1) / 2))
theorem tot_lt (l : List UInt8) : tot l < 65536 := canon_lt _
theorem step (l : List UInt8) (k : Nat) : addC (canon (upto l k)) (word l k) = canon (upto l (k + 1)) := addC_canon _ _ (word_lt l k)

theorem at0_zero {l : List UInt8} {i : Nat} (h : l.length ≤ i) : at0 l i = 0 := by
  unfold at0; rw [List.getElem?_eq_none h]; rfl
theorem upto_more (l : List UInt8) : ∀ d : Nat, upto l ((l.length + 1) / 2 + d) = upto l ((l.length + 1) / 2)
  | 0 => rfl
  | d + 1 => by
    show upto l ((l.length + 1) / 2 + d) + word l ((l.length + 1) / 2 + d) = _
    rw [upto_more l d]
    unfold word
    rw [at0_zero (by omega), at0_zero (by omega)]
    rfl
theorem upto_any (l : List UInt8) {k : Nat} (h : (l.length + 1) / 2 ≤ k) : upto l k = upto l ((l.length + 1) / 2) := by
  have := upto_more l (k - (l.length + 1) / 2)
  rwa [show (l.length + 1) / 2 + (k - (l.length + 1) / 2) = k by omega] at this

theorem at0_left {a b : List UInt8} {i : Nat} (h : i < a.length) : at0 (a ++ b) i = at0 a i := by
  unfold at0; rw [List.getElem?_append_left h]
theorem at0_right {a b : List UInt8} {i : Nat} (h : a.length ≤ i) : at0 (a ++ b) i = at0 b (i - a.length) := by
  unfold at0; rw [List.getElem?_append_right h]
theorem upto_left {a b : List UInt8} : ∀ k : Nat, 2 * k ≤ a.length → upto (a ++ b) k = upto a k
  | 0, _ => rfl
  | k + 1, h => by
    show upto (a ++ b) k + word (a ++ b) k = upto a k + word a k
    rw [upto_left k (by omega)]
    unfold word
    rw [at0_left (by omega), at0_left (by omega)]
theorem upto_right {a b : List UInt8} {n : Nat} (h : a.length = 2 * n) : ∀ k : Nat, upto (a ++ b) (n + k) = upto a n + upto b k
  | 0 => by rw [Nat.add_zero, upto_left n (by omega)]; rfl
  | k + 1 => by
    show upto (a ++ b) (n + k) + word (a ++ b) (n + k) = upto a n + (upto b k + word b k)
    rw [upto_right h k]
    unfold word
    rw [at0_right (by omega), at0_right (by omega), h, show 2 * (n + k) - 2 * n = 2 * k by omega, show 2 * (n + k) + 1 - 2 * n = 2 * k + 1 by omega]
    omega
/-- All words' sum, without carry. -/
def all (l : List UInt8) : Nat := upto l ((l.length + 1) / 2)
theorem tot_all (l : List UInt8) : tot l = canon (all l) := rfl
theorem all_append {a b : List UInt8} {n : Nat} (h : a.length = 2 * n) : all (a ++ b) = all a + all b := by
  unfold all
  rw [List.length_append, show (a.length + b.length + 1) / 2 = n + (b.length + 1) / 2 by omega, upto_right h, show (a.length + 1) / 2 = n by omega]
theorem tot_append {a b : List UInt8} {n : Nat} (h : a.length = 2 * n) : tot (a ++ b) = addC (tot a) (tot b) := by
  rw [tot_all, tot_all, tot_all, addC_canon2, all_append h]
theorem all_pair (x y : UInt8) : all [x, y] = 256 * x.toNat + y.toNat := by
  simp [all, upto, word, at0]
theorem all_zeros2 : all [0, 0] = 0 := by rw [all_pair]; rfl
/-- Turned at an even place. -/
theorem tot_turned {l : List UInt8} {n : Nat} (h : 2 * n ≤ l.length) (he : l.length % 2 = 0) : tot (l.drop (2 * n) ++ l.take (2 * n)) = tot l := by
  have h1 : (l.take (2 * n)).length = 2 * n := by simp; omega
  have h2 : (l.drop (2 * n)).length = 2 * ((l.length - 2 * n) / 2) := by simp; omega
  rw [tot_append h2, addC_comm, ← tot_append h1, List.take_append_drop]
theorem tot_wide {l : List UInt8} {n : Nat} (h : 2 * n ≤ l.length) : tot (l.take (2 * n) ++ [0, 0] ++ l.drop (2 * n)) = tot l := by
  have h1 : (l.take (2 * n)).length = 2 * n := by simp; omega
  have h3 : (l.take (2 * n) ++ [0, 0]).length = 2 * (n + 1) := by simp; omega
  rw [tot_all, all_append h3, all_append h1, all_zeros2, Nat.add_zero, ← all_append h1, List.take_append_drop]
  rfl
theorem tot_parts {l : List UInt8} {n : Nat} (h : 2 * n ≤ l.length) : tot l = addC (tot (l.take (2 * n))) (tot (l.drop (2 * n))) := by
  have h1 : (l.take (2 * n)).length = 2 * n := by simp; omega
  rw [← tot_append h1, List.take_append_drop]
/-- With their checksum behind them they are good. -/
theorem tot_good {l : List UInt8} {n : Nat} (h : l.length = 2 * n) {x y : UInt8} (hx : x.toNat = (65535 - tot l) / 256) (hy : y.toNat = (65535 - tot l) % 256) : tot (l ++ [x, y]) = 65535 := by
  have := tot_lt l
  rw [tot_append h, tot_all [x, y], all_pair, canon_id (by omega), hx, hy]
  have e : 256 * ((65535 - tot l) / 256) + (65535 - tot l) % 256 = 65535 - tot l := by omega
  rw [e]
  exact addC_rest this
/-- The words are changed by one: the sums go along. -/
theorem all_change {a b : List UInt8} {n : Nat} (h : a.length = 2 * n) (x y x' y' : UInt8) :
    all (a ++ [x', y'] ++ b) + (256 * x.toNat + y.toNat) = all (a ++ [x, y] ++ b) + (256 * x'.toNat + y'.toNat) := by
  have h1 : (a ++ [x, y]).length = 2 * (n + 1) := by simp; omega
  have h2 : (a ++ [x', y']).length = 2 * (n + 1) := by simp; omega
  rw [all_append h1, all_append h2, all_append h, all_append h, all_pair, all_pair]
  omega
theorem all_zero_iff : ∀ (l : List UInt8), all l = 0 ↔ ∀ i < l.length, at0 l i = 0 := by
  intro l
  have key : ∀ k, upto l k = 0 ↔ ∀ i < 2 * k, at0 l i = 0 := by
    intro k
    induction k with
    | zero => simp [upto]
    | succ k ih =>
      show upto l k + word l k = 0 ↔ _
      constructor
      · intro h i hi
        have h1 : upto l k = 0 := by omega
        have h2 : word l k = 0 := by omega
        unfold word at h2
        rcases Nat.lt_or_ge i (2 * k) with h3 | h3
        · exact ih.1 h1 i h3
        · rcases (show i = 2 * k ∨ i = 2 * k + 1 by omega) with rfl | rfl <;> omega
      · intro h
        have h1 := ih.2 (fun i hi => h i (by omega))
        unfold word
        rw [h1, h (2 * k) (by omega), h (2 * k + 1) (by omega)]
  unfold all
  rw [key]
  constructor
  · intro h i hi; exact h i (by omega)
  · intro h i hi
    rcases Nat.lt_or_ge i l.length with h1 | h1
    · exact h i h1
    · exact at0_zero h1
/-- The changed checksum. -/
def changed (c m n : Nat) : Nat := 65535 - addC (addC (65535 - c) (65535 - m)) n
theorem canon_pos {n : Nat} (h : 0 < n) : canon (n + 65535) = canon n := by
  unfold canon; rw [if_neg (by omega), if_neg (by omega)]; omega
theorem changed_of {S S' m n : Nat} (hm : m < 65536) (hn : n < 65536) (hS : S' + m = S + n) :
    65535 - canon S' = changed (65535 - canon S) m n ∨ S' = 0 ∧ 65535 - canon S' = 65535 ∧ changed (65535 - canon S) m n = 0 := by
  have hc := canon_lt S
  have e : changed (65535 - canon S) m n = 65535 - canon (S' + 65535) := by
    unfold changed
    rw [show 65535 - (65535 - canon S) = canon S by omega, addC_canon _ _ (by omega), addC_canon _ _ hn]
    congr 2
    omega
  rw [e]
  rcases Nat.eq_zero_or_pos S' with h | h
  · right; subst h; exact ⟨rfl, rfl, rfl⟩
  · left; rw [canon_pos h]

end Sm
end Go.Proofs.Ytdjhgahdiggahaa

namespace Go.Proofs.Ytdjhgahdiggahaa
namespace Om
open Sm

/-- What goes over bytes tells: each option, and nothing where one may not be (the last then). -/
def seq (l : List UInt8) : List (Option (List UInt8)) :=
  if l = [] then []
  else if at0 l 0 = 0 then []
  else if at0 l 0 = 1 then seq (l.drop 1)
  else if l.length < 2 ∨ at0 l 1 < 2 ∨ l.length < at0 l 1 then [none]
  else some (l.take (at0 l 1)) :: seq (l.drop (at0 l 1))
termination_by l.length
decreasing_by
  · rename_i h _ _; have : 0 < l.length := List.length_pos_iff.2 h; simp; omega
  · rename_i h _ _ h2; have : 0 < l.length := List.length_pos_iff.2 h; simp; omega

theorem seq_nil : seq [] = [] := by rw [seq]; rfl
theorem seq_end {l : List UInt8} (h : at0 l 0 = 0) : seq l = [] := by
  rw [seq]; split <;> first | rfl | rw [if_pos h]
theorem seq_nop {l : List UInt8} (h0 : 0 < l.length) (h : at0 l 0 = 1) : seq l = seq (l.drop 1) := by
  rw [seq, if_neg (List.length_pos_iff.1 h0), if_neg (by omega), if_pos h]
theorem seq_bad {l : List UInt8} (h0 : 0 < l.length) (h1 : 2 ≤ at0 l 0) (h : l.length < 2 ∨ at0 l 1 < 2 ∨ l.length < at0 l 1) : seq l = [none] := by
  rw [seq, if_neg (List.length_pos_iff.1 h0), if_neg (by omega), if_neg (by omega), if_pos h]
theorem seq_opt {l : List UInt8} (h1 : 2 ≤ at0 l 0) (h2 : 2 ≤ at0 l 1) (h3 : at0 l 1 ≤ l.length) : seq l = some (l.take (at0 l 1)) :: seq (l.drop (at0 l 1)) := by
  rw [seq, if_neg (List.length_pos_iff.1 (by omega)), if_neg (by omega), if_neg (by omega), if_neg (by omega)]

/-- May they be? -/
def ok (l : List UInt8) : Bool := !(seq l).contains none
/-- The options, whole, where they may be; none where not. -/
def raws (l : List UInt8) : List (List UInt8) := if ok l then (seq l).filterMap id else []
theorem seq_some : ∀ (n : Nat) (l : List UInt8), l.length ≤ n → ∀ r, some r ∈ seq l → 2 ≤ r.length ∧ 2 ≤ at0 r 0 ∧ at0 r 1 = r.length
  | 0, l, h, r, hr => by
    have : l = [] := List.length_eq_zero_iff.1 (by omega)
    subst this; rw [seq_nil] at hr; cases hr
  | n + 1, l, h, r, hr => by
    rcases Nat.eq_zero_or_pos l.length with h0 | h0
    · have : l = [] := List.length_eq_zero_iff.1 h0
      subst this; rw [seq_nil] at hr; cases hr
    · by_cases h1 : at0 l 0 = 0
      · rw [seq_end h1] at hr; cases hr
      · by_cases h2 : at0 l 0 = 1
        · rw [seq_nop h0 h2] at hr
          exact seq_some n _ (by simp; omega) r hr
        · by_cases h3 : l.length < 2 ∨ at0 l 1 < 2 ∨ l.length < at0 l 1
          · rw [seq_bad h0 (by omega) h3] at hr; simp at hr
          · rw [seq_opt (by omega) (by omega) (by omega)] at hr
            rcases List.mem_cons.1 hr with e | e
            · simp only [Option.some.injEq] at e
              subst e
              have e0 : at0 (l.take (at0 l 1)) 0 = at0 l 0 := by unfold at0; rw [List.getElem?_take, if_pos (by show 0 < at0 l 1; omega)]
              have e1 : at0 (l.take (at0 l 1)) 1 = at0 l 1 := by
                have : 1 < at0 l 1 := by omega
                show (((l.take (at0 l 1))[1]?).map UInt8.toNat).getD 0 = _
                rw [List.getElem?_take, if_pos this]; rfl
              rw [e0, e1, List.length_take]; omega
            · exact seq_some n _ (by simp; omega) r e
theorem seq_len : ∀ (n : Nat) (l : List UInt8), l.length ≤ n → (seq l).length ≤ l.length
  | 0, l, h => by
    have : l = [] := List.length_eq_zero_iff.1 (by omega)
    subst this; rw [seq_nil]; simp
  | n + 1, l, h => by
    rcases Nat.eq_zero_or_pos l.length with h0 | h0
    · have : l = [] := List.length_eq_zero_iff.1 h0
      subst this; rw [seq_nil]; simp
    · by_cases h1 : at0 l 0 = 0
      · rw [seq_end h1]; simp
      · by_cases h2 : at0 l 0 = 1
        · rw [seq_nop h0 h2]
          have := seq_len n (l.drop 1) (by simp; omega)
          simp at this ⊢; omega
        · by_cases h3 : l.length < 2 ∨ at0 l 1 < 2 ∨ l.length < at0 l 1
          · rw [seq_bad h0 (by omega) h3]; simp; omega
          · rw [seq_opt (by omega) (by omega) (by omega)]
            have := seq_len n (l.drop (at0 l 1)) (by simp; omega)
            simp at this ⊢; omega
end Om
end Go.Proofs.Ytdjhgahdiggahaa

namespace Go.Proofs.Ytdjhgahdiggahaa
open Go.RowKit
attribute [local go_sem ↓] Go.wp_at_zero Go.wp_at_succ

/-- The number that stands at a place, of so many bytes. -/
def numAt (l : List UInt8) (i k : Nat) : Nat := getL ((l.take (i + k)).drop i)
/-- How many bytes a header says that it has. -/
def hsz (l : List UInt8) : Nat := Sm.at0 l 0 % 16 * 4
theorem numAt_lt {l : List UInt8} {i k : Nat} (h : i + k ≤ l.length) : numAt l i k < 256 ^ k := getL_lt _ _ (by simp; omega)
theorem at0_get {l : List UInt8} {i : Nat} (h : i < l.length) : Sm.at0 l i = l[i].toNat := by unfold Sm.at0; rw [List.getElem?_eq_getElem h]; rfl
theorem Bytes.at1 {w : World} {a : Option Addr} {n c : Nat} {l : List UInt8} (h : Bytes w (.slice a n c) l) {i : Nat} (hi : i < l.length) :
    ∃ b o, a = some ⟨b, o, none⟩ ∧ b < w.heap.size ∧ w.cell? ⟨b, o + i, none⟩ = some (.int .u8 (Sm.at0 l i : Nat)) := by
  rw [at0_get hi]; exact h.at hi

theorem numbersW_any (a : Option Addr) (n c : Nat) (w : World) :
    Calls Try.prog 110 #[.slice a n c] w fun e w' => e = .returned (.tuple #[.func (.func 127) #[] #[.pointer (some ⟨w.heap.size, 0, none⟩)], .func (.func 129) #[] #[.pointer (some ⟨w.heap.size, 0, none⟩)]]) ∧ w' = w.alloc (.cells #[.slice a n c] 97) := by
  go_enter Try.func110, Try.ntmps110
  go_wp2_with fail
  go_ret2
  exact ⟨rfl, rfl⟩
theorem and15 {x : Nat} (h : x < 256) : bits .and .u8 (x : Int) 15 = ((x % 16 : Nat) : Int) := by
  rw [u8_and _ 15 (by omega) (by omega) (by omega) (by omega), Int.toNat_natCast]
  have : (15 : Int).toNat = 15 := rfl
  rw [this, Nat.and_two_pow_sub_one_eq_mod x 4]

theorem numG_in (at_ size : Nat) (B : Nat) (v : Value) (l : List UInt8) (w w1 : World) (hb : Below w.heap.size w w1) (hB : B < w.heap.size) (hc : w.cell? ⟨B, 0, none⟩ = some v) (hv : Bytes w v l) (h1 : 1 ≤ size) (h8 : size ≤ 8) (h2 : at_ + size ≤ l.length) (hl : l.length ≤ 1000000) :
    Calls Try.prog 127 #[.int .i64 (at_ : Int), .int .i64 (size : Int), .pointer (some ⟨B, 0, none⟩)] w1 fun e w' => e = .returned (.int .u64 (numAt l at_ size : Nat)) ∧ w1 = w' :=
  numG_any at_ size B v l w1 ((hb.cell (p := ⟨B, 0, none⟩) hB).trans hc) (hv.later hb) h1 h8 h2 hl

set_option maxHeartbeats 1000000 in
theorem sizes_any (v : Value) (l : List UInt8) (w : World) (hv : Bytes w v l) (h20 : 20 ≤ l.length) (hl : l.length ≤ 1000000) :
    Calls Try.prog 109 #[v] w fun e w' => e = .returned (.tuple #[.int .i64 (hsz l : Nat), .int .i64 (numAt l 2 2 : Nat)]) ∧ Below w.heap.size w w' := by
  obtain ⟨a, c, rfl⟩ := hv.form
  obtain ⟨bl, bo, rfl, hbl, hcell⟩ := hv.at1 (i := 0) (by omega)
  have hx := Sm.at0_lt l 0
  obtain ⟨x, hxe⟩ : ∃ x, x = Sm.at0 l 0 := ⟨_, rfl⟩
  rw [← hxe] at hx hcell
  have hA : Below w.heap.size w (w.alloc (.cells #[.slice (some ⟨bl, bo, none⟩) l.length c] 97)) := (Below.refl _ _).alloc (Nat.le_refl _) _
  have hget := fun n => quiet_left (numG_in 2 2 w.heap.size _ l _ ((w.alloc (.cells #[.slice (some ⟨bl, bo, none⟩) l.length c] 97)).drewN n) (below_dr0 _ _ n) (by simp) (by simp) (hv.later hA) (by omega) (by omega) (by omega) hl)
  have hnl := numAt_lt (l := l) (i := 2) (k := 2) (by omega)
  obtain ⟨n, hn⟩ : ∃ n, n = numAt l 2 2 := ⟨_, rfl⟩
  have hn2 : n < 65536 := by rw [hn]; exact hnl
  have hcell0 : w.cell? ⟨bl, bo, none⟩ = some (.int .u8 (x : Int)) := hcell
  have h15 := and15 hx
  have g0 : (0 : Int) < l.length := by omega
  obtain ⟨y, hy⟩ : ∃ y, y = x % 16 := ⟨_, rfl⟩
  have hy2 : y < 16 := by omega
  rw [← hy] at h15
  have H15 := Lib.hid h15
  have HY := Lib.hid hy
  rw [← hn] at hget
  have HG := Lib.hid hget
  have HN := Lib.hid hn
  have HX := Lib.hid hxe
  have HA := Lib.hid hA
  clear hget hv hcell hA h15 hy hn hnl hxe hx
  go_enter Try.func109, Try.ntmps109
  go_wp2_with fail
  refine (numbersW_any _ _ _ _).mono ?_
  rintro e w1 ⟨rfl, rfl⟩
  go_wp2_with fail
  go_quiet ((go_at_call 127; exact HG.out _))
  go_wp2_with fail
  go_ret2
  have e1 : wrap64 (y : Int) = y := IntWalk.wrap64_in _ ⟨by omega, by omega⟩
  have e2 : wrap64 ((y : Int) * 4) = ((y * 4 : Nat) : Int) := by rw [IntWalk.wrap64_in _ ⟨by omega, by omega⟩]; omega
  refine ⟨ret_ii ?_ (by rw [← HN.out]), below_drewN HA.out _⟩
  rw [H15.out, e1, e2, HY.out, HX.out]; rfl
theorem first_no (v : Value) (l : List UInt8) (w : World) (hv : Bytes w v l) (h : l.length < 2 ∨ Sm.at0 l 1 < 2 ∨ l.length < Sm.at0 l 1) (hl : l.length ≤ 1000000) :
    Calls Try.prog 163 #[v] w fun e w' => e = .returned (.slice none 0 0) ∧ w = w' := by
  obtain ⟨a, c, rfl⟩ := hv.form
  rcases Nat.lt_or_ge l.length 2 with h1 | h1
  · have g1 : (l.length : Int) < 2 := by omega
    clear hv h
    go_enter Try.func163, Try.ntmps163
    go_wp2
    go_ret
    exact ⟨rfl, rfl⟩
  · obtain ⟨bl, bo, rfl, hbl, hcell⟩ := hv.at1 (i := 1) (by omega)
    obtain ⟨x, hxe⟩ : ∃ x, x = Sm.at0 l 1 := ⟨_, rfl⟩
    have hx : x < 256 := by rw [hxe]; exact Sm.at0_lt l 1
    rw [← hxe] at hcell h
    have g1 : (2 : Int) ≤ l.length := by omega
    clear hv hxe
    rcases Nat.lt_or_ge x 2 with h2 | h2
    · have g2 : (x : Int) < 2 := by omega
      clear h
      go_enter Try.func163, Try.ntmps163
      go_wp2
      go_ret
      exact ⟨rfl, rfl⟩
    · have g2 : (2 : Int) ≤ x := by omega
      have g3 : (l.length : Int) < x := by omega
      clear h
      go_enter Try.func163, Try.ntmps163
      go_wp2
      go_ret
      exact ⟨rfl, rfl⟩
set_option maxRecDepth 100000 in
theorem first_yes (bl bo c : Nat) (l : List UInt8) (w : World) (hv : Bytes w (.slice (some ⟨bl, bo, none⟩) l.length c) l) (h : 2 ≤ Sm.at0 l 1) (h2 : Sm.at0 l 1 ≤ l.length) (hl : l.length ≤ 1000000) :
    Calls Try.prog 163 #[.slice (some ⟨bl, bo, none⟩) l.length c] w fun e w' => e = .returned (.slice (some ⟨bl, bo, none⟩) (Sm.at0 l 1) c) ∧ w = w' := by
  obtain ⟨b2, o2, e1, hbl, hcell⟩ := hv.at1 (i := 1) (by omega)
  simp only [Option.some.injEq, Addr.mk.injEq, and_true] at e1
  obtain ⟨rfl, rfl⟩ := e1
  obtain ⟨x, hxe⟩ : ∃ x, x = Sm.at0 l 1 := ⟨_, rfl⟩
  have hx : x < 256 := by rw [hxe]; exact Sm.at0_lt l 1
  obtain ⟨hs, _⟩ := hv.cut_hk .u8 (x : Int) x rfl (by omega)
  rw [← hxe] at hcell h h2 ⊢
  have hs' := hs w
  have g1 : (2 : Int) ≤ l.length := by omega
  have g2 : (2 : Int) ≤ x := by omega
  have g3 : (x : Int) ≤ l.length := by omega
  clear hv hxe hs h h2 hl
  go_enter Try.func163, Try.ntmps163
  go_wp2_with fail
  go_ret
  exact ⟨rfl, rfl⟩
end Go.Proofs.Ytdjhgahdiggahaa

namespace Go.Proofs.Ytdjhgahdiggahaa
open Go.RowKit Go.Shelf
attribute [local go_sem] Oper.semAt_some

/-- What is told: an option's bytes, or nil. -/
def OptV (w : World) (v : Value) : Option (List UInt8) → Prop
  | none => v = .slice none 0 0
  | some r => ∃ b o c, v = .slice (some ⟨b, o, none⟩) r.length c ∧ b < w.heap.size ∧ 2 ≤ r.length ∧ r.length < 256 ∧ Bytes w v r
/-- One of them. -/
def Opt (w : World) : Type := { p : Value × Option (List UInt8) // OptV w p.1 p.2 }
def Opt.raw {w : World} (x : Opt w) : Option (List UInt8) := x.1.2
def Opt.val {w : World} (x : Opt w) : Value := x.1.1
def slen : Value → Nat
  | .slice _ n _ => n
  | _ => 0

theorem wpIn_scope_wide {n : Nat} {P : Program} {c : Code} {Q : Exit → Act → World → Prop} {a : Act} {w : World} (h : c.wpIn Fence.wide n P (Exit.noGoto Q) a w) : (Code.scope c).wpIn Fence.wide n P Q a w :=
  wpIn_wide.2 (wp_scope_straight (wpIn_wide.1 h))

theorem each_any (a : Option Addr) (n c : Nat) (w : World) :
    Calls Try.prog 146 #[.slice a n c] w fun e w' => e = .returned (.func (.func 162) #[] #[.pointer (some ⟨w.heap.size, 0, none⟩)]) ∧ w' = w.alloc (.cells #[.slice a n c] 97) := by
  go_enter Try.func146, Try.ntmps146
  go_wp2_with fail
  go_ret
  exact ⟨rfl, rfl⟩

set_option maxRecDepth 100000 in
set_option maxHeartbeats 2000000 in
theorem each1_in (n : Nat) (hn : 1 ≤ n) (w0 : World) (l Bn : Nat) (L : List UInt8) (v : Value) (hL : L.length ≤ 1000000) (J Jx : List (Opt w0) → World → Prop)
    (hY : ∀ pre x W, J pre W → pre.length < L.length → YieldAt Fence.wide (n - 1) Try.prog l #[x.val] W fun e W' =>
      (e = .returned (.bool true) ∧ J (pre ++ [x]) W' ∧ Below w0.heap.size W W') ∨ (e = .returned (.bool false) ∧ Jx (pre ++ [x]) W'))
    (W : World) (hBn : W.cell? ⟨Bn, 0, none⟩ = some v) (hv : Bytes w0 v L) (hW : Below w0.heap.size w0 W) (h0 : J [] W) :
    CallsIn Fence.wide n Try.prog 162 #[.func (.yield l) #[] #[], .pointer (some ⟨Bn, 0, none⟩)] W fun e W' => (∃ v, e = .returned v) ∧
      ((∃ ys, ys.map Opt.raw = Om.seq L ∧ J ys W') ∨ (∃ pre, pre.map Opt.raw <+: Om.seq L ∧ Jx pre W')) := by
  obtain ⟨a, c, rfl⟩ := hv.form
  refine callsIn_of_wp Try.func162 rfl trivial ?_ rfl
  simp only [Try.ntmps162, List.size_toArray, List.length_cons, List.length_nil, Nat.reduceAdd, Nat.reduceSub, Array.replicate_succ, Array.replicate_zero, List.push_toArray, List.append_toArray, List.nil_append, List.cons_append]
  have HV := Lib.hid hv
  have HY := Lib.hid hY
  have HW := Lib.hid hW
  clear hv hY hW
  refine wpIn_scope_wide ?_
  gi_wp2_with fail
  refine wpIn_label ?_
  gi_wp2_with fail
  gi_loopw [3] (fun r wr => ∃ (rest : List UInt8) (a' : Option Addr) (c' : Nat) (pre : List (Opt w0)), r = .slice a' rest.length c' ∧ rest.length ≤ L.length ∧ Hid (Bytes w0 (.slice a' rest.length c') rest) ∧ Hid (pre.map Opt.raw ++ Om.seq rest = Om.seq L) ∧ Hid (J pre wr) ∧ Hid (Below w0.heap.size w0 wr)) (fun r _ => slen r)
  case atStart => exact ⟨L, a, c, [], rfl, Nat.le_refl _, HV.out, rfl, h0, HW.out⟩
  case round =>
    obtain ⟨rest, a', c', pre, rfl, hrl, HB, HS, HJ, HL⟩ := hrel
    rcases Nat.eq_zero_or_pos rest.length with hz | hz
    · obtain rfl : rest = [] := List.length_eq_zero_iff.1 hz
      have HE : Hid (pre.map Opt.raw = Om.seq L) := by have := HS.out; rw [Om.seq_nil, List.append_nil] at this; exact this
      simp only [List.length_nil]
      clear HS HB hz hrl
      gi_wp2_with fail
      simp only [Exit.noGoto]
      go_end0
      exact ⟨⟨_, rfl⟩, .inl ⟨pre, HE.out, HJ.out⟩⟩
    · obtain ⟨b, o, rfl, hb, hcell⟩ := HB.out.at1 hz
      have hcw := cell_later' HL.out hb hcell
      have hx := Sm.at0_lt rest 0
      obtain ⟨x, hxe⟩ : ∃ x, x = Sm.at0 rest 0 := ⟨_, rfl⟩
      rw [← hxe] at hx hcw
      have hcw0 : wr.cell? ⟨b, o, none⟩ = some (.int .u8 (x : Int)) := hcw
      have g0 : (0 : Int) < rest.length := by omega
      have HX := Lib.hid hxe
      clear hcell hcw hxe
      rcases Nat.eq_zero_or_pos x with hx0 | hx0
      · subst hx0
        have HE : Hid (pre.map Opt.raw = Om.seq L) := by have := HS.out; rw [Om.seq_end HX.out.symm, List.append_nil] at this; exact this
        clear HS HB
        gi_wp2_with fail
        simp only [Exit.noGoto]
        go_end0
        exact ⟨⟨_, rfl⟩, .inl ⟨pre, HE.out, HJ.out⟩⟩
      · rcases Nat.lt_or_ge 1 x with hx1 | hx1
        · by_cases hbad : rest.length < 2 ∨ Sm.at0 rest 1 < 2 ∨ rest.length < Sm.at0 rest 1
          · have hf := callsIn_wide (n := n - 1).2 (first_no _ rest wr (HB.out.later HL.out) hbad (by omega))
            have hsq := Om.seq_bad hz (by rw [← HX.out]; omega) hbad
            have HE : Hid (pre.map Opt.raw ++ [none] = Om.seq L) := by have := HS.out; rw [hsq] at this; exact this
            have hlen : pre.length < L.length := by
              have := congrArg List.length HE.out
              have h2 := Om.seq_len _ L (Nat.le_refl _)
              simp at this; omega
            obtain ⟨fn, tmps, assign, body, hy, hR⟩ := HY.out pre ⟨(.slice none 0 0, none), rfl⟩ wr HJ.out hlen
            have HF := Lib.hid hf
            have HR := Lib.hid hR
            dsimp only [Opt.val] at hy
            have g1 : ((x : Int) == 0) = false := by simp; omega
            have g2 : ((x : Int) == 1) = false := by simp; omega
            have hnn : ∀ W, (binOp .eql 97 (.slice none 0 0) (.slice none 0 0)).run Try.prog W = .ok (.bool true) W := fun W => Lib.run_eql_slice_nil W _ _ none 0 0 0 0 Try.underlying97
            clear hbad hsq hlen hf HS HB hR
            gi_wp2_with fail
            refine ⟨trivial, HF.out.mono ?_⟩
            rintro e w1 ⟨rfl, rfl⟩
            gi_wp2_with fail
            refine HR.out.mono ?_
            rintro e W3 (⟨rfl, hJ3, hk3⟩ | ⟨rfl, hJx3⟩)
            · have HJ3 := Lib.hid hJ3
              clear hJ3
              gi_wp2_with fail
              simp only [Exit.noGoto]
              go_end0
              exact ⟨⟨_, rfl⟩, .inl ⟨pre ++ [⟨(.slice none 0 0, none), rfl⟩], by rw [List.map_append]; exact HE.out, HJ3.out⟩⟩
            · have HJ3 := Lib.hid hJx3
              clear hJx3
              gi_wp2_with fail
              simp only [Exit.noGoto]
              go_end0
              exact ⟨⟨_, rfl⟩, .inr ⟨pre ++ [⟨(.slice none 0 0, none), rfl⟩], by rw [List.map_append, show List.map Opt.raw [(⟨(.slice none 0 0, none), rfl⟩ : Opt w0)] = [none] from rfl, HE.out]; exact List.prefix_refl _, HJ3.out⟩⟩
          · have n1 : 2 ≤ rest.length := by omega
            have n2 : 2 ≤ Sm.at0 rest 1 := by omega
            have n3 : Sm.at0 rest 1 ≤ rest.length := by omega
            have hf := callsIn_wide (n := n - 1).2 (first_yes b o c' rest wr (HB.out.later HL.out) n2 n3 (by omega))
            have hsq := Om.seq_opt (l := rest) (by rw [← HX.out]; omega) n2 n3
            obtain ⟨m, hm⟩ : ∃ m, m = Sm.at0 rest 1 := ⟨_, rfl⟩
            rw [← hm] at n2 n3 hf hsq
            have hopt : OptV w0 (.slice (some ⟨b, o, none⟩) m c') (some (rest.take m)) := ⟨b, o, c', by rw [List.length_take, Nat.min_eq_left n3], hb, by rw [List.length_take, Nat.min_eq_left n3]; exact n2, by rw [List.length_take, Nat.min_eq_left n3, hm]; exact Sm.at0_lt _ _, (HB.out.cut_hk .i64 m m rfl n3).2⟩
            have HE : Hid (pre.map Opt.raw ++ some (rest.take m) :: Om.seq (rest.drop m) = Om.seq L) := by have := HS.out; rw [hsq] at this; exact this
            have hlen : pre.length < L.length := by
              have := congrArg List.length HE.out
              have h2 := Om.seq_len _ L (Nat.le_refl _)
              simp at this; omega
            obtain ⟨y, hyv, hyr⟩ : ∃ y : Opt w0, y.val = .slice (some ⟨b, o, none⟩) m c' ∧ y.raw = some (rest.take m) := ⟨⟨(_, _), hopt⟩, rfl, rfl⟩
            obtain ⟨fn, tmps, assign, body, hy, hR⟩ := HY.out pre y wr HJ.out hlen
            rw [hyv] at hy
            obtain ⟨a', hs, hb'⟩ := HB.out.cut_l (m : Int) m rfl n3
            have HF := Lib.hid hf
            have HR := Lib.hid hR
            have HYR := Lib.hid hyr
            have HB' := Lib.hid hb'
            have g1 : ((x : Int) == 0) = false := by simp; omega
            have g2 : ((x : Int) == 1) = false := by simp; omega
            clear hbad hsq hlen hf HS HB hR hopt hyv hyr hm hb'
            gi_wp2_with fail
            refine ⟨trivial, HF.out.mono ?_⟩
            rintro e w1 ⟨rfl, rfl⟩
            gi_wp2_with fail
            refine HR.out.mono ?_
            rintro e W3 (⟨rfl, hJ3, hk3⟩ | ⟨rfl, hJx3⟩)
            · have HJ3 := Lib.hid hJ3
              have HL3 : Hid (Below w0.heap.size w0 W3) := HL.out.trans hk3
              have hs' := hs W3
              clear hJ3 hk3 hs
              have hsn : ∀ W, (binOp .eql 97 (.slice (some ⟨b, o, none⟩) m c') (.slice none 0 0)).run Try.prog W = .ok (.bool false) W := fun W => Lib.run_eql_slice_nil W _ _ (some ⟨b, o, none⟩) m c' 0 0 Try.underlying97
              gi_wp2_with fail
              go_roundw
              case rel => exact ⟨rest.drop m, a', c' - m, pre ++ [y], by rw [List.length_drop], by rw [List.length_drop]; omega, by rw [List.length_drop]; exact HB', by show _ = _; rw [List.map_append, List.append_assoc, show List.map Opt.raw [y] = [some (rest.take m)] from by rw [List.map_singleton, HYR.out]]; exact HE.out, HJ3, HL3⟩
              case measure => simp [slen]; omega
            · have HJ3 := Lib.hid hJx3
              clear hJx3 hs
              gi_wp2_with fail
              simp only [Exit.noGoto]
              go_end0
              exact ⟨⟨_, rfl⟩, .inr ⟨pre ++ [y], ⟨Om.seq (rest.drop m), by rw [List.map_append, List.append_assoc, show List.map Opt.raw [y] = [some (rest.take m)] from by rw [List.map_singleton, HYR.out]]; exact HE.out⟩, HJ3.out⟩⟩
        · obtain rfl : x = 1 := by omega
          obtain ⟨a', hs, hb'⟩ := HB.out.cut_l 1 1 rfl (by omega)
          have hs' := hs wr
          have HB' := Lib.hid hb'
          have HE : Hid (pre.map Opt.raw ++ Om.seq (rest.drop 1) = Om.seq L) := by have := HS.out; rw [Om.seq_nop hz HX.out.symm] at this; exact this
          clear HS HB hs hb'
          gi_wp2_with fail
          go_roundw
          case rel => exact ⟨rest.drop 1, a', c' - 1, pre, by rw [List.length_drop], by rw [List.length_drop]; omega, by rw [List.length_drop]; exact HB', HE, HJ, HL⟩
          case measure => simp [slen]; omega
end Go.Proofs.Ytdjhgahdiggahaa

namespace Go.Proofs.Ytdjhgahdiggahaa
open Go.RowKit Go.Shelf
attribute [local go_sem] Oper.semAt_some

theorem nil_nil (W : World) : (binOp .eql 97 (.slice none 0 0) (.slice none 0 0)).run Try.prog W = .ok (.bool true) W := Lib.run_eql_slice_nil W _ _ none 0 0 0 0 Try.underlying97
theorem some_nil (W : World) (x : Addr) (n c : Nat) : (binOp .eql 97 (.slice (some x) n c) (.slice none 0 0)).run Try.prog W = .ok (.bool false) W := Lib.run_eql_slice_nil W _ _ (some x) n c 0 0 Try.underlying97

theorem each_stops (n : Nat) (hn : 1 ≤ n) (w0 w : World) (Bs : Nat) (v : Value) (L : List UInt8) (hL : L.length ≤ 1000000) (hBs : Bs < w.heap.size) (hc : w.cell? ⟨Bs, 0, none⟩ = some v) (hv : Bytes w0 v L) (hb : Below w0.heap.size w0 w) :
    SeqStopsK Fence.wide n Try.prog 162 #[.pointer (some ⟨Bs, 0, none⟩)] (fun x : Opt w0 => #[x.val]) (Below w0.heap.size) (fun ys => ys.map Opt.raw = Om.seq L) (fun pre => pre.map Opt.raw <+: Om.seq L) L.length w := fun l J Jx W hW _ _ hY h0 =>
  each1_in n hn w0 l Bs L v hL J Jx hY W ((hW.cell (p := ⟨Bs, 0, none⟩) hBs).trans hc) hv (hb.trans (hW.mono hb.size)) h0

theorem ok_all {L : List UInt8} {ys : List (Option (List UInt8))} (h : ys = Om.seq L) (hn : ∀ p ∈ ys, p ≠ none) : Om.ok L = true := by
  unfold Om.ok; rw [← h]; simp
  intro h2; exact hn _ h2 rfl
theorem ok_none {L : List UInt8} (h : none ∈ Om.seq L) : Om.ok L = false := by
  unfold Om.ok; simp [h]

set_option maxRecDepth 100000 in
set_option maxHeartbeats 2000000 in
theorem mayOptions_in (n : Nat) (hn : 3 ≤ n) (a : Option Addr) (c : Nat) (L : List UInt8) (hL : L.length ≤ 1000000) (w : World) (hv : Bytes w (.slice a L.length c) L) :
    CallsIn Fence.wide n Try.prog 126 #[.slice a L.length c] w fun e W' => e = .returned (.bool (Om.ok L)) ∧ Below w.heap.size w W' := by
  have h1 : 1 ≤ n := by omega
  refine callsIn_of_wp_marks Try.func126 rfl trivial ?_ rfl
  simp only [Try.ntmps126, List.size_toArray, List.length_cons, List.length_nil, Nat.reduceAdd, Nat.reduceSub, Array.replicate_succ, Array.replicate_zero, List.push_toArray, List.append_toArray, List.nil_append, List.cons_append]
  have HV := Lib.hid hv
  clear hv
  gi_wp2_with fail
  refine ⟨trivial, (callsIn_wide.2 (each_any a L.length c _)).mono ?_⟩
  rintro e w' ⟨rfl, rfl⟩
  gi_wp2_with fail
  have bR := Boxed.new w 4 (.bool false)
  have bN := Boxed.new (w.alloc (.cells #[.bool false] 4)) 97 (.slice a L.length c)
  rw [World.size_alloc] at bN
  have hB0 : Below w.heap.size w ((w.alloc (.cells #[.bool false] 4)).alloc (.cells #[.slice a L.length c] 97)) := ((Below.refl _ w).alloc (Nat.le_refl _) _).alloc (by simp) _
  refine wpIn_rangeFunc_ownG rfl h1 (gf := 162) (lb := #[.pointer (some ⟨w.heap.size + 1, 0, none⟩)]) rfl trivial (enters_of Try.func162 (by kernel_rfl) rfl)
    (each_stops (n - 1) (by omega) w _ (w.heap.size + 1) _ L hL (by simp) bN.cell HV.out hB0) belowK_t (belowK_b (by simp; omega)) (Below.refl _ _) (fun _ => rfl)
    (fun pre W => ((∀ p ∈ pre, p.raw ≠ none) ∧ W.cell? ⟨w.heap.size, 0, none⟩ = some (.bool false) ∧ W.frozen? ⟨w.heap.size, 0, none⟩ = false) ∧ Below w.heap.size w W)
    (fun c pre W => (c = .ret ∧ (∃ p ∈ pre, p.raw = none) ∧ W.cell? ⟨w.heap.size, 0, none⟩ = some (.bool false)) ∧ Below w.heap.size w W)
    (OwnFrom.and (Own.from (fun s A B row hs hg hr => ⟨hs.1, cell_kept hs.2.1 hg hr, (frozen_kept hs.2.1 hg hr).trans hs.2.2⟩) _) (ownFrom_below (Nat.le_refl _) (by simp; omega)))
    (fun c => OwnFrom.and (Own.from (fun s A B row hs hg hr => ⟨hs.1, hs.2.1, cell_kept hs.2.2 hg hr⟩) _) (ownFrom_below (Nat.le_refl _) (by simp; omega)))
    ⟨⟨by simp, (bR.alloc _).cell, (bR.alloc _).frozen⟩, hB0⟩
    (fun x => { tmps := #[.slice a L.length c, undef, .pointer (some ⟨w.heap.size, 0, none⟩), x.val, .slice a L.length c, .func (.func 162) #[] #[.pointer (some ⟨w.heap.size + 1, 0, none⟩)], x.val, undef, undef], defers := [] }) ?assign ?body ?done ?stop
  case assign =>
    intro l x W K hK
    gi_wp2
    exact hK
  case body =>
    rintro l pre x W ⟨⟨hp, hcr, hfr⟩, hB⟩ _
    obtain ⟨⟨v, o⟩, hov⟩ := x
    cases o with
    | none =>
      obtain rfl : v = .slice none 0 0 := hov
      have hnn := nil_nil W
      simp only [Opt.val]
      gi_wp2
      exact ⟨(KeepsOthers.setCell _ _ _).from _, ⟨rfl, ⟨_, List.mem_append_right _ (List.mem_singleton.2 rfl), rfl⟩, World.cell?_setCell_same' _ _ _ (by rw [hcr]; rfl)⟩, hB.setCell (p := ⟨w.heap.size, 0, none⟩) (Nat.le_refl _) _⟩
    | some r =>
      obtain ⟨b, o, c', rfl, hb, _, _, hby⟩ := id hov
      have hsn := some_nil W ⟨b, o, none⟩ r.length c'
      simp only [Opt.val]
      clear hby
      gi_wp2
      exact ⟨KeepsFrom.refl _ _, Below.refl _ _, ⟨fun p hp' => (List.mem_append.1 hp').elim (hp p) (fun e => by rw [List.mem_singleton.1 e]; exact fun h => by cases h), hcr, hfr⟩, hB⟩
  case done =>
    rintro D ys W hD hys ⟨⟨hne, hcr, hfr⟩, hB⟩ hK
    gi_wp2
    have hK' := (KeepsOthers.setCell W ⟨w.heap.size, 0, none⟩ (.bool true)).same D _ hK rfl
    refine ⟨by simp, .inl ⟨_, _, rfl, run_takeDeferred hK', ?_⟩⟩
    have hc5 := cell_kept (World.cell?_setCell_same' W ⟨w.heap.size, 0, none⟩ (.bool true) (by rw [hcr]; rfl)) (grownBy_putObj' _ D (.deferred none)) (fun r e => by cases e; exact ⟨_, hK', rfl⟩)
    have hok := ok_all hys (fun p hp => by obtain ⟨q, hq, rfl⟩ := List.mem_map.1 hp; exact hne q hq)
    refine ⟨.bool true, ?_, by rw [hok], (hB.setCell (p := ⟨w.heap.size, 0, none⟩) (Nat.le_refl _) _).trans (belowK_b (w := w) (Nat.le_refl _) _ D _ _ (by simp at hD; omega) hK' rfl rfl)⟩
    simp [results, Try.f126, go_sem, hc5]
  case stop =>
    rintro D c pre W hD hpre ⟨⟨rfl, ⟨p, hp, hpr⟩, hcr⟩, hB⟩ hK
    gi_wp2
    refine ⟨by simp, .inl ⟨_, _, rfl, run_takeDeferred hK, ?_⟩⟩
    have hc5 := cell_kept hcr (grownBy_putObj' _ D (.deferred none)) (fun r e => by cases e; exact ⟨_, hK, rfl⟩)
    have hok : Om.ok L = false := ok_none (hpre.subset (List.mem_map.2 ⟨p, hp, hpr⟩))
    refine ⟨.bool false, ?_, by rw [hok], hB.trans (belowK_b (w := w) (Nat.le_refl _) W D _ _ (by simp at hD; omega) hK rfl rfl)⟩
    simp [results, Try.f126, go_sem, hc5]
theorem mayOptions_any (v : Value) (L : List UInt8) (hL : L.length ≤ 1000000) (w : World) (hv : Bytes w v L) :
    Calls Try.prog 126 #[v] w fun e W' => e = .returned (.bool (Om.ok L)) ∧ Below w.heap.size w W' := by
  obtain ⟨a, c, rfl⟩ := hv.form
  exact callsIn_wide.1 (mayOptions_in 3 (by omega) a c L hL w hv)
end Go.Proofs.Ytdjhgahdiggahaa

namespace Go.Proofs.Ytdjhgahdiggahaa
open Go.RowKit
attribute [local go_sem ↓] Go.wp_at_zero Go.wp_at_succ

theorem addW_any (x y : Nat) (w : World) (hx : x < 65536) (hy : y < 65536) :
    Calls Try.prog 161 #[.int .u16 (x : Int), .int .u16 (y : Int)] w fun e w' => e = .returned (.int .u16 (Sm.addC x y : Nat)) ∧ w = w' := by
  have hx2 : (x : Int) < 65536 := by omega
  have hy2 : (y : Int) < 65536 := by omega
  go_enter Try.func161, Try.ntmps161
  go_wp2
  go_ret
  refine ⟨ret_i ?_, rfl⟩
  rw [wrap16]
  unfold Sm.addC
  split <;> omega
theorem addR_any (x y : Nat) (w : World) (hx : x < 65536) (hy : y < 65536) :
    Calls Try.prog 131 #[.int .u16 (x : Int), .int .u16 (y : Int)] w fun e w' => e = .returned (.int .u16 (Sm.addC x y : Nat)) ∧ w = w' := by
  have hx2 : (x : Int) < 65536 := by omega
  have hy2 : (y : Int) < 65536 := by omega
  by_cases h : 65536 ≤ (x : Int) + y
  all_goals
    go_enter Try.func131, Try.ntmps131
    go_wp2
    go_ret
    refine ⟨ret_i ?_, rfl⟩
    (try rw [wrap16])
    unfold Sm.addC
    split <;> omega
theorem addW_int (x y : Int) (w : World) (hx0 : 0 ≤ x) (hx : x < 65536) (hy0 : 0 ≤ y) (hy : y < 65536) (z : Int) (hz : z = (Sm.addC x.toNat y.toNat : Nat)) :
    Calls Try.prog 161 #[.int .u16 x, .int .u16 y] w fun e w' => e = .returned (.int .u16 z) ∧ w = w' := by
  have := addW_any x.toNat y.toNat w (by omega) (by omega)
  rw [show ((x.toNat : Nat) : Int) = x by omega, show ((y.toNat : Nat) : Int) = y by omega, ← hz] at this
  exact this
theorem addR_int (x y : Int) (w : World) (hx0 : 0 ≤ x) (hx : x < 65536) (hy0 : 0 ≤ y) (hy : y < 65536) (z : Int) (hz : z = (Sm.addC x.toNat y.toNat : Nat)) :
    Calls Try.prog 131 #[.int .u16 x, .int .u16 y] w fun e w' => e = .returned (.int .u16 z) ∧ w = w' := by
  have := addR_any x.toNat y.toNat w (by omega) (by omega)
  rw [show ((x.toNat : Nat) : Int) = x by omega, show ((y.toNat : Nat) : Int) = y by omega, ← hz] at this
  exact this

/-- The first words of a number, the highest first, summed. -/
def foldK (x : Nat) : Nat → Nat
  | 0 => 0
  | 1 => Sm.addC 0 (x / 281474976710656 % 65536)
  | 2 => Sm.addC (Sm.addC 0 (x / 281474976710656 % 65536)) (x / 4294967296 % 65536)
  | 3 => Sm.addC (Sm.addC (Sm.addC 0 (x / 281474976710656 % 65536)) (x / 4294967296 % 65536)) (x / 65536 % 65536)
  | _ => Sm.addC (Sm.addC (Sm.addC (Sm.addC 0 (x / 281474976710656 % 65536)) (x / 4294967296 % 65536)) (x / 65536 % 65536)) (x % 65536)
theorem foldK_lt (x k : Nat) : foldK x k < 65536 := by
  have h1 : Sm.addC 0 (x / 281474976710656 % 65536) < 65536 := Sm.addC_lt (by omega) (by omega)
  have h2 : Sm.addC (Sm.addC 0 (x / 281474976710656 % 65536)) (x / 4294967296 % 65536) < 65536 := Sm.addC_lt h1 (by omega)
  have h3 := Sm.addC_lt h2 (show x / 65536 % 65536 < 65536 by omega)
  have h4 := Sm.addC_lt h3 (show x % 65536 < 65536 by omega)
  unfold foldK
  split
  · omega
  · exact h1
  · exact h2
  · exact h3
  · exact h4
theorem fold_arg0 (x : Nat) (y : Int) (h : y.toNat = x / 281474976710656 % 65536) : ((foldK x 1 : Nat) : Int) = (Sm.addC ((foldK x 0 : Nat) : Int).toNat y.toNat : Nat) := by
  rw [Int.toNat_natCast, h]; rfl
theorem fold_arg1 (x : Nat) (y : Int) (h : y.toNat = x / 4294967296 % 65536) : ((foldK x 2 : Nat) : Int) = (Sm.addC ((foldK x 1 : Nat) : Int).toNat y.toNat : Nat) := by
  rw [Int.toNat_natCast, h]; rfl
theorem fold_arg2 (x : Nat) (y : Int) (h : y.toNat = x / 65536 % 65536) : ((foldK x 3 : Nat) : Int) = (Sm.addC ((foldK x 2 : Nat) : Int).toNat y.toNat : Nat) := by
  rw [Int.toNat_natCast, h]; rfl
theorem fold_arg3 (x : Nat) (y : Int) (h : y.toNat = x / 1 % 65536) : ((foldK x 4 : Nat) : Int) = (Sm.addC ((foldK x 3 : Nat) : Int).toNat y.toNat : Nat) := by
  rw [Int.toNat_natCast, h]; simp [foldK]
def foldN (x : Nat) : Nat := foldK x 4
end Go.Proofs.Ytdjhgahdiggahaa
