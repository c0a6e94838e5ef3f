/- The walks of Put and Get, and of the reference's. -/
import Derived.Test.YtccfebaifgnodaaWa
import Derived.Test.YtccfebaifgnodaaBy
namespace Go.Proofs.Ytccfebaifgnodaa
open Go.RowKit
attribute [local go_sem ↓] Go.wp_at_zero Go.wp_at_succ

/-- The last k bytes of a number, the highest first. -/
def putL (n : Nat) : Nat → List UInt8
  | 0 => []
  | k + 1 => UInt8.ofNat (n / 256 ^ k) :: putL n k
theorem putL_length (n : Nat) : ∀ k, (putL n k).length = k
  | 0 => rfl
  | k + 1 => by simp [putL, putL_length n k]
/-- Has a number room in so many bytes? -/
def room (n : Nat) (size : Int) : Bool := decide (1 ≤ size) && (decide (size ≤ 8) && decide (n < 256 ^ size.toNat))
theorem room_div {n m : Nat} (h1 : 1 ≤ (m : Int)) (h2 : (m : Int) ≤ 8) : room n (m : Int) = decide (n / 256 ^ m = 0) := by
  have e1 : decide (1 ≤ (m : Int)) = true := by simpa using h1
  have e2 : decide ((m : Int) ≤ 8) = true := by simpa using h2
  unfold room
  rw [e1, e2, Int.toNat_natCast, Bool.true_and, Bool.true_and]
  congr 1
  rw [eq_iff_iff, Nat.div_eq_zero_iff]
  have : 0 < 256 ^ m := Nat.pow_pos (by decide)
  omega
/-- What a row of so many noughts is behind k stores from its end on. -/
def putR (n size k : Nat) : List UInt8 := List.replicate (size - k) 0 ++ putL n k
theorem putR_set (n size k : Nat) (h : k < size) : (bv (putR n size k)).set (size - 1 - k) (.int .u8 ((UInt8.ofNat (n / 256 ^ k)).toNat : Int)) = bv (putR n size (k + 1)) := by
  have e : size - k = (size - 1 - k) + 1 := by omega
  have e2 : size - (k + 1) = size - 1 - k := by omega
  unfold putR bv
  rw [e, e2, List.replicate_succ']
  simp only [List.map_append, List.append_assoc, List.map_cons, List.cons_append, List.nil_append, putL]
  rw [List.set_append_right _ _ (by simp)]
  simp

/-- An answer of bytes and an error's number, in new memory. -/
def AnsB (l : List UInt8) (n : Int) (w : World) (e : Ending) (w' : World) : Prop := ∃ v, e = .returned (.tuple #[v, .int .i64 n]) ∧ Bytes w' v l ∧ Below w.heap.size w w'

theorem byte_of (n k : Nat) : (n : Int) / 2 ^ (8 * k) % 256 = ((UInt8.ofNat (n / 256 ^ k)).toNat : Int) := by
  have e : (2 : Nat) ^ (8 * k) = 256 ^ k := by rw [Nat.pow_mul]
  have e2 : (n : Int) / 2 ^ (8 * k) = ((n / 2 ^ (8 * k) : Nat) : Int) := by simp
  rw [e2, e, UInt8.toNat_ofNat']
  simp
theorem shr_zero {n size : Nat} (h : n < 256 ^ size) : ((n : Int) / 2 ^ (8 * size) != 0) = false := by
  have e : (2 : Nat) ^ (8 * size) = 256 ^ size := by rw [Nat.pow_mul]
  have : (n : Int) / 2 ^ (8 * size) = ((n / 2 ^ (8 * size) : Nat) : Int) := by simp
  rw [this, e, Nat.div_eq_of_lt h]; rfl
theorem shr_some {n size : Nat} (h : ¬ n < 256 ^ size) : ((n : Int) / 2 ^ (8 * size) != 0) = true := by
  have e : (2 : Nat) ^ (8 * size) = 256 ^ size := by rw [Nat.pow_mul]
  have e2 : (n : Int) / 2 ^ (8 * size) = ((n / 2 ^ (8 * size) : Nat) : Int) := by simp
  have h3 : 0 < n / 256 ^ size := Nat.div_pos (by omega) (Nat.pow_pos (by decide))
  rw [e2, e, bne_iff_ne]; omega
theorem own_cell {w : World} {base g n cap : Nat} {e : TypeId} {xs : List Value} (h : w.ownsRow base e 1 (.slice (some ⟨g, 0, none⟩) n cap) n xs) (hl : xs.length = n) {j : Nat} (hj : j < n) : ∃ u, w.cell? ⟨g, j, none⟩ = some u := by
  rw [h.cellAt j (by omega)]
  exact ⟨xs[j], List.getElem?_eq_getElem (by omega)⟩

set_option maxHeartbeats 1000000 in
set_option maxRecDepth 100000 in
theorem putW_yes (n size : Nat) (w : World) (h1 : 1 ≤ size) (h2 : size ≤ 8) (h3 : n < 256 ^ size) :
    Calls Try.prog 61 #[.int .u64 (n : Int), .int .i64 (size : Int)] w (AnsB (putL n size) 0 w) := by
  have hi5 : (Try.prog.info? 5).map (fun i => (i.zero, i.size, i.bytes)) = some (some (.int .u8 0), 1, 1) := by kernel_rfl
  obtain ⟨i0, hi, hx⟩ := Option.map_eq_some_iff.1 hi5
  simp only [Prod.mk.injEq] at hx
  obtain ⟨hz0, hz1, hz2⟩ := hx
  obtain ⟨w1, hmk, hown0, hg0⟩ := run_make_full (P := Try.prog) (w := w) w.heap.size 22 5 i0 (.int .u8 0) 1 Try.underlying22 hi hz0 hz1 .i64 .i64 size (by rw [hz2]; omega) (by unfold maxLen; omega) (Nat.le_refl _)
  clear hi5
  have ht : ((n : Int) / 2 ^ (8 * size) != 0) = false := shr_zero h3
  have HU := Lib.hid (show Below w.heap.size w w1 from (Below.refl _ _).grown hg0 (Nat.le_refl _) (by simp))
  have hm : (madeCells (Value.int IntKind.u8 0).cells (size * 1)).toList = bv (putR n size 0) := by
    rw [Nat.mul_one]; show (madeCells #[.int .u8 0] size).toList = _
    rw [toList_madeCells_one]; simp [putR, putL, bv]
  rw [hm] at hown0
  have HO := Lib.hid hown0
  clear h3 hm hown0 hg0
  go_enter Try.func61, Try.ntmps61
  go_wp2
  clear hmk
  go_loopw [24] (fun i wr => ∃ k : Nat, k ≤ size ∧ i = .int .i64 k ∧ Hid (wr.ownsRow w.heap.size 5 1 (.slice (some ⟨w.heap.size, 0, none⟩) size size) size (bv (putR n size k))) ∧ Hid (Below w.heap.size w wr)) (fun i _ => size - (intOf i).toNat)
  case atStart => exact ⟨0, Nat.zero_le _, rfl, HO.out, HU⟩
  case round =>
    obtain ⟨k, hk, rfl, HW, HB⟩ := hrel
    by_cases hlt : k < size
    · obtain ⟨u, hu⟩ := own_cell HW.out (by simp [bv, putR, putL_length]; omega) (j := size - 1 - k) (by omega)
      have hf := HW.out.frozenAt (size - 1 - k)
      go_wp2
      have hst := (HW.out.stored (size - 1 - k) (.int .u8 ((UInt8.ofNat (n / 256 ^ k)).toNat : Int)))
      rw [putR_set n size k hlt] at hst
      rw [byte_of n k]
      exact ⟨⟨k + 1, by omega, by go_num, hst.1, HB.out.setCell (Nat.le_refl _) _⟩, by simp [intOf]; omega⟩
    · have hk2 : k = size := by omega
      subst hk2
      go_wp2
      go_ret2
      refine ⟨_, rfl, Bytes.of_own (base := w.heap.size) (e := 5) (n := k) ?_, HB.out⟩
      have := HW.out
      rwa [show putR n k k = putL n k from by simp [putR]] at this

theorem ret_ansE {n : Int} {w w' : World} (h : Below w.heap.size w w') : AnsB [] n w (.returned (.tuple #[.slice none 0 0, .int .i64 n])) w' := ⟨_, rfl, Bytes.nil _ _ _, h⟩

set_option maxHeartbeats 1000000 in
theorem putW_no (n : Nat) (size : Int) (w : World) (h : room n size = false) :
    Calls Try.prog 61 #[.int .u64 (n : Int), .int .i64 size] w (AnsB [] 2 w) := by
  by_cases h1 : 1 ≤ size
  · by_cases h2 : size ≤ 8
    · obtain ⟨k, rfl⟩ := Int.eq_ofNat_of_zero_le (show 0 ≤ size by omega)
      have h3 : ¬ n < 256 ^ k := by
        intro h3
        have hd : decide (n < 256 ^ k) = true := by simpa using h3
        have e1 : decide (1 ≤ (k : Int)) = true := by simpa using h1
        have e2 : decide ((k : Int) ≤ 8) = true := by simpa using h2
        unfold room at h
        rw [Int.toNat_natCast, hd, e1, e2] at h
        cases h
      have ht : ((n : Int) / 2 ^ (8 * k) != 0) = true := shr_some h3
      clear h h3
      go_enter Try.func61, Try.ntmps61
      go_wp2
      go_ret2
      exact ret_ansE (Below.refl _ _)
    · clear h
      go_enter Try.func61, Try.ntmps61
      go_wp2
      go_ret2
      exact ret_ansE (Below.refl _ _)
  · clear h
    go_enter Try.func61, Try.ntmps61
    go_wp2
    go_ret2
    exact ret_ansE (Below.refl _ _)

/-- The number that bytes are. -/
def getL (l : List UInt8) : Nat := l.foldl (fun n b => n * 256 + b.toNat) 0
theorem getL_snoc (l : List UInt8) (b : UInt8) : getL (l ++ [b]) = getL l * 256 + b.toNat := by simp [getL]
theorem getL_lt : ∀ (k : Nat) (l : List UInt8), l.length = k → getL l < 256 ^ k := by
  intro k
  induction k with
  | zero => intro l h; have := List.eq_nil_of_length_eq_zero h; subst this; decide
  | succ k ih =>
    intro l h
    obtain ⟨r, b, rfl⟩ : ∃ r b, l = r ++ [b] := ⟨l.dropLast, l.getLast (by intro e; subst e; simp at h), (List.dropLast_concat_getLast _).symm⟩
    have hr := ih r (by simp at h; omega)
    rw [getL_snoc, Nat.pow_succ]
    have := b.toNat_lt
    omega
theorem getL_take (l : List UInt8) (k : Nat) (h : k < l.length) : getL (l.take (k + 1)) = getL (l.take k) * 256 + l[k].toNat := by
  rw [List.take_succ_eq_append_getElem h, getL_snoc]
theorem getL_take_lt (l : List UInt8) {k : Nat} (h : k ≤ l.length) (h2 : k ≤ 7) : getL (l.take k) < 72057594037927936 := by
  have h1 := getL_lt k (l.take k) (by simp; omega)
  have h3 : 256 ^ k ≤ 256 ^ 7 := Nat.pow_le_pow_right (by decide) h2
  omega
theorem shl_or64 {a n : Nat} (h : a < 72057594037927936) (h2 : n < 256) : bits .or .u64 ((a : Int) * 256) (n : Int) = ((a * 256 + n : Nat) : Int) := by
  have e : (a : Int) * 256 = ((a * 256 : Nat) : Int) := by omega
  rw [e, u64_or_nat _ _ (by omega) (by omega), nat_join 8 _ _ (by omega) (by omega)]

def getE (l : List UInt8) : Int := if 1 ≤ l.length ∧ l.length ≤ 8 then 0 else 2
def getN (l : List UInt8) : Int := if 1 ≤ l.length ∧ l.length ≤ 8 then (getL l : Int) else 0
theorem get_no {l : List UInt8} (h : ¬ (1 ≤ l.length ∧ l.length ≤ 8)) : getN l = 0 ∧ getE l = 2 := by simp [getN, getE, h]
theorem get_yes {l : List UInt8} (h : 1 ≤ l.length) (h2 : l.length ≤ 8) : getN l = getL l ∧ getE l = 0 := by simp [getN, getE, h, h2]

set_option maxHeartbeats 1000000 in
theorem getW_any (v : Value) (l : List UInt8) (w : World) (hv : Bytes w v l) (hl : l.length ≤ 9223372036854775807) :
    Calls Try.prog 59 #[v] w fun e w' => e = .returned (.tuple #[.int .u64 (getN l), .int .i64 (getE l)]) ∧ w = w' := by
  rcases hv with ⟨rfl, a, c, rfl, _⟩ | ⟨b, o, c, rfl, hb, _, hc⟩
  · go_enter Try.func59, Try.ntmps59
    go_wp2
    go_ret2
    exact ⟨rfl, rfl⟩
  · by_cases h1 : 1 ≤ l.length
    · by_cases h2 : l.length ≤ 8
      · have hG := Lib.hid (get_yes h1 h2)
        have HC := Lib.hid hc
        clear hc
        have c1 : (1 : Int) ≤ l.length := by omega
        have c2 : (l.length : Int) ≤ 8 := by omega
        go_enter Try.func59, Try.ntmps59
        go_wp2
        go_loop [4, 16] (fun x i => ∃ k : Nat, k ≤ l.length ∧ i = .int .i64 k ∧ x = .int .u64 ((getL (l.take k) : Nat) : Int)) (fun _ i => l.length - (intOf i).toNat)
        case atStart => exact ⟨0, Nat.zero_le _, rfl, by simp [getL]⟩
        case round =>
          obtain ⟨k, hk, rfl, rfl⟩ := hrel
          obtain ⟨y, hy⟩ : ∃ y : Nat, y = getL (l.take k) := ⟨_, rfl⟩
          by_cases hlt : k < l.length
          · have hyn : y < 72057594037927936 := by rw [hy]; exact getL_take_lt l (by omega) (by omega)
            have hs := getL_take l k hlt
            have hcell := HC.out k l[k] (List.getElem?_eq_getElem hlt)
            obtain ⟨z, hz⟩ : ∃ z : Nat, z = l[k].toNat := ⟨_, rfl⟩
            have hzn : z < 256 := by rw [hz]; exact l[k].toNat_lt
            rw [← hy]
            rw [← hy, ← hz] at hs
            rw [← hz] at hcell
            have Hs := Lib.hid hs
            clear hs hy hz
            go_wp2
            go_round
            case rel => exact ⟨k + 1, by omega, by go_num, by rw [shl_or64 hyn hzn, Hs.out]⟩
            case measure => simp [intOf]; omega
          · have hk2 : k = l.length := by omega
            subst hk2
            rw [← hy]
            have Hy : Hid (y = getL l) := by rw [List.take_length] at hy; exact hy
            clear hy
            go_wp2
            go_ret2
            exact ⟨ret_ii (by rw [hG.out.1, ← Hy.out]) hG.out.2.symm, rfl⟩
      · have hG := Lib.hid (get_no (l := l) (by omega))
        go_enter Try.func59, Try.ntmps59
        go_wp2
        go_ret2
        exact ⟨ret_ii hG.out.1.symm hG.out.2.symm, rfl⟩
    · have hG := Lib.hid (get_no (l := l) (by omega))
      go_enter Try.func59, Try.ntmps59
      go_wp2
      go_ret2
      exact ⟨ret_ii hG.out.1.symm hG.out.2.symm, rfl⟩

end Go.Proofs.Ytccfebaifgnodaa
