/- The walks of the reference's Room, Put and Get. -/
import Derived.Test.YtccfebaifgnodaaWh
namespace Go.Proofs.Ytccfebaifgnodaa
open Go.RowKit
def AnsV (l : List UInt8) (w : World) (e : Ending) (w' : World) : Prop := ∃ v, e = .returned v ∧ Bytes w' v l ∧ Below w.heap.size w w'

theorem byte_of2 {n k : Nat} : ((n / 256 ^ k : Nat) : Int) % 256 = ((UInt8.ofNat (n / 256 ^ k)).toNat : Int) := by
  rw [UInt8.toNat_ofNat']; simp

set_option maxHeartbeats 1000000 in
set_option maxRecDepth 100000 in
theorem putR_any (n size : Nat) (w : World) (hn : n < 18446744073709551616) (h2 : size ≤ 8) :
    Calls Try.prog 47 #[.int .u64 (n : Int), .int .i64 (size : Int)] w (AnsV (putL n size) w) := by
  have hi5 : (Try.prog.info? 5).map (fun i => (i.zero, i.size, i.bytes)) = some (some (.int .u8 0), 1, 1) := by kernel_rfl
  obtain ⟨i0, hi, hx⟩ := Option.map_eq_some_iff.1 hi5
  simp only [Prod.mk.injEq] at hx
  obtain ⟨hz0, hz1, hz2⟩ := hx
  obtain ⟨w1, hmk, hown0, hg0⟩ := run_make_full (P := Try.prog) (w := w) w.heap.size 22 5 i0 (.int .u8 0) 1 Try.underlying22 hi hz0 hz1 .i64 .i64 size (by rw [hz2]; omega) (by unfold maxLen; omega) (Nat.le_refl _)
  clear hi5
  have HU := Lib.hid (show Below w.heap.size w w1 from (Below.refl _ _).grown hg0 (Nat.le_refl _) (by simp))
  have hm : (madeCells (Value.int IntKind.u8 0).cells (size * 1)).toList = bv (putR n size 0) := by
    rw [Nat.mul_one]; show (madeCells #[.int .u8 0] size).toList = _
    rw [toList_madeCells_one]; simp [putR, putL, bv]
  rw [hm] at hown0
  have HO := Lib.hid hown0
  clear hm hown0 hg0
  go_enter Try.func47, Try.ntmps47
  go_wp2
  clear hmk
  go_loopw [0, 6] (fun x i wr => ∃ k : Nat, k ≤ size ∧ i = .int .i64 ((size : Int) - 1 - k) ∧ x = .int .u64 ((n / 256 ^ k : Nat) : Int) ∧ Hid (wr.ownsRow w.heap.size 5 1 (.slice (some ⟨w.heap.size, 0, none⟩) size size) size (bv (putR n size k))) ∧ Hid (Below w.heap.size w wr)) (fun _ i _ => (intOf i + 1).toNat)
  case atStart => exact ⟨0, Nat.zero_le _, by simp, by simp, HO.out, HU⟩
  case round =>
    obtain ⟨k, hk, rfl, rfl, HW, HB⟩ := hrel
    obtain ⟨y, hy⟩ : ∃ y : Nat, y = n / 256 ^ k := ⟨_, rfl⟩
    have hyn : y < 18446744073709551616 := by rw [hy]; exact Nat.lt_of_le_of_lt (Nat.div_le_self _ _) hn
    rw [← hy]
    have Hy := Lib.hid hy
    clear hy
    by_cases hlt : k < size
    · obtain ⟨u, hu⟩ := own_cell HW.out (by simp [bv, putR, putL_length]; omega) (j := size - 1 - k) (by omega)
      have hf := HW.out.frozenAt (size - 1 - k)
      have hnat : ((size : Int) - 1 - k).toNat = size - 1 - k := by omega
      go_wp2
      have hst := (HW.out.stored (size - 1 - k) (.int .u8 ((UInt8.ofNat (n / 256 ^ k)).toNat : Int)))
      rw [putR_set n size k hlt] at hst
      rw [Hy.out, byte_of2 (n := n) (k := k)]
      exact ⟨⟨k + 1, by omega, congrArg (Value.int .i64) (by omega), by rw [Nat.pow_succ, ← Nat.div_div_eq_div_mul]; simp, hst.1, HB.out.setCell (Nat.le_refl _) _⟩, by simp [intOf]; omega⟩
    · have hk2 : k = size := by omega
      subst hk2
      go_wp2
      go_ret
      refine ⟨_, rfl, Bytes.of_own (base := w.heap.size) (e := 5) (n := k) ?_, HB.out⟩
      have := HW.out
      rwa [show putR n k k = putL n k from by simp [putR]] at this

set_option maxHeartbeats 1000000 in
theorem getR_any (v : Value) (l : List UInt8) (w : World) (hv : Bytes w v l) (hl : l.length ≤ 8) :
    Calls Try.prog 39 #[v] w fun e w' => e = .returned (.int .u64 ((getL l : Nat) : Int)) ∧ w = w' := by
  rcases hv with ⟨rfl, a, c, rfl, _⟩ | ⟨b, o, c, rfl, hb, _, hc⟩
  · go_enter Try.func39, Try.ntmps39
    go_wp2
    go_rounds 1
    go_ret
    exact ⟨rfl, rfl⟩
  · have HC := Lib.hid hc
    clear hc
    go_enter Try.func39, Try.ntmps39
    go_wp2
    go_loop [3, 4] (fun x i => ∃ k : Nat, k ≤ l.length ∧ i = .int .i64 k ∧ x = .int .u64 ((getL (l.take k) : Nat) : Int)) (fun _ i => l.length - (intOf i).toNat)
    case atStart => exact ⟨0, Nat.zero_le _, rfl, by simp [getL]⟩
    case round =>
      obtain ⟨k, hk, rfl, rfl⟩ := hrel
      obtain ⟨y, hy⟩ : ∃ y : Nat, y = getL (l.take k) := ⟨_, rfl⟩
      by_cases hlt : k < l.length
      · have hyn : y < 72057594037927936 := by rw [hy]; exact getL_take_lt l (by omega) (by omega)
        have hs := getL_take l k hlt
        have hcell := HC.out k l[k] (List.getElem?_eq_getElem hlt)
        obtain ⟨z, hz⟩ : ∃ z : Nat, z = l[k].toNat := ⟨_, rfl⟩
        have hzn : z < 256 := by rw [hz]; exact l[k].toNat_lt
        rw [← hy]
        rw [← hy, ← hz] at hs
        rw [← hz] at hcell
        have Hs := Lib.hid hs
        clear hs hy hz
        go_wp2
        go_round
        case rel => exact ⟨k + 1, by omega, by go_num, by rw [Hs.out]; simp⟩
        case measure => simp [intOf]; omega
      · have hk2 : k = l.length := by omega
        subst hk2
        rw [← hy]
        have Hy : Hid (y = getL l) := by rw [List.take_length] at hy; exact hy
        clear hy
        go_wp2
        go_ret
        exact ⟨ret_i (by rw [← Hy.out]), rfl⟩
end Go.Proofs.Ytccfebaifgnodaa
