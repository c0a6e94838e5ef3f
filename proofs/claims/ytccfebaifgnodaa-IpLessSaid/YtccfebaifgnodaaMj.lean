/- The walks of the first reference's Much and Join. -/
import Derived.Test.YtccfebaifgnodaaLs0
import Derived.Deep.AppendLies
import Derived.Laws.AppendOwnNone
namespace Go.Proofs.Ytccfebaifgnodaa
open Go.RowKit
attribute [local go_sem ↓] Go.wp_at_zero Go.wp_at_succ

/-- What the count of the first lists comes to. -/
def msum (L : List (List UInt8)) : Nat → Nat
  | 0 => 0
  | k + 1 => msum L k + min (L[k]?.getD []).length 9001
def lsum (L : List (List UInt8)) : Nat → Nat
  | 0 => 0
  | k + 1 => lsum L k + (L[k]?.getD []).length
theorem msum_le (L : List (List UInt8)) : ∀ k, msum L k ≤ lsum L k
  | 0 => Nat.le_refl _
  | k + 1 => by have := msum_le L k; unfold msum lsum; omega
theorem msum_eq (L : List (List UInt8)) : ∀ k, msum L k ≤ 9000 → msum L k = lsum L k
  | 0, _ => rfl
  | k + 1, h => by
    unfold msum at h ⊢
    unfold lsum
    have e := msum_eq L k (by omega)
    omega
theorem lsum_take (L : List (List UInt8)) : ∀ k, k ≤ L.length → lsum L k = (L.take k).flatten.length
  | 0, _ => by simp [lsum]
  | k + 1, h => by
    unfold lsum
    rw [lsum_take L k (by omega), List.take_succ_eq_append_getElem (by omega), List.flatten_append, List.length_append, List.flatten_singleton, List.getElem?_eq_getElem (by omega)]
    rfl
theorem lsum_all (L : List (List UInt8)) : lsum L L.length = L.flatten.length := by rw [lsum_take L _ (Nat.le_refl _), List.take_length]
theorem lsum_mono (L : List (List UInt8)) {i k : Nat} (h : i ≤ k) : lsum L i ≤ lsum L k := by
  induction k with
  | zero => have : i = 0 := by omega
            subst this; exact Nat.le_refl _
  | succ k ih =>
    rcases Nat.eq_or_lt_of_le h with rfl | h
    · exact Nat.le_refl _
    · have := ih (by omega)
      show _ ≤ lsum L k + _
      omega
/-- More than so many bytes and parts. -/
def muchB (L : List (List UInt8)) : Bool := decide (9000 < L.length + L.flatten.length)

set_option maxHeartbeats 2000000 in
set_option maxRecDepth 100000 in
theorem joinR_some (b : Option Addr) (c : Nat) (L : List (List UInt8)) (w : World) (hv : Lists w (.slice b L.length c) L) (hL : L.length ≤ 10000) (hS : L.flatten.length ≤ 10000) :
    Calls Try.prog 46 #[.slice b L.length c] w fun e w' => ∃ v, e = .returned v ∧ Bytes w' v L.flatten ∧ Below w.heap.size w w' := by
  have hi5 : (Try.prog.info? 5).map (fun i => (i.zero, i.size, i.bytes)) = some (some (.int .u8 0), 1, 1) := by kernel_rfl
  obtain ⟨i0, hi, hx⟩ := Option.map_eq_some_iff.1 hi5
  simp only [Prod.mk.injEq] at hx
  obtain ⟨hz0, hz1, hz2⟩ := hx
  have HV := Lib.hid hv
  clear hi5 hv
  go_enter Try.func46, Try.ntmps46
  go_wp2_with fail
  go_loopw [3, 4] (fun v i wr => ∃ k : Nat, k ≤ L.length ∧ i = .int .i64 k ∧ Hid (wr.ownsRow w.heap.size 5 1 v (L.take k).flatten.length (bv (L.take k).flatten)) ∧ Hid (Below w.heap.size w wr)) (fun _ i _ => L.length - (intOf i).toNat)
  case atStart => exact ⟨0, Nat.zero_le _, rfl, World.ownsRow_nil w _ _ _, Below.refl _ _⟩
  case round =>
    obtain ⟨k, hk, rfl, HW, HB⟩ := hrel
    rcases Nat.lt_or_ge k L.length with hlt | hge
    · have g1 : (k : Int) < L.length := by omega
      obtain ⟨bl, bo, rfl, hbl, x, d, he, hbe⟩ := HV.out.at hlt
      have he' := cell_later' HB.out hbl he
      have b1 : bl < wr.heap.size := Nat.lt_of_lt_of_le hbl HB.out.size
      have hbw := hbe.later HB.out
      have hsz := lsum_take L (k + 1) (by omega)
      have hsz2 := lsum_mono L (i := k + 1) (k := L.length) (by omega)
      rw [lsum_all, hsz] at hsz2
      have hfl : (L.take (k + 1)).flatten = (L.take k).flatten ++ L[k] := by rw [List.take_succ_eq_append_getElem hlt, List.flatten_append, List.flatten_singleton]
      have hfn : (L.take (k + 1)).flatten.length = (L.take k).flatten.length + L[k].length := by rw [hfl, List.length_append]
      have Hfl := Lib.hid hfl
      obtain ⟨F, hF⟩ : ∃ F, F = (L.take k).flatten := ⟨_, rfl⟩
      rw [← hF] at HW hfn Hfl
      obtain ⟨l, hl⟩ : ∃ l, l = L[k] := ⟨_, rfl⟩
      rw [← hl] at he he' hbe hbw hfn Hfl
      have hb2 : F.length + l.length ≤ 10000 := by omega
      have Hbw := Lib.hid hbw
      have Hfn := Lib.hid hfn
      clear hl hF hfn hfl hsz hsz2 hbe he hbw
      cases x with
      | none =>
        obtain ⟨e1, e2, e3⟩ := Hbw.out.noaddr
        subst e2 e3
        have Hl : Hid (F = (L.take (k + 1)).flatten) := by show _ = _; rw [Hfl.out]; simp
        clear e1
        go_wp2_with (at_builtin; refine wpList_append_own_none rfl _ _ 22 rfl w.heap.size 5 i0 1 Try.underlying22 hi _ _ _ rfl HW.out rfl ?_)
        go_wp2_with fail
        go_roundw
        case rel => exact ⟨k + 1, by omega, by go_num, by rw [← Hl.out]; exact HW, HB⟩
        case measure => simp [intOf]; omega
      | some x =>
        go_wp2_with (at_builtin; refine wpList_append_own _ rfl _ _ 22 rfl w.heap.size 5 i0 (.int .u8 0) 1 1 Try.underlying22 hi hz0 hz1 hz2 rfl (by decide) _ _ _ rfl HW.out x l.length d (bv l) rfl (by simp [bv]) (Hbw.out.news) (bv_one l) (by unfold maxLen; omega) (by omega) HB.out.size ?_)
        intro v' w1 hown' hgrow _
        have hown2 : Hid (w1.ownsRow w.heap.size 5 1 v' (L.take (k + 1)).flatten.length (bv (L.take (k + 1)).flatten)) := by
          show World.ownsRow _ _ _ _ _ _ _
          rw [Hfn.out, Hfl.out, bv_append]; exact hown'
        have hB2 : Hid (Below w.heap.size w w1) := HB.out.grown hgrow HB.out.size (fun j hj => own_base HW.out hj)
        clear hown' hgrow
        go_wp2_with fail
        go_roundw
        case rel => exact ⟨k + 1, by omega, by go_num, hown2, hB2⟩
        case measure => simp [intOf]; omega
    · have e : k = L.length := by omega
      subst e
      rw [List.take_length] at HW
      go_wp2_with fail
      go_ret
      exact ⟨_, rfl, Bytes.of_own HW.out, HB.out⟩
theorem joinR_any (v : Value) (L : List (List UInt8)) (w : World) (hv : Lists w v L) (hL : L.length ≤ 10000) (hS : L.flatten.length ≤ 10000) :
    Calls Try.prog 46 #[v] w fun e w' => ∃ v, e = .returned v ∧ Bytes w' v L.flatten ∧ Below w.heap.size w w' := by
  obtain ⟨b, c, rfl⟩ := hv.form
  exact joinR_some b c L w hv hL hS
end Go.Proofs.Ytccfebaifgnodaa
