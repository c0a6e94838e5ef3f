/- A region that draws its order, cut at what is done: one lemma for each set of done operations.
   Updates: their bytes, there and back; plain mathematics.
   The walks of ctl.spell, ctl.Bytes, ctl.number, and of the reference's Bytes.
   Plain numbers: the order of prefixes and what is within what.
   The walks of slices.Grow of nothing, slices.Concat, wire.Join.
   The walks of the first reference's Much and Join. -/
import Derived.Deep.AppendLies
import Derived.Laws.AppendOwnNone
import Derived.Lib.SliceRun
import Derived.Lib.AppendZerosOnto
import Derived.Deep.RegionHeld3
import Derived.Test.YtcahfapffhcceaaZ01
import Derived.Test.YtcahfapffhcceaaZ02

set_option linter.unusedSimpArgs false
set_option linter.unusedVariables false
namespace Go.Proofs.Ytcahfapffhcceaa
open Go.RowKit
attribute [local go_sem ↓] Go.wp_at_zero Go.wp_at_succ

/-- What the count of the first lists comes to. -/
def msum (L : List (List UInt8)) : Nat → Nat
  | 0 => 0
  | k + 1 => msum L k + min (L[k]?.getD []).length 9001
def lsum (L : List (List UInt8)) : Nat → Nat
  | 0 => 0
  | k + 1 => lsum L k + (L[k]?.getD []).length
theorem msum_le (L : List (List UInt8)) : ∀ k, msum L k ≤ lsum L k
  | 0 => Nat.le_refl _
  | k + 1 => by have := msum_le L k; unfold msum lsum; omega
theorem msum_eq (L : List (List UInt8)) : ∀ k, msum L k ≤ 9000 → msum L k = lsum L k
  | 0, _ => rfl
  | k + 1, h => by
    unfold msum at h ⊢
    unfold lsum
    have e := msum_eq L k (by omega)
    omega
theorem lsum_take (L : List (List UInt8)) : ∀ k, k ≤ L.length → lsum L k = (L.take k).flatten.length
  | 0, _ => by simp [lsum]
  | k + 1, h => by
    unfold lsum
    rw [lsum_take L k (by omega), List.take_succ_eq_append_getElem (by omega), List.flatten_append, List.length_append, List.flatten_singleton, List.getElem?_eq_getElem (by omega)]
    rfl
theorem lsum_all (L : List (List UInt8)) : lsum L L.length = L.flatten.length := by rw [lsum_take L _ (Nat.le_refl _), List.take_length]
theorem lsum_mono (L : List (List UInt8)) {i k : Nat} (h : i ≤ k) : lsum L i ≤ lsum L k := by
  induction k with
  | zero => have : i = 0 := by omega
            subst this; exact Nat.le_refl _
  | succ k ih =>
    rcases Nat.eq_or_lt_of_le h with rfl | h
    · exact Nat.le_refl _
    · have := ih (by omega)
      show _ ≤ lsum L k + _
      omega
/-- More than so many bytes and parts. -/
def muchB (L : List (List UInt8)) : Bool := decide (9000 < L.length + L.flatten.length)

set_option maxHeartbeats 2000000 in
set_option maxRecDepth 100000 in
theorem joinR_some (b : Option Addr) (c : Nat) (L : List (List UInt8)) (w : World) (hv : Lists w (.slice b L.length c) L) (hL : L.length ≤ 10000) (hS : L.flatten.length ≤ 10000) :
    Calls Try.prog 35 #[.slice b L.length c] w fun e w' => ∃ v, e = .returned v ∧ Bytes w' v L.flatten ∧ Below w.heap.size w w' := by
  have hi5 : (Try.prog.info? 5).map (fun i => (i.zero, i.size, i.bytes)) = some (some (.int .u8 0), 1, 1) := by kernel_rfl
  obtain ⟨i0, hi, hx⟩ := Option.map_eq_some_iff.1 hi5
  simp only [Prod.mk.injEq] at hx
  obtain ⟨hz0, hz1, hz2⟩ := hx
  have HV := Lib.hid hv
  clear hi5 hv
  go_enter Try.func35, Try.ntmps35
  go_wp2_with fail
  go_loopw [3, 4] (fun v i wr => ∃ k : Nat, k ≤ L.length ∧ i = .int .i64 k ∧ Hid (wr.ownsRow w.heap.size 5 1 v (L.take k).flatten.length (bv (L.take k).flatten)) ∧ Hid (Below w.heap.size w wr)) (fun _ i _ => L.length - (intOf i).toNat)
  case atStart => exact ⟨0, Nat.zero_le _, rfl, World.ownsRow_nil w _ _ _, Below.refl _ _⟩
  case round =>
    obtain ⟨k, hk, rfl, HW, HB⟩ := hrel
    rcases Nat.lt_or_ge k L.length with hlt | hge
    · have g1 : (k : Int) < L.length := by omega
      obtain ⟨bl, bo, rfl, hbl, x, d, he, hbe⟩ := HV.out.at hlt
      have he' := cell_later' HB.out hbl he
      have b1 : bl < wr.heap.size := Nat.lt_of_lt_of_le hbl HB.out.size
      have hbw := hbe.later HB.out
      have hsz := lsum_take L (k + 1) (by omega)
      have hsz2 := lsum_mono L (i := k + 1) (k := L.length) (by omega)
      rw [lsum_all, hsz] at hsz2
      have hfl : (L.take (k + 1)).flatten = (L.take k).flatten ++ L[k] := by rw [List.take_succ_eq_append_getElem hlt, List.flatten_append, List.flatten_singleton]
      have hfn : (L.take (k + 1)).flatten.length = (L.take k).flatten.length + L[k].length := by rw [hfl, List.length_append]
      have Hfl := Lib.hid hfl
      obtain ⟨F, hF⟩ : ∃ F, F = (L.take k).flatten := ⟨_, rfl⟩
      rw [← hF] at HW hfn Hfl
      obtain ⟨l, hl⟩ : ∃ l, l = L[k] := ⟨_, rfl⟩
      rw [← hl] at he he' hbe hbw hfn Hfl
      have hb2 : F.length + l.length ≤ 10000 := by omega
      have Hbw := Lib.hid hbw
      have Hfn := Lib.hid hfn
      clear hl hF hfn hfl hsz hsz2 hbe he hbw
      cases x with
      | none =>
        obtain ⟨e1, e2, e3⟩ := Hbw.out.noaddr
        subst e2 e3
        have Hl : Hid (F = (L.take (k + 1)).flatten) := by show _ = _; rw [Hfl.out]; simp
        clear e1
        go_wp2_with (at_builtin; refine wpList_append_own_none rfl _ _ 26 rfl w.heap.size 5 i0 1 Try.underlying26 hi _ _ _ rfl HW.out rfl ?_)
        go_wp2_with fail
        go_roundw
        case rel => exact ⟨k + 1, by omega, by go_num, by rw [← Hl.out]; exact HW, HB⟩
        case measure => simp [intOf]; omega
      | some x =>
        go_wp2_with (at_builtin; refine wpList_append_own _ rfl _ _ 26 rfl w.heap.size 5 i0 (.int .u8 0) 1 1 Try.underlying26 hi hz0 hz1 hz2 rfl (by decide) _ _ _ rfl HW.out x l.length d (bv l) rfl (by simp [bv]) (Hbw.out.news) (bv_one l) (by unfold maxLen; omega) (by omega) HB.out.size ?_)
        intro v' w1 hown' hgrow _
        have hown2 : Hid (w1.ownsRow w.heap.size 5 1 v' (L.take (k + 1)).flatten.length (bv (L.take (k + 1)).flatten)) := by
          show World.ownsRow _ _ _ _ _ _ _
          rw [Hfn.out, Hfl.out, bv_append]; exact hown'
        have hB2 : Hid (Below w.heap.size w w1) := HB.out.grown hgrow HB.out.size (fun j hj => own_base HW.out hj)
        clear hown' hgrow
        go_wp2_with fail
        go_roundw
        case rel => exact ⟨k + 1, by omega, by go_num, hown2, hB2⟩
        case measure => simp [intOf]; omega
    · have e : k = L.length := by omega
      subst e
      rw [List.take_length] at HW
      go_wp2_with fail
      go_ret
      exact ⟨_, rfl, Bytes.of_own HW.out, HB.out⟩
theorem joinR_any (v : Value) (L : List (List UInt8)) (w : World) (hv : Lists w v L) (hL : L.length ≤ 10000) (hS : L.flatten.length ≤ 10000) :
    Calls Try.prog 35 #[v] w fun e w' => ∃ v, e = .returned v ∧ Bytes w' v L.flatten ∧ Below w.heap.size w w' := by
  obtain ⟨b, c, rfl⟩ := hv.form
  exact joinR_some b c L w hv hL hS
end Go.Proofs.Ytcahfapffhcceaa

namespace Go.Proofs.Ytcahfapffhcceaa
open Go.RowKit
attribute [local go_sem ↓] Go.wp_at_zero Go.wp_at_succ

set_option maxRecDepth 100000 in
theorem growW_some (n : Nat) (w : World) (h0 : 0 < n) (hn : n ≤ 100000) :
    Calls Try.prog 55 #[.slice none 0 0, .int .i64 (n : Int)] w fun e w' => ∃ v, e = .returned v ∧ OwnB w' w.heap.size v [] ∧ Below w.heap.size w w' := by
  obtain ⟨i0, hi, hz0, hz1, hz2⟩ := info8
  have hold : (Builtin.firstCells i0.size 0 (.slice none 0 0)).run Try.prog w.drew = .ok #[] w.drew := run_firstCells_none w.drew i0.size 0 0 0
  have hrz : ∀ ty, (Builtin.append_ #[26, 3] ty #[.slice none 0 0, .int .i64 (n : Int)]).run Try.prog w =
      .ok (.slice (some ⟨w.heap.size, 0, none⟩) n (grownCap w n 0 5)) (w.drew.alloc (.cells (([] : List Value).toArray ++ Builtin.zeroCells (Value.int .u8 0).cells n ++ Builtin.zeroCells (Value.int .u8 0).cells (grownCap w n 0 5 - n)) 5)) := fun ty => by
    have h := Lib.run_append_grow_zeros w 26 3 ty 5 i0 (.int .u8 0) .i64 .i64 Try.underlying26 Try.underlying3 hi hz0 none 0 0 [] hold n (by omega) (by omega) (by omega) (by omega)
      (by rw [hz2]; omega) (by rw [Nat.zero_add]; exact growslice_fits h0 (by rw [hz2]; omega))
    rw [Nat.zero_add] at h
    exact h
  have hGn : n ≤ grownCap w n 0 5 := grownCap_ge w _ _ _
  have hG63 := grownCap_le_maxLen w n 0 5 (by unfold maxLen; omega)
  obtain ⟨G, hG⟩ : ∃ G, G = grownCap w n 0 5 := ⟨_, rfl⟩
  rw [← hG] at hrz hGn hG63
  have hsz : (([] : List Value).toArray ++ Builtin.zeroCells (Value.int .u8 0).cells n ++ Builtin.zeroCells (Value.int .u8 0).cells (G - n)).size = G * 1 := by
    have e : ∀ k, (Builtin.zeroCells (Value.int .u8 0).cells k).size = k := fun k => by simp [Builtin.zeroCells, Value.cells]
    simp [e]; omega
  obtain ⟨cur, hcur⟩ : ∃ cur, cur = (([] : List Value).toArray ++ Builtin.zeroCells (Value.int .u8 0).cells n ++ Builtin.zeroCells (Value.int .u8 0).cells (G - n)) := ⟨_, rfl⟩
  rw [← hcur] at hrz hsz
  have hown : OwnB (w.drew.alloc (.cells cur 5)) w.heap.size (.slice (some ⟨w.heap.size, 0, none⟩) 0 G) [] :=
    World.ownsRow_made (w := w.drew) cur G (Nat.le_refl _) hG63 hsz
  have HO := Lib.hid hown
  have HB := Lib.hid (show Below w.heap.size w (w.drew.alloc (.cells cur 5)) from ((Below.refl _ _).drew).alloc (Nat.le_refl _) _)
  have g1 : (0 : Int) < n := by omega
  have g2 : (n : Int) ≤ 100000 := by omega
  clear hold hG hcur hsz hown hG63 hGn hn h0
  go_enter Try.func55, Try.ntmps55
  go_wp2_with (at_builtin; refine Lib.wpList_append_run _ rfl _ _ _ _ rfl _ _ rfl rfl _ _ (hrz _) ?_)
  all_goals
    go_ret
    exact ⟨_, rfl, HO.out, HB.out⟩
theorem growW_none (w : World) :
    Calls Try.prog 55 #[.slice none 0 0, .int .i64 0] w fun e w' => e = .returned (.slice none 0 0) ∧ w = w' := by
  go_enter Try.func55, Try.ntmps55
  go_wp2_with fail
  go_ret
  exact ⟨rfl, rfl⟩

set_option maxHeartbeats 2000000 in
set_option maxRecDepth 100000 in
theorem concatW_some (b : Option Addr) (c : Nat) (L : List (List UInt8)) (w : World) (hv : Lists w (.slice b L.length c) L) (hL : L.length ≤ 10000) (hS : L.flatten.length ≤ 100000) :
    Calls Try.prog 43 #[.slice b L.length c] w fun e w' => ∃ v, e = .returned v ∧ OwnB w' w.heap.size v L.flatten ∧ Below w.heap.size w w' := by
  have HV := Lib.hid hv
  clear hv
  go_enter Try.func43, Try.ntmps43
  go_wp2_with fail
  go_loop [3, 11] (fun s i => ∃ k : Nat, k ≤ L.length ∧ i = .int .i64 k ∧ s = .int .i64 (lsum L k)) (fun _ i => L.length - (intOf i).toNat)
  case atStart => exact ⟨0, Nat.zero_le _, rfl, rfl⟩
  case round =>
    obtain ⟨k, hk, rfl, rfl⟩ := hrel
    have hz1 := lsum_mono L hk
    rw [lsum_all] at hz1
    obtain ⟨z, hz⟩ : ∃ z, z = lsum L k := ⟨_, rfl⟩
    rw [← hz] at hz1 ⊢
    have Hz := Lib.hid hz
    have HZ1 := Lib.hid (show z ≤ 100000 by omega)
    clear hz hz1
    rcases Nat.lt_or_ge k L.length with hlt | hge
    · obtain ⟨bl, bo, rfl, hbl, x, d, he, hbe⟩ := HV.out.at hlt
      have hs2 : lsum L (k + 1) = z + L[k].length := by
        show lsum L k + _ = _
        rw [List.getElem?_eq_getElem hlt, Hz.out]; rfl
      have hz2 := lsum_mono L (show k + 1 ≤ L.length by omega)
      rw [lsum_all] at hz2
      obtain ⟨m, hm⟩ : ∃ m, m = L[k].length := ⟨_, rfl⟩
      rw [← hm] at he hs2
      have hm2 : (z : Int) + m ≤ 100000 := by omega
      have Hs2 := Lib.hid hs2
      have g1 : (k : Int) < L.length := by omega
      clear hm hs2 hbe hz2
      go_wp2_with fail
      go_round
      case rel => exact ⟨k + 1, by omega, by go_num, by rw [Hs2.out]; go_num⟩
      case measure => simp [intOf]; omega
    · have e : k = L.length := by omega
      subst e
      have hgrow : Calls Try.prog 55 #[.slice none 0 0, .int .i64 (z : Int)] w fun e w' => ∃ v, e = .returned v ∧ OwnB w' w.heap.size v [] ∧ Below w.heap.size w w' := by
        rcases Nat.eq_zero_or_pos z with h0 | h0
        · subst h0
          exact (growW_none w).mono fun e w' ⟨h1, h2⟩ => by subst h2; exact ⟨_, h1, OwnB.nil _ _, Below.refl _ _⟩
        · exact growW_some z w h0 (by have := HZ1.out; omega)
      have hz2 : (z : Int) ≤ 100000 := by have := HZ1.out; omega
      go_wp2_with fail
      refine hgrow.mono ?_
      rintro e w1 ⟨v1, rfl, ho1, hb1⟩
      have HO := Lib.hid ho1
      have HB1 := Lib.hid hb1
      clear ho1 hb1 hgrow hz2
      go_wp2_with fail
      go_loopw [6, 27] (fun v i wr => ∃ k : Nat, k ≤ L.length ∧ i = .int .i64 k ∧ Hid (OwnB wr w.heap.size v (L.take k).flatten) ∧ Hid (Below w.heap.size w wr)) (fun _ i _ => L.length - (intOf i).toNat)
      case atStart => exact ⟨0, Nat.zero_le _, rfl, HO.out, HB1.out⟩
      case round =>
        obtain ⟨k, hk, rfl, HW, HB⟩ := hrel
        rcases Nat.lt_or_ge k L.length with hlt | hge2
        · have g1 : (k : Int) < L.length := by omega
          obtain ⟨bl, bo, rfl, hbl, x, d, he, hbe⟩ := HV.out.at hlt
          have he' := cell_later' HB.out hbl he
          have b1 : bl < wr.heap.size := Nat.lt_of_lt_of_le hbl HB.out.size
          have hbw := hbe.later HB.out
          have hsz := lsum_take L (k + 1) (by omega)
          have hsz2 := lsum_mono L (i := k + 1) (k := L.length) (by omega)
          rw [lsum_all, hsz] at hsz2
          have hfl : (L.take (k + 1)).flatten = (L.take k).flatten ++ L[k] := by rw [List.take_succ_eq_append_getElem hlt, List.flatten_append, List.flatten_singleton]
          have hfn : (L.take k).flatten.length + L[k].length ≤ 100000 := by rw [← List.length_append, ← hfl]; omega
          have Hfl := Lib.hid hfl
          have Hbw := Lib.hid hbw
          have Hfn := Lib.hid hfn
          clear hfn hfl hsz hsz2 hbe he hbw
          go_wp2_with (at_builtin; refine wpList_app rfl _ _ rfl w.heap.size _ _ _ L[k] rfl rfl HW.out Hbw.out (by have := Hfn.out; omega) HB.out.size ?_)
          intro v' w2 ho2 hb2 hg2
          have HO2 := Lib.hid ho2
          rw [← Hfl.out] at HO2
          have HB2 := Lib.hid (HB.out.trans hb2)
          clear ho2 hb2 hg2
          go_wp2_with fail
          go_roundw
          case rel => exact ⟨k + 1, by omega, by go_num, HO2, HB2⟩
          case measure => simp [intOf]; omega
        · have e : k = L.length := by omega
          subst e
          rw [List.take_length] at HW
          go_wp2_with fail
          go_ret
          exact ⟨_, rfl, HW.out, HB.out⟩
theorem joinW_own (v : Value) (L : List (List UInt8)) (w : World) (hv : Lists w v L) (hL : L.length ≤ 10000) (hS : L.flatten.length ≤ 100000) :
    Calls Try.prog 28 #[v] w fun e w' => ∃ v, e = .returned v ∧ OwnB w' w.heap.size v L.flatten ∧ Below w.heap.size w w' := by
  obtain ⟨b, c, rfl⟩ := hv.form
  have HV := Lib.hid hv
  clear hv
  go_enter Try.func28, Try.ntmps28
  go_wp2_with fail
  refine (concatW_some b c L w HV.out hL hS).mono ?_
  rintro e w1 ⟨v1, rfl, h1, hb1⟩
  have H1 := Lib.hid h1
  clear h1
  go_wp2_with fail
  go_ret
  exact ⟨_, rfl, H1.out, hb1⟩
theorem joinW_any (v : Value) (L : List (List UInt8)) (w : World) (hv : Lists w v L) (hL : L.length ≤ 10000) (hS : L.flatten.length ≤ 100000) :
    Calls Try.prog 28 #[v] w fun e w' => ∃ v, e = .returned v ∧ Bytes w' v L.flatten ∧ Below w.heap.size w w' :=
  (joinW_own v L w hv hL hS).mono fun _ _ ⟨v, h1, h2, h3⟩ => ⟨v, h1, h2.bytes, h3⟩
end Go.Proofs.Ytcahfapffhcceaa

namespace Go.Proofs.Ytcahfapffhcceaa
namespace Wp

theorem pow_split {n m : Int} (_h0 : 0 ≤ n) (h : n ≤ m) (h2 : m ≤ 32) : (2 : Int) ^ (32 - n).toNat = 2 ^ (32 - m).toNat * 2 ^ (m - n).toNat := by
  rw [← Int.pow_add]
  congr 1
  omega
theorem fst_fst {c n m : Int} (h0 : 0 ≤ n) (h : n ≤ m) (h2 : m ≤ 32) : fst (fst c m) n = fst c n := by
  have hp := pow_pos' (32 - m).toNat
  unfold fst
  rw [pow_split h0 h h2, ← Int.ediv_ediv_of_nonneg (Int.le_of_lt hp), ← Int.ediv_ediv_of_nonneg (Int.le_of_lt hp), Int.mul_ediv_cancel _ (Int.ne_of_gt hp)]
theorem fst_mono {a b n : Int} (h : a ≤ b) : fst a n ≤ fst b n := by
  unfold fst
  exact Int.mul_le_mul_of_nonneg_right (Int.ediv_le_ediv (pow_pos' _) h) (Int.le_of_lt (pow_pos' _))
theorem fst_more {b n m : Int} (h0 : 0 ≤ m) (h : m ≤ n) (h2 : n ≤ 32) (hb : fst b m = b) : fst b n = b := by
  unfold fst at *
  have hp := pow_pos' (32 - n).toNat
  rw [pow_split h0 h h2] at hb
  have h3 : b % 2 ^ (32 - n).toNat = 0 := by
    rw [← hb, Int.mul_comm (2 ^ (32 - n).toNat : Int), ← Int.mul_assoc]
    exact Int.mul_emod_left _ _
  have := Int.mul_ediv_add_emod b (2 ^ (32 - n).toNat)
  rw [Int.mul_comm]; omega

theorem may_of {a n : Int} (h : mayB a n = true) : 0 ≤ n ∧ n ≤ 32 ∧ fst a n = a := by simpa [mayB] using h
theorem in_of {a n b m : Int} (h : inB a n b m = true) : mayB a n = true ∧ mayB b m = true ∧ n ≤ m ∧ fst b n = a := by simpa [inB] using h
theorem in_mk {a n b m : Int} (h1 : mayB a n = true) (h2 : mayB b m = true) (h3 : n ≤ m) (h4 : fst b n = a) : inB a n b m = true := by simp [inB, h1, h2, h3, h4]

theorem cmp_neg (a n b m : Int) : cmpI b m a n = - cmpI a n b m := by
  unfold cmpI; (repeat' split) <;> omega
theorem cmp_bd (a n b m : Int) : -1 ≤ cmpI a n b m ∧ cmpI a n b m ≤ 1 := by
  unfold cmpI; (repeat' split) <;> omega
theorem cmp_le {a n b m : Int} : cmpI a n b m ≤ 0 ↔ a < b ∨ (a = b ∧ n ≤ m) := by
  unfold cmpI; (repeat' split) <;> omega
theorem cmp_lt {a n b m : Int} : cmpI a n b m < 0 ↔ a < b ∨ (a = b ∧ n < m) := by
  unfold cmpI; (repeat' split) <;> omega
theorem cmp_tr {a n b m c r : Int} (h : cmpI a n b m < 0) (h2 : cmpI b m c r < 0) : cmpI a n c r < 0 := by
  rw [cmp_lt] at *; omega
theorem in_cmp {a n c r : Int} (h : inB a n c r = true) : cmpI a n c r ≤ 0 := by
  obtain ⟨_, _, h3, h4⟩ := in_of h
  have := fst_le (a := c) (n := n)
  rw [cmp_le]; omega
theorem in_mid {a n b m c r : Int} (h : inB a n c r = true) (hb : mayB b m = true) (h1 : cmpI a n b m ≤ 0) (h2 : cmpI b m c r ≤ 0) : inB a n b m = true := by
  obtain ⟨ha, _, h3, h4⟩ := in_of h
  obtain ⟨n0, n1, n2⟩ := may_of ha
  obtain ⟨m0, m1, m2⟩ := may_of hb
  rw [cmp_le] at h1 h2
  have e1 := fst_mono (a := a) (b := b) (n := n) (by omega)
  have e2 := fst_mono (a := b) (b := c) (n := n) (by omega)
  have e3 : fst b n = a := by omega
  refine in_mk ha hb ?_ e3
  rcases Int.lt_or_le m n with hlt | hle
  · have := fst_more m0 (Int.le_of_lt hlt) n1 m2
    omega
  · exact hle
theorem in_tr {a n b m c r : Int} (h : inB a n b m = true) (h2 : inB b m c r = true) : inB a n c r = true := by
  obtain ⟨ha, hb, h3, h4⟩ := in_of h
  obtain ⟨_, hc, h5, h6⟩ := in_of h2
  obtain ⟨n0, n1, n2⟩ := may_of ha
  obtain ⟨m0, m1, m2⟩ := may_of hb
  refine in_mk ha hc (by omega) ?_
  rw [← fst_fst n0 h3 m1, h6]; exact h4

end Wp
end Go.Proofs.Ytcahfapffhcceaa

namespace Go.Proofs.Ytcahfapffhcceaa
open Go.RowKit
attribute [local go_sem ↓] Go.wp_at_zero Go.wp_at_succ

/-- An update's bytes. -/
def upL (a n d : Nat) : List UInt8 := putL a 4 ++ [UInt8.ofNat n, UInt8.ofNat d]
theorem upL_length (a n d : Nat) : (upL a n d).length = 6 := by simp [upL, putL_length]
theorem ofNat8 {n : Nat} (h : n < 256) : (UInt8.ofNat n).toNat = n := by rw [UInt8.toNat_ofNat']; omega
theorem two_lit (n d : Nat) (hn : n < 256) (hd : d < 256) (w : World) : Bytes (w.alloc (.cells #[.int .u8 (n : Int), .int .u8 (d : Int)] 5)) (.slice (some ⟨w.heap.size, 0, none⟩) 2 2) [UInt8.ofNat n, UInt8.ofNat d] := by
  have h := bytes_lit w [UInt8.ofNat n, UInt8.ofNat d]
  simp only [bv, List.map_cons, List.map_nil, ofNat8 hn, ofNat8 hd] at h
  exact h

end Go.Proofs.Ytcahfapffhcceaa

namespace Go.Proofs.Ytcahfapffhcceaa
open Go.RowKit

def ofa (l : List UInt8) : Nat := getL (l.take 4)
def ofn (l : List UInt8) : Nat := (l.getD 4 0).toNat
def ofd (l : List UInt8) : Nat := (l.getD 5 0).toNat
def ofB (l : List UInt8) : Bool := decide (l.length = 6) && mayU (ofa l) (ofn l) (ofd l)
def ofA (l : List UInt8) : Nat := if ofB l = true then ofa l else 0
def ofN (l : List UInt8) : Nat := if ofB l = true then ofn l else 0
def ofD (l : List UInt8) : Nat := if ofB l = true then ofd l else 0
theorem ofB_yes {l : List UInt8} (h : ofB l = true) : ofA l = ofa l ∧ ofN l = ofn l ∧ ofD l = ofd l := by simp [ofA, ofN, ofD, h]
theorem ofB_no {l : List UInt8} (h : ofB l = false) : ofA l = 0 ∧ ofN l = 0 ∧ ofD l = 0 := by simp [ofA, ofN, ofD, h]
theorem up_at (a n d : Nat) (ha : a < 4294967296) (hn : n < 256) (hd : d < 256) : ofa (upL a n d) = a ∧ ofn (upL a n d) = n ∧ ofd (upL a n d) = d := by
  have hl := putL_length a 4
  refine ⟨?_, ?_, ?_⟩
  · unfold ofa upL
    rw [List.take_append_of_le_length (by omega), List.take_of_length_le (by omega), get_put]
    exact Nat.mod_eq_of_lt ha
  · unfold ofn upL
    rw [List.getD_eq_getElem?_getD, List.getElem?_append_right (by omega), hl]
    simp; omega
  · unfold ofd upL
    rw [List.getD_eq_getElem?_getD, List.getElem?_append_right (by omega), hl]
    simp; omega
theorem up_of {a n d : Nat} (ha : a < 4294967296) (h : mayU a n d = true) : ofB (upL a n d) = true ∧ ofA (upL a n d) = a ∧ ofN (upL a n d) = n ∧ ofD (upL a n d) = d := by
  obtain ⟨h1, h2, h3⟩ := mayU_of h
  obtain ⟨n0, n1, _⟩ := Wp.may_of h1
  obtain ⟨e1, e2, e3⟩ := up_at a n d ha (by omega) (by omega)
  have hb : ofB (upL a n d) = true := by unfold ofB; rw [upL_length, e1, e2, e3, h]; rfl
  obtain ⟨q1, q2, q3⟩ := ofB_yes hb
  exact ⟨hb, q1.trans e1, q2.trans e2, q3.trans e3⟩
theorem up_inj {a n d a' n' d' : Nat} (ha : a < 4294967296) (h : mayU a n d = true) (ha' : a' < 4294967296) (h' : mayU a' n' d' = true) (e : upL a n d = upL a' n' d') : a = a' ∧ n = n' ∧ d = d' := by
  obtain ⟨_, q1, q2, q3⟩ := up_of ha h
  obtain ⟨_, r1, r2, r3⟩ := up_of ha' h'
  rw [e] at q1 q2 q3
  exact ⟨q1.symm.trans r1, q2.symm.trans r2, q3.symm.trans r3⟩
end Go.Proofs.Ytcahfapffhcceaa

namespace Go.Proofs.Ytcahfapffhcceaa
open Go.RowKit
theorem wpAnyH_cut {P : Program} {md : Region.Mode} {ops : Array Oper} {Q : Exit → Act → World → Prop} {S : World → Prop} {fuel : Nat} {listed : Array Bool} {a : Act} {w : World}
    (m : Array Bool) (fm : Nat) (I : Act → World → Prop)
    (tail : ∀ (l : Array Bool) (A : Act) (w1 : World), l = m → I A w1 → S w1 → wpAnyH P md ops Q S fm l A w1)
    (main : (∀ (l : Array Bool) (A : Act) (w1 : World), l = m → I A w1 → S w1 → wpAnyH P md ops Q S fm l A w1) → wpAnyH P md ops Q S fuel listed a w) : wpAnyH P md ops Q S fuel listed a w := main tail
/-- A region, cut behind it: what its walk leaves is said once. -/
theorem wp_region_fin {P : Program} {Q : Exit → Act → World → Prop} {S : World → Prop} {id : Nat} {ops : Array Oper} {a : Act} {w : World} (I : Act → World → Prop) (hm : P.follows .mixedOrders = true) (hS : S w.drew) (h1 : ∀ A w3, I A w3 → Q .normal A w3)
    (h : (∀ A w3, I A w3 → Q .normal A w3) → S w.drew → wpAnyH P .any ops Q S ops.size (Array.replicate ops.size false) a w.drew) : (Code.region id ops true).wp P Q a w :=
  wp_region_held_drew hm hS (h h1)
/-- A region under a promise that holds more. -/
theorem wpAnyH_str {P : Program} {md : Region.Mode} {ops : Array Oper} {Q : Exit → Act → World → Prop} {S S' : World → Prop} (h : ∀ w, S' w → S w) : ∀ (fuel : Nat) (listed : Array Bool) (a : Act) (w : World), wpAnyH P md ops Q S' fuel listed a w → wpAnyH P md ops Q S fuel listed a w
  | 0, _, _, _, H => H
  | fuel + 1, _, _, _, H => ⟨H.1, fun i hi => wpOp_mono (fun a' w' h' => ⟨h _ h'.1, wpAnyH_str h fuel _ a' w' h'.2⟩) (H.2 i hi)⟩
/-- The list of what is done, spelled out. -/
theorem wpAnyH_at {P : Program} {md : Region.Mode} {ops : Array Oper} {Q : Exit → Act → World → Prop} {S : World → Prop} {fuel : Nat} {listed : Array Bool} {a : Act} {w : World} {m : Array Bool} (e : listed = m) (h : wpAnyH P md ops Q S fuel m a w) : wpAnyH P md ops Q S fuel listed a w := e ▸ h
end Go.Proofs.Ytcahfapffhcceaa
