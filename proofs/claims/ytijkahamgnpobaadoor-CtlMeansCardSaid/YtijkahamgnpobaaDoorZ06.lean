/- A struct's block in memory, of any type that is no byte.
   The walks of the reference's AddrText and PrefixText.
   The walk of wire.PrefixText.
   Updates: their bytes, their texts; plain mathematics, no function of the program in it.
   The walks of ctl.spell, ctl.Bytes, ctl.number, and of the reference's Bytes.
   The walks of slices.Grow of nothing, slices.Concat, wire.Join. -/
import Derived.Lib.SliceRun
import Derived.Lib.AppendZerosOnto
import Derived.Lib.ItoaLen
import Derived.Deep.MidRow
import Derived.RangeFuncRecord
import Derived.Test.YtijkahamgnpobaaDoorZ01
import Derived.Test.YtijkahamgnpobaaDoorZ04
import Derived.Test.YtijkahamgnpobaaDoorZ05

set_option linter.unusedSimpArgs false
set_option linter.unusedVariables false
namespace Go.Proofs.YtijkahamgnpobaaDoor
open Go.RowKit
attribute [local go_sem ↓] Go.wp_at_zero Go.wp_at_succ

set_option maxRecDepth 100000 in
theorem growW_some (n : Nat) (w : World) (h0 : 0 < n) (hn : n ≤ 100000) :
    Calls Tryd.prog 60 #[.slice none 0 0, .int .i64 (n : Int)] w fun e w' => ∃ v, e = .returned v ∧ OwnB w' w.heap.size v [] ∧ Below w.heap.size w w' := by
  obtain ⟨i0, hi, hz0, hz1, hz2⟩ := info8
  have hold : (Builtin.firstCells i0.size 0 (.slice none 0 0)).run Tryd.prog w.drew = .ok #[] w.drew := run_firstCells_none w.drew i0.size 0 0 0
  have hrz : ∀ ty, (Builtin.append_ #[28, 3] ty #[.slice none 0 0, .int .i64 (n : Int)]).run Tryd.prog w =
      .ok (.slice (some ⟨w.heap.size, 0, none⟩) n (grownCap w n 0 5)) (w.drew.alloc (.cells (([] : List Value).toArray ++ Builtin.zeroCells (Value.int .u8 0).cells n ++ Builtin.zeroCells (Value.int .u8 0).cells (grownCap w n 0 5 - n)) 5)) := fun ty => by
    have h := Lib.run_append_grow_zeros w 28 3 ty 5 i0 (.int .u8 0) .i64 .i64 Tryd.underlying28 Tryd.underlying3 hi hz0 none 0 0 [] hold n (by omega) (by omega) (by omega) (by omega)
      (by rw [hz2]; omega) (by rw [Nat.zero_add]; exact growslice_fits h0 (by rw [hz2]; omega))
    rw [Nat.zero_add] at h
    exact h
  have hGn : n ≤ grownCap w n 0 5 := grownCap_ge w _ _ _
  have hG63 := grownCap_le_maxLen w n 0 5 (by unfold maxLen; omega)
  obtain ⟨G, hG⟩ : ∃ G, G = grownCap w n 0 5 := ⟨_, rfl⟩
  rw [← hG] at hrz hGn hG63
  have hsz : (([] : List Value).toArray ++ Builtin.zeroCells (Value.int .u8 0).cells n ++ Builtin.zeroCells (Value.int .u8 0).cells (G - n)).size = G * 1 := by
    have e : ∀ k, (Builtin.zeroCells (Value.int .u8 0).cells k).size = k := fun k => by simp [Builtin.zeroCells, Value.cells]
    simp [e]; omega
  obtain ⟨cur, hcur⟩ : ∃ cur, cur = (([] : List Value).toArray ++ Builtin.zeroCells (Value.int .u8 0).cells n ++ Builtin.zeroCells (Value.int .u8 0).cells (G - n)) := ⟨_, rfl⟩
  rw [← hcur] at hrz hsz
  have hown : OwnB (w.drew.alloc (.cells cur 5)) w.heap.size (.slice (some ⟨w.heap.size, 0, none⟩) 0 G) [] :=
    World.ownsRow_made (w := w.drew) cur G (Nat.le_refl _) hG63 hsz
  have HO := Lib.hid hown
  have HB := Lib.hid (show Below w.heap.size w (w.drew.alloc (.cells cur 5)) from ((Below.refl _ _).drew).alloc (Nat.le_refl _) _)
  have g1 : (0 : Int) < n := by omega
  have g2 : (n : Int) ≤ 100000 := by omega
  clear hold hG hcur hsz hown hG63 hGn hn h0
  go_enter Tryd.func60, Tryd.ntmps60
  go_wp2_with (at_builtin; refine Lib.wpList_append_run _ rfl _ _ _ _ rfl _ _ rfl rfl _ _ (hrz _) ?_)
  all_goals
    go_ret
    exact ⟨_, rfl, HO.out, HB.out⟩
theorem growW_none (w : World) :
    Calls Tryd.prog 60 #[.slice none 0 0, .int .i64 0] w fun e w' => e = .returned (.slice none 0 0) ∧ w = w' := by
  go_enter Tryd.func60, Tryd.ntmps60
  go_wp2_with fail
  go_ret
  exact ⟨rfl, rfl⟩

set_option maxHeartbeats 2000000 in
set_option maxRecDepth 100000 in
theorem concatW_some (b : Option Addr) (c : Nat) (L : List (List UInt8)) (w : World) (hv : Lists w (.slice b L.length c) L) (hL : L.length ≤ 10000) (hS : L.flatten.length ≤ 100000) :
    Calls Tryd.prog 50 #[.slice b L.length c] w fun e w' => ∃ v, e = .returned v ∧ OwnB w' w.heap.size v L.flatten ∧ Below w.heap.size w w' := by
  have HV := Lib.hid hv
  clear hv
  go_enter Tryd.func50, Tryd.ntmps50
  go_wp2_with fail
  go_loop [3, 11] (fun s i => ∃ k : Nat, k ≤ L.length ∧ i = .int .i64 k ∧ s = .int .i64 (lsum L k)) (fun _ i => L.length - (intOf i).toNat)
  case atStart => exact ⟨0, Nat.zero_le _, rfl, rfl⟩
  case round =>
    obtain ⟨k, hk, rfl, rfl⟩ := hrel
    have hz1 := lsum_mono L hk
    rw [lsum_all] at hz1
    obtain ⟨z, hz⟩ : ∃ z, z = lsum L k := ⟨_, rfl⟩
    rw [← hz] at hz1 ⊢
    have Hz := Lib.hid hz
    have HZ1 := Lib.hid (show z ≤ 100000 by omega)
    clear hz hz1
    rcases Nat.lt_or_ge k L.length with hlt | hge
    · obtain ⟨bl, bo, rfl, hbl, x, d, he, hbe⟩ := HV.out.at hlt
      have hs2 : lsum L (k + 1) = z + L[k].length := by
        show lsum L k + _ = _
        rw [List.getElem?_eq_getElem hlt, Hz.out]; rfl
      have hz2 := lsum_mono L (show k + 1 ≤ L.length by omega)
      rw [lsum_all] at hz2
      obtain ⟨m, hm⟩ : ∃ m, m = L[k].length := ⟨_, rfl⟩
      rw [← hm] at he hs2
      have hm2 : (z : Int) + m ≤ 100000 := by omega
      have Hs2 := Lib.hid hs2
      have g1 : (k : Int) < L.length := by omega
      clear hm hs2 hbe hz2
      go_wp2_with fail
      go_round
      case rel => exact ⟨k + 1, by omega, by go_num, by rw [Hs2.out]; go_num⟩
      case measure => simp [intOf]; omega
    · have e : k = L.length := by omega
      subst e
      have hgrow : Calls Tryd.prog 60 #[.slice none 0 0, .int .i64 (z : Int)] w fun e w' => ∃ v, e = .returned v ∧ OwnB w' w.heap.size v [] ∧ Below w.heap.size w w' := by
        rcases Nat.eq_zero_or_pos z with h0 | h0
        · subst h0
          exact (growW_none w).mono fun e w' ⟨h1, h2⟩ => by subst h2; exact ⟨_, h1, OwnB.nil _ _, Below.refl _ _⟩
        · exact growW_some z w h0 (by have := HZ1.out; omega)
      have hz2 : (z : Int) ≤ 100000 := by have := HZ1.out; omega
      go_wp2_with fail
      refine hgrow.mono ?_
      rintro e w1 ⟨v1, rfl, ho1, hb1⟩
      have HO := Lib.hid ho1
      have HB1 := Lib.hid hb1
      clear ho1 hb1 hgrow hz2
      go_wp2_with fail
      go_loopw [6, 27] (fun v i wr => ∃ k : Nat, k ≤ L.length ∧ i = .int .i64 k ∧ Hid (OwnB wr w.heap.size v (L.take k).flatten) ∧ Hid (Below w.heap.size w wr)) (fun _ i _ => L.length - (intOf i).toNat)
      case atStart => exact ⟨0, Nat.zero_le _, rfl, HO.out, HB1.out⟩
      case round =>
        obtain ⟨k, hk, rfl, HW, HB⟩ := hrel
        rcases Nat.lt_or_ge k L.length with hlt | hge2
        · have g1 : (k : Int) < L.length := by omega
          obtain ⟨bl, bo, rfl, hbl, x, d, he, hbe⟩ := HV.out.at hlt
          have he' := cell_later' HB.out hbl he
          have b1 : bl < wr.heap.size := Nat.lt_of_lt_of_le hbl HB.out.size
          have hbw := hbe.later HB.out
          have hsz := lsum_take L (k + 1) (by omega)
          have hsz2 := lsum_mono L (i := k + 1) (k := L.length) (by omega)
          rw [lsum_all, hsz] at hsz2
          have hfl : (L.take (k + 1)).flatten = (L.take k).flatten ++ L[k] := by rw [List.take_succ_eq_append_getElem hlt, List.flatten_append, List.flatten_singleton]
          have hfn : (L.take k).flatten.length + L[k].length ≤ 100000 := by rw [← List.length_append, ← hfl]; omega
          have Hfl := Lib.hid hfl
          have Hbw := Lib.hid hbw
          have Hfn := Lib.hid hfn
          clear hfn hfl hsz hsz2 hbe he hbw
          go_wp2_with (at_builtin; refine wpList_app rfl _ _ rfl w.heap.size _ _ _ L[k] rfl rfl HW.out Hbw.out (by have := Hfn.out; omega) HB.out.size ?_)
          intro v' w2 ho2 hb2 hg2
          have HO2 := Lib.hid ho2
          rw [← Hfl.out] at HO2
          have HB2 := Lib.hid (HB.out.trans hb2)
          clear ho2 hb2 hg2
          go_wp2_with fail
          go_roundw
          case rel => exact ⟨k + 1, by omega, by go_num, HO2, HB2⟩
          case measure => simp [intOf]; omega
        · have e : k = L.length := by omega
          subst e
          rw [List.take_length] at HW
          go_wp2_with fail
          go_ret
          exact ⟨_, rfl, HW.out, HB.out⟩
theorem joinW_own (v : Value) (L : List (List UInt8)) (w : World) (hv : Lists w v L) (hL : L.length ≤ 10000) (hS : L.flatten.length ≤ 100000) :
    Calls Tryd.prog 36 #[v] w fun e w' => ∃ v, e = .returned v ∧ OwnB w' w.heap.size v L.flatten ∧ Below w.heap.size w w' := by
  obtain ⟨b, c, rfl⟩ := hv.form
  have HV := Lib.hid hv
  clear hv
  go_enter Tryd.func36, Tryd.ntmps36
  go_wp2_with fail
  refine (concatW_some b c L w HV.out hL hS).mono ?_
  rintro e w1 ⟨v1, rfl, h1, hb1⟩
  have H1 := Lib.hid h1
  clear h1
  go_wp2_with fail
  go_ret
  exact ⟨_, rfl, H1.out, hb1⟩
theorem joinW_any (v : Value) (L : List (List UInt8)) (w : World) (hv : Lists w v L) (hL : L.length ≤ 10000) (hS : L.flatten.length ≤ 100000) :
    Calls Tryd.prog 36 #[v] w fun e w' => ∃ v, e = .returned v ∧ Bytes w' v L.flatten ∧ Below w.heap.size w w' :=
  (joinW_own v L w hv hL hS).mono fun _ _ ⟨v, h1, h2, h3⟩ => ⟨v, h1, h2.bytes, h3⟩
end Go.Proofs.YtijkahamgnpobaaDoor

namespace Go.Proofs.YtijkahamgnpobaaDoor
open Go.RowKit
attribute [local go_sem ↓] Go.wp_at_zero Go.wp_at_succ

/-- An update's bytes. -/
def upL (a n d : Nat) : List UInt8 := putL a 4 ++ [UInt8.ofNat n, UInt8.ofNat d]
theorem upL_length (a n d : Nat) : (upL a n d).length = 6 := by simp [upL, putL_length]
theorem ofNat8 {n : Nat} (h : n < 256) : (UInt8.ofNat n).toNat = n := by rw [UInt8.toNat_ofNat']; omega
theorem two_lit (n d : Nat) (hn : n < 256) (hd : d < 256) (w : World) : Bytes (w.alloc (.cells #[.int .u8 (n : Int), .int .u8 (d : Int)] 5)) (.slice (some ⟨w.heap.size, 0, none⟩) 2 2) [UInt8.ofNat n, UInt8.ofNat d] := by
  have h := bytes_lit w [UInt8.ofNat n, UInt8.ofNat d]
  simp only [bv, List.map_cons, List.map_nil, ofNat8 hn, ofNat8 hd] at h
  exact h

set_option maxHeartbeats 2000000 in
set_option maxRecDepth 100000 in
theorem spell_any (a n d : Nat) (ha : a < 4294967296) (h : mayU a n d = true) (w : World) :
    Calls Tryd.prog 27 #[.agg #[.int .u32 (a : Int), .int .i64 (n : Int), .int .i64 (d : Int)]] w fun e w' => ∃ v, e = .returned v ∧ OwnB w' w.heap.size v (upL a n d) ∧ Below w.heap.size w w' := by
  obtain ⟨h1, h2, h3⟩ := mayU_of h
  obtain ⟨n0, n1, _⟩ := Wp.may_of h1
  have HP := Lib.hid (fun (W : World) => putW_yes a 4 W (by omega) (by omega) (by omega))
  have k1 : (a : Int) < 4294967296 := by omega
  have k2 : (n : Int) < 256 := by omega
  have k3 : (d : Int) < 256 := by omega
  clear h h1 h2 h3 n0 n1
  go_enter Tryd.func27, Tryd.ntmps27
  go_wp2_with fail
  refine (HP.out _).mono ?_
  rintro e w1 ⟨v1, rfl, hv1, hb1⟩
  obtain ⟨a1, c1, rfl⟩ := hv1.form
  rw [putL_length] at hv1 ⊢
  have HV1 := Lib.hid hv1
  have HB1 := Lib.hid hb1
  obtain ⟨hc, hfz⟩ := bcell hb1
  clear hv1 hb1
  go_wp2_with fail
  have hL : Hid (Lists ((w1.alloc (.cells #[.int .u8 (n : Int), .int .u8 (d : Int)] 5)).alloc (.cells #[.slice a1 4 c1, .slice (some ⟨w1.heap.size, 0, none⟩) 2 2] 28)) (.slice (some ⟨w1.heap.size + 1, 0, none⟩) 2 2) [putL a 4, [UInt8.ofNat n, UInt8.ofNat d]]) := by
    have b1 : Below w1.heap.size w1 ((w1.alloc (.cells #[.int .u8 (n : Int), .int .u8 (d : Int)] 5)).alloc (.cells #[.slice a1 4 c1, .slice (some ⟨w1.heap.size, 0, none⟩) 2 2] 28)) := by go_grown
    exact lists_two3 (HV1.out.later b1) ((two_lit n d (by omega) (by omega) w1).later ((Below.refl _ _).alloc (Nat.le_refl _) _)) (by go_side) (by go_side) (by go_side)
  refine (joinW_own _ [putL a 4, [UInt8.ofNat n, UInt8.ofNat d]] _ hL.out (by simp) (by simp [putL_length])).mono ?_
  rintro e w2 ⟨v2, rfl, hv2, hb2⟩
  have HO : Hid (OwnB w2 w.heap.size v2 (upL a n d)) := OwnB.weak (by simpa [upL] using hv2) (by have := HB1.out.size; simp at this ⊢; omega)
  have HB2 : Hid (Below w.heap.size w w2) := by
    have q1 : Below w.heap.size w w1 := ((Below.refl _ _).alloc (Nat.le_refl _) _).trans (HB1.out.mono (by simp))
    exact ((q1.alloc q1.size _).alloc (by simp; have := q1.size; omega) _).trans (hb2.mono (by simp; have := q1.size; omega))
  clear hv2 hb2
  go_wp2_with fail
  go_ret
  exact ⟨_, rfl, HO.out, HB2.out⟩

theorem bytesU_no (a n d : Int) (h : mayU a n d = false) (w : World) :
    Calls Tryd.prog 9 #[.agg #[.int .u32 a, .int .i64 n, .int .i64 d]] w fun e w' => e = .returned (.tuple #[.slice none 0 0, .int .i64 2]) ∧ Below w.heap.size w w' := by
  have Hm := Lib.hid h
  clear h
  go_enter Tryd.func9, Tryd.ntmps9
  go_wp2_with fail
  refine (mayUW_any _ _ _ _).mono ?_
  rintro e w1 ⟨rfl, hb1⟩
  rw [Hm.out]
  go_wp2_with fail
  go_ret2
  exact ⟨rfl, ((Below.refl _ _).alloc (Nat.le_refl _) _).trans (hb1.mono (by simp))⟩
theorem bytesU_yes (a n d : Nat) (ha : a < 4294967296) (h : mayU a n d = true) (w : World) :
    Calls Tryd.prog 9 #[.agg #[.int .u32 (a : Int), .int .i64 (n : Int), .int .i64 (d : Int)]] w fun e w' => ∃ v, e = .returned (.tuple #[v, .int .i64 0]) ∧ OwnB w' w.heap.size v (upL a n d) ∧ Below w.heap.size w w' := by
  have Hm := Lib.hid h
  have HS := Lib.hid (fun W => spell_any a n d ha h W)
  clear h
  go_enter Tryd.func9, Tryd.ntmps9
  go_wp2_with fail
  refine (mayUW_any _ _ _ _).mono ?_
  rintro e w1 ⟨rfl, hb1⟩
  rw [Hm.out]
  obtain ⟨hc, hfz⟩ := bcell hb1
  have HB1 := Lib.hid hb1
  clear hb1
  go_wp2_with fail
  refine (HS.out _).mono ?_
  rintro e w2 ⟨v, rfl, ho, hb2⟩
  have q1 : Below w.heap.size w w1 := ((Below.refl _ _).alloc (Nat.le_refl _) _).trans (HB1.out.mono (by simp))
  have HO := Lib.hid (OwnB.weak ho q1.size)
  have HB2 := Lib.hid (below_of q1 hb2)
  clear ho hb2 q1
  go_wp2_with fail
  go_ret2
  exact ⟨_, rfl, HO.out, HB2.out⟩
end Go.Proofs.YtijkahamgnpobaaDoor

namespace Go.Proofs.YtijkahamgnpobaaDoor
open Go.RowKit

def ofa (l : List UInt8) : Nat := getL (l.take 4)
def ofn (l : List UInt8) : Nat := (l.getD 4 0).toNat
def ofd (l : List UInt8) : Nat := (l.getD 5 0).toNat
def ofB (l : List UInt8) : Bool := decide (l.length = 6) && mayU (ofa l) (ofn l) (ofd l)
def ofA (l : List UInt8) : Nat := if ofB l = true then ofa l else 0
def ofN (l : List UInt8) : Nat := if ofB l = true then ofn l else 0
def ofD (l : List UInt8) : Nat := if ofB l = true then ofd l else 0
theorem of_yes {l : List UInt8} (h : ofB l = true) : ofA l = ofa l ∧ ofN l = ofn l ∧ ofD l = ofd l := by simp [ofA, ofN, ofD, h]
theorem of_no {l : List UInt8} (h : ofB l = false) : ofA l = 0 ∧ ofN l = 0 ∧ ofD l = 0 := by simp [ofA, ofN, ofD, h]
theorem up_at (a n d : Nat) (ha : a < 4294967296) (hn : n < 256) (hd : d < 256) : ofa (upL a n d) = a ∧ ofn (upL a n d) = n ∧ ofd (upL a n d) = d := by
  have hl := putL_length a 4
  refine ⟨?_, ?_, ?_⟩
  · unfold ofa upL
    rw [List.take_append_of_le_length (by omega), List.take_of_length_le (by omega), get_put]
    exact Nat.mod_eq_of_lt ha
  · unfold ofn upL
    rw [List.getD_eq_getElem?_getD, List.getElem?_append_right (by omega), hl]
    simp; omega
  · unfold ofd upL
    rw [List.getD_eq_getElem?_getD, List.getElem?_append_right (by omega), hl]
    simp; omega
theorem up_of {a n d : Nat} (ha : a < 4294967296) (h : mayU a n d = true) : ofB (upL a n d) = true ∧ ofA (upL a n d) = a ∧ ofN (upL a n d) = n ∧ ofD (upL a n d) = d := by
  obtain ⟨h1, h2, h3⟩ := mayU_of h
  obtain ⟨n0, n1, _⟩ := Wp.may_of h1
  obtain ⟨e1, e2, e3⟩ := up_at a n d ha (by omega) (by omega)
  have hb : ofB (upL a n d) = true := by unfold ofB; rw [upL_length, e1, e2, e3, h]; rfl
  obtain ⟨q1, q2, q3⟩ := of_yes hb
  exact ⟨hb, q1.trans e1, q2.trans e2, q3.trans e3⟩
theorem up_inj {a n d a' n' d' : Nat} (ha : a < 4294967296) (h : mayU a n d = true) (ha' : a' < 4294967296) (h' : mayU a' n' d' = true) (e : upL a n d = upL a' n' d') : a = a' ∧ n = n' ∧ d = d' := by
  obtain ⟨_, q1, q2, q3⟩ := up_of ha h
  obtain ⟨_, r1, r2, r3⟩ := up_of ha' h'
  rw [e] at q1 q2 q3
  exact ⟨q1.symm.trans r1, q2.symm.trans r2, q3.symm.trans r3⟩

/-! Texts. -/
theorem cut_is (l : List UInt8) (c : UInt8) : (∃ a r, l = a ++ c :: r ∧ c ∉ a ∧ Lib.cut l [c] = (a, r, true)) ∨ (c ∉ l ∧ Lib.cut l [c] = (l, [], false)) := by
  by_cases h : c ∈ l
  · obtain ⟨a, r, rfl, ha⟩ := List.eq_append_cons_of_mem h
    exact .inl ⟨a, r, rfl, ha, cut_mid a r c ha⟩
  · exact .inr ⟨h, cut_no l c h⟩
theorem num_text {l : List UInt8} {m : Int} (h : numB l m = true) : 0 ≤ numI l m ∧ numI l m ≤ m ∧ Lib.itoa (numI l m) = l := by
  unfold numB at h
  unfold numI
  cases hv : num? l m with
  | none => rw [hv] at h; cases h
  | some v =>
    simp only [Option.getD_some]
    unfold num? at hv
    split at hv
    · split at hv
      · rename_i hh
        obtain rfl := Option.some.inj hv
        exact hh
      · cases hv
    · cases hv
theorem addrF_inv {k : Nat} {a v : Int} {l : List UInt8} (h : addrF (k + 2) a l = some v) : ∃ p r, l = p ++ 46 :: r ∧ numB p 255 = true ∧ addrF (k + 1) (a * 256 + numI p 255) r = some v := by
  rw [addrF_step] at h
  rcases cut_is l 46 with ⟨p, r, e, _, hc⟩ | ⟨_, hc⟩
  · rw [hc] at h
    refine ⟨p, r, e, ?_⟩
    cases hb : numB p 255 with
    | false => rw [hb] at h; simp at h
    | true =>
      rw [hb] at h
      refine ⟨rfl, ?_⟩
      simpa using h
  · rw [hc] at h
    exfalso
    cases hb : numB l 255 with
    | false => rw [hb] at h; simp at h
    | true => rw [hb] at h; simp at h
theorem addrF_inv1 {a v : Int} {l : List UInt8} (h : addrF 1 a l = some v) : numB l 255 = true ∧ v = a * 256 + numI l 255 := by
  rw [addrF_step] at h
  rcases cut_is l 46 with ⟨p, r, e, _, hc⟩ | ⟨_, hc⟩
  · rw [hc] at h
    exfalso
    cases hb : numB p 255 with
    | false => rw [hb] at h; simp at h
    | true => rw [hb] at h; simp at h
  · rw [hc] at h
    cases hb : numB l 255 with
    | false => rw [hb] at h; simp at h
    | true =>
      rw [hb] at h
      simp at h
      exact ⟨rfl, h.symm⟩
theorem addr_text {l : List UInt8} {v : Int} (h : addrF 4 0 l = some v) : addrT v = l := by
  obtain ⟨p3, r3, rfl, b3, h⟩ := addrF_inv h
  obtain ⟨p2, r2, rfl, b2, h⟩ := addrF_inv h
  obtain ⟨p1, r1, rfl, b1, h⟩ := addrF_inv h
  obtain ⟨b0, e⟩ := addrF_inv1 h
  obtain ⟨l3, u3, t3⟩ := num_text b3
  obtain ⟨l2, u2, t2⟩ := num_text b2
  obtain ⟨l1, u1, t1⟩ := num_text b1
  obtain ⟨l0, u0, t0⟩ := num_text b0
  rw [addrT_eq]
  have c3 : bt v 3 = numI p3 255 := by unfold bt; rw [show (2 : Int) ^ (8 * 3) = 16777216 by decide]; omega
  have c2 : bt v 2 = numI p2 255 := by unfold bt; rw [show (2 : Int) ^ (8 * 2) = 65536 by decide]; omega
  have c1 : bt v 1 = numI p1 255 := by unfold bt; rw [show (2 : Int) ^ (8 * 1) = 256 by decide]; omega
  have c0 : bt v 0 = numI r1 255 := by unfold bt; rw [show (2 : Int) ^ (8 * 0) = 1 by decide]; omega
  rw [c3, c2, c1, c0, t3, t2, t1, t0]
theorem pf_text {l : List UInt8} (h : pfOk l = true) : pfT (pfA l) (pfN l) = l ∧ Wp.mayB (pfA l) (pfN l) = true := by
  obtain ⟨q1, q2, q3⟩ := pf_yes h
  have key : (decide (addrE (Lib.cut l [47]).1 = 0) && (numB (Lib.cut l [47]).2.1 32 && Wp.mayB (addrI (Lib.cut l [47]).1) (numI (Lib.cut l [47]).2.1 32))) = true := h
  simp only [Bool.and_eq_true, decide_eq_true_eq] at key
  obtain ⟨k1, k2, k3⟩ := key
  rw [q1, q2]
  refine ⟨?_, k3⟩
  rcases cut_is l 47 with ⟨p, r, e, _, hc⟩ | ⟨_, hc⟩
  · rw [hc] at k1 k2 ⊢
    simp only at k1 k2 ⊢
    unfold pfT
    rw [(num_text k2).2.2]
    cases hf : addrF 4 0 p with
    | none => rw [(addr_none hf).2] at k1; cases k1
    | some v => rw [(addr_some hf).1, addr_text hf, e]
  · rw [hc] at k2
    have : numB [] 32 = false := by decide +kernel
    rw [this] at k2; cases k2
theorem pfA_bd (l : List UInt8) : 0 ≤ pfA l ∧ pfA l < 4294967296 := by
  unfold pfA; split
  · exact addrI_bd _
  · omega
theorem pfN_bd (l : List UInt8) : 0 ≤ pfN l ∧ pfN l ≤ 32 := by
  cases h : pfOk l with
  | false => rw [(pf_no h).2.1]; omega
  | true =>
    have := Wp.may_of (pf_text h).2
    omega

/-- An update's text. -/
def upT (a n d : Int) : List UInt8 := pfT a n ++ 32 :: Lib.itoa d
theorem blank_fin : ∀ v : Fin 256, 32 ∉ Lib.itoa (v.val : Int) := by decide +kernel
theorem blank_itoa {v : Int} (h : 0 ≤ v) (h2 : v ≤ 255) : 32 ∉ Lib.itoa v := by
  obtain ⟨n, rfl⟩ := Int.eq_ofNat_of_zero_le h
  exact blank_fin ⟨n, by omega⟩
theorem blank_pf (a n : Int) (h : 0 ≤ n) (h2 : n ≤ 255) : 32 ∉ pfT a n := by
  have h0 := blank_itoa (bt_bd a 0).1 (bt_bd a 0).2
  have h1 := blank_itoa (bt_bd a 1).1 (bt_bd a 1).2
  have h2' := blank_itoa (bt_bd a 2).1 (bt_bd a 2).2
  have h3 := blank_itoa (bt_bd a 3).1 (bt_bd a 3).2
  have h4 := blank_itoa h h2
  unfold pfT
  rw [addrT_eq]
  simp [h0, h1, h2', h3, h4]
/-- Is a text an update's? -/
def utB (l : List UInt8) : Bool := match splitL 32 l with | [p, q] => pfOk p && refB q 255 | _ => false
def utA (l : List UInt8) : Int := if utB l = true then pfA (Lib.cut l [32]).1 else 0
def utN (l : List UInt8) : Int := if utB l = true then pfN (Lib.cut l [32]).1 else 0
def utD (l : List UInt8) : Int := if utB l = true then (decN (Lib.cut l [32]).2.1 : Int) else 0
def utE (l : List UInt8) : Int := if utB l = true then 0 else 4
theorem ut_no {l : List UInt8} (h : utB l = false) : utA l = 0 ∧ utN l = 0 ∧ utD l = 0 ∧ utE l = 4 := by simp [utA, utN, utD, utE, h]
theorem ut_yes {l : List UInt8} (h : utB l = true) : utA l = pfA (Lib.cut l [32]).1 ∧ utN l = pfN (Lib.cut l [32]).1 ∧ utD l = (decN (Lib.cut l [32]).2.1 : Int) ∧ utE l = 0 := by simp [utA, utN, utD, utE, h]
theorem num255 (l : List UInt8) : numB l 255 = refB l 255 ∧ (refB l 255 = true → numI l 255 = decN l) := num_ref l 255 ⟨by omega, by omega⟩
/-- What an update's text is parted to. -/
theorem ut_parts {l : List UInt8} (h : utB l = true) : ∃ p q, l = p ++ 32 :: q ∧ Lib.cut l [32] = (p, q, true) ∧ splitL 32 l = [p, q] ∧ pfOk p = true ∧ refB q 255 = true := by
  unfold utB at h
  rcases cut_is l 32 with ⟨p, r, e, hp, hc⟩ | ⟨hn, hc⟩
  · rw [e, split_mid r hp] at h
    by_cases hr : (32 : UInt8) ∈ r
    · exfalso
      have hl : (splitL 32 r).length ≠ 1 := fun e => split_one.1 e hr
      split at h
      · rename_i heq
        simp only [List.cons.injEq] at heq
        rw [heq.2] at hl
        simp at hl
      · cases h
    · rw [split_no hr] at h
      simp only [Bool.and_eq_true] at h
      exact ⟨p, r, e, hc, by rw [e, split_mid r hp, split_no hr], h.1, h.2⟩
  · exfalso
    rw [split_no hn] at h
    simp at h
theorem ut_text {l : List UInt8} (h : utB l = true) : upT (utA l) (utN l) (utD l) = l ∧ mayU (utA l) (utN l) (utD l) = true := by
  obtain ⟨p, q, e, hc, _, hp, hq⟩ := ut_parts h
  obtain ⟨y1, y2, y3, _⟩ := ut_yes h
  rw [hc] at y1 y2 y3
  simp only at y1 y2 y3
  obtain ⟨n1, n2⟩ := num255 q
  rw [hq] at n1
  obtain ⟨z0, z1, z2⟩ := num_text n1
  rw [n2 hq] at z0 z1 z2
  obtain ⟨t1, t2⟩ := pf_text hp
  rw [y1, y2, y3]
  unfold upT
  rw [t1, z2]
  exact ⟨e.symm, mayU_mk t2 z0 z1⟩
theorem ut_back {a n d : Int} (ha : 0 ≤ a) (ha2 : a < 4294967296) (h : mayU a n d = true) : utB (upT a n d) = true ∧ utA (upT a n d) = a ∧ utN (upT a n d) = n ∧ utD (upT a n d) = d ∧ utE (upT a n d) = 0 := by
  obtain ⟨h1, h2, h3⟩ := mayU_of h
  obtain ⟨n0, n1, _⟩ := Wp.may_of h1
  have hb1 := blank_pf a n n0 (by omega)
  have hb2 := blank_itoa h2 h3
  have hc : Lib.cut (upT a n d) [32] = (pfT a n, Lib.itoa d, true) := cut_mid _ _ _ hb1
  have hs : splitL 32 (upT a n d) = [pfT a n, Lib.itoa d] := by unfold upT; rw [split_mid _ hb1, split_no hb2]
  obtain ⟨e1, e2, e3⟩ := pf_back ha ha2 h1
  have hok : pfOk (pfT a n) = true := by
    cases hk : pfOk (pfT a n) with
    | true => rfl
    | false => rw [(pf_no hk).2.2] at e3; cases e3
  obtain ⟨m1, m2⟩ := num255 (Lib.itoa d)
  have hm := (num_itoa h2 h3).1
  have hnb : numB (Lib.itoa d) 255 = true := by unfold numB; rw [hm]; rfl
  have hni : numI (Lib.itoa d) 255 = d := by unfold numI; rw [hm]; rfl
  rw [hnb] at m1
  rw [hni] at m2
  have hu : utB (upT a n d) = true := by unfold utB; rw [hs]; simp [hok, ← m1]
  obtain ⟨y1, y2, y3, y4⟩ := ut_yes hu
  rw [hc] at y1 y2 y3
  exact ⟨hu, y1.trans e1, y2.trans e2, y3.trans (m2 m1.symm).symm, y4⟩
theorem upT_inj {a n d a' n' d' : Int} (ha : 0 ≤ a) (ha2 : a < 4294967296) (h : mayU a n d = true) (ha' : 0 ≤ a') (ha2' : a' < 4294967296) (h' : mayU a' n' d' = true) (e : upT a n d = upT a' n' d') : a = a' ∧ n = n' ∧ d = d' := by
  obtain ⟨_, q1, q2, q3, _⟩ := ut_back ha ha2 h
  obtain ⟨_, r1, r2, r3, _⟩ := ut_back ha' ha2' h'
  rw [e] at q1 q2 q3
  exact ⟨q1.symm.trans r1, q2.symm.trans r2, q3.symm.trans r3⟩
theorem pfT_len {a n : Int} (h : 0 ≤ n) (h2 : n ≤ 255) : (pfT a n).length ≤ 19 := by
  have h1 := addrT_len a
  have h3 := itoa_len h h2
  simp [pfT]; omega
theorem upT_len {a n d : Int} (h : mayU a n d = true) : (upT a n d).length ≤ 23 := by
  obtain ⟨h1, h2, h3⟩ := mayU_of h
  obtain ⟨n0, n1, _⟩ := Wp.may_of h1
  have h1 := pfT_len (a := a) n0 (show n ≤ 255 by omega)
  have h4 := itoa_len h2 h3
  simp [upT]; omega

end Go.Proofs.YtijkahamgnpobaaDoor

namespace Go.Proofs.YtijkahamgnpobaaDoor
open Go.RowKit
attribute [local go_sem ↓] Go.wp_at_zero Go.wp_at_succ

theorem ba_app (a b : List UInt8) : (⟨a.toArray⟩ : ByteArray) ++ ⟨b.toArray⟩ = ⟨(a ++ b).toArray⟩ := by
  ext1
  simp [ByteArray.data_append]

set_option maxHeartbeats 1000000 in
set_option maxRecDepth 100000 in
theorem prefixText_yes (a n : Int) (ha : 0 ≤ a) (ha2 : a < 4294967296) (hm : Wp.mayB a n = true) (w : World) (g : Gl w) :
    Calls Tryd.prog 37 #[.agg #[.int .u32 a, .int .i64 n]] w fun e w' => e = .returned (.tuple #[.string ⟨(pfT a n).toArray⟩, .int .i64 0]) ∧ Below w.heap.size w w' := by
  obtain ⟨n0, n1, _⟩ := Wp.may_of hm
  have Hm := Lib.hid hm
  clear hm
  go_enter Tryd.func37, Tryd.ntmps37
  go_wp2_with (go_at_call 30; refine (mayW_any _ _ _).mono ?_; rintro e w1 ⟨rfl, hb1⟩; rw [Hm.out]; have hB1 := Lib.hid hb1; obtain ⟨hc, hfz⟩ := bcell hb1)
  have l1 := addrT_len a
  have l2 := itoa_len n0 (show n ≤ 255 by omega)
  (refine wp_region_held_drew (S := (fun w' => w'.cell? ⟨w.heap.size, 0, none⟩ = some (.int .u32 a) ∧ w'.cell? ⟨w.heap.size, 1, none⟩ = some (.int .i64 n) ∧ Below w.heap.size w w')) (by kernel_rfl) ?_ (fun hHeld => ?_); (focus ((try dsimp only); (refine ⟨?_, ?_, (((Below.refl _ _).alloc (Nat.le_refl _) _).trans (hb1.mono (by simp))).drew⟩ <;> go_side))))
  (refine wpAnyH_take (i := 0) (v := ?_) rfl (by kernel_rfl) (by kernel_rfl) (by kernel_rfl) (fun _ _ _ h => h) (Or.inl ⟨by rfl, ?_⟩) hHeld ?_; rotate_left; (focus (intro w hSw; (try dsimp only at hSw); go_simp; try with_reducible rfl)); (try simp only [Act.put, List.setIfInBounds_toArray, List.set_cons_zero, List.set_cons_succ, List.getElem_toArray, List.getElem_cons_zero])); (refine wpAnyH_take (i := 1) (v := ?_) rfl (by kernel_rfl) (by kernel_rfl) (by kernel_rfl) (fun _ _ _ h => h) (Or.inl ⟨by rfl, ?_⟩) hHeld ?_; rotate_left; (focus (intro w hSw; (try dsimp only at hSw); go_simp; try with_reducible rfl)); (try simp only [Act.put, List.setIfInBounds_toArray, List.set_cons_zero, List.set_cons_succ, List.getElem_toArray, List.getElem_cons_zero, List.getElem_cons_succ])); (refine wpAnyH_take (i := 4) (v := ?_) rfl (by kernel_rfl) (by kernel_rfl) (by kernel_rfl) (fun _ _ _ h => h) (Or.inl ⟨by rfl, ?_⟩) hHeld ?_; rotate_left; (focus (intro w hSw; (try dsimp only at hSw); go_simp; try with_reducible rfl)); (try simp only [Act.put, List.setIfInBounds_toArray, List.set_cons_zero, List.set_cons_succ, List.getElem_toArray, List.getElem_cons_zero, List.getElem_cons_succ])); (refine wpAnyH_take (i := 5) (v := ?_) rfl (by kernel_rfl) (by kernel_rfl) (by kernel_rfl) (fun _ _ _ h => h) (Or.inl ⟨by rfl, ?_⟩) hHeld ?_; rotate_left; (focus (intro w hSw; (try dsimp only at hSw); go_simp; try with_reducible rfl)); (try simp only [Act.put, List.setIfInBounds_toArray, List.set_cons_zero, List.set_cons_succ, List.getElem_toArray, List.getElem_cons_zero, List.getElem_cons_succ]))
  (refine wpAnyH_ready (rs := [2]) (by kernel_rfl) (by simp) ?_; refine AllReadyH.cons rfl (fun K hK => ?_) AllReadyH.nil; go_simp; refine (addrText_any a ha ha2 _ (g.below hHeld.2.2)).mono ?_; rintro e w2 ⟨rfl, hb2⟩; simp only []; refine hK.out _ _ ?_ (fun hHeldN => ?_); (focus ((try dsimp only); exact ⟨cell_later hb2 hHeld.1, cell_later hb2 hHeld.2.1, hHeld.2.2.trans (hb2.mono hHeld.2.2.size)⟩)); clear hK K hHeld; have hHeld := hHeldN; clear hHeldN; (try simp only [Act.put, List.setIfInBounds_toArray, List.set_cons_zero, List.set_cons_succ, List.getElem_toArray, List.getElem_cons_zero, List.getElem_cons_succ]))
  (refine wpAnyH_take (i := 3) (v := ?_) rfl (by kernel_rfl) (by kernel_rfl) (by kernel_rfl) (fun _ _ _ h => h) (Or.inl ⟨by rfl, ?_⟩) hHeld ?_; rotate_left; (focus (intro w hSw; (try dsimp only at hSw); go_simp; rw [if_neg (by omega), show (⟨(addrT a).toArray⟩ : ByteArray) ++ ⟨#[47]⟩ = ⟨(addrT a ++ [47]).toArray⟩ from ba_app _ [47]])); (try simp only [Act.put, List.setIfInBounds_toArray, List.set_cons_zero, List.set_cons_succ, List.getElem_toArray, List.getElem_cons_zero, List.getElem_cons_succ]))
  (refine wpAnyH_ready (rs := [6]) (by kernel_rfl) (by simp) ?_; refine AllReadyH.cons rfl (fun K hK => ?_) AllReadyH.nil; go_simp; refine (itoa_any n (by omega) (by omega) _ (g.below hHeld.2.2)).mono ?_; rintro e w2 ⟨rfl, hb2⟩; simp only []; refine hK.out _ _ ?_ (fun hHeldN => ?_); (focus ((try dsimp only); exact ⟨cell_later hb2 hHeld.1, cell_later hb2 hHeld.2.1, hHeld.2.2.trans (hb2.mono hHeld.2.2.size)⟩)); clear hK K hHeld; have hHeld := hHeldN; clear hHeldN; (try simp only [Act.put, List.setIfInBounds_toArray, List.set_cons_zero, List.set_cons_succ, List.getElem_toArray, List.getElem_cons_zero, List.getElem_cons_succ]))
  (refine wpAnyH_take (i := 7) (v := ?_) rfl (by kernel_rfl) (by kernel_rfl) (by kernel_rfl) (fun _ _ _ h => h) (Or.inl ⟨by rfl, ?_⟩) hHeld ?_; rotate_left; (focus (intro w hSw; (try dsimp only at hSw); go_simp; rw [if_neg (by omega), ba_app])); (try simp only [Act.put, List.setIfInBounds_toArray, List.set_cons_zero, List.set_cons_succ, List.getElem_toArray, List.getElem_cons_zero, List.getElem_cons_succ]))
  (refine wpAnyH_take (i := 8) (v := ?_) rfl (by kernel_rfl) (by kernel_rfl) (by kernel_rfl) (fun _ _ _ h => h) (Or.inl ⟨by rfl, ?_⟩) hHeld ?_; rotate_left; (focus (intro w hSw; (try dsimp only at hSw); go_simp; try with_reducible rfl)); (try simp only [Act.put, List.setIfInBounds_toArray, List.set_cons_zero, List.set_cons_succ, List.getElem_toArray, List.getElem_cons_zero, List.getElem_cons_succ])); (refine wpAnyH_take (i := 9) (v := ?_) rfl (by kernel_rfl) (by kernel_rfl) (by kernel_rfl) (fun _ _ _ h => h) (Or.inl ⟨by rfl, ?_⟩) hHeld ?_; rotate_left; (focus (intro w hSw; (try dsimp only at hSw); go_simp; try with_reducible rfl)); (try simp only [Act.put, List.setIfInBounds_toArray, List.set_cons_zero, List.set_cons_succ, List.getElem_toArray, List.getElem_cons_zero, List.getElem_cons_succ]))
  refine wpAnyH_done (by kernel_rfl) ?_ _
  go_wp2
  go_ret2
  exact ⟨rfl, hHeld.2.2⟩

set_option maxHeartbeats 1000000 in
theorem prefixText_no (a n : Int) (hm : Wp.mayB a n = false) (w : World) :
    Calls Tryd.prog 37 #[.agg #[.int .u32 a, .int .i64 n]] w fun e w' => e = .returned (.tuple #[.string ⟨#[]⟩, .int .i64 2]) ∧ Below w.heap.size w w' := by
  have Hm := Lib.hid hm
  clear hm
  go_enter Tryd.func37, Tryd.ntmps37
  go_wp2_with (go_at_call 30; refine (mayW_any _ _ _).mono ?_; rintro e w1 ⟨rfl, hb1⟩; rw [Hm.out]; obtain ⟨hc, hfz⟩ := bcell hb1)
  go_ret2
  exact ⟨rfl, ((Below.refl _ _).alloc (Nat.le_refl _) _).trans (hb1.mono (by simp))⟩
end Go.Proofs.YtijkahamgnpobaaDoor

namespace Go.Proofs.YtijkahamgnpobaaDoor
open Go.RowKit
attribute [local go_sem ↓] Go.wp_at_zero Go.wp_at_succ

/-- Four bytes in memory, and what lay before. -/
def Four (b o : Nat) (x3 x2 x1 x0 : Nat) (w w' : World) : Prop :=
  w'.cell? ⟨b, o, none⟩ = some (.int .u8 (x3 : Int)) ∧ w'.cell? ⟨b, o + 1, none⟩ = some (.int .u8 (x2 : Int)) ∧ w'.cell? ⟨b, o + 2, none⟩ = some (.int .u8 (x1 : Int)) ∧ w'.cell? ⟨b, o + 3, none⟩ = some (.int .u8 (x0 : Int)) ∧ Below w.heap.size w w'
theorem Four.later {b o x3 x2 x1 x0 : Nat} {w w1 w2 : World} (h : Four b o x3 x2 x1 x0 w w1) (hb : Below w1.heap.size w1 w2) : Four b o x3 x2 x1 x0 w w2 :=
  ⟨cell_later hb h.1, cell_later hb h.2.1, cell_later hb h.2.2.1, cell_later hb h.2.2.2.1, h.2.2.2.2.trans (hb.mono h.2.2.2.2.size)⟩
theorem ba_dot (l : List UInt8) : (⟨l.toArray⟩ : ByteArray) ++ ⟨#[46]⟩ = ⟨(l ++ [46]).toArray⟩ := ba_app l [46]

set_option maxHeartbeats 2000000 in
set_option maxRecDepth 100000 in
theorem addrTextR_any (c : Nat) (hc : c < 4294967296) (w : World) (g : Gl w) :
    Calls Tryd.prog 59 #[.int .u32 (c : Int)] w fun e w' => e = .returned (.string ⟨(addrT c).toArray⟩) ∧ Below w.heap.size w w' := by
  go_enter Tryd.func59, Tryd.ntmps59
  go_wp2_with fail
  refine (putR_any c 4 _ (by omega) (by decide)).mono ?_
  rintro e w1 ⟨v1, rfl, hv1, hb1⟩
  obtain ⟨x3, hx3⟩ : ∃ x : Nat, x = (UInt8.ofNat (c / 256 ^ 3)).toNat := ⟨_, rfl⟩
  obtain ⟨x2, hx2⟩ : ∃ x : Nat, x = (UInt8.ofNat (c / 256 ^ 2)).toNat := ⟨_, rfl⟩
  obtain ⟨x1, hx1⟩ : ∃ x : Nat, x = (UInt8.ofNat (c / 256 ^ 1)).toNat := ⟨_, rfl⟩
  obtain ⟨x0, hx0⟩ : ∃ x : Nat, x = (UInt8.ofNat (c / 256 ^ 0)).toNat := ⟨_, rfl⟩
  have e3 : bt c 3 = x3 := by rw [hx3]; exact byte_of c 3
  have e2 : bt c 2 = x2 := by rw [hx2]; exact byte_of c 2
  have e1 : bt c 1 = x1 := by rw [hx1]; exact byte_of c 1
  have e0 : bt c 0 = x0 := by rw [hx0]; exact byte_of c 0
  have y3 : x3 ≤ 255 := by have := (bt_bd c 3).2; omega
  have y2 : x2 ≤ 255 := by have := (bt_bd c 2).2; omega
  have y1 : x1 ≤ 255 := by have := (bt_bd c 1).2; omega
  have y0 : x0 ≤ 255 := by have := (bt_bd c 0).2; omega
  rcases hv1 with ⟨h, _⟩ | ⟨b, o, cp, rfl, hlt, _, hcell⟩
  · exact absurd (congrArg List.length h) (by simp [putL_length])
  have k3 := hcell 0 (UInt8.ofNat (c / 256 ^ 3)) rfl
  have k2 := hcell 1 (UInt8.ofNat (c / 256 ^ 2)) rfl
  have k1 := hcell 2 (UInt8.ofNat (c / 256 ^ 1)) rfl
  have k0 := hcell 3 (UInt8.ofNat (c / 256 ^ 0)) rfl
  rw [← hx3] at k3; rw [← hx2] at k2; rw [← hx1] at k1; rw [← hx0] at k0
  have HF : Hid (Four b o x3 x2 x1 x0 w w1) := ⟨k3, k2, k1, k0, hb1⟩
  have HE := Lib.hid (And.intro e3 (And.intro e2 (And.intro e1 e0)))
  clear hcell hx3 hx2 hx1 hx0 e3 e2 e1 e0 k3 k2 k1 k0 hb1 hlt
  have l3 := itoa_len (show (0 : Int) ≤ x3 by omega) (by omega)
  have l2 := itoa_len (show (0 : Int) ≤ x2 by omega) (by omega)
  have l1 := itoa_len (show (0 : Int) ≤ x1 by omega) (by omega)
  have l0 := itoa_len (show (0 : Int) ≤ x0 by omega) (by omega)
  have w3 : IntKind.i64.wrap (x3 : Int) = x3 := IntWalk.i64_in _ ⟨by omega, by omega⟩
  have w2 : IntKind.i64.wrap (x2 : Int) = x2 := IntWalk.i64_in _ ⟨by omega, by omega⟩
  have w1 : IntKind.i64.wrap (x1 : Int) = x1 := IntWalk.i64_in _ ⟨by omega, by omega⟩
  have w0 : IntKind.i64.wrap (x0 : Int) = x0 := IntWalk.i64_in _ ⟨by omega, by omega⟩
  rw [show (putL c 4).length = 4 from putL_length c 4]
  go_wp2_with fail
  (refine wp_region_held_drew (S := (fun w' => w'.cell? ⟨b, o, none⟩ = some (.int .u8 (x3 : Int)) ∧ w'.cell? ⟨b, o + 1, none⟩ = some (.int .u8 (x2 : Int)) ∧ w'.cell? ⟨b, o + 2, none⟩ = some (.int .u8 (x1 : Int)) ∧ w'.cell? ⟨b, o + 3, none⟩ = some (.int .u8 (x0 : Int)) ∧ Below w.heap.size w w')) (by kernel_rfl) ?_ (fun hHeld => ?_); (focus ((try dsimp only); exact HF.out.later (Below.refl _ _).drew)))
  (refine wpAnyH_take (i := 0) (v := ?_) rfl (by kernel_rfl) (by kernel_rfl) (by kernel_rfl) (fun _ _ _ h => h) (Or.inl ⟨by rfl, ?_⟩) hHeld ?_; rotate_left; (focus (intro w hSw; (try dsimp only at hSw); go_simp; try with_reducible rfl)); (try simp only [Act.put, List.setIfInBounds_toArray, List.set_cons_zero, List.set_cons_succ, List.getElem_toArray, List.getElem_cons_zero])); (refine wpAnyH_take (i := 1) (v := ?_) rfl (by kernel_rfl) (by kernel_rfl) (by kernel_rfl) (fun _ _ _ h => h) (Or.inl ⟨by rfl, ?_⟩) hHeld ?_; rotate_left; (focus (intro w hSw; (try dsimp only at hSw); go_simp; try with_reducible rfl)); (try simp only [Act.put, List.setIfInBounds_toArray, List.set_cons_zero, List.set_cons_succ, List.getElem_toArray, List.getElem_cons_zero, List.getElem_cons_succ])); (refine wpAnyH_take (i := 2) (v := ?_) rfl (by kernel_rfl) (by kernel_rfl) (by kernel_rfl) (fun _ _ _ h => h) (Or.inl ⟨by rfl, ?_⟩) hHeld ?_; rotate_left; (focus (intro w hSw; (try dsimp only at hSw); go_simp; try with_reducible rfl)); (try simp only [Act.put, List.setIfInBounds_toArray, List.set_cons_zero, List.set_cons_succ, List.getElem_toArray, List.getElem_cons_zero, List.getElem_cons_succ])); (refine wpAnyH_take (i := 3) (v := ?_) rfl (by kernel_rfl) (by kernel_rfl) (by kernel_rfl) (fun _ _ _ h => h) (Or.inl ⟨by rfl, ?_⟩) hHeld ?_; rotate_left; (focus (intro w hSw; (try dsimp only at hSw); go_simp; try with_reducible rfl)); (try simp only [Act.put, List.setIfInBounds_toArray, List.set_cons_zero, List.set_cons_succ, List.getElem_toArray, List.getElem_cons_zero, List.getElem_cons_succ])); (refine wpAnyH_take (i := 6) (v := ?_) rfl (by kernel_rfl) (by kernel_rfl) (by kernel_rfl) (fun _ _ _ h => h) (Or.inl ⟨by rfl, ?_⟩) hHeld ?_; rotate_left; (focus (intro w hSw; (try dsimp only at hSw); go_simp; try with_reducible rfl)); (try simp only [Act.put, List.setIfInBounds_toArray, List.set_cons_zero, List.set_cons_succ, List.getElem_toArray, List.getElem_cons_zero, List.getElem_cons_succ])); (refine wpAnyH_take (i := 7) (v := ?_) rfl (by kernel_rfl) (by kernel_rfl) (by kernel_rfl) (fun _ _ _ h => h) (Or.inl ⟨by rfl, ?_⟩) hHeld ?_; rotate_left; (focus (intro w hSw; (try dsimp only at hSw); go_simp; try with_reducible rfl)); (try simp only [Act.put, List.setIfInBounds_toArray, List.set_cons_zero, List.set_cons_succ, List.getElem_toArray, List.getElem_cons_zero, List.getElem_cons_succ])); (refine wpAnyH_take (i := 8) (v := ?_) rfl (by kernel_rfl) (by kernel_rfl) (by kernel_rfl) (fun _ _ _ h => h) (Or.inl ⟨by rfl, ?_⟩) hHeld ?_; rotate_left; (focus (intro w hSw; (try dsimp only at hSw); go_simp; try with_reducible rfl)); (try simp only [Act.put, List.setIfInBounds_toArray, List.set_cons_zero, List.set_cons_succ, List.getElem_toArray, List.getElem_cons_zero, List.getElem_cons_succ])); (refine wpAnyH_take (i := 9) (v := ?_) rfl (by kernel_rfl) (by kernel_rfl) (by kernel_rfl) (fun _ _ _ h => h) (Or.inl ⟨by rfl, ?_⟩) hHeld ?_; rotate_left; (focus (intro w hSw; (try dsimp only at hSw); go_simp; try with_reducible rfl)); (try simp only [Act.put, List.setIfInBounds_toArray, List.set_cons_zero, List.set_cons_succ, List.getElem_toArray, List.getElem_cons_zero, List.getElem_cons_succ])); (refine wpAnyH_take (i := 13) (v := ?_) rfl (by kernel_rfl) (by kernel_rfl) (by kernel_rfl) (fun _ _ _ h => h) (Or.inl ⟨by rfl, ?_⟩) hHeld ?_; rotate_left; (focus (intro w hSw; (try dsimp only at hSw); go_simp; try with_reducible rfl)); (try simp only [Act.put, List.setIfInBounds_toArray, List.set_cons_zero, List.set_cons_succ, List.getElem_toArray, List.getElem_cons_zero, List.getElem_cons_succ])); (refine wpAnyH_take (i := 14) (v := ?_) rfl (by kernel_rfl) (by kernel_rfl) (by kernel_rfl) (fun _ _ _ h => h) (Or.inl ⟨by rfl, ?_⟩) hHeld ?_; rotate_left; (focus (intro w hSw; (try dsimp only at hSw); go_simp; try with_reducible rfl)); (try simp only [Act.put, List.setIfInBounds_toArray, List.set_cons_zero, List.set_cons_succ, List.getElem_toArray, List.getElem_cons_zero, List.getElem_cons_succ])); (refine wpAnyH_take (i := 15) (v := ?_) rfl (by kernel_rfl) (by kernel_rfl) (by kernel_rfl) (fun _ _ _ h => h) (Or.inl ⟨by rfl, ?_⟩) hHeld ?_; rotate_left; (focus (intro w hSw; (try dsimp only at hSw); go_simp; try with_reducible rfl)); (try simp only [Act.put, List.setIfInBounds_toArray, List.set_cons_zero, List.set_cons_succ, List.getElem_toArray, List.getElem_cons_zero, List.getElem_cons_succ])); (refine wpAnyH_take (i := 16) (v := ?_) rfl (by kernel_rfl) (by kernel_rfl) (by kernel_rfl) (fun _ _ _ h => h) (Or.inl ⟨by rfl, ?_⟩) hHeld ?_; rotate_left; (focus (intro w hSw; (try dsimp only at hSw); go_simp; try with_reducible rfl)); (try simp only [Act.put, List.setIfInBounds_toArray, List.set_cons_zero, List.set_cons_succ, List.getElem_toArray, List.getElem_cons_zero, List.getElem_cons_succ])); (refine wpAnyH_take (i := 20) (v := ?_) rfl (by kernel_rfl) (by kernel_rfl) (by kernel_rfl) (fun _ _ _ h => h) (Or.inl ⟨by rfl, ?_⟩) hHeld ?_; rotate_left; (focus (intro w hSw; (try dsimp only at hSw); go_simp; try with_reducible rfl)); (try simp only [Act.put, List.setIfInBounds_toArray, List.set_cons_zero, List.set_cons_succ, List.getElem_toArray, List.getElem_cons_zero, List.getElem_cons_succ])); (refine wpAnyH_take (i := 21) (v := ?_) rfl (by kernel_rfl) (by kernel_rfl) (by kernel_rfl) (fun _ _ _ h => h) (Or.inl ⟨by rfl, ?_⟩) hHeld ?_; rotate_left; (focus (intro w hSw; (try dsimp only at hSw); go_simp; try with_reducible rfl)); (try simp only [Act.put, List.setIfInBounds_toArray, List.set_cons_zero, List.set_cons_succ, List.getElem_toArray, List.getElem_cons_zero, List.getElem_cons_succ])); (refine wpAnyH_take (i := 22) (v := ?_) rfl (by kernel_rfl) (by kernel_rfl) (by kernel_rfl) (fun _ _ _ h => h) (Or.inl ⟨by rfl, ?_⟩) hHeld ?_; rotate_left; (focus (intro w hSw; (try dsimp only at hSw); go_simp; try with_reducible rfl)); (try simp only [Act.put, List.setIfInBounds_toArray, List.set_cons_zero, List.set_cons_succ, List.getElem_toArray, List.getElem_cons_zero, List.getElem_cons_succ])); (refine wpAnyH_take (i := 23) (v := ?_) rfl (by kernel_rfl) (by kernel_rfl) (by kernel_rfl) (fun _ _ _ h => h) (Or.inl ⟨by rfl, ?_⟩) hHeld ?_; rotate_left; (focus (intro w hSw; (try dsimp only at hSw); go_simp; try with_reducible rfl)); (try simp only [Act.put, List.setIfInBounds_toArray, List.set_cons_zero, List.set_cons_succ, List.getElem_toArray, List.getElem_cons_zero, List.getElem_cons_succ]))
  (refine wpAnyH_ready (rs := [4]) (by kernel_rfl) (by simp) ?_; refine AllReadyH.cons rfl (fun K hK => ?_) AllReadyH.nil; go_simp; refine (itoa_any x3 (by omega) (by omega) _ (g.below hHeld.2.2.2.2)).mono ?_; rintro e w2 ⟨rfl, hb2⟩; simp only []; refine hK.out _ _ ?_ (fun hHeldN => ?_); (focus ((try dsimp only); exact Four.later hHeld hb2)); clear hK K hHeld; have hHeld := hHeldN; clear hHeldN; (try simp only [Act.put, List.setIfInBounds_toArray, List.set_cons_zero, List.set_cons_succ, List.getElem_toArray, List.getElem_cons_zero, List.getElem_cons_succ]))
  (refine wpAnyH_take (i := 5) (v := ?_) rfl (by kernel_rfl) (by kernel_rfl) (by kernel_rfl) (fun _ _ _ h => h) (Or.inl ⟨by rfl, ?_⟩) hHeld ?_; rotate_left; (focus (intro w hSw; (try dsimp only at hSw); go_simp; rw [if_neg (by omega), ba_dot])); (try simp only [Act.put, List.setIfInBounds_toArray, List.set_cons_zero, List.set_cons_succ, List.getElem_toArray, List.getElem_cons_zero, List.getElem_cons_succ]))
  (refine wpAnyH_ready (rs := [10]) (by kernel_rfl) (by simp) ?_; refine AllReadyH.cons rfl (fun K hK => ?_) AllReadyH.nil; go_simp; refine (itoa_any x2 (by omega) (by omega) _ (g.below hHeld.2.2.2.2)).mono ?_; rintro e w2 ⟨rfl, hb2⟩; simp only []; refine hK.out _ _ ?_ (fun hHeldN => ?_); (focus ((try dsimp only); exact Four.later hHeld hb2)); clear hK K hHeld; have hHeld := hHeldN; clear hHeldN; (try simp only [Act.put, List.setIfInBounds_toArray, List.set_cons_zero, List.set_cons_succ, List.getElem_toArray, List.getElem_cons_zero, List.getElem_cons_succ]))
  (refine wpAnyH_take (i := 11) (v := ?_) rfl (by kernel_rfl) (by kernel_rfl) (by kernel_rfl) (fun _ _ _ h => h) (Or.inl ⟨by rfl, ?_⟩) hHeld ?_; rotate_left; (focus (intro w hSw; (try dsimp only at hSw); go_simp; rw [if_neg (by omega), ba_app])); (try simp only [Act.put, List.setIfInBounds_toArray, List.set_cons_zero, List.set_cons_succ, List.getElem_toArray, List.getElem_cons_zero, List.getElem_cons_succ]))
  (refine wpAnyH_take (i := 12) (v := ?_) rfl (by kernel_rfl) (by kernel_rfl) (by kernel_rfl) (fun _ _ _ h => h) (Or.inl ⟨by rfl, ?_⟩) hHeld ?_; rotate_left; (focus (intro w hSw; (try dsimp only at hSw); go_simp; rw [if_neg (by omega), ba_dot])); (try simp only [Act.put, List.setIfInBounds_toArray, List.set_cons_zero, List.set_cons_succ, List.getElem_toArray, List.getElem_cons_zero, List.getElem_cons_succ]))
  (refine wpAnyH_ready (rs := [17]) (by kernel_rfl) (by simp) ?_; refine AllReadyH.cons rfl (fun K hK => ?_) AllReadyH.nil; go_simp; refine (itoa_any x1 (by omega) (by omega) _ (g.below hHeld.2.2.2.2)).mono ?_; rintro e w2 ⟨rfl, hb2⟩; simp only []; refine hK.out _ _ ?_ (fun hHeldN => ?_); (focus ((try dsimp only); exact Four.later hHeld hb2)); clear hK K hHeld; have hHeld := hHeldN; clear hHeldN; (try simp only [Act.put, List.setIfInBounds_toArray, List.set_cons_zero, List.set_cons_succ, List.getElem_toArray, List.getElem_cons_zero, List.getElem_cons_succ]))
  (refine wpAnyH_take (i := 18) (v := ?_) rfl (by kernel_rfl) (by kernel_rfl) (by kernel_rfl) (fun _ _ _ h => h) (Or.inl ⟨by rfl, ?_⟩) hHeld ?_; rotate_left; (focus (intro w hSw; (try dsimp only at hSw); go_simp; rw [if_neg (by omega), ba_app])); (try simp only [Act.put, List.setIfInBounds_toArray, List.set_cons_zero, List.set_cons_succ, List.getElem_toArray, List.getElem_cons_zero, List.getElem_cons_succ]))
  (refine wpAnyH_take (i := 19) (v := ?_) rfl (by kernel_rfl) (by kernel_rfl) (by kernel_rfl) (fun _ _ _ h => h) (Or.inl ⟨by rfl, ?_⟩) hHeld ?_; rotate_left; (focus (intro w hSw; (try dsimp only at hSw); go_simp; rw [if_neg (by omega), ba_dot])); (try simp only [Act.put, List.setIfInBounds_toArray, List.set_cons_zero, List.set_cons_succ, List.getElem_toArray, List.getElem_cons_zero, List.getElem_cons_succ]))
  (refine wpAnyH_ready (rs := [24]) (by kernel_rfl) (by simp) ?_; refine AllReadyH.cons rfl (fun K hK => ?_) AllReadyH.nil; go_simp; refine (itoa_any x0 (by omega) (by omega) _ (g.below hHeld.2.2.2.2)).mono ?_; rintro e w2 ⟨rfl, hb2⟩; simp only []; refine hK.out _ _ ?_ (fun hHeldN => ?_); (focus ((try dsimp only); exact Four.later hHeld hb2)); clear hK K hHeld; have hHeld := hHeldN; clear hHeldN; (try simp only [Act.put, List.setIfInBounds_toArray, List.set_cons_zero, List.set_cons_succ, List.getElem_toArray, List.getElem_cons_zero, List.getElem_cons_succ]))
  (refine wpAnyH_take (i := 25) (v := ?_) rfl (by kernel_rfl) (by kernel_rfl) (by kernel_rfl) (fun _ _ _ h => h) (Or.inl ⟨by rfl, ?_⟩) hHeld ?_; rotate_left; (focus (intro w hSw; (try dsimp only at hSw); go_simp; rw [if_neg (by omega), ba_app])); (try simp only [Act.put, List.setIfInBounds_toArray, List.set_cons_zero, List.set_cons_succ, List.getElem_toArray, List.getElem_cons_zero, List.getElem_cons_succ]))
  (refine wpAnyH_take (i := 26) (v := ?_) rfl (by kernel_rfl) (by kernel_rfl) (by kernel_rfl) (fun _ _ _ h => h) (Or.inl ⟨by rfl, ?_⟩) hHeld ?_; rotate_left; (focus (intro w hSw; (try dsimp only at hSw); go_simp; try with_reducible rfl)); (try simp only [Act.put, List.setIfInBounds_toArray, List.set_cons_zero, List.set_cons_succ, List.getElem_toArray, List.getElem_cons_zero, List.getElem_cons_succ]))
  refine wpAnyH_done (by kernel_rfl) ?_ _
  go_wp2
  go_ret
  refine ⟨?_, hHeld.2.2.2.2⟩
  rw [addrT_eq, HE.out.1, HE.out.2.1, HE.out.2.2.1, HE.out.2.2.2]
  simp

set_option maxHeartbeats 1000000 in
set_option maxRecDepth 100000 in
theorem prefixTextR_any (a : Nat) (n : Int) (ha : a < 4294967296) (n0 : -9223372036854775808 ≤ n) (n1 : n ≤ 9223372036854775807) (w : World) (g : Gl w) :
    Calls Tryd.prog 45 #[.agg #[.int .u32 (a : Int), .int .i64 n]] w fun e w' => e = .returned (.string ⟨(pfT a n).toArray⟩) ∧ Below w.heap.size w w' := by
  have l1 := addrT_len a
  have l2 := Lib.itoa_length_le n n0 n1
  go_enter Tryd.func45, Tryd.ntmps45
  go_wp2_with fail
  (refine wp_region_held_drew (S := (fun w' => w'.cell? ⟨w.heap.size, 0, none⟩ = some (.int .u32 (a : Int)) ∧ w'.cell? ⟨w.heap.size, 1, none⟩ = some (.int .i64 n) ∧ Below w.heap.size w w')) (by kernel_rfl) ?_ (fun hHeld => ?_); (focus ((try dsimp only); (refine ⟨?_, ?_, ((Below.refl _ _).alloc (Nat.le_refl _) _).drew⟩ <;> go_side))))
  (refine wpAnyH_take (i := 0) (v := ?_) rfl (by kernel_rfl) (by kernel_rfl) (by kernel_rfl) (fun _ _ _ h => h) (Or.inl ⟨by rfl, ?_⟩) hHeld ?_; rotate_left; (focus (intro w hSw; (try dsimp only at hSw); go_simp; try with_reducible rfl)); (try simp only [Act.put, List.setIfInBounds_toArray, List.set_cons_zero, List.set_cons_succ, List.getElem_toArray, List.getElem_cons_zero])); (refine wpAnyH_take (i := 1) (v := ?_) rfl (by kernel_rfl) (by kernel_rfl) (by kernel_rfl) (fun _ _ _ h => h) (Or.inl ⟨by rfl, ?_⟩) hHeld ?_; rotate_left; (focus (intro w hSw; (try dsimp only at hSw); go_simp; try with_reducible rfl)); (try simp only [Act.put, List.setIfInBounds_toArray, List.set_cons_zero, List.set_cons_succ, List.getElem_toArray, List.getElem_cons_zero, List.getElem_cons_succ])); (refine wpAnyH_take (i := 4) (v := ?_) rfl (by kernel_rfl) (by kernel_rfl) (by kernel_rfl) (fun _ _ _ h => h) (Or.inl ⟨by rfl, ?_⟩) hHeld ?_; rotate_left; (focus (intro w hSw; (try dsimp only at hSw); go_simp; try with_reducible rfl)); (try simp only [Act.put, List.setIfInBounds_toArray, List.set_cons_zero, List.set_cons_succ, List.getElem_toArray, List.getElem_cons_zero, List.getElem_cons_succ])); (refine wpAnyH_take (i := 5) (v := ?_) rfl (by kernel_rfl) (by kernel_rfl) (by kernel_rfl) (fun _ _ _ h => h) (Or.inl ⟨by rfl, ?_⟩) hHeld ?_; rotate_left; (focus (intro w hSw; (try dsimp only at hSw); go_simp; try with_reducible rfl)); (try simp only [Act.put, List.setIfInBounds_toArray, List.set_cons_zero, List.set_cons_succ, List.getElem_toArray, List.getElem_cons_zero, List.getElem_cons_succ]))
  (refine wpAnyH_ready (rs := [2]) (by kernel_rfl) (by simp) ?_; refine AllReadyH.cons rfl (fun K hK => ?_) AllReadyH.nil; go_simp; refine (addrTextR_any a ha _ (g.below hHeld.2.2)).mono ?_; rintro e w2 ⟨rfl, hb2⟩; simp only []; refine hK.out _ _ ?_ (fun hHeldN => ?_); (focus ((try dsimp only); exact ⟨cell_later hb2 hHeld.1, cell_later hb2 hHeld.2.1, hHeld.2.2.trans (hb2.mono hHeld.2.2.size)⟩)); clear hK K hHeld; have hHeld := hHeldN; clear hHeldN; (try simp only [Act.put, List.setIfInBounds_toArray, List.set_cons_zero, List.set_cons_succ, List.getElem_toArray, List.getElem_cons_zero, List.getElem_cons_succ]))
  (refine wpAnyH_take (i := 3) (v := ?_) rfl (by kernel_rfl) (by kernel_rfl) (by kernel_rfl) (fun _ _ _ h => h) (Or.inl ⟨by rfl, ?_⟩) hHeld ?_; rotate_left; (focus (intro w hSw; (try dsimp only at hSw); go_simp; rw [if_neg (by omega), show (⟨(addrT a).toArray⟩ : ByteArray) ++ ⟨#[47]⟩ = ⟨(addrT a ++ [47]).toArray⟩ from ba_app _ [47]])); (try simp only [Act.put, List.setIfInBounds_toArray, List.set_cons_zero, List.set_cons_succ, List.getElem_toArray, List.getElem_cons_zero, List.getElem_cons_succ]))
  (refine wpAnyH_ready (rs := [6]) (by kernel_rfl) (by simp) ?_; refine AllReadyH.cons rfl (fun K hK => ?_) AllReadyH.nil; go_simp; refine (itoa_any n n0 n1 _ (g.below hHeld.2.2)).mono ?_; rintro e w2 ⟨rfl, hb2⟩; simp only []; refine hK.out _ _ ?_ (fun hHeldN => ?_); (focus ((try dsimp only); exact ⟨cell_later hb2 hHeld.1, cell_later hb2 hHeld.2.1, hHeld.2.2.trans (hb2.mono hHeld.2.2.size)⟩)); clear hK K hHeld; have hHeld := hHeldN; clear hHeldN; (try simp only [Act.put, List.setIfInBounds_toArray, List.set_cons_zero, List.set_cons_succ, List.getElem_toArray, List.getElem_cons_zero, List.getElem_cons_succ]))
  (refine wpAnyH_take (i := 7) (v := ?_) rfl (by kernel_rfl) (by kernel_rfl) (by kernel_rfl) (fun _ _ _ h => h) (Or.inl ⟨by rfl, ?_⟩) hHeld ?_; rotate_left; (focus (intro w hSw; (try dsimp only at hSw); go_simp; rw [if_neg (by omega), ba_app])); (try simp only [Act.put, List.setIfInBounds_toArray, List.set_cons_zero, List.set_cons_succ, List.getElem_toArray, List.getElem_cons_zero, List.getElem_cons_succ]))
  (refine wpAnyH_take (i := 8) (v := ?_) rfl (by kernel_rfl) (by kernel_rfl) (by kernel_rfl) (fun _ _ _ h => h) (Or.inl ⟨by rfl, ?_⟩) hHeld ?_; rotate_left; (focus (intro w hSw; (try dsimp only at hSw); go_simp; try with_reducible rfl)); (try simp only [Act.put, List.setIfInBounds_toArray, List.set_cons_zero, List.set_cons_succ, List.getElem_toArray, List.getElem_cons_zero, List.getElem_cons_succ]))
  refine wpAnyH_done (by kernel_rfl) ?_ _
  go_wp2
  go_ret
  refine ⟨?_, hHeld.2.2⟩
  simp [pfT]
end Go.Proofs.YtijkahamgnpobaaDoor

namespace Go.Proofs.YtijkahamgnpobaaDoor
open Go.RowKit

/-- A block whose cells are these. -/
def BlkAt (t : TypeId) (g : Nat) (cs : List Value) (w : World) : Prop := w.heap[g]? = some (.cells cs.toArray t (0, 0))
section
variable {t : TypeId}
theorem BlkAt.lt {g : Nat} {cs : List Value} {w : World} (h : BlkAt t g cs w) : g < w.heap.size := (Array.getElem?_eq_some_iff.1 h).1
theorem BlkAt.later {g : Nat} {cs : List Value} {w w' : World} (h : BlkAt t g cs w) (hb : Below w.heap.size w w') : BlkAt t g cs w' := (hb.block g h.lt).trans h
theorem BlkAt.new (w : World) (cs : List Value) : BlkAt t w.heap.size cs (w.alloc (.cells cs.toArray t)) := World.alloc_heap_new w _
theorem BlkAt.cell {g : Nat} {cs : List Value} {w : World} (h : BlkAt t g cs w) {j : Nat} {x : Value} (hx : cs[j]? = some x) : w.cell? ⟨g, j, none⟩ = some x := by
  rw [cell_of_row w g j cs.toArray _ (0, 0) h]; simpa using hx
theorem BlkAt.frozen {g : Nat} {cs : List Value} {w : World} (h : BlkAt t g cs w) (j : Nat) : w.frozen? ⟨g, j, none⟩ = false := by
  unfold World.frozen?; simp [show w.heap[g]? = _ from h]
theorem BlkAt.set {g : Nat} {cs : List Value} {w : World} (h : BlkAt t g cs w) (j : Nat) (x : Value) : BlkAt t g (cs.set j x) (w.setCell ⟨g, j, none⟩ x) := by
  have hl := h.lt
  have hk : w.heap[g] = .cells cs.toArray t (0, 0) := (Array.getElem?_eq_some_iff.1 h).2
  show (w.heap.modify g _)[g]? = _
  rw [Array.getElem?_eq_getElem (by rw [Array.size_modify]; exact hl), Array.getElem_modify_self, hk]
  simp
theorem BlkAt.other {g b : Nat} {cs : List Value} {w : World} (h : BlkAt t g cs w) (hne : g ≠ b) (j : Nat) (x : Value) : BlkAt t g cs (w.setCell ⟨b, j, none⟩ x) := by
  show (w.setCell ⟨b, j, none⟩ x).heap[g]? = _
  rw [Below.heap_setCell _ _ _ _ (by simpa using hne)]; exact h
theorem BlkAt.range {g : Nat} {cs : List Value} {w : World} (h : BlkAt t g cs w) : w.rangeAt g 0 cs := fun j v hv => by rw [Nat.zero_add]; exact h.cell hv
theorem BlkAt.ne_own {g : Nat} {cs : List Value} {w : World} (h : BlkAt t g cs w) (ht : t ≠ 5) {B : Nat} {v : Value} {l : List UInt8} (ho : OwnB w B v l) {b : Nat} (hv : v.ownBlock = some b) : b ≠ g := by
  intro e
  obtain ⟨cur, hc⟩ := own_block ho hv
  subst e
  have h2 : w.heap[b]? = _ := h
  rw [hc] at h2
  simp only [Option.some.injEq, Obj.cells.injEq] at h2
  exact ht h2.2.1.symm
theorem BlkAt.own {g : Nat} {cs : List Value} {w : World} (h : BlkAt t g cs w) (ht : t ≠ 5) (j : Nat) (x : Value) {B : Nat} {v : Value} {l : List UInt8} (ho : OwnB w B v l) : OwnB (w.setCell ⟨g, j, none⟩ x) B v l := by
  refine World.ownsRow.kept ho (grownBy_setCell_at w g j x) ?_
  cases hv : v.ownBlock with
  | none => exact .inl rfl
  | some b => exact .inr fun e => BlkAt.ne_own h ht ho hv (Option.some.inj e)
/-- The same, with the block above a world. -/
def BlkG (t : TypeId) (w0 : World) (g : Nat) (cs : List Value) (w : World) : Prop := BlkAt t g cs w ∧ w0.heap.size ≤ g
theorem BlkG.later {w0 : World} {g : Nat} {cs : List Value} {w w' : World} (h : BlkG t w0 g cs w) (hb : Below w.heap.size w w') : BlkG t w0 g cs w' := ⟨h.1.later hb, h.2⟩
/-- Three stores into such a block. -/
theorem BlkAt.set3 {g : Nat} {w : World} {c0 c1 c2 : Value} (h : BlkAt t g [c0, c1, c2] w) (x0 x1 x2 : Value) :
    BlkAt t g [x0, x1, x2] (((w.setCell ⟨g, 0, none⟩ x0).setCell ⟨g, 1, none⟩ x1).setCell ⟨g, 2, none⟩ x2) ∧ (∀ B, B ≤ g → Below B w (((w.setCell ⟨g, 0, none⟩ x0).setCell ⟨g, 1, none⟩ x1).setCell ⟨g, 2, none⟩ x2)) :=
  ⟨((h.set 0 x0).set 1 x1).set 2 x2, fun B hB => (((Below.refl _ _).setCell (p := ⟨g, 0, none⟩) hB x0).setCell (p := ⟨g, 1, none⟩) hB x1).setCell (p := ⟨g, 2, none⟩) hB x2⟩
/-- Seven stores into such a block. -/
theorem BlkAt.set7 {g : Nat} {w : World} {c0 c1 c2 c3 c4 c5 c6 : Value} (ht : t ≠ 5) (h : BlkAt t g [c0, c1, c2, c3, c4, c5, c6] w) (x0 x1 x2 x3 x4 x5 x6 : Value) :
    BlkAt t g [x0, x1, x2, x3, x4, x5, x6] (((((((w.setCell ⟨g, 0, none⟩ x0).setCell ⟨g, 1, none⟩ x1).setCell ⟨g, 2, none⟩ x2).setCell ⟨g, 3, none⟩ x3).setCell ⟨g, 4, none⟩ x4).setCell ⟨g, 5, none⟩ x5).setCell ⟨g, 6, none⟩ x6) ∧ (∀ B v l, OwnB w B v l → OwnB (((((((w.setCell ⟨g, 0, none⟩ x0).setCell ⟨g, 1, none⟩ x1).setCell ⟨g, 2, none⟩ x2).setCell ⟨g, 3, none⟩ x3).setCell ⟨g, 4, none⟩ x4).setCell ⟨g, 5, none⟩ x5).setCell ⟨g, 6, none⟩ x6) B v l) ∧ (∀ B, B ≤ g → Below B w (((((((w.setCell ⟨g, 0, none⟩ x0).setCell ⟨g, 1, none⟩ x1).setCell ⟨g, 2, none⟩ x2).setCell ⟨g, 3, none⟩ x3).setCell ⟨g, 4, none⟩ x4).setCell ⟨g, 5, none⟩ x5).setCell ⟨g, 6, none⟩ x6)) := by
  have h1 := BlkAt.set h 0 x0
  have h2 := BlkAt.set h1 1 x1
  have h3 := BlkAt.set h2 2 x2
  have h4 := BlkAt.set h3 3 x3
  have h5 := BlkAt.set h4 4 x4
  have h6 := BlkAt.set h5 5 x5
  have h7 := BlkAt.set h6 6 x6
  exact ⟨h7, fun B v l ho => (BlkAt.own h6 ht 6 x6 (BlkAt.own h5 ht 5 x5 (BlkAt.own h4 ht 4 x4 (BlkAt.own h3 ht 3 x3 (BlkAt.own h2 ht 2 x2 (BlkAt.own h1 ht 1 x1 (BlkAt.own h ht 0 x0 ho))))))), fun B hB => ((((((((Below.refl _ _).setCell (p := ⟨g, 0, none⟩) hB x0).setCell (p := ⟨g, 1, none⟩) hB x1).setCell (p := ⟨g, 2, none⟩) hB x2).setCell (p := ⟨g, 3, none⟩) hB x3).setCell (p := ⟨g, 4, none⟩) hB x4).setCell (p := ⟨g, 5, none⟩) hB x5).setCell (p := ⟨g, 6, none⟩) hB x6)⟩
end
end Go.Proofs.YtijkahamgnpobaaDoor
