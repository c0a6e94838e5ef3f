/- The walks of the reference's Words, Total, Check, for longer bytes.
   The walks of the reference's Words, Total, Check.
   A row of one-cell elements in memory: a slice value that reads as a list of values.
   The reference's Join, whose answer is owned.
   The walk of known: the chapter's rows of frame hold. -/
import Derived.Deep.AppendLies
import Derived.Test.YtcahfapffhcceaaZ01
import Derived.Test.YtcahfapffhcceaaZ03
import Derived.Test.YtcahfapffhcceaaZ06
import Derived.Test.YtcahfapffhcceaaZ08
import Derived.Test.YtcahfapffhcceaaZ11

set_option linter.unusedSimpArgs false
set_option linter.unusedVariables false
namespace Go.Proofs.Ytcahfapffhcceaa
open Go.RowKit
attribute [local go_sem ↓] Go.wp_at_zero Go.wp_at_succ

theorem num6_any (n : Int) (w : World) : Calls Try.prog 13 #[.int .i64 n] w fun e w' => e = .returned (.int .i64 n) ∧ w = w' := by
  go_enter Try.func13, Try.ntmps13
  go_wp2
  go_ret
  exact ⟨rfl, rfl⟩
def k6f : Fr := ⟨1, 2, 1, 1, 0, 0, 0, 0⟩
def K6A (w : World) (e : Ending) (w' : World) : Prop := ∃ b o c, e = .returned (.tuple #[.slice (some ⟨b, o, none⟩) 54 c, .int .i64 0]) ∧ b < w'.heap.size ∧ 54 ≤ c ∧ (w'.cell? ⟨b, o, none⟩ = some (.int .u8 1) ∧ w'.cell? ⟨b, o + 1, none⟩ = some (.int .u8 2) ∧ w'.cell? ⟨b, o + 9, none⟩ = some (.int .u8 1) ∧ w'.cell? ⟨b, o + 17, none⟩ = some (.int .u8 1) ∧ w'.cell? ⟨b, o + 51, none⟩ = some (.int .u8 0)) ∧ Below w.heap.size w w'
theorem k6_bytes (w : World) : Calls Try.prog 9 #[.agg #[.int .i64 1, .int .i64 2, .int .u64 1, .int .u64 1, .int .u64 0, .int .u64 0, .int .u64 0, .int .u64 0, .slice none 0 0]] w (K6A w) := by
  refine (bytesF_yes k6f ⟨by decide, by decide, by decide, by decide, by decide, by decide, by decide, by decide⟩ (.slice none 0 0) [] w (Bytes.nil _ _ _) (by decide +kernel)).mono ?_
  rintro e w' ⟨v, rfl, ho, hb⟩
  obtain ⟨b, o, c, rfl, hbl, hc⟩ := long_form ho.bytes (by rw [frL_length]; omega)
  have hl : (frL k6f []).length = 54 := by rw [frL_length]; rfl
  have hx := ho.bytes
  rcases hx with ⟨h0, _⟩ | ⟨b', o', c', e, _, _, hx⟩
  · rw [h0] at hl; cases hl
  · simp only [Value.slice.injEq, Option.some.injEq, Addr.mk.injEq] at e
    obtain ⟨⟨rfl, rfl, _⟩, _, rfl⟩ := e
    rw [hl] at hc ⊢
    exact ⟨b, o, c, rfl, hbl, hc, ⟨hx 0 1 (by decide +kernel), hx 1 2 (by decide +kernel), hx 9 1 (by decide +kernel), hx 17 1 (by decide +kernel), hx 51 0 (by decide +kernel)⟩, hb⟩
theorem k6_of (v : Value) (w : World) (h : Bytes w v (List.replicate 54 0)) : Calls Try.prog 14 #[v] w fun e w' => (∃ a c, e = .returned (.tuple #[.agg #[.int .i64 0, .int .i64 0, .int .u64 0, .int .u64 0, .int .u64 0, .int .u64 0, .int .u64 0, .int .u64 0, .slice a 0 c], .int .i64 4])) ∧ Below w.heap.size w w' := by
  refine (of6W_any v _ w h (by simp)).mono ?_
  rintro e w' ⟨u, rfl, ho, hb⟩
  obtain ⟨e1, e2, e3⟩ := o_no (l := List.replicate 54 0) (by decide +kernel)
  rw [e2] at ho
  obtain ⟨a, c, rfl⟩ := ho.form
  exact ⟨⟨a, c, by rw [e1, e3]; rfl⟩, hb⟩
theorem k6_may (s : Nat) (r : Bool) (hr : mayF ⟨2, 2, 1, 1, 1, 1, s, 0⟩ [10, 0, 0, 0, 8, 5] = r) (v : Value) (w : World) (h : Bytes w v [10, 0, 0, 0, 8, 5]) : Calls Try.prog 10 #[.agg #[.int .i64 2, .int .i64 2, .int .u64 1, .int .u64 1, .int .u64 1, .int .u64 1, .int .u64 (s : Nat), .int .u64 0, v]] w fun e w' => e = .returned (.bool r) ∧ Below w.heap.size w w' :=
  (mayW6_any ⟨2, 2, 1, 1, 1, 1, s, 0⟩ v _ w h (by decide)).mono fun _ _ ⟨he, hb⟩ => ⟨he.trans (ret_b hr), hb⟩

set_option maxHeartbeats 8000000 in
set_option maxRecDepth 100000 in
theorem known6_any (w : World) : Calls Try.prog 8 #[] w fun e w' => e = .returned (.bool true) ∧ Below w.heap.size w w' := by
  go_enter Try.func8, Try.ntmps8
  go_wp2_with fail
  refine (k6_bytes _).mono ?_
  rintro e w1 ⟨b, o, c, rfl, hbl, hc54, hcs, hb1⟩
  obtain ⟨w2, hmk, hoz, hbz⟩ : ∃ w2, (Instr.makeSlice 26 (.int .i64 54) (.int .i64 54)).run Try.prog w1 = .ok (.slice (some ⟨w1.heap.size, 0, none⟩) 54 54) w2 ∧ OwnB w2 w1.heap.size (.slice (some ⟨w1.heap.size, 0, none⟩) 54 54) (List.replicate 54 0) ∧ Below w1.heap.size w1 w2 := make_zeros 54 w1 (by omega)
  have HCS := Lib.hid hcs
  have HBL := Lib.hid hbl
  have HB := Lib.hid (below_of hb1 hbz)
  have HBZ := Lib.hid hbz
  have HOZ := Lib.hid hoz
  have kc : 54 ≤ c := hc54
  clear hcs hb1 hbz hoz hc54 hbl
  go_wp2_with fail
  refine (k6_of _ _ HOZ.out.bytes).mono ?_
  rintro e w3 ⟨⟨ua, uc, rfl⟩, hb3⟩
  have HB := Lib.hid (below_of HB.out hb3)
  have HB13 := Lib.hid (below_of HBZ.out hb3)
  have HB3 : Hid (w.heap.size ≤ w3.heap.size) := HB.out.size
  clear hb3 hmk
  go_wp2_with fail
  obtain ⟨wz, hwz⟩ : ∃ wz, wz = (((w3.alloc (.cells #[.int .i64 0, .int .i64 0, .int .u64 0, .int .u64 0, .int .u64 0, .int .u64 0, .int .u64 0, .int .u64 0, .slice ua 0 uc] 28)).alloc (.cells #[.int .u8 10, .int .u8 0, .int .u8 0, .int .u8 0, .int .u8 8, .int .u8 5] 5)).alloc (.cells #[.int .i64 2, .int .i64 2, .int .u64 1, .int .u64 1, .int .u64 1, .int .u64 1, .int .u64 0, .int .u64 0, .slice (some ⟨w3.heap.size + 1, 0, none⟩) 6 6] 28)) := ⟨_, rfl⟩
  have hb3z : Below w3.heap.size w3 wz := by rw [hwz]; go_grown
  have HC := Lib.hid (show BlkAt 28 (w3.heap.size + 1 + 1) [.int .i64 2, .int .i64 2, .int .u64 1, .int .u64 1, .int .u64 1, .int .u64 1, .int .u64 0, .int .u64 0, .slice (some ⟨w3.heap.size + 1, 0, none⟩) 6 6] wz by
    have h9 := BlkAt.new (t := 28) ((w3.alloc (.cells #[.int .i64 0, .int .i64 0, .int .u64 0, .int .u64 0, .int .u64 0, .int .u64 0, .int .u64 0, .int .u64 0, .slice ua 0 uc] 28)).alloc (.cells #[.int .u8 10, .int .u8 0, .int .u8 0, .int .u8 0, .int .u8 8, .int .u8 5] 5)) [.int .i64 2, .int .i64 2, .int .u64 1, .int .u64 1, .int .u64 1, .int .u64 1, .int .u64 0, .int .u64 0, .slice (some ⟨w3.heap.size + 1, 0, none⟩) 6 6]
    rw [hwz]; simpa using h9)
  have HY := Lib.hid (show Bytes wz (.slice (some ⟨w3.heap.size + 1, 0, none⟩) 6 6) [10, 0, 0, 0, 8, 5] by
    have h9 : Bytes ((w3.alloc (.cells #[.int .i64 0, .int .i64 0, .int .u64 0, .int .u64 0, .int .u64 0, .int .u64 0, .int .u64 0, .int .u64 0, .slice ua 0 uc] 28)).alloc (.cells #[.int .u8 10, .int .u8 0, .int .u8 0, .int .u8 0, .int .u8 8, .int .u8 5] 5)) (.slice (some ⟨(w3.alloc (.cells #[.int .i64 0, .int .i64 0, .int .u64 0, .int .u64 0, .int .u64 0, .int .u64 0, .int .u64 0, .int .u64 0, .slice ua 0 uc] 28)).heap.size, 0, none⟩) 6 6) [10, 0, 0, 0, 8, 5] := bytes_lit _ _
    have h8 := h9.later ((Below.refl _ _).alloc (Nat.le_refl _) (.cells #[.int .i64 2, .int .i64 2, .int .u64 1, .int .u64 1, .int .u64 1, .int .u64 1, .int .u64 0, .int .u64 0, .slice (some ⟨w3.heap.size + 1, 0, none⟩) 6 6] 28))
    rw [World.size_alloc] at h8
    rw [hwz]; exact h8)
  have HB := Lib.hid (below_of HB.out hb3z)
  have HB13 := Lib.hid (below_of HB13.out hb3z)
  rw [← hwz]
  clear hwz hb3z
  obtain ⟨y0, y1, y9, y17, y51⟩ := HCS.out
  have x0 := cell_later' HB13.out HBL.out y0
  have x1 := cell_later' HB13.out HBL.out y1
  have x9 := cell_later' HB13.out HBL.out y9
  have x17 := cell_later' HB13.out HBL.out y17
  have x51 := cell_later' HB13.out HBL.out y51
  clear y0 y1 y9 y17 y51
  obtain ⟨c0, c1, c2, c3, c4, c5, c6, c7, c8⟩ := blk9 HC.out
  go_wp2_with (go_at_call 13; refine (num6_any _ _).mono ?_; rintro e wn ⟨rfl, rfl⟩)
  refine (k6_may 0 false (by decide +kernel) _ _ HY.out).mono ?_
  rintro e w4 ⟨rfl, hb⟩
  have HC := Lib.hid (HC.out.later hb)
  have HY := Lib.hid (Bytes.later HY.out hb)
  have HB := Lib.hid (below_of HB.out hb)
  clear hb c0 c1 c2 c3 c4 c5 c6 c7 c8 x0 x1 x9 x17 x51
  obtain ⟨c0, c1, c2, c3, c4, c5, c6, c7, c8⟩ := blk9 HC.out
  have hfz : w4.frozen? ⟨w3.heap.size + 1 + 1, 6, none⟩ = false := BlkAt.frozen HC.out 6
  go_wp2_with fail
  have hy5 : Bytes (w4.setCell ⟨w3.heap.size + 1 + 1, 6, none⟩ (.int .u64 1)) (.slice (some ⟨w3.heap.size + 1, 0, none⟩) 6 6) [10, 0, 0, 0, 8, 5] := by
    rcases HY.out with ⟨h, _⟩ | ⟨b', o', c', e, hb, hc, hx⟩
    · cases h
    · simp only [Value.slice.injEq, Option.some.injEq, Addr.mk.injEq] at e
      obtain ⟨⟨rfl, rfl, _⟩, _, rfl⟩ := e
      exact .inr ⟨_, _, _, rfl, by simpa using hb, hc, fun j x hj => (cell_block (Below.heap_setCell _ _ _ _ (by simp))).trans (hx j x hj)⟩
  have hb5 : Below w.heap.size w (w4.setCell ⟨w3.heap.size + 1 + 1, 6, none⟩ (.int .u64 1)) := HB.out.setCell (by simp; have := HB3.out; omega) _
  have HB := Lib.hid hb5
  refine (k6_may 1 true (by decide +kernel) _ _ hy5).mono ?_
  rintro e w5 ⟨rfl, hb⟩
  have HB := Lib.hid (below_of HB.out hb)
  clear hb hb5 hy5 c0 c1 c2 c3 c4 c5 c6 c7 c8 hfz
  go_wp2_with fail
  refine (head_any _).mono ?_
  rintro e wn ⟨rfl, rfl⟩
  go_wp2_with fail
  go_ret
  exact ⟨rfl, HB.out⟩
end Go.Proofs.Ytcahfapffhcceaa

namespace Go.Proofs.Ytcahfapffhcceaa
open Go.RowKit
attribute [local go_sem ↓] Go.wp_at_zero Go.wp_at_succ

set_option maxHeartbeats 2000000 in
set_option maxRecDepth 100000 in
theorem joinRO_some (b : Option Addr) (c : Nat) (L : List (List UInt8)) (w : World) (hv : Lists w (.slice b L.length c) L) (hL : L.length ≤ 10000) (hS : L.flatten.length ≤ 10000) :
    Calls Try.prog 35 #[.slice b L.length c] w fun e w' => ∃ v, e = .returned v ∧ OwnB w' w.heap.size v L.flatten ∧ Below w.heap.size w w' := by
  have hi5 : (Try.prog.info? 5).map (fun i => (i.zero, i.size, i.bytes)) = some (some (.int .u8 0), 1, 1) := by kernel_rfl
  obtain ⟨i0, hi, hx⟩ := Option.map_eq_some_iff.1 hi5
  simp only [Prod.mk.injEq] at hx
  obtain ⟨hz0, hz1, hz2⟩ := hx
  have HV := Lib.hid hv
  clear hi5 hv
  go_enter Try.func35, Try.ntmps35
  go_wp2_with fail
  go_loopw [3, 4] (fun v i wr => ∃ k : Nat, k ≤ L.length ∧ i = .int .i64 k ∧ Hid (wr.ownsRow w.heap.size 5 1 v (L.take k).flatten.length (bv (L.take k).flatten)) ∧ Hid (Below w.heap.size w wr)) (fun _ i _ => L.length - (intOf i).toNat)
  case atStart => exact ⟨0, Nat.zero_le _, rfl, World.ownsRow_nil w _ _ _, Below.refl _ _⟩
  case round =>
    obtain ⟨k, hk, rfl, HW, HB⟩ := hrel
    rcases Nat.lt_or_ge k L.length with hlt | hge
    · have g1 : (k : Int) < L.length := by omega
      obtain ⟨bl, bo, rfl, hbl, x, d, he, hbe⟩ := HV.out.at hlt
      have he' := cell_later' HB.out hbl he
      have b1 : bl < wr.heap.size := Nat.lt_of_lt_of_le hbl HB.out.size
      have hbw := hbe.later HB.out
      have hsz := lsum_take L (k + 1) (by omega)
      have hsz2 := lsum_mono L (i := k + 1) (k := L.length) (by omega)
      rw [lsum_all, hsz] at hsz2
      have hfl : (L.take (k + 1)).flatten = (L.take k).flatten ++ L[k] := by rw [List.take_succ_eq_append_getElem hlt, List.flatten_append, List.flatten_singleton]
      have hfn : (L.take (k + 1)).flatten.length = (L.take k).flatten.length + L[k].length := by rw [hfl, List.length_append]
      have Hfl := Lib.hid hfl
      obtain ⟨F, hF⟩ : ∃ F, F = (L.take k).flatten := ⟨_, rfl⟩
      rw [← hF] at HW hfn Hfl
      obtain ⟨l, hl⟩ : ∃ l, l = L[k] := ⟨_, rfl⟩
      rw [← hl] at he he' hbe hbw hfn Hfl
      have hb2 : F.length + l.length ≤ 10000 := by omega
      have Hbw := Lib.hid hbw
      have Hfn := Lib.hid hfn
      clear hl hF hfn hfl hsz hsz2 hbe he hbw
      cases x with
      | none =>
        obtain ⟨e1, e2, e3⟩ := Hbw.out.noaddr
        subst e2 e3
        have Hl : Hid (F = (L.take (k + 1)).flatten) := by show _ = _; rw [Hfl.out]; simp
        clear e1
        go_wp2_with (at_builtin; refine wpList_append_own_none rfl _ _ 26 rfl w.heap.size 5 i0 1 Try.underlying26 hi _ _ _ rfl HW.out rfl ?_)
        go_wp2_with fail
        go_roundw
        case rel => exact ⟨k + 1, by omega, by go_num, by rw [← Hl.out]; exact HW, HB⟩
        case measure => simp [intOf]; omega
      | some x =>
        go_wp2_with (at_builtin; refine wpList_append_own _ rfl _ _ 26 rfl w.heap.size 5 i0 (.int .u8 0) 1 1 Try.underlying26 hi hz0 hz1 hz2 rfl (by decide) _ _ _ rfl HW.out x l.length d (bv l) rfl (by simp [bv]) (Hbw.out.news) (bv_one l) (by unfold maxLen; omega) (by omega) HB.out.size ?_)
        intro v' w1 hown' hgrow _
        have hown2 : Hid (w1.ownsRow w.heap.size 5 1 v' (L.take (k + 1)).flatten.length (bv (L.take (k + 1)).flatten)) := by
          show World.ownsRow _ _ _ _ _ _ _
          rw [Hfn.out, Hfl.out, bv_append]; exact hown'
        have hB2 : Hid (Below w.heap.size w w1) := HB.out.grown hgrow HB.out.size (fun j hj => own_base HW.out hj)
        clear hown' hgrow
        go_wp2_with fail
        go_roundw
        case rel => exact ⟨k + 1, by omega, by go_num, hown2, hB2⟩
        case measure => simp [intOf]; omega
    · have e : k = L.length := by omega
      subst e
      rw [List.take_length] at HW
      go_wp2_with fail
      go_ret
      exact ⟨_, rfl, HW.out, HB.out⟩
theorem joinRO_any (v : Value) (L : List (List UInt8)) (w : World) (hv : Lists w v L) (hL : L.length ≤ 10000) (hS : L.flatten.length ≤ 10000) :
    Calls Try.prog 35 #[v] w fun e w' => ∃ v, e = .returned v ∧ OwnB w' w.heap.size v L.flatten ∧ Below w.heap.size w w' := by
  obtain ⟨b, c, rfl⟩ := hv.form
  exact joinRO_some b c L w hv hL hS
end Go.Proofs.Ytcahfapffhcceaa

namespace Go.Proofs.Ytcahfapffhcceaa
open Go.RowKit

def Row (w : World) (v : Value) (xs : List Value) : Prop :=
  (xs = [] ∧ ∃ a c, v = .slice a 0 c ∧ (a = none → c = 0)) ∨
  ∃ b o c, v = .slice (some ⟨b, o, none⟩) xs.length c ∧ b < w.heap.size ∧ xs.length ≤ c ∧ ∀ j x, xs[j]? = some x → w.cell? ⟨b, o + j, none⟩ = some x
theorem Row.later {w w' : World} {v : Value} {l : List Value} (h : Row w v l) (hb : Below w.heap.size w w') : Row w' v l := by
  rcases h with h | ⟨b, o, c, h1, h2, hp, h3⟩
  · exact .inl h
  · exact .inr ⟨b, o, c, h1, Nat.lt_of_lt_of_le h2 hb.size, hp, fun j x hx => cell_later hb (h3 j x hx)⟩
theorem Row.form {w : World} {v : Value} {l : List Value} (h : Row w v l) : ∃ a c, v = .slice a l.length c := by
  rcases h with ⟨rfl, a, c, rfl, _⟩ | ⟨b, o, c, rfl, _, _⟩
  · exact ⟨a, c, rfl⟩
  · exact ⟨_, c, rfl⟩
theorem Row.at {w : World} {a : Option Addr} {n c : Nat} {l : List Value} (h : Row w (.slice a n c) l) {i : Nat} {x : Value} (hi : l[i]? = some x) :
    ∃ b o, a = some ⟨b, o, none⟩ ∧ b < w.heap.size ∧ w.cell? ⟨b, o + i, none⟩ = some x := by
  rcases h with ⟨rfl, _⟩ | ⟨b, o, c', h1, h2, _, h3⟩
  · simp at hi
  · simp only [Value.slice.injEq] at h1
    exact ⟨b, o, h1.1, h2, h3 i _ hi⟩
theorem Row.of_own {w : World} {base : Nat} {e : TypeId} {v : Value} {n : Nat} {l : List Value} (h : w.ownsRow base e 1 v n l) : Row w v l := by
  obtain ⟨hl, h0 | ⟨g, cap, cur, rfl, hb, hg, hn, hm, hc, ht⟩⟩ := h
  · obtain ⟨rfl, rfl⟩ := h0
    simp at hl
    subst hl
    exact .inl ⟨rfl, _, _, rfl, fun _ => rfl⟩
  · have hln : l.length = n := by simpa using hl
    subst hln
    refine .inr ⟨g, 0, cap, rfl, ?_, hn, fun j x hx => ?_⟩
    · rcases Nat.lt_or_ge g w.heap.size with h1 | h1
      · exact h1
      · rw [Array.getElem?_eq_none h1] at hg; cases hg
    · rw [Nat.zero_add, cell_of_row w g j cur e (0, 0) hg]
      have hj : j < l.length := (List.getElem?_eq_some_iff.1 hx).1
      have : l[j]? = some x := hx
      rw [← ht, List.getElem?_take, if_pos (by omega)] at this
      simpa using this
theorem Row.of_bytes {w : World} {v : Value} {l : List UInt8} (h : Bytes w v l) : Row w v (bv l) := by
  rcases h with ⟨rfl, a, c, rfl, h1⟩ | ⟨b, o, c, rfl, h2, hp, h3⟩
  · exact .inl ⟨rfl, a, c, rfl, h1⟩
  · refine .inr ⟨b, o, c, by simp [bv], h2, by simpa [bv] using hp, fun j x hx => ?_⟩
    simp only [bv, List.getElem?_map, Option.map_eq_some_iff] at hx
    obtain ⟨y, hy, rfl⟩ := hx
    exact h3 j y hy
theorem ownsRow_later {w w' : World} {B : Nat} {e : TypeId} {s n : Nat} {v : Value} {xs : List Value} (h : w.ownsRow B e s v n xs) (hb : Below w.heap.size w w') : w'.ownsRow B e s v n xs := by
  obtain ⟨hl, h0 | ⟨g, cap, cur, rfl, hb1, hg, hn, hm, hc, ht⟩⟩ := h
  · exact ⟨hl, .inl h0⟩
  · refine ⟨hl, .inr ⟨g, cap, cur, rfl, hb1, ?_, hn, hm, hc, ht⟩⟩
    rw [hb.block g ?_]
    · exact hg
    · rcases Nat.lt_or_ge g w.heap.size with h1 | h1
      · exact h1
      · rw [Array.getElem?_eq_none h1] at hg; cases hg
def iv (l : List Int) : List Value := l.map fun z => .int .i64 z
theorem iv_at {zs : List Int} {k : Nat} (h : k < zs.length) : (iv zs)[k]? = some (.int .i64 zs[k]) := by simp [iv, h]
end Go.Proofs.Ytcahfapffhcceaa

namespace Go.Proofs.Ytcahfapffhcceaa
open Go.RowKit
attribute [local go_sem ↓] Go.wp_at_zero Go.wp_at_succ

/-- The words as values. -/
def wv (l : List UInt8) (k : Nat) : List Value := (List.range k).map fun i => .int .u16 (Sm.word l i : Nat)
theorem wv_succ (l : List UInt8) (k : Nat) : wv l (k + 1) = wv l k ++ [.int .u16 (Sm.word l k : Nat)] := by
  unfold wv; rw [List.range_succ]; simp
theorem wv_length (l : List UInt8) (k : Nat) : (wv l k).length = k := by simp [wv]

set_option maxHeartbeats 2000000 in
set_option maxRecDepth 100000 in
theorem wordsR_some (b : Option Addr) (c : Nat) (l : List UInt8) (w : World) (hv : Bytes w (.slice b l.length c) l) (hl : l.length ≤ 10000) :
    Calls Try.prog 58 #[.slice b l.length c] w fun e w' => ∃ v, e = .returned v ∧ w'.ownsRow w.heap.size 53 1 v ((l.length + 1) / 2) (wv l ((l.length + 1) / 2)) ∧ Below w.heap.size w w' := by
  have hi5 : (Try.prog.info? 53).map (fun i => (i.zero, i.size, i.bytes)) = some (some (.int .u16 0), 1, 2) := by kernel_rfl
  obtain ⟨i0, hi, hx⟩ := Option.map_eq_some_iff.1 hi5
  simp only [Prod.mk.injEq] at hx
  obtain ⟨hz0, hz1, hz2⟩ := hx
  have HV := Lib.hid hv
  clear hi5 hv
  go_enter Try.func58, Try.ntmps58
  go_wp2_with fail
  go_loopw [3, 4] (fun v i wr => ∃ k : Nat, k ≤ (l.length + 1) / 2 ∧ i = .int .i64 ((2 * k : Nat) : Int) ∧ Hid (wr.ownsRow w.heap.size 53 1 v k (wv l k)) ∧ Hid (Below w.heap.size w wr)) (fun _ i _ => l.length + 1 - (intOf i).toNat)
  case atStart => exact ⟨0, Nat.zero_le _, rfl, World.ownsRow_nil w _ _ _, Below.refl _ _⟩
  case round =>
    obtain ⟨k, hk, rfl, HW, HB⟩ := hrel
    by_cases hlt : 2 * k < l.length
    · obtain ⟨bx, ox, rfl, hbx, hex⟩ := HV.out.at hlt
      have hcell := cell_later' HB.out hbx hex
      obtain ⟨x, hx⟩ : ∃ x : Nat, x = l[2 * k].toNat := ⟨_, rfl⟩
      have hxn : x < 256 := by rw [hx]; exact l[2 * k].toNat_lt
      rw [← hx] at hcell
      have Hx := Lib.hid hx
      have g1 : (2 * (k : Int)) < l.length := by omega
      have hcell2 : wr.cell? ⟨bx, ox + 2 * k, none⟩ = some (.int .u8 (x : Int)) := hcell
      have b1 : bx < wr.heap.size := Nat.lt_of_lt_of_le hbx HB.out.size
      clear hx hex hcell
      by_cases hlt2 : 2 * k + 1 < l.length
      · obtain ⟨bx', ox', e1, _, hex2⟩ := HV.out.at hlt2
        simp only [Option.some.injEq, Addr.mk.injEq, and_true] at e1
        obtain ⟨rfl, rfl⟩ := e1
        have hcell3 := cell_later' HB.out hbx hex2
        obtain ⟨y, hy⟩ : ∃ y : Nat, y = l[2 * k + 1].toNat := ⟨_, rfl⟩
        have hyn : y < 256 := by rw [hy]; exact l[2 * k + 1].toNat_lt
        rw [← hy] at hcell3
        have Hy := Lib.hid hy
        have g2 : (2 * (k : Int)) + 1 < l.length := by omega
        clear hy hex2
        go_wp2_with (at_builtin; refine wpList_append_own _ rfl _ _ 90 rfl w.heap.size 53 i0 (.int .u16 0) 1 2 Try.underlying90 hi hz0 hz1 hz2 rfl (by decide) _ _ _ rfl (HW.out.alloc _) ⟨wr.heap.size, 0, none⟩ 1 1 [.int .u16 (256 * (x : Int) + (y : Int))] rfl rfl (news_one wr _ _) (one_int _ _) (by unfold maxLen; omega) (by omega) (by simp; exact Nat.le_succ_of_le HB.out.size) ?_)
        intro v' w1 hown' hgrow _
        have hwd : Sm.word l k = 256 * x + y := by
          rw [Hx.out, Hy.out]
          unfold Sm.word Sm.at0
          rw [List.getElem?_eq_getElem hlt, List.getElem?_eq_getElem hlt2]; rfl
        have hown2 : Hid (w1.ownsRow w.heap.size 53 1 v' (k + 1) (wv l (k + 1))) := by
          show World.ownsRow _ _ _ _ _ _ _
          rw [wv_succ, hwd]; exact hown'
        have hB2 : Hid (Below w.heap.size w w1) := (HB.out.alloc HB.out.size _).grown hgrow (by simp; exact Nat.le_succ_of_le HB.out.size) (fun j hj => own_base HW.out hj)
        clear hown' hgrow hwd
        go_wp2_with fail
        go_roundw
        case rel => exact ⟨k + 1, by omega, by go_num, hown2, hB2⟩
        case measure => simp [intOf]; omega
      · have g2 : (l.length : Int) ≤ 2 * (k : Int) + 1 := by omega
        go_wp2_with (at_builtin; refine wpList_append_own _ rfl _ _ 90 rfl w.heap.size 53 i0 (.int .u16 0) 1 2 Try.underlying90 hi hz0 hz1 hz2 rfl (by decide) _ _ _ rfl (HW.out.alloc _) ⟨wr.heap.size, 0, none⟩ 1 1 [.int .u16 (256 * (x : Int))] rfl rfl (news_one wr _ _) (one_int _ _) (by unfold maxLen; omega) (by omega) (by simp; exact Nat.le_succ_of_le HB.out.size) ?_)
        intro v' w1 hown' hgrow _
        have hwd : Sm.word l k = 256 * x := by
          rw [Hx.out]
          unfold Sm.word Sm.at0
          rw [List.getElem?_eq_getElem hlt, List.getElem?_eq_none (by omega)]; rfl
        have hown2 : Hid (w1.ownsRow w.heap.size 53 1 v' (k + 1) (wv l (k + 1))) := by
          show World.ownsRow _ _ _ _ _ _ _
          rw [wv_succ, hwd]; exact hown'
        have hB2 : Hid (Below w.heap.size w w1) := (HB.out.alloc HB.out.size _).grown hgrow (by simp; exact Nat.le_succ_of_le HB.out.size) (fun j hj => own_base HW.out hj)
        clear hown' hgrow hwd
        go_wp2_with fail
        go_roundw
        case rel => exact ⟨k + 1, by omega, by go_num, hown2, hB2⟩
        case measure => simp [intOf]; omega
    · have g1 : (l.length : Int) ≤ 2 * (k : Int) := by omega
      have e : k = (l.length + 1) / 2 := by omega
      have E := Lib.hid e
      clear e
      go_wp2_with fail
      go_ret
      exact ⟨_, rfl, by rw [← E.out]; exact HW.out, HB.out⟩

theorem totalR_some (b : Option Addr) (c : Nat) (l : List UInt8) (w : World) (hv : Bytes w (.slice b l.length c) l) (hl : l.length ≤ 10000) :
    Calls Try.prog 51 #[.slice b l.length c] w fun e w' => e = .returned (.int .u16 (Sm.tot l : Nat)) ∧ Below w.heap.size w w' := by
  have HV := Lib.hid hv
  clear hv
  go_enter Try.func51, Try.ntmps51
  go_wp2_with fail
  refine (wordsR_some b c l w HV.out hl).mono ?_
  rintro e w1 ⟨v, rfl, hown, hb⟩
  have hrow := Row.of_own hown
  obtain ⟨a1, c1, rfl⟩ := hrow.form
  rw [wv_length] at hrow ⊢
  have HR := Lib.hid hrow
  have HB := Lib.hid hb
  clear hown hrow hb
  obtain ⟨n, hn⟩ : ∃ n, n = (l.length + 1) / 2 := ⟨_, rfl⟩
  rw [← hn] at HR ⊢
  have hn2 : n ≤ 10000 := by omega
  have Hn := Lib.hid hn
  clear hn
  go_wp2_with fail
  go_loop [4, 5] (fun t i => ∃ k : Nat, k ≤ n ∧ i = .int .i64 k ∧ t = .int .u16 (Sm.canon (Sm.upto l k) : Nat)) (fun _ i => n - (intOf i).toNat)
  case atStart => exact ⟨0, Nat.zero_le _, rfl, rfl⟩
  case round =>
    obtain ⟨k, hk, rfl, rfl⟩ := hrel
    rcases Nat.lt_or_ge k n with hlt | hge
    · obtain ⟨bl, bo, rfl, hbl, hc⟩ := HR.out.at (i := k) (x := .int .u16 (Sm.word l k : Nat)) (by simp [wv, hlt])
      have g1 : (k : Int) < n := by omega
      have d1 := Sm.canon_lt (Sm.upto l k)
      have d2 := Sm.word_lt l k
      go_wp2_with fail
      refine (addR_int _ _ _ (by omega) (by omega) (by omega) (by omega) (Sm.canon (Sm.upto l (k + 1)) : Nat) (by rw [Int.toNat_natCast, Int.toNat_natCast, Sm.step])).mono ?_
      rintro e w3 ⟨rfl, rfl⟩
      go_wp2_with fail
      go_round
      case rel => exact ⟨k + 1, by omega, by go_num, rfl⟩
      case measure => simp [intOf]; omega
    · have e : k = n := by omega
      subst e
      go_wp2_with fail
      go_ret
      exact ⟨ret_i (by rw [Hn.out]; rfl), HB.out⟩
theorem totalR_any (v : Value) (l : List UInt8) (w : World) (hv : Bytes w v l) (hl : l.length ≤ 10000) :
    Calls Try.prog 51 #[v] w fun e w' => e = .returned (.int .u16 (Sm.tot l : Nat)) ∧ Below w.heap.size w w' := by
  obtain ⟨b, c, rfl⟩ := hv.form
  exact totalR_some b c l w hv hl
theorem checkR_any (v : Value) (l : List UInt8) (w : World) (hv : Bytes w v l) (hl : l.length ≤ 10000) :
    Calls Try.prog 37 #[v] w fun e w' => e = .returned (.int .u16 (65535 - Sm.tot l : Nat)) ∧ Below w.heap.size w w' := by
  have hb := Sm.tot_lt l
  have HV := Lib.hid hv
  clear hv
  go_enter Try.func37, Try.ntmps37
  go_wp2_with fail
  refine (totalR_any v l w HV.out hl).mono ?_
  rintro e w1 ⟨rfl, hb1⟩
  go_wp2_with fail
  go_ret
  exact ⟨ret_i (by omega), hb1⟩
end Go.Proofs.Ytcahfapffhcceaa

namespace Go.Proofs.Ytcahfapffhcceaa
open Go.RowKit
attribute [local go_sem ↓] Go.wp_at_zero Go.wp_at_succ

set_option maxHeartbeats 2000000 in
set_option maxRecDepth 100000 in
theorem wordsR_someB (b : Option Addr) (c : Nat) (l : List UInt8) (w : World) (hv : Bytes w (.slice b l.length c) l) (hl : l.length ≤ 100000) :
    Calls Try.prog 58 #[.slice b l.length c] w fun e w' => ∃ v, e = .returned v ∧ w'.ownsRow w.heap.size 53 1 v ((l.length + 1) / 2) (wv l ((l.length + 1) / 2)) ∧ Below w.heap.size w w' := by
  have hi5 : (Try.prog.info? 53).map (fun i => (i.zero, i.size, i.bytes)) = some (some (.int .u16 0), 1, 2) := by kernel_rfl
  obtain ⟨i0, hi, hx⟩ := Option.map_eq_some_iff.1 hi5
  simp only [Prod.mk.injEq] at hx
  obtain ⟨hz0, hz1, hz2⟩ := hx
  have HV := Lib.hid hv
  clear hi5 hv
  go_enter Try.func58, Try.ntmps58
  go_wp2_with fail
  go_loopw [3, 4] (fun v i wr => ∃ k : Nat, k ≤ (l.length + 1) / 2 ∧ i = .int .i64 ((2 * k : Nat) : Int) ∧ Hid (wr.ownsRow w.heap.size 53 1 v k (wv l k)) ∧ Hid (Below w.heap.size w wr)) (fun _ i _ => l.length + 1 - (intOf i).toNat)
  case atStart => exact ⟨0, Nat.zero_le _, rfl, World.ownsRow_nil w _ _ _, Below.refl _ _⟩
  case round =>
    obtain ⟨k, hk, rfl, HW, HB⟩ := hrel
    by_cases hlt : 2 * k < l.length
    · obtain ⟨bx, ox, rfl, hbx, hex⟩ := HV.out.at hlt
      have hcell := cell_later' HB.out hbx hex
      obtain ⟨x, hx⟩ : ∃ x : Nat, x = l[2 * k].toNat := ⟨_, rfl⟩
      have hxn : x < 256 := by rw [hx]; exact l[2 * k].toNat_lt
      rw [← hx] at hcell
      have Hx := Lib.hid hx
      have g1 : (2 * (k : Int)) < l.length := by omega
      have hcell2 : wr.cell? ⟨bx, ox + 2 * k, none⟩ = some (.int .u8 (x : Int)) := hcell
      have b1 : bx < wr.heap.size := Nat.lt_of_lt_of_le hbx HB.out.size
      clear hx hex hcell
      by_cases hlt2 : 2 * k + 1 < l.length
      · obtain ⟨bx', ox', e1, _, hex2⟩ := HV.out.at hlt2
        simp only [Option.some.injEq, Addr.mk.injEq, and_true] at e1
        obtain ⟨rfl, rfl⟩ := e1
        have hcell3 := cell_later' HB.out hbx hex2
        obtain ⟨y, hy⟩ : ∃ y : Nat, y = l[2 * k + 1].toNat := ⟨_, rfl⟩
        have hyn : y < 256 := by rw [hy]; exact l[2 * k + 1].toNat_lt
        rw [← hy] at hcell3
        have Hy := Lib.hid hy
        have g2 : (2 * (k : Int)) + 1 < l.length := by omega
        clear hy hex2
        go_wp2_with (at_builtin; refine wpList_append_own _ rfl _ _ 90 rfl w.heap.size 53 i0 (.int .u16 0) 1 2 Try.underlying90 hi hz0 hz1 hz2 rfl (by decide) _ _ _ rfl (HW.out.alloc _) ⟨wr.heap.size, 0, none⟩ 1 1 [.int .u16 (256 * (x : Int) + (y : Int))] rfl rfl (news_one wr _ _) (one_int _ _) (by unfold maxLen; omega) (by omega) (by simp; exact Nat.le_succ_of_le HB.out.size) ?_)
        intro v' w1 hown' hgrow _
        have hwd : Sm.word l k = 256 * x + y := by
          rw [Hx.out, Hy.out]
          unfold Sm.word Sm.at0
          rw [List.getElem?_eq_getElem hlt, List.getElem?_eq_getElem hlt2]; rfl
        have hown2 : Hid (w1.ownsRow w.heap.size 53 1 v' (k + 1) (wv l (k + 1))) := by
          show World.ownsRow _ _ _ _ _ _ _
          rw [wv_succ, hwd]; exact hown'
        have hB2 : Hid (Below w.heap.size w w1) := (HB.out.alloc HB.out.size _).grown hgrow (by simp; exact Nat.le_succ_of_le HB.out.size) (fun j hj => own_base HW.out hj)
        clear hown' hgrow hwd
        go_wp2_with fail
        go_roundw
        case rel => exact ⟨k + 1, by omega, by go_num, hown2, hB2⟩
        case measure => simp [intOf]; omega
      · have g2 : (l.length : Int) ≤ 2 * (k : Int) + 1 := by omega
        go_wp2_with (at_builtin; refine wpList_append_own _ rfl _ _ 90 rfl w.heap.size 53 i0 (.int .u16 0) 1 2 Try.underlying90 hi hz0 hz1 hz2 rfl (by decide) _ _ _ rfl (HW.out.alloc _) ⟨wr.heap.size, 0, none⟩ 1 1 [.int .u16 (256 * (x : Int))] rfl rfl (news_one wr _ _) (one_int _ _) (by unfold maxLen; omega) (by omega) (by simp; exact Nat.le_succ_of_le HB.out.size) ?_)
        intro v' w1 hown' hgrow _
        have hwd : Sm.word l k = 256 * x := by
          rw [Hx.out]
          unfold Sm.word Sm.at0
          rw [List.getElem?_eq_getElem hlt, List.getElem?_eq_none (by omega)]; rfl
        have hown2 : Hid (w1.ownsRow w.heap.size 53 1 v' (k + 1) (wv l (k + 1))) := by
          show World.ownsRow _ _ _ _ _ _ _
          rw [wv_succ, hwd]; exact hown'
        have hB2 : Hid (Below w.heap.size w w1) := (HB.out.alloc HB.out.size _).grown hgrow (by simp; exact Nat.le_succ_of_le HB.out.size) (fun j hj => own_base HW.out hj)
        clear hown' hgrow hwd
        go_wp2_with fail
        go_roundw
        case rel => exact ⟨k + 1, by omega, by go_num, hown2, hB2⟩
        case measure => simp [intOf]; omega
    · have g1 : (l.length : Int) ≤ 2 * (k : Int) := by omega
      have e : k = (l.length + 1) / 2 := by omega
      have E := Lib.hid e
      clear e
      go_wp2_with fail
      go_ret
      exact ⟨_, rfl, by rw [← E.out]; exact HW.out, HB.out⟩

theorem totalR_someB (b : Option Addr) (c : Nat) (l : List UInt8) (w : World) (hv : Bytes w (.slice b l.length c) l) (hl : l.length ≤ 100000) :
    Calls Try.prog 51 #[.slice b l.length c] w fun e w' => e = .returned (.int .u16 (Sm.tot l : Nat)) ∧ Below w.heap.size w w' := by
  have HV := Lib.hid hv
  clear hv
  go_enter Try.func51, Try.ntmps51
  go_wp2_with fail
  refine (wordsR_someB b c l w HV.out hl).mono ?_
  rintro e w1 ⟨v, rfl, hown, hb⟩
  have hrow := Row.of_own hown
  obtain ⟨a1, c1, rfl⟩ := hrow.form
  rw [wv_length] at hrow ⊢
  have HR := Lib.hid hrow
  have HB := Lib.hid hb
  clear hown hrow hb
  obtain ⟨n, hn⟩ : ∃ n, n = (l.length + 1) / 2 := ⟨_, rfl⟩
  rw [← hn] at HR ⊢
  have hn2 : n ≤ 100000 := by omega
  have Hn := Lib.hid hn
  clear hn
  go_wp2_with fail
  go_loop [4, 5] (fun t i => ∃ k : Nat, k ≤ n ∧ i = .int .i64 k ∧ t = .int .u16 (Sm.canon (Sm.upto l k) : Nat)) (fun _ i => n - (intOf i).toNat)
  case atStart => exact ⟨0, Nat.zero_le _, rfl, rfl⟩
  case round =>
    obtain ⟨k, hk, rfl, rfl⟩ := hrel
    rcases Nat.lt_or_ge k n with hlt | hge
    · obtain ⟨bl, bo, rfl, hbl, hc⟩ := HR.out.at (i := k) (x := .int .u16 (Sm.word l k : Nat)) (by simp [wv, hlt])
      have g1 : (k : Int) < n := by omega
      have d1 := Sm.canon_lt (Sm.upto l k)
      have d2 := Sm.word_lt l k
      go_wp2_with fail
      refine (addR_int _ _ _ (by omega) (by omega) (by omega) (by omega) (Sm.canon (Sm.upto l (k + 1)) : Nat) (by rw [Int.toNat_natCast, Int.toNat_natCast, Sm.step])).mono ?_
      rintro e w3 ⟨rfl, rfl⟩
      go_wp2_with fail
      go_round
      case rel => exact ⟨k + 1, by omega, by go_num, rfl⟩
      case measure => simp [intOf]; omega
    · have e : k = n := by omega
      subst e
      go_wp2_with fail
      go_ret
      exact ⟨ret_i (by rw [Hn.out]; rfl), HB.out⟩
theorem totalR_anyB (v : Value) (l : List UInt8) (w : World) (hv : Bytes w v l) (hl : l.length ≤ 100000) :
    Calls Try.prog 51 #[v] w fun e w' => e = .returned (.int .u16 (Sm.tot l : Nat)) ∧ Below w.heap.size w w' := by
  obtain ⟨b, c, rfl⟩ := hv.form
  exact totalR_someB b c l w hv hl
theorem checkR_anyB (v : Value) (l : List UInt8) (w : World) (hv : Bytes w v l) (hl : l.length ≤ 100000) :
    Calls Try.prog 37 #[v] w fun e w' => e = .returned (.int .u16 (65535 - Sm.tot l : Nat)) ∧ Below w.heap.size w w' := by
  have hb := Sm.tot_lt l
  have HV := Lib.hid hv
  clear hv
  go_enter Try.func37, Try.ntmps37
  go_wp2_with fail
  refine (totalR_anyB v l w HV.out hl).mono ?_
  rintro e w1 ⟨rfl, hb1⟩
  go_wp2_with fail
  go_ret
  exact ⟨ret_i (by omega), hb1⟩
end Go.Proofs.Ytcahfapffhcceaa
