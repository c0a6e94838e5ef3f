/- The walk of the reference's Bytes of an update.
   An update by value, and a slice of updates, opened.
   Arguments that are bytes, and lists of bytes, opened.
   A row of one-cell elements in memory: a slice value that reads as a list of values.
   The walk of known: the chapter's rows of frame hold. -/
import Derived.ProofKit
import Derived.OpenShut
import Derived.Deep.Matrix
import Derived.Deep.Slices
import Derived.Lib.SmallJoins
import Derived.IntWalk
import Derived.Test.YtcahfapffhcceaaZ01
import Derived.Test.YtcahfapffhcceaaZ02
import Derived.Test.YtcahfapffhcceaaZ03
import Derived.Test.YtcahfapffhcceaaZ08
import Derived.Test.YtcahfapffhcceaaZ11

set_option linter.unusedSimpArgs false
set_option linter.unusedVariables false
namespace Go.Proofs.Ytcahfapffhcceaa
open Go.RowKit
attribute [local go_sem ↓] Go.wp_at_zero Go.wp_at_succ

theorem num6_any (n : Int) (w : World) : Calls Try.prog 13 #[.int .i64 n] w fun e w' => e = .returned (.int .i64 n) ∧ w = w' := by
  go_enter Try.func13, Try.ntmps13
  go_wp2
  go_ret
  exact ⟨rfl, rfl⟩
def k6f : Fr := ⟨1, 2, 1, 1, 0, 0, 0, 0⟩
def K6A (w : World) (e : Ending) (w' : World) : Prop := ∃ b o c, e = .returned (.tuple #[.slice (some ⟨b, o, none⟩) 54 c, .int .i64 0]) ∧ b < w'.heap.size ∧ 54 ≤ c ∧ (w'.cell? ⟨b, o, none⟩ = some (.int .u8 1) ∧ w'.cell? ⟨b, o + 1, none⟩ = some (.int .u8 2) ∧ w'.cell? ⟨b, o + 9, none⟩ = some (.int .u8 1) ∧ w'.cell? ⟨b, o + 17, none⟩ = some (.int .u8 1) ∧ w'.cell? ⟨b, o + 51, none⟩ = some (.int .u8 0)) ∧ Below w.heap.size w w'
theorem k6_bytes (w : World) : Calls Try.prog 9 #[.agg #[.int .i64 1, .int .i64 2, .int .u64 1, .int .u64 1, .int .u64 0, .int .u64 0, .int .u64 0, .int .u64 0, .slice none 0 0]] w (K6A w) := by
  refine (bytesF_yes k6f ⟨by decide, by decide, by decide, by decide, by decide, by decide, by decide, by decide⟩ (.slice none 0 0) [] w (Bytes.nil _ _ _) (by decide +kernel)).mono ?_
  rintro e w' ⟨v, rfl, ho, hb⟩
  obtain ⟨b, o, c, rfl, hbl, hc⟩ := long_form ho.bytes (by rw [frL_length]; omega)
  have hl : (frL k6f []).length = 54 := by rw [frL_length]; rfl
  have hx := ho.bytes
  rcases hx with ⟨h0, _⟩ | ⟨b', o', c', e, _, _, hx⟩
  · rw [h0] at hl; cases hl
  · simp only [Value.slice.injEq, Option.some.injEq, Addr.mk.injEq] at e
    obtain ⟨⟨rfl, rfl, _⟩, _, rfl⟩ := e
    rw [hl] at hc ⊢
    exact ⟨b, o, c, rfl, hbl, hc, ⟨hx 0 1 (by decide +kernel), hx 1 2 (by decide +kernel), hx 9 1 (by decide +kernel), hx 17 1 (by decide +kernel), hx 51 0 (by decide +kernel)⟩, hb⟩
theorem k6_of (v : Value) (w : World) (h : Bytes w v (List.replicate 54 0)) : Calls Try.prog 14 #[v] w fun e w' => (∃ a c, e = .returned (.tuple #[.agg #[.int .i64 0, .int .i64 0, .int .u64 0, .int .u64 0, .int .u64 0, .int .u64 0, .int .u64 0, .int .u64 0, .slice a 0 c], .int .i64 4])) ∧ Below w.heap.size w w' := by
  refine (of6W_any v _ w h (by simp)).mono ?_
  rintro e w' ⟨u, rfl, ho, hb⟩
  obtain ⟨e1, e2, e3⟩ := o_no (l := List.replicate 54 0) (by decide +kernel)
  rw [e2] at ho
  obtain ⟨a, c, rfl⟩ := ho.form
  exact ⟨⟨a, c, by rw [e1, e3]; rfl⟩, hb⟩
theorem k6_may (s : Nat) (r : Bool) (hr : mayF ⟨2, 2, 1, 1, 1, 1, s, 0⟩ [10, 0, 0, 0, 8, 5] = r) (v : Value) (w : World) (h : Bytes w v [10, 0, 0, 0, 8, 5]) : Calls Try.prog 10 #[.agg #[.int .i64 2, .int .i64 2, .int .u64 1, .int .u64 1, .int .u64 1, .int .u64 1, .int .u64 (s : Nat), .int .u64 0, v]] w fun e w' => e = .returned (.bool r) ∧ Below w.heap.size w w' :=
  (mayW6_any ⟨2, 2, 1, 1, 1, 1, s, 0⟩ v _ w h (by decide)).mono fun _ _ ⟨he, hb⟩ => ⟨he.trans (ret_b hr), hb⟩

set_option maxHeartbeats 8000000 in
set_option maxRecDepth 100000 in
theorem known6_any (w : World) : Calls Try.prog 8 #[] w fun e w' => e = .returned (.bool true) ∧ Below w.heap.size w w' := by
  go_enter Try.func8, Try.ntmps8
  go_wp2_with fail
  refine (k6_bytes _).mono ?_
  rintro e w1 ⟨b, o, c, rfl, hbl, hc54, hcs, hb1⟩
  obtain ⟨w2, hmk, hoz, hbz⟩ : ∃ w2, (Instr.makeSlice 26 (.int .i64 54) (.int .i64 54)).run Try.prog w1 = .ok (.slice (some ⟨w1.heap.size, 0, none⟩) 54 54) w2 ∧ OwnB w2 w1.heap.size (.slice (some ⟨w1.heap.size, 0, none⟩) 54 54) (List.replicate 54 0) ∧ Below w1.heap.size w1 w2 := make_zeros 54 w1 (by omega)
  have HCS := Lib.hid hcs
  have HBL := Lib.hid hbl
  have HB := Lib.hid (below_of hb1 hbz)
  have HBZ := Lib.hid hbz
  have HOZ := Lib.hid hoz
  have kc : 54 ≤ c := hc54
  clear hcs hb1 hbz hoz hc54 hbl
  go_wp2_with fail
  refine (k6_of _ _ HOZ.out.bytes).mono ?_
  rintro e w3 ⟨⟨ua, uc, rfl⟩, hb3⟩
  have HB := Lib.hid (below_of HB.out hb3)
  have HB13 := Lib.hid (below_of HBZ.out hb3)
  have HB3 : Hid (w.heap.size ≤ w3.heap.size) := HB.out.size
  clear hb3 hmk
  go_wp2_with fail
  obtain ⟨wz, hwz⟩ : ∃ wz, wz = (((w3.alloc (.cells #[.int .i64 0, .int .i64 0, .int .u64 0, .int .u64 0, .int .u64 0, .int .u64 0, .int .u64 0, .int .u64 0, .slice ua 0 uc] 28)).alloc (.cells #[.int .u8 10, .int .u8 0, .int .u8 0, .int .u8 0, .int .u8 8, .int .u8 5] 5)).alloc (.cells #[.int .i64 2, .int .i64 2, .int .u64 1, .int .u64 1, .int .u64 1, .int .u64 1, .int .u64 0, .int .u64 0, .slice (some ⟨w3.heap.size + 1, 0, none⟩) 6 6] 28)) := ⟨_, rfl⟩
  have hb3z : Below w3.heap.size w3 wz := by rw [hwz]; go_grown
  have HC := Lib.hid (show BlkAt 28 (w3.heap.size + 1 + 1) [.int .i64 2, .int .i64 2, .int .u64 1, .int .u64 1, .int .u64 1, .int .u64 1, .int .u64 0, .int .u64 0, .slice (some ⟨w3.heap.size + 1, 0, none⟩) 6 6] wz by
    have h9 := BlkAt.new (t := 28) ((w3.alloc (.cells #[.int .i64 0, .int .i64 0, .int .u64 0, .int .u64 0, .int .u64 0, .int .u64 0, .int .u64 0, .int .u64 0, .slice ua 0 uc] 28)).alloc (.cells #[.int .u8 10, .int .u8 0, .int .u8 0, .int .u8 0, .int .u8 8, .int .u8 5] 5)) [.int .i64 2, .int .i64 2, .int .u64 1, .int .u64 1, .int .u64 1, .int .u64 1, .int .u64 0, .int .u64 0, .slice (some ⟨w3.heap.size + 1, 0, none⟩) 6 6]
    rw [hwz]; simpa using h9)
  have HY := Lib.hid (show Bytes wz (.slice (some ⟨w3.heap.size + 1, 0, none⟩) 6 6) [10, 0, 0, 0, 8, 5] by
    have h9 : Bytes ((w3.alloc (.cells #[.int .i64 0, .int .i64 0, .int .u64 0, .int .u64 0, .int .u64 0, .int .u64 0, .int .u64 0, .int .u64 0, .slice ua 0 uc] 28)).alloc (.cells #[.int .u8 10, .int .u8 0, .int .u8 0, .int .u8 0, .int .u8 8, .int .u8 5] 5)) (.slice (some ⟨(w3.alloc (.cells #[.int .i64 0, .int .i64 0, .int .u64 0, .int .u64 0, .int .u64 0, .int .u64 0, .int .u64 0, .int .u64 0, .slice ua 0 uc] 28)).heap.size, 0, none⟩) 6 6) [10, 0, 0, 0, 8, 5] := bytes_lit _ _
    have h8 := h9.later ((Below.refl _ _).alloc (Nat.le_refl _) (.cells #[.int .i64 2, .int .i64 2, .int .u64 1, .int .u64 1, .int .u64 1, .int .u64 1, .int .u64 0, .int .u64 0, .slice (some ⟨w3.heap.size + 1, 0, none⟩) 6 6] 28))
    rw [World.size_alloc] at h8
    rw [hwz]; exact h8)
  have HB := Lib.hid (below_of HB.out hb3z)
  have HB13 := Lib.hid (below_of HB13.out hb3z)
  rw [← hwz]
  clear hwz hb3z
  obtain ⟨y0, y1, y9, y17, y51⟩ := HCS.out
  have x0 := cell_later' HB13.out HBL.out y0
  have x1 := cell_later' HB13.out HBL.out y1
  have x9 := cell_later' HB13.out HBL.out y9
  have x17 := cell_later' HB13.out HBL.out y17
  have x51 := cell_later' HB13.out HBL.out y51
  clear y0 y1 y9 y17 y51
  obtain ⟨c0, c1, c2, c3, c4, c5, c6, c7, c8⟩ := blk9 HC.out
  go_wp2_with (go_at_call 13; refine (num6_any _ _).mono ?_; rintro e wn ⟨rfl, rfl⟩)
  refine (k6_may 0 false (by decide +kernel) _ _ HY.out).mono ?_
  rintro e w4 ⟨rfl, hb⟩
  have HC := Lib.hid (HC.out.later hb)
  have HY := Lib.hid (Bytes.later HY.out hb)
  have HB := Lib.hid (below_of HB.out hb)
  clear hb c0 c1 c2 c3 c4 c5 c6 c7 c8 x0 x1 x9 x17 x51
  obtain ⟨c0, c1, c2, c3, c4, c5, c6, c7, c8⟩ := blk9 HC.out
  have hfz : w4.frozen? ⟨w3.heap.size + 1 + 1, 6, none⟩ = false := BlkAt.frozen HC.out 6
  go_wp2_with fail
  have hy5 : Bytes (w4.setCell ⟨w3.heap.size + 1 + 1, 6, none⟩ (.int .u64 1)) (.slice (some ⟨w3.heap.size + 1, 0, none⟩) 6 6) [10, 0, 0, 0, 8, 5] := by
    rcases HY.out with ⟨h, _⟩ | ⟨b', o', c', e, hb, hc, hx⟩
    · cases h
    · simp only [Value.slice.injEq, Option.some.injEq, Addr.mk.injEq] at e
      obtain ⟨⟨rfl, rfl, _⟩, _, rfl⟩ := e
      exact .inr ⟨_, _, _, rfl, by simpa using hb, hc, fun j x hj => (cell_block (Below.heap_setCell _ _ _ _ (by simp))).trans (hx j x hj)⟩
  have hb5 : Below w.heap.size w (w4.setCell ⟨w3.heap.size + 1 + 1, 6, none⟩ (.int .u64 1)) := HB.out.setCell (by simp; have := HB3.out; omega) _
  have HB := Lib.hid hb5
  refine (k6_may 1 true (by decide +kernel) _ _ hy5).mono ?_
  rintro e w5 ⟨rfl, hb⟩
  have HB := Lib.hid (below_of HB.out hb)
  clear hb hb5 hy5 c0 c1 c2 c3 c4 c5 c6 c7 c8 hfz
  go_wp2_with fail
  refine (head_any _).mono ?_
  rintro e wn ⟨rfl, rfl⟩
  go_wp2_with fail
  go_ret
  exact ⟨rfl, HB.out⟩
end Go.Proofs.Ytcahfapffhcceaa

namespace Go.Proofs.Ytcahfapffhcceaa
open Go.RowKit

def Row (w : World) (v : Value) (xs : List Value) : Prop :=
  (xs = [] ∧ ∃ a c, v = .slice a 0 c ∧ (a = none → c = 0)) ∨
  ∃ b o c, v = .slice (some ⟨b, o, none⟩) xs.length c ∧ b < w.heap.size ∧ xs.length ≤ c ∧ ∀ j x, xs[j]? = some x → w.cell? ⟨b, o + j, none⟩ = some x
theorem Row.later {w w' : World} {v : Value} {l : List Value} (h : Row w v l) (hb : Below w.heap.size w w') : Row w' v l := by
  rcases h with h | ⟨b, o, c, h1, h2, hp, h3⟩
  · exact .inl h
  · exact .inr ⟨b, o, c, h1, Nat.lt_of_lt_of_le h2 hb.size, hp, fun j x hx => cell_later hb (h3 j x hx)⟩
theorem Row.form {w : World} {v : Value} {l : List Value} (h : Row w v l) : ∃ a c, v = .slice a l.length c := by
  rcases h with ⟨rfl, a, c, rfl, _⟩ | ⟨b, o, c, rfl, _, _⟩
  · exact ⟨a, c, rfl⟩
  · exact ⟨_, c, rfl⟩
theorem Row.at {w : World} {a : Option Addr} {n c : Nat} {l : List Value} (h : Row w (.slice a n c) l) {i : Nat} {x : Value} (hi : l[i]? = some x) :
    ∃ b o, a = some ⟨b, o, none⟩ ∧ b < w.heap.size ∧ w.cell? ⟨b, o + i, none⟩ = some x := by
  rcases h with ⟨rfl, _⟩ | ⟨b, o, c', h1, h2, _, h3⟩
  · simp at hi
  · simp only [Value.slice.injEq] at h1
    exact ⟨b, o, h1.1, h2, h3 i _ hi⟩
theorem Row.of_own {w : World} {base : Nat} {e : TypeId} {v : Value} {n : Nat} {l : List Value} (h : w.ownsRow base e 1 v n l) : Row w v l := by
  obtain ⟨hl, h0 | ⟨g, cap, cur, rfl, hb, hg, hn, hm, hc, ht⟩⟩ := h
  · obtain ⟨rfl, rfl⟩ := h0
    simp at hl
    subst hl
    exact .inl ⟨rfl, _, _, rfl, fun _ => rfl⟩
  · have hln : l.length = n := by simpa using hl
    subst hln
    refine .inr ⟨g, 0, cap, rfl, ?_, hn, fun j x hx => ?_⟩
    · rcases Nat.lt_or_ge g w.heap.size with h1 | h1
      · exact h1
      · rw [Array.getElem?_eq_none h1] at hg; cases hg
    · rw [Nat.zero_add, cell_of_row w g j cur e (0, 0) hg]
      have hj : j < l.length := (List.getElem?_eq_some_iff.1 hx).1
      have : l[j]? = some x := hx
      rw [← ht, List.getElem?_take, if_pos (by omega)] at this
      simpa using this
theorem Row.of_bytes {w : World} {v : Value} {l : List UInt8} (h : Bytes w v l) : Row w v (bv l) := by
  rcases h with ⟨rfl, a, c, rfl, h1⟩ | ⟨b, o, c, rfl, h2, hp, h3⟩
  · exact .inl ⟨rfl, a, c, rfl, h1⟩
  · refine .inr ⟨b, o, c, by simp [bv], h2, by simpa [bv] using hp, fun j x hx => ?_⟩
    simp only [bv, List.getElem?_map, Option.map_eq_some_iff] at hx
    obtain ⟨y, hy, rfl⟩ := hx
    exact h3 j y hy
theorem ownsRow_later {w w' : World} {B : Nat} {e : TypeId} {s n : Nat} {v : Value} {xs : List Value} (h : w.ownsRow B e s v n xs) (hb : Below w.heap.size w w') : w'.ownsRow B e s v n xs := by
  obtain ⟨hl, h0 | ⟨g, cap, cur, rfl, hb1, hg, hn, hm, hc, ht⟩⟩ := h
  · exact ⟨hl, .inl h0⟩
  · refine ⟨hl, .inr ⟨g, cap, cur, rfl, hb1, ?_, hn, hm, hc, ht⟩⟩
    rw [hb.block g ?_]
    · exact hg
    · rcases Nat.lt_or_ge g w.heap.size with h1 | h1
      · exact h1
      · rw [Array.getElem?_eq_none h1] at hg; cases hg
def iv (l : List Int) : List Value := l.map fun z => .int .i64 z
theorem iv_at {zs : List Int} {k : Nat} (h : k < zs.length) : (iv zs)[k]? = some (.int .i64 zs[k]) := by simp [iv, h]
end Go.Proofs.Ytcahfapffhcceaa

namespace Go.Proofs.Ytcahfapffhcceaa
open Go.ChangeShapes Go.WideShapes Go.ChangeAt Go.RowKit

theorem lt_u8 {a : Int} (h : 0 ≤ a ∧ a ≤ 255) : a < 256 := by omega
theorem lt_u16 {a : Int} (h : 0 ≤ a ∧ a ≤ 65535) : a < 65536 := by omega
theorem lt_u32 {a : Int} (h : 0 ≤ a ∧ a ≤ 4294967295) : a < 4294967296 := by omega
theorem lt_u64 {a : Int} (h : 0 ≤ a ∧ a ≤ 18446744073709551615) : a < 18446744073709551616 := by omega

theorem own : ownKnob Try.prog.godebug = none := by kernel_rfl
theorem laidOut : laidOutB Try.prog = true := by kernel_rfl


theorem spot_none {W : World} {a : Addr} {v : Value} (h : W.cell? (a.add 0) = some v) : a.spot = none := by
  obtain ⟨b, o, sp⟩ := a
  cases sp with
  | none => rfl
  | some s =>
    simp [World.cell?, Addr.add] at h
    split at h <;> cases h
theorem bytes_of_ints {W : World} {A : Option Addr} {len cap : Nat} {zs : List Int} (hl : len ≤ cap) (hz : zs.length = cap) (hwz : ∀ n ∈ zs, (Lit.int .u8 n).wf = true) (h0 : A = none → cap = 0)
    (hc : ∀ a, A = some a → ∀ c, c < cap → W.cell? (a.add c) = some (.int .u8 (zs.getD c 0))) : Bytes W (.slice A len cap) ((zs.take len).map fun z => UInt8.ofNat z.toNat) := by
  have hlen : ((zs.take len).map fun z => UInt8.ofNat z.toNat).length = len := by simp; omega
  rcases Nat.eq_zero_or_pos len with hp | hp
  · subst hp
    exact .inl ⟨by simp, A, cap, rfl, h0⟩
  · cases A with
    | none => have := h0 rfl; omega
    | some x =>
      have hcell := hc x rfl
      have hc0 := hcell 0 (by omega)
      have hsp := spot_none hc0
      obtain ⟨b, o, sp⟩ := x
      simp only at hsp
      subst hsp
      refine .inr ⟨b, o, cap, by rw [hlen], ?_, by rw [hlen]; exact hl, ?_⟩
      · have := World.block_lt_of_cell? _ _ hc0
        simpa [Addr.add] using this
      · intro j y hy
        simp only [List.getElem?_map, Option.map_eq_some_iff] at hy
        obtain ⟨z, hz1, rfl⟩ := hy
        have hj : j < len := by
          have := (List.getElem?_eq_some_iff.1 hz1).1
          simp at this; omega
        have hz2 : zs[j]? = some z := by rw [List.getElem?_take, if_pos hj] at hz1; exact hz1
        have hb := bounds_u8 (hwz z (List.mem_of_getElem? hz2))
        have hcj := hcell j (by omega)
        have he : zs.getD j 0 = z := by simp [List.getD, hz2]
        rw [he] at hcj
        have hn : ((UInt8.ofNat z.toNat).toNat : Int) = z := by rw [UInt8.toNat_ofNat']; omega
        rw [hn]
        cases j with
        | zero => simpa [Addr.add] using hcj
        | succ j => simpa [Addr.add] using hcj

set_option maxRecDepth 100000 in
theorem open_bytes {H : Type} {enc : TypeId × Value → H} {W : World} {base : Nat} {v : Value} {d : DataW H} {p : List MemPlace}
    (hv : Value.okWide Try.prog W .any base 26 v) (h : DataW.Trod enc Try.prog W 0 (fun _ => true) true 26 v d p) : ∃ l : List UInt8, Bytes W v l ∧ l.length ≤ 9223372036854775807 := by
  obtain ⟨a, len, cap, rfl⟩ := okWide_slice Try.underlying26 hv
  obtain ⟨fuel, hf⟩ := h
  rcases open_ints Try.underlying26 Try.underlying5 (by kernel_rfl) hf with ⟨hcs, _⟩ | ⟨x, l, c, zs, hcs, _, hl, hm, hz, _, hcell, hwz⟩
  · simp [Value.cells] at hcs
    obtain ⟨rfl, rfl, rfl⟩ := hcs
    exact ⟨[], Bytes.nil _ _ _, by simp⟩
  · simp [Value.cells] at hcs
    obtain ⟨rfl, rfl, rfl⟩ := hcs
    unfold maxLen at hm
    have hzl : zs.length = cap := by simpa using hz
    exact ⟨_, bytes_of_ints hl hzl hwz (fun h => by cases h) (fun a ha c hc => by cases ha; exact hcell c (by omega)), by simp; omega⟩

set_option maxRecDepth 100000 in
theorem open_lists {H : Type} {enc : TypeId × Value → H} {W : World} {base : Nat} {v : Value} {d : DataW H} {p : List MemPlace}
    (hv : Value.okWide Try.prog W .any base 71 v) (h : DataW.Trod enc Try.prog W 0 (fun _ => true) true 71 v d p) :
    ∃ L : List (List UInt8), Lists W v L ∧ L.length ≤ 9223372036854775807 ∧ ∀ l ∈ L, l.length ≤ 9223372036854775807 := by
  obtain ⟨a, len, cap, rfl⟩ := okWide_slice Try.underlying71 hv
  obtain ⟨fuel, hf⟩ := h
  rcases Deep.open_int_rows Try.underlying71 Try.underlying26 Try.underlying5 (by kernel_rfl) (by kernel_rfl) hf with ⟨hcs, _⟩ | ⟨x, l, c, A, Ln, C, Z, hcs, _, hl, hm, _, hr⟩
  · simp [Value.cells] at hcs
    obtain ⟨rfl, rfl, rfl⟩ := hcs
    exact ⟨[], Lists.nil _ _ _, by simp, by simp⟩
  · simp [Value.cells] at hcs
    obtain ⟨rfl, rfl, rfl⟩ := hcs
    unfold maxLen at hm hr
    have each : ∀ r, r < cap → Bytes W (.slice (A r) (Ln r) (C r)) (((Z r).take (Ln r)).map fun z => UInt8.ofNat z.toNat) := fun r hrr => by
      obtain ⟨_, h1, h2, h3, h4, h5, h6⟩ := hr r hrr
      exact bytes_of_ints h1 h3 h4 h5 (fun a ha c hc => (h6 a ha).2 c hc)
    refine ⟨(List.range len).map fun r => ((Z r).take (Ln r)).map fun z => UInt8.ofNat z.toNat, ?_, by simp; omega, ?_⟩
    · rcases Nat.eq_zero_or_pos len with hp | hp
      · subst hp
        exact .inl ⟨by simp, _, _, rfl, fun h => by cases h⟩
      · have hc0 := (hr 0 (by omega)).1
        have hsp := spot_none hc0
        obtain ⟨b, o, sp⟩ := x
        simp only at hsp
        subst hsp
        refine .inr ⟨b, o, cap, by simp, ?_, by simpa using hl, ?_⟩
        · have := World.block_lt_of_cell? _ _ hc0
          simpa [Addr.add] using this
        · intro j l hjl
          simp only [List.getElem?_map, Option.map_eq_some_iff] at hjl
          obtain ⟨r, hr1, rfl⟩ := hjl
          have hj : j < len := by
            have := (List.getElem?_eq_some_iff.1 hr1).1
            simpa using this
          have hr2 : r = j := by rw [List.getElem?_range hj] at hr1; cases hr1; rfl
          subst hr2
          refine ⟨_, ?_, each r (by omega)⟩
          have := (hr r (by omega)).1
          cases r with
          | zero => simpa [Addr.add] using this
          | succ r => simpa [Addr.add] using this
    · intro l hl2
      simp only [List.mem_map, List.mem_range] at hl2
      obtain ⟨r, hr1, rfl⟩ := hl2
      obtain ⟨_, h1, h2, h3, _⟩ := hr r (by omega)
      simp; omega

end Go.Proofs.Ytcahfapffhcceaa

namespace Go.Proofs.Ytcahfapffhcceaa
open Go.ChangeShapes Go.WideShapes Go.ChangeAt Go.RowKit Go.Joins Go.Deep

/-- An update: its prefix's address and length, its distance. -/
structure Ud where
  a : Nat
  n : Int
  d : Int
instance : Inhabited Ud := ⟨⟨0, 0, 0⟩⟩
structure Ud.Ok (u : Ud) : Prop where
  a : u.a < 4294967296
  n0 : -9223372036854775808 ≤ u.n
  n1 : u.n ≤ 9223372036854775807
  d0 : -9223372036854775808 ≤ u.d
  d1 : u.d ≤ 9223372036854775807

section
variable {H : Type} {enc : TypeId × Value → H} {W : World} {base : Nat} {sp : Nat → Bool} {held : Bool}
theorem upd_cells {fuel : Nat} {cs : List Value} {y : DataW H × List MemPlace} (h : DataW.trod enc Try.prog W base sp held fuel 47 cs = some y) (hl : cs.length = 3) :
    ∃ u : Ud, cs = [.int .u32 (u.a : Int), .int .i64 u.n, .int .i64 u.d] ∧ u.Ok := by
  have k2 : Try.prog.cellsOf 45 = 2 := by kernel_rfl
  have k1 : Try.prog.cellsOf 3 = 1 := by kernel_rfl
  have k1' : Try.prog.cellsOf 43 = 1 := by kernel_rfl
  match cs, hl with
  | [c0, c1, c2], _ =>
    obtain ⟨xs, n, _, hx, _, hlen, hg⟩ := DataW.trod_struct Try.underlying47 h
    match xs, hlen with
    | [y0, y1], _ =>
      have h0 : DataW.trod enc Try.prog W base sp held n 45 [c0, c1] = some y0 := by simpa [k2] using hg 0 _ rfl
      have h1 : DataW.trod enc Try.prog W base sp held n 3 [c2] = some y1 := by simpa [k1] using hg 1 _ rfl
      obtain ⟨zs, m, _, hz, _, hzl, hgz⟩ := DataW.trod_struct Try.underlying45 h0
      match zs, hzl with
      | [z0, z1], _ =>
        have g0 : DataW.trod enc Try.prog W base sp held m 43 [c0] = some z0 := by simpa [k1'] using hgz 0 _ rfl
        have g1 : DataW.trod enc Try.prog W base sp held m 3 [c1] = some z1 := by simpa [k1] using hgz 1 _ rfl
        obtain ⟨a0, e0, _, w0⟩ := DataW.trod_int Try.underlying43 g0
        obtain ⟨a1, e1, _, w1⟩ := DataW.trod_int Try.underlying3 g1
        obtain ⟨a2, e2, _, w2⟩ := DataW.trod_int Try.underlying3 h1
        simp only [List.cons.injEq, and_true] at e0 e1 e2
        subst e0 e1 e2
        have b0 := bounds_u32 w0
        have b1 := bounds_i64 w1
        have b2 := bounds_i64 w2
        obtain ⟨n0, rfl⟩ := Int.eq_ofNat_of_zero_le b0.1
        exact ⟨⟨n0, a1, a2⟩, rfl, ⟨by simp only; omega, b1.1, b1.2, b2.1, b2.2⟩⟩
end

set_option maxRecDepth 100000 in
theorem open_upd {H : Type} {enc : TypeId × Value → H} {W : World} {base : Nat} {v : Value} {d : DataW H} {p : List MemPlace}
    (hv : Value.okWide Try.prog W .any base 47 v) (h : DataW.Trod enc Try.prog W 0 (fun _ => true) true 47 v d p) :
    ∃ u : Ud, v = .agg #[.int .u32 (u.a : Int), .int .i64 u.n, .int .i64 u.d] ∧ u.Ok := by
  obtain ⟨cs, rfl, hsz⟩ := okWide_struct Try.underlying47 hv
  obtain ⟨l⟩ := cs
  have hC : Try.prog.cellsOf 47 = 3 := by kernel_rfl
  obtain ⟨fuel, hf⟩ := h
  obtain ⟨u, e, hu⟩ := upd_cells (cs := l) (by simpa [Value.cells] using hf) (by simpa using hsz.trans hC)
  subst e
  exact ⟨u, rfl, hu⟩

/-- The value reads as these updates. -/
def Upds (w : World) (v : Value) (L : List Ud) : Prop :=
  (L = [] ∧ ∃ a c, v = .slice a 0 c ∧ (a = none → c = 0)) ∨
  ∃ b o c, v = .slice (some ⟨b, o, none⟩) L.length c ∧ b < w.heap.size ∧ L.length ≤ c ∧ ∀ j x, L[j]? = some x → w.cell? ⟨b, o + j * 3, none⟩ = some (.int .u32 (x.a : Int)) ∧ w.cell? ⟨b, o + j * 3 + 1, none⟩ = some (.int .i64 x.n) ∧ w.cell? ⟨b, o + j * 3 + 2, none⟩ = some (.int .i64 x.d)
theorem Upds.later {w w' : World} {v : Value} {L : List Ud} (h : Upds w v L) (hb : Below w.heap.size w w') : Upds w' v L := by
  rcases h with h | ⟨b, o, c, h1, h2, hp, h3⟩
  · exact .inl h
  · exact .inr ⟨b, o, c, h1, Nat.lt_of_lt_of_le h2 hb.size, hp, fun j x hx => ⟨cell_later hb (h3 j x hx).1, cell_later hb (h3 j x hx).2.1, cell_later hb (h3 j x hx).2.2⟩⟩
theorem Upds.form {w : World} {v : Value} {L : List Ud} (h : Upds w v L) : ∃ a c, v = .slice a L.length c := by
  rcases h with ⟨rfl, a, c, rfl, _⟩ | ⟨b, o, c, rfl, _, _⟩
  · exact ⟨a, c, rfl⟩
  · exact ⟨_, c, rfl⟩
theorem Upds.nil (w : World) (a : Option Addr) (c : Nat) (h : a = none → c = 0 := by intros; first | rfl | contradiction | simp_all) : Upds w (.slice a 0 c) [] := .inl ⟨rfl, a, c, rfl, h⟩
theorem Upds.at {w : World} {a : Option Addr} {n c : Nat} {L : List Ud} (h : Upds w (.slice a n c) L) {i : Nat} (hi : i < L.length) :
    ∃ b o, a = some ⟨b, o, none⟩ ∧ b < w.heap.size ∧ w.cell? ⟨b, o + i * 3, none⟩ = some (.int .u32 (L[i].a : Int)) ∧ w.cell? ⟨b, o + i * 3 + 1, none⟩ = some (.int .i64 L[i].n) ∧ w.cell? ⟨b, o + i * 3 + 2, none⟩ = some (.int .i64 L[i].d) := by
  rcases h with ⟨rfl, _⟩ | ⟨b, o, c', h1, h2, _, h3⟩
  · simp at hi
  · simp only [Value.slice.injEq] at h1
    have := h3 i _ (List.getElem?_eq_getElem hi)
    exact ⟨b, o, h1.1, h2, this.1, this.2.1, this.2.2⟩

end Go.Proofs.Ytcahfapffhcceaa

namespace Go.Proofs.Ytcahfapffhcceaa
open Go.RowKit
attribute [local go_sem ↓] Go.wp_at_zero Go.wp_at_succ

set_option maxHeartbeats 8000000 in
set_option maxRecDepth 100000 in
theorem bytesR5_any (a n d : Nat) (ha : a < 4294967296) (h : mayU a n d = true) (wm : World) :
    Calls Try.prog 26 #[.agg #[.int .u32 (a : Int), .int .i64 (n : Int), .int .i64 (d : Int)]] wm fun e w' => ∃ v, e = .returned v ∧ OwnB w' wm.heap.size v (upL a n d) ∧ Below wm.heap.size wm w' := by
  obtain ⟨h1, h2, h3⟩ := mayU_of h
  obtain ⟨n0, n1, _⟩ := Wp.may_of h1
  have k1 : (a : Int) < 4294967296 := by omega
  have k2 : (n : Int) < 256 := by omega
  have k3 : (d : Int) < 256 := by omega
  have u1 : IntKind.u64.wrap (a : Int) = a := IntWalk.u64_in _ ⟨by omega, by omega⟩
  have u2 : IntKind.u8.wrap (n : Int) = n := IntWalk.u8_in _ ⟨by omega, by omega⟩
  have u3 : IntKind.u8.wrap (d : Int) = d := IntWalk.u8_in _ ⟨by omega, by omega⟩
  obtain ⟨wb, hwb⟩ : ∃ wb, wb = wm.alloc (.cells #[.int .u32 (a : Int), .int .i64 (n : Int), .int .i64 (d : Int)] 47) := ⟨_, rfl⟩
  have HBW : Hid (Below wm.heap.size wm wb) := by rw [hwb]; exact (Below.refl _ _).alloc (Nat.le_refl _) _
  have HR : Hid (BlkAt 47 wm.heap.size [.int .u32 (a : Int), .int .i64 (n : Int), .int .i64 (d : Int)] wb) := by rw [hwb]; exact BlkAt.new wm _
  clear h h1 h2 h3 n0 n1
  go_enter Try.func26, Try.ntmps26
  go_wp2_with fail
  rw [← hwb]
  clear hwb
  (refine wp_region_held_drew (S := (fun w' => Below wb.heap.size wb w')) (by kernel_rfl) ?_ (fun hHeld => ?_); (focus ((try dsimp only); (exact (Below.refl _ _).drew))))
  (try dsimp only at hHeld)
  obtain ⟨w0, hw0⟩ : ∃ w0, w0 = World.drew wb := ⟨_, rfl⟩
  rw [← hw0]
  rw [← hw0] at hHeld
  clear hw0
  refine wpAnyH_cut #[true, true, true, true, true, true, true, true, true, true, true, true, true, true, true] 0 (fun A w1 => ∃ (v7 : Value) (g15 : Nat) (v16 : Value), A = ⟨#[.agg #[.int .u32 (a : Int), .int .i64 (n : Int), .int .i64 (d : Int)], .pointer (some ⟨wm.heap.size, 0, none⟩), v16, .pointer (some ⟨wm.heap.size, 0, none⟩), .pointer (some ⟨wm.heap.size, 0, none⟩), .int .u32 (a : Int), .int .u64 (a : Int), v7, .pointer (some ⟨wm.heap.size, 0, none⟩), .pointer (some ⟨wm.heap.size, 1, none⟩), .int .i64 (n : Int), .int .u8 (n : Int), .pointer (some ⟨wm.heap.size, 2, none⟩), .int .i64 (d : Int), .int .u8 (d : Int), .slice (some ⟨g15, 0, none⟩) 2 2, v16], []⟩ ∧ Hid (OwnB w1 wb.heap.size v16 (upL a n d))) ?_ (fun m0 => ?_)
  · rintro l A w1 rfl ⟨v7, g15, v16, rfl, F16⟩ hHeld
    refine wpAnyH_done (by kernel_rfl) ?_ _
    have HO := Lib.hid F16.out
    have HBZ := Lib.hid hHeld
    clear hHeld
    go_wp2_with fail
    go_ret
    exact ⟨_, rfl, OwnB.weak HO.out HBW.out.size, HBW.out.trans (HBZ.out.mono HBW.out.size)⟩
  refine wpAnyH_cut #[true, true, true, true, true, true, true, true, true, true, true, true, true, false, false] 2 (fun A w1 => ∃ (v7 : Value) (g15 : Nat), A = ⟨#[.agg #[.int .u32 (a : Int), .int .i64 (n : Int), .int .i64 (d : Int)], .pointer (some ⟨wm.heap.size, 0, none⟩), .slice none 0 0, .pointer (some ⟨wm.heap.size, 0, none⟩), .pointer (some ⟨wm.heap.size, 0, none⟩), .int .u32 (a : Int), .int .u64 (a : Int), v7, .pointer (some ⟨wm.heap.size, 0, none⟩), .pointer (some ⟨wm.heap.size, 1, none⟩), .int .i64 (n : Int), .int .u8 (n : Int), .pointer (some ⟨wm.heap.size, 2, none⟩), .int .i64 (d : Int), .int .u8 (d : Int), .slice (some ⟨g15, 0, none⟩) 2 2, undef], []⟩ ∧ Hid (OwnB w1 wb.heap.size v7 (putL a 4)) ∧ Hid (Bytes w1 (.slice (some ⟨g15, 0, none⟩) 2 2) [UInt8.ofNat n, UInt8.ofNat d])) ?_ (fun m1 => ?_)
  · rintro l A w1 rfl ⟨v7, g15, rfl, F7, F15⟩ hHeld
    refine wpAnyH_ready (rs := [13]) (by kernel_rfl) (by simp) ?_
    refine AllReadyH.cons rfl (fun K hK => ?_) AllReadyH.nil
    refine step_app rfl (.tmp 7) (.tmp 15) rfl wb.heap.size _ _ (putL a 4) [UInt8.ofNat n, UInt8.ofNat d] rfl rfl F7.out F15.out (by simp [putL_length]) hHeld.size ?_
    intro y w_n ho hs _
    have hF := Lib.hid ho
    refine hK.out _ _ (hHeld.trans hs) (fun hHeldN => ?_)
    try simp only [Act.put, List.setIfInBounds_toArray, List.set_cons_zero, List.set_cons_succ, List.getElem_toArray, List.getElem_cons_zero, List.getElem_cons_succ]
    (have hHeldO := hHeld; clear hHeld; have hHeld := hHeldN)
    (refine wpAnyH_take (i := 14) (v := ?_) rfl (by kernel_rfl) (by kernel_rfl) (by kernel_rfl) (fun _ _ _ h => h) (Or.inl ⟨by rfl, ?_⟩) hHeld ?_; rotate_left; (focus (intro w hSw; (try dsimp only at hSw); go_simp; try with_reducible rfl)); (try simp only [Act.put, List.setIfInBounds_toArray, List.set_cons_zero, List.set_cons_succ, List.getElem_toArray, List.getElem_cons_zero, List.getElem_cons_succ]))
    exact m0 _ _ _ (by kernel_rfl) ⟨_, _, _, rfl, hF⟩ hHeldN
  refine wpAnyH_cut #[true, true, true, true, true, true, true, true, true, true, true, true, false, false, false] 3 (fun A w1 => ∃ (v7 : Value), A = ⟨#[.agg #[.int .u32 (a : Int), .int .i64 (n : Int), .int .i64 (d : Int)], .pointer (some ⟨wm.heap.size, 0, none⟩), .slice none 0 0, .pointer (some ⟨wm.heap.size, 0, none⟩), .pointer (some ⟨wm.heap.size, 0, none⟩), .int .u32 (a : Int), .int .u64 (a : Int), v7, .pointer (some ⟨wm.heap.size, 0, none⟩), .pointer (some ⟨wm.heap.size, 1, none⟩), .int .i64 (n : Int), .int .u8 (n : Int), .pointer (some ⟨wm.heap.size, 2, none⟩), .int .i64 (d : Int), .int .u8 (d : Int), undef, undef], []⟩ ∧ Hid (OwnB w1 wb.heap.size v7 (putL a 4))) ?_ (fun m2 => ?_)
  · rintro l A w1 rfl ⟨v7, rfl, F7⟩ hHeld
    refine wpAnyH_ready (rs := [12]) (by kernel_rfl) (by simp) ?_
    refine AllReadyH.cons rfl (fun K hK => ?_) AllReadyH.nil
    go_simp
    have hs : Below (World.heap w1).size w1 (w1.alloc (.cells #[.int .u8 (n : Int), .int .u8 (d : Int)] 5)) := (Below.refl _ _).alloc (Nat.le_refl _) _
    have hF : Hid (Bytes (w1.alloc (.cells #[.int .u8 (n : Int), .int .u8 (d : Int)] 5)) (.slice (some ⟨(World.heap w1).size, 0, none⟩) 2 2) [UInt8.ofNat n, UInt8.ofNat d]) := two_lit n d (by omega) (by omega) w1
    refine hK.out _ _ (hHeld.trans (hs.mono hHeld.size)) (fun hHeldN => ?_)
    exact m1 _ _ _ (by kernel_rfl) ⟨_, _, rfl, Lib.hid (F7.out.later hs), hF⟩ hHeldN
  refine wpAnyH_cut #[true, true, true, true, false, true, true, true, true, true, true, true, true, false, false] 3 (fun A w1 => ∃ (g15 : Nat), A = ⟨#[.agg #[.int .u32 (a : Int), .int .i64 (n : Int), .int .i64 (d : Int)], .pointer (some ⟨wm.heap.size, 0, none⟩), .slice none 0 0, .pointer (some ⟨wm.heap.size, 0, none⟩), .pointer (some ⟨wm.heap.size, 0, none⟩), .int .u32 (a : Int), .int .u64 (a : Int), undef, .pointer (some ⟨wm.heap.size, 0, none⟩), .pointer (some ⟨wm.heap.size, 1, none⟩), .int .i64 (n : Int), .int .u8 (n : Int), .pointer (some ⟨wm.heap.size, 2, none⟩), .int .i64 (d : Int), .int .u8 (d : Int), .slice (some ⟨g15, 0, none⟩) 2 2, undef], []⟩ ∧ Hid (Bytes w1 (.slice (some ⟨g15, 0, none⟩) 2 2) [UInt8.ofNat n, UInt8.ofNat d])) ?_ (fun m3 => ?_)
  · rintro l A w1 rfl ⟨g15, rfl, F15⟩ hHeld
    refine wpAnyH_ready (rs := [4]) (by kernel_rfl) (by simp) ?_
    refine AllReadyH.cons rfl (fun K hK => ?_) AllReadyH.nil
    go_simp
    refine (putRO_any a 4 _ (by omega) (by omega)).mono ?_
    rintro e w_n ⟨y, rfl, hf, hs⟩
    have hF := Lib.hid (OwnB.weak (show OwnB w_n _ y (putL a 4) from hf) hHeld.size)
    refine hK.out _ _ (hHeld.trans (hs.mono hHeld.size)) (fun hHeldN => ?_)
    exact m1 _ _ _ (by kernel_rfl) ⟨_, _, rfl, hF, Lib.hid (F15.out.later hs)⟩ hHeldN
  refine wpAnyH_cut #[true, true, true, true, false, true, true, true, true, true, true, true, false, false, false] 4 (fun A w1 => A = ⟨#[.agg #[.int .u32 (a : Int), .int .i64 (n : Int), .int .i64 (d : Int)], .pointer (some ⟨wm.heap.size, 0, none⟩), .slice none 0 0, .pointer (some ⟨wm.heap.size, 0, none⟩), .pointer (some ⟨wm.heap.size, 0, none⟩), .int .u32 (a : Int), .int .u64 (a : Int), undef, .pointer (some ⟨wm.heap.size, 0, none⟩), .pointer (some ⟨wm.heap.size, 1, none⟩), .int .i64 (n : Int), .int .u8 (n : Int), .pointer (some ⟨wm.heap.size, 2, none⟩), .int .i64 (d : Int), .int .u8 (d : Int), undef, undef], []⟩) ?_ (fun m4 => ?_)
  · rintro l A w1 rfl rfl hHeld
    refine wpAnyH_ready (rs := [4, 12]) (by kernel_rfl) (by simp) ?_
    refine AllReadyH.cons rfl (fun K hK => ?_) (AllReadyH.cons rfl (fun K hK => ?_) AllReadyH.nil)
    · go_simp
      refine (putRO_any a 4 _ (by omega) (by omega)).mono ?_
      rintro e w_n ⟨y, rfl, hf, hs⟩
      have hF := Lib.hid (OwnB.weak (show OwnB w_n _ y (putL a 4) from hf) hHeld.size)
      refine hK.out _ _ (hHeld.trans (hs.mono hHeld.size)) (fun hHeldN => ?_)
      exact m2 _ _ _ (by kernel_rfl) ⟨_, rfl, hF⟩ hHeldN
    · go_simp
      have hs : Below (World.heap w1).size w1 (w1.alloc (.cells #[.int .u8 (n : Int), .int .u8 (d : Int)] 5)) := (Below.refl _ _).alloc (Nat.le_refl _) _
      have hF : Hid (Bytes (w1.alloc (.cells #[.int .u8 (n : Int), .int .u8 (d : Int)] 5)) (.slice (some ⟨(World.heap w1).size, 0, none⟩) 2 2) [UInt8.ofNat n, UInt8.ofNat d]) := two_lit n d (by omega) (by omega) w1
      refine hK.out _ _ (hHeld.trans (hs.mono hHeld.size)) (fun hHeldN => ?_)
      exact m3 _ _ _ (by kernel_rfl) ⟨_, rfl, hF⟩ hHeldN
  (refine wpAnyH_take (i := 0) (v := ?_) rfl (by kernel_rfl) (by kernel_rfl) (by kernel_rfl) (fun _ _ _ h => h) (Or.inl ⟨by rfl, ?_⟩) hHeld ?_; rotate_left; (focus (intro w hSw; (try dsimp only at hSw); go_simp; try with_reducible rfl)); (try simp only [Act.put, List.setIfInBounds_toArray, List.set_cons_zero, List.set_cons_succ, List.getElem_toArray, List.getElem_cons_zero])); (refine wpAnyH_take (i := 5) (v := ?_) rfl (by kernel_rfl) (by kernel_rfl) (by kernel_rfl) (fun _ _ _ h => h) (Or.inl ⟨by rfl, ?_⟩) hHeld ?_; rotate_left; (focus (intro w hSw; (try dsimp only at hSw); go_simp; try with_reducible rfl)); (try simp only [Act.put, List.setIfInBounds_toArray, List.set_cons_zero, List.set_cons_succ, List.getElem_toArray, List.getElem_cons_zero, List.getElem_cons_succ])); (refine wpAnyH_take (i := 9) (v := ?_) rfl (by kernel_rfl) (by kernel_rfl) (by kernel_rfl) (fun _ _ _ h => h) (Or.inl ⟨by rfl, ?_⟩) hHeld ?_; rotate_left; (focus (intro w hSw; (try dsimp only at hSw); go_simp; try with_reducible rfl)); (try simp only [Act.put, List.setIfInBounds_toArray, List.set_cons_zero, List.set_cons_succ, List.getElem_toArray, List.getElem_cons_zero, List.getElem_cons_succ])); (refine wpAnyH_take (i := 1) (v := ?_) rfl (by kernel_rfl) (by kernel_rfl) (by kernel_rfl) (fun _ _ _ h => h) (Or.inl ⟨by rfl, ?_⟩) hHeld ?_; rotate_left; (focus (intro w hSw; (try dsimp only at hSw); go_simp; try with_reducible rfl)); (try simp only [Act.put, List.setIfInBounds_toArray, List.set_cons_zero, List.set_cons_succ, List.getElem_toArray, List.getElem_cons_zero, List.getElem_cons_succ])); (refine wpAnyH_take (i := 6) (v := ?_) rfl (by kernel_rfl) (by kernel_rfl) (by kernel_rfl) (fun _ _ _ h => h) (Or.inl ⟨by rfl, ?_⟩) hHeld ?_; rotate_left; (focus (intro w hSw; (try dsimp only at hSw); go_simp; try with_reducible rfl)); (try simp only [Act.put, List.setIfInBounds_toArray, List.set_cons_zero, List.set_cons_succ, List.getElem_toArray, List.getElem_cons_zero, List.getElem_cons_succ]))
  (refine wpAnyH_take (i := 10) (v := ?_) rfl (by kernel_rfl) (by kernel_rfl) (by kernel_rfl) (fun _ _ _ h => h) (Or.inl ⟨by rfl, ?_⟩) hHeld ?_; rotate_left; (focus (intro w hSw; (try dsimp only at hSw); go_simp; ((have hcc := cell_later' hSw HR.out.lt (HR.out.cell (j := 2) rfl)); go_simp; try with_reducible rfl))); (try simp only [Act.put, List.setIfInBounds_toArray, List.set_cons_zero, List.set_cons_succ, List.getElem_toArray, List.getElem_cons_zero, List.getElem_cons_succ]))
  (refine wpAnyH_take (i := 2) (v := ?_) rfl (by kernel_rfl) (by kernel_rfl) (by kernel_rfl) (fun _ _ _ h => h) (Or.inl ⟨by rfl, ?_⟩) hHeld ?_; rotate_left; (focus (intro w hSw; (try dsimp only at hSw); go_simp; ((have hcc := cell_later' hSw HR.out.lt (HR.out.cell (j := 0) rfl)); go_simp; try with_reducible rfl))); (try simp only [Act.put, List.setIfInBounds_toArray, List.set_cons_zero, List.set_cons_succ, List.getElem_toArray, List.getElem_cons_zero, List.getElem_cons_succ]))
  (refine wpAnyH_take (i := 7) (v := ?_) rfl (by kernel_rfl) (by kernel_rfl) (by kernel_rfl) (fun _ _ _ h => h) (Or.inl ⟨by rfl, ?_⟩) hHeld ?_; rotate_left; (focus (intro w hSw; (try dsimp only at hSw); go_simp; ((have hcc := cell_later' hSw HR.out.lt (HR.out.cell (j := 1) rfl)); go_simp; try with_reducible rfl))); (try simp only [Act.put, List.setIfInBounds_toArray, List.set_cons_zero, List.set_cons_succ, List.getElem_toArray, List.getElem_cons_zero, List.getElem_cons_succ]))
  (refine wpAnyH_take (i := 11) (v := ?_) rfl (by kernel_rfl) (by kernel_rfl) (by kernel_rfl) (fun _ _ _ h => h) (Or.inl ⟨by rfl, ?_⟩) hHeld ?_; rotate_left; (focus (intro w hSw; (try dsimp only at hSw); go_simp; try with_reducible rfl)); (try simp only [Act.put, List.setIfInBounds_toArray, List.set_cons_zero, List.set_cons_succ, List.getElem_toArray, List.getElem_cons_zero, List.getElem_cons_succ])); (refine wpAnyH_take (i := 3) (v := ?_) rfl (by kernel_rfl) (by kernel_rfl) (by kernel_rfl) (fun _ _ _ h => h) (Or.inl ⟨by rfl, ?_⟩) hHeld ?_; rotate_left; (focus (intro w hSw; (try dsimp only at hSw); go_simp; try with_reducible rfl)); (try simp only [Act.put, List.setIfInBounds_toArray, List.set_cons_zero, List.set_cons_succ, List.getElem_toArray, List.getElem_cons_zero, List.getElem_cons_succ])); (refine wpAnyH_take (i := 8) (v := ?_) rfl (by kernel_rfl) (by kernel_rfl) (by kernel_rfl) (fun _ _ _ h => h) (Or.inl ⟨by rfl, ?_⟩) hHeld ?_; rotate_left; (focus (intro w hSw; (try dsimp only at hSw); go_simp; try with_reducible rfl)); (try simp only [Act.put, List.setIfInBounds_toArray, List.set_cons_zero, List.set_cons_succ, List.getElem_toArray, List.getElem_cons_zero, List.getElem_cons_succ]))
  exact m4 _ _ _ (by kernel_rfl) rfl hHeld
end Go.Proofs.Ytcahfapffhcceaa
