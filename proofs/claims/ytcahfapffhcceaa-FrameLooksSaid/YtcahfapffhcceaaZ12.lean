/- The walk of known: the chapter's rows of frame hold. -/
import Derived.Test.YtcahfapffhcceaaZ08
import Derived.Test.YtcahfapffhcceaaZ11

set_option linter.unusedSimpArgs false
set_option linter.unusedVariables false
namespace Go.Proofs.Ytcahfapffhcceaa
open Go.RowKit
attribute [local go_sem ↓] Go.wp_at_zero Go.wp_at_succ

theorem num6_any (n : Int) (w : World) : Calls Try.prog 13 #[.int .i64 n] w fun e w' => e = .returned (.int .i64 n) ∧ w = w' := by
  go_enter Try.func13, Try.ntmps13
  go_wp2
  go_ret
  exact ⟨rfl, rfl⟩
def k6f : Fr := ⟨1, 2, 1, 1, 0, 0, 0, 0⟩
def K6A (w : World) (e : Ending) (w' : World) : Prop := ∃ b o c, e = .returned (.tuple #[.slice (some ⟨b, o, none⟩) 54 c, .int .i64 0]) ∧ b < w'.heap.size ∧ 54 ≤ c ∧ (w'.cell? ⟨b, o, none⟩ = some (.int .u8 1) ∧ w'.cell? ⟨b, o + 1, none⟩ = some (.int .u8 2) ∧ w'.cell? ⟨b, o + 9, none⟩ = some (.int .u8 1) ∧ w'.cell? ⟨b, o + 17, none⟩ = some (.int .u8 1) ∧ w'.cell? ⟨b, o + 51, none⟩ = some (.int .u8 0)) ∧ Below w.heap.size w w'
theorem k6_bytes (w : World) : Calls Try.prog 9 #[.agg #[.int .i64 1, .int .i64 2, .int .u64 1, .int .u64 1, .int .u64 0, .int .u64 0, .int .u64 0, .int .u64 0, .slice none 0 0]] w (K6A w) := by
  refine (bytesF_yes k6f ⟨by decide, by decide, by decide, by decide, by decide, by decide, by decide, by decide⟩ (.slice none 0 0) [] w (Bytes.nil _ _ _) (by decide +kernel)).mono ?_
  rintro e w' ⟨v, rfl, ho, hb⟩
  obtain ⟨b, o, c, rfl, hbl, hc⟩ := long_form ho.bytes (by rw [frL_length]; omega)
  have hl : (frL k6f []).length = 54 := by rw [frL_length]; rfl
  have hx := ho.bytes
  rcases hx with ⟨h0, _⟩ | ⟨b', o', c', e, _, _, hx⟩
  · rw [h0] at hl; cases hl
  · simp only [Value.slice.injEq, Option.some.injEq, Addr.mk.injEq] at e
    obtain ⟨⟨rfl, rfl, _⟩, _, rfl⟩ := e
    rw [hl] at hc ⊢
    exact ⟨b, o, c, rfl, hbl, hc, ⟨hx 0 1 (by decide +kernel), hx 1 2 (by decide +kernel), hx 9 1 (by decide +kernel), hx 17 1 (by decide +kernel), hx 51 0 (by decide +kernel)⟩, hb⟩
theorem k6_of (v : Value) (w : World) (h : Bytes w v (List.replicate 54 0)) : Calls Try.prog 14 #[v] w fun e w' => (∃ a c, e = .returned (.tuple #[.agg #[.int .i64 0, .int .i64 0, .int .u64 0, .int .u64 0, .int .u64 0, .int .u64 0, .int .u64 0, .int .u64 0, .slice a 0 c], .int .i64 4])) ∧ Below w.heap.size w w' := by
  refine (of6W_any v _ w h (by simp)).mono ?_
  rintro e w' ⟨u, rfl, ho, hb⟩
  obtain ⟨e1, e2, e3⟩ := o_no (l := List.replicate 54 0) (by decide +kernel)
  rw [e2] at ho
  obtain ⟨a, c, rfl⟩ := ho.form
  exact ⟨⟨a, c, by rw [e1, e3]; rfl⟩, hb⟩
theorem k6_may (s : Nat) (r : Bool) (hr : mayF ⟨2, 2, 1, 1, 1, 1, s, 0⟩ [10, 0, 0, 0, 8, 5] = r) (v : Value) (w : World) (h : Bytes w v [10, 0, 0, 0, 8, 5]) : Calls Try.prog 10 #[.agg #[.int .i64 2, .int .i64 2, .int .u64 1, .int .u64 1, .int .u64 1, .int .u64 1, .int .u64 (s : Nat), .int .u64 0, v]] w fun e w' => e = .returned (.bool r) ∧ Below w.heap.size w w' :=
  (mayW6_any ⟨2, 2, 1, 1, 1, 1, s, 0⟩ v _ w h (by decide)).mono fun _ _ ⟨he, hb⟩ => ⟨he.trans (ret_b hr), hb⟩

set_option maxHeartbeats 8000000 in
set_option maxRecDepth 100000 in
theorem known6_any (w : World) : Calls Try.prog 8 #[] w fun e w' => e = .returned (.bool true) ∧ Below w.heap.size w w' := by
  go_enter Try.func8, Try.ntmps8
  go_wp2_with fail
  refine (k6_bytes _).mono ?_
  rintro e w1 ⟨b, o, c, rfl, hbl, hc54, hcs, hb1⟩
  obtain ⟨w2, hmk, hoz, hbz⟩ : ∃ w2, (Instr.makeSlice 26 (.int .i64 54) (.int .i64 54)).run Try.prog w1 = .ok (.slice (some ⟨w1.heap.size, 0, none⟩) 54 54) w2 ∧ OwnB w2 w1.heap.size (.slice (some ⟨w1.heap.size, 0, none⟩) 54 54) (List.replicate 54 0) ∧ Below w1.heap.size w1 w2 := make_zeros 54 w1 (by omega)
  have HCS := Lib.hid hcs
  have HBL := Lib.hid hbl
  have HB := Lib.hid (below_of hb1 hbz)
  have HBZ := Lib.hid hbz
  have HOZ := Lib.hid hoz
  have kc : 54 ≤ c := hc54
  clear hcs hb1 hbz hoz hc54 hbl
  go_wp2_with fail
  refine (k6_of _ _ HOZ.out.bytes).mono ?_
  rintro e w3 ⟨⟨ua, uc, rfl⟩, hb3⟩
  have HB := Lib.hid (below_of HB.out hb3)
  have HB13 := Lib.hid (below_of HBZ.out hb3)
  have HB3 : Hid (w.heap.size ≤ w3.heap.size) := HB.out.size
  clear hb3 hmk
  go_wp2_with fail
  obtain ⟨wz, hwz⟩ : ∃ wz, wz = (((w3.alloc (.cells #[.int .i64 0, .int .i64 0, .int .u64 0, .int .u64 0, .int .u64 0, .int .u64 0, .int .u64 0, .int .u64 0, .slice ua 0 uc] 28)).alloc (.cells #[.int .u8 10, .int .u8 0, .int .u8 0, .int .u8 0, .int .u8 8, .int .u8 5] 5)).alloc (.cells #[.int .i64 2, .int .i64 2, .int .u64 1, .int .u64 1, .int .u64 1, .int .u64 1, .int .u64 0, .int .u64 0, .slice (some ⟨w3.heap.size + 1, 0, none⟩) 6 6] 28)) := ⟨_, rfl⟩
  have hb3z : Below w3.heap.size w3 wz := by rw [hwz]; go_grown
  have HC := Lib.hid (show BlkAt 28 (w3.heap.size + 1 + 1) [.int .i64 2, .int .i64 2, .int .u64 1, .int .u64 1, .int .u64 1, .int .u64 1, .int .u64 0, .int .u64 0, .slice (some ⟨w3.heap.size + 1, 0, none⟩) 6 6] wz by
    have h9 := BlkAt.new (t := 28) ((w3.alloc (.cells #[.int .i64 0, .int .i64 0, .int .u64 0, .int .u64 0, .int .u64 0, .int .u64 0, .int .u64 0, .int .u64 0, .slice ua 0 uc] 28)).alloc (.cells #[.int .u8 10, .int .u8 0, .int .u8 0, .int .u8 0, .int .u8 8, .int .u8 5] 5)) [.int .i64 2, .int .i64 2, .int .u64 1, .int .u64 1, .int .u64 1, .int .u64 1, .int .u64 0, .int .u64 0, .slice (some ⟨w3.heap.size + 1, 0, none⟩) 6 6]
    rw [hwz]; simpa using h9)
  have HY := Lib.hid (show Bytes wz (.slice (some ⟨w3.heap.size + 1, 0, none⟩) 6 6) [10, 0, 0, 0, 8, 5] by
    have h9 : Bytes ((w3.alloc (.cells #[.int .i64 0, .int .i64 0, .int .u64 0, .int .u64 0, .int .u64 0, .int .u64 0, .int .u64 0, .int .u64 0, .slice ua 0 uc] 28)).alloc (.cells #[.int .u8 10, .int .u8 0, .int .u8 0, .int .u8 0, .int .u8 8, .int .u8 5] 5)) (.slice (some ⟨(w3.alloc (.cells #[.int .i64 0, .int .i64 0, .int .u64 0, .int .u64 0, .int .u64 0, .int .u64 0, .int .u64 0, .int .u64 0, .slice ua 0 uc] 28)).heap.size, 0, none⟩) 6 6) [10, 0, 0, 0, 8, 5] := bytes_lit _ _
    have h8 := h9.later ((Below.refl _ _).alloc (Nat.le_refl _) (.cells #[.int .i64 2, .int .i64 2, .int .u64 1, .int .u64 1, .int .u64 1, .int .u64 1, .int .u64 0, .int .u64 0, .slice (some ⟨w3.heap.size + 1, 0, none⟩) 6 6] 28))
    rw [World.size_alloc] at h8
    rw [hwz]; exact h8)
  have HB := Lib.hid (below_of HB.out hb3z)
  have HB13 := Lib.hid (below_of HB13.out hb3z)
  rw [← hwz]
  clear hwz hb3z
  obtain ⟨y0, y1, y9, y17, y51⟩ := HCS.out
  have x0 := cell_later' HB13.out HBL.out y0
  have x1 := cell_later' HB13.out HBL.out y1
  have x9 := cell_later' HB13.out HBL.out y9
  have x17 := cell_later' HB13.out HBL.out y17
  have x51 := cell_later' HB13.out HBL.out y51
  clear y0 y1 y9 y17 y51
  obtain ⟨c0, c1, c2, c3, c4, c5, c6, c7, c8⟩ := blk9 HC.out
  go_wp2_with (go_at_call 13; refine (num6_any _ _).mono ?_; rintro e wn ⟨rfl, rfl⟩)
  refine (k6_may 0 false (by decide +kernel) _ _ HY.out).mono ?_
  rintro e w4 ⟨rfl, hb⟩
  have HC := Lib.hid (HC.out.later hb)
  have HY := Lib.hid (Bytes.later HY.out hb)
  have HB := Lib.hid (below_of HB.out hb)
  clear hb c0 c1 c2 c3 c4 c5 c6 c7 c8 x0 x1 x9 x17 x51
  obtain ⟨c0, c1, c2, c3, c4, c5, c6, c7, c8⟩ := blk9 HC.out
  have hfz : w4.frozen? ⟨w3.heap.size + 1 + 1, 6, none⟩ = false := BlkAt.frozen HC.out 6
  go_wp2_with fail
  have hy5 : Bytes (w4.setCell ⟨w3.heap.size + 1 + 1, 6, none⟩ (.int .u64 1)) (.slice (some ⟨w3.heap.size + 1, 0, none⟩) 6 6) [10, 0, 0, 0, 8, 5] := by
    rcases HY.out with ⟨h, _⟩ | ⟨b', o', c', e, hb, hc, hx⟩
    · cases h
    · simp only [Value.slice.injEq, Option.some.injEq, Addr.mk.injEq] at e
      obtain ⟨⟨rfl, rfl, _⟩, _, rfl⟩ := e
      exact .inr ⟨_, _, _, rfl, by simpa using hb, hc, fun j x hj => (cell_block (Below.heap_setCell _ _ _ _ (by simp))).trans (hx j x hj)⟩
  have hb5 : Below w.heap.size w (w4.setCell ⟨w3.heap.size + 1 + 1, 6, none⟩ (.int .u64 1)) := HB.out.setCell (by simp; have := HB3.out; omega) _
  have HB := Lib.hid hb5
  refine (k6_may 1 true (by decide +kernel) _ _ hy5).mono ?_
  rintro e w5 ⟨rfl, hb⟩
  have HB := Lib.hid (below_of HB.out hb)
  clear hb hb5 hy5 c0 c1 c2 c3 c4 c5 c6 c7 c8 hfz
  go_wp2_with fail
  refine (head_any _).mono ?_
  rintro e wn ⟨rfl, rfl⟩
  go_wp2_with fail
  go_ret
  exact ⟨rfl, HB.out⟩
end Go.Proofs.Ytcahfapffhcceaa
