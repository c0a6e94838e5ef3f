/- The walk of ip.Parse where something is wrong. -/
import Derived.Test.YtccfebaifgnodaaIh
namespace Go.Proofs.Ytccfebaifgnodaa
open Go.RowKit
attribute [local go_sem ↓] Go.wp_at_zero Go.wp_at_succ

set_option maxRecDepth 100000 in
set_option maxHeartbeats 4000000 in
theorem parse_no (v : Value) (l : List UInt8) (hl : l.length ≤ 1000000) (wm : World) (hv : Bytes wm v l) (hf : flt l ≠ 0) :
    Calls Try.prog 10 #[v] wm fun e w' => e = .returned (.tuple #[.agg #[.int .u8 0, .int .u16 0, .bool false, .bool false, .bool false, .int .i64 0, .int .u8 0, .int .u8 0, .int .u32 0, .int .u32 0, .slice none 0 0], .slice none 0 0, .int .i64 (flt l : Nat)]) ∧ Below wm.heap.size wm w' := by
  have HV := Lib.hid hv
  obtain ⟨f, hfe⟩ : ∃ f, f = flt l := ⟨_, rfl⟩
  have hfl := fault_any v l hl
  rw [← hfe] at hf ⊢
  have HF := Lib.hid hfe
  have hA : Below wm.heap.size wm (wm.alloc (.cells #[.int .u8 0, .int .u16 0, .bool false, .bool false, .bool false, .int .i64 0, .int .u8 0, .int .u8 0, .int .u32 0, .int .u32 0, .slice none 0 0] 28)) := (Below.refl _ _).alloc (Nat.le_refl _) _
  have hfa := hfl _ (hv.later hA)
  rw [← hfe] at hfa
  have HFA := Lib.hid hfa
  have g1 : ((f : Int) != 0) = true := by rw [bne_iff_ne]; omega
  clear hfl hfe hv hf hfa
  go_enter Try.func10, Try.ntmps10
  go_wp2_with fail
  refine HFA.out.mono ?_
  rintro e w1 ⟨rfl, hb1⟩
  have hc : ∀ j x, [Value.int .u8 0, .int .u16 0, .bool false, .bool false, .bool false, .int .i64 0, .int .u8 0, .int .u8 0, .int .u32 0, .int .u32 0, .slice none 0 0][j]? = some x → w1.cell? ⟨wm.heap.size, j, none⟩ = some x := fun j x hx => cell_later hb1 (by simp; exact hx)
  have hfz : ∀ j, w1.frozen? ⟨wm.heap.size, j, none⟩ = false := fun j => by rw [hb1.frozen (p := ⟨wm.heap.size, j, none⟩) (by simp)]; simp
  have k0 := hc 0 _ rfl
  have k1 := hc 1 _ rfl
  have k2 := hc 2 _ rfl
  have k3 := hc 3 _ rfl
  have k4 := hc 4 _ rfl
  have k5 := hc 5 _ rfl
  have k6 := hc 6 _ rfl
  have k7 := hc 7 _ rfl
  have k8 := hc 8 _ rfl
  have k9 := hc 9 _ rfl
  have k10 := hc 10 _ rfl
  have hr1 : HdAt wm.heap.size hz w1 := HdAt.later (HdAt.new wm hz) hb1
  obtain ⟨s1, s2, s3, _⟩ := HdAt.set11 (show HdAt wm.heap.size hz w1 from hr1) (.int .u8 0) (.int .u16 0) (.bool false) (.bool false) (.bool false) (.int .i64 0) (.int .u8 0) (.int .u8 0) (.int .u32 0) (.int .u32 0) (.slice none 0 0)
  have Q1 := Lib.hid s1
  have Q4 := Lib.hid ((hA.trans (hb1.mono hA.size)).trans (s3 _ (Nat.le_refl _)))
  clear hc s1 s2 s3 hr1 hA hb1
  go_wp2_with fail
  have d0 := HdAt.cell Q1.out (j := 0) rfl
  have d1 := HdAt.cell Q1.out (j := 1) rfl
  have d2 := HdAt.cell Q1.out (j := 2) rfl
  have d3 := HdAt.cell Q1.out (j := 3) rfl
  have d4 := HdAt.cell Q1.out (j := 4) rfl
  have d5 := HdAt.cell Q1.out (j := 5) rfl
  have d6 := HdAt.cell Q1.out (j := 6) rfl
  have d7 := HdAt.cell Q1.out (j := 7) rfl
  have d8 := HdAt.cell Q1.out (j := 8) rfl
  have d9 := HdAt.cell Q1.out (j := 9) rfl
  have d10 := HdAt.cell Q1.out (j := 10) rfl
  exact bodyPost_ret (v := .tuple #[.agg #[.int .u8 0, .int .u16 0, .bool false, .bool false, .bool false, .int .i64 0, .int .u8 0, .int .u8 0, .int .u32 0, .int .u32 0, .slice none 0 0], .slice none 0 0, .int .i64 (f : Nat)]) (by simp [results, Try.results10, go_sem, d0, d1, d2, d3, d4, d5, d6, d7, d8, d9, d10]) rfl ⟨rfl, Q4.out⟩
end Go.Proofs.Ytccfebaifgnodaa
