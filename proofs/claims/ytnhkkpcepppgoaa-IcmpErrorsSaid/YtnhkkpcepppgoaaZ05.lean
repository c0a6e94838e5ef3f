/- The walk of ip.flags; the bytes of a header, plain.
   The walks of ip.May, ip.Size, ip.flags.
   Bits of a header's word of flags; numbers of one byte.
   The walks of slices.Grow of nothing, slices.Concat, wire.Join.
   The walks of the first reference's Much and Join.
   The walk of ref04.Of; Of, the program's and the reference's, in one contract each. -/
import Derived.Deep.AppendLies
import Derived.Laws.AppendOwnNone
import Derived.Lib.SliceRun
import Derived.Lib.AppendZerosOnto
import Derived.Test.YtnhkkpcepppgoaaZ01
import Derived.Test.YtnhkkpcepppgoaaZ02
import Derived.Test.YtnhkkpcepppgoaaZ03
import Derived.Test.YtnhkkpcepppgoaaZ04

set_option linter.unusedSimpArgs false
set_option linter.unusedVariables false
namespace Go.Proofs.Ytnhkkpcepppgoaa
open Go.RowKit
attribute [local go_sem ↓] Go.wp_at_zero Go.wp_at_succ

set_option maxHeartbeats 4000000 in
set_option maxRecDepth 100000 in
theorem ofR_no (a : Option Addr) (c : Nat) (l : List UInt8) (wm : World) (hv : Bytes wm (.slice a l.length c) l) (hl : l.length ≤ 10000) (h : okM l = false) :
    Calls Try.prog 28 #[.slice a l.length c] wm fun e w' => e = .returned (.tuple #[MZ, .bool false]) ∧ Below wm.heap.size wm w' := by
  obtain ⟨n, hn⟩ : ∃ n, n = l.length := ⟨_, rfl⟩
  have hA : Below wm.heap.size wm (wm.alloc (.cells #[.int .u8 0, .int .u8 0, .int .u8 0, .int .u8 0, .int .u8 0, .int .u8 0, .slice none 0 0] 46)) := (Below.refl _ _).alloc (Nat.le_refl _) _
  have hr0 : BlkAt 46 wm.heap.size mzc (wm.alloc (.cells #[.int .u8 0, .int .u8 0, .int .u8 0, .int .u8 0, .int .u8 0, .int .u8 0, .slice none 0 0] 46)) := BlkAt.new wm mzc
  have hgd := totalR_any _ l _ (hv.later hA) hl
  have HGD := Lib.hid hgd
  have HA := Lib.hid hA
  have HR0 := Lib.hid hr0
  have HN := Lib.hid hn
  have HH := Lib.hid h
  rw [← hn]
  rw [← hn] at HGD
  clear hgd hA hr0 hv
  have fin : ∀ w1, Below (wm.alloc (.cells #[.int .u8 0, .int .u8 0, .int .u8 0, .int .u8 0, .int .u8 0, .int .u8 0, .slice none 0 0] 46)).heap.size (wm.alloc (.cells #[.int .u8 0, .int .u8 0, .int .u8 0, .int .u8 0, .int .u8 0, .int .u8 0, .slice none 0 0] 46)) w1 → Hid (BlkAt 46 wm.heap.size mzc w1) ∧ Hid (Below wm.heap.size wm w1) := fun w1 hb => ⟨HR0.out.later hb, HA.out.trans (hb.mono HA.out.size)⟩
  by_cases h8 : n < 8
  · have k1 : (n : Int) < 8 := by omega
    obtain ⟨R1, B1⟩ := fin _ (Below.refl _ _)
    clear fin h hl hn
    go_enter Try.func28, Try.ntmps28
    go_wp2_with fail
    exact bodyPost_ret (v := .tuple #[MZ, .bool false]) (by simp [results, Try.results28, go_sem, MZ]) rfl ⟨rfl, B1.out⟩
  · have k1 : (8 : Int) ≤ n := by omega
    have ht : Sm.tot l ≠ 65535 := by
      unfold okM at h; rw [decide_eq_true (by omega)] at h; simpa using h
    obtain ⟨t, hte⟩ : ∃ t, t = Sm.tot l := ⟨_, rfl⟩
    rw [← hte] at HGD ht
    have kt : ((t : Int) != 65535) = true := by rw [bne_iff_ne]; omega
    clear h hl hn ht hte
    go_enter Try.func28, Try.ntmps28
    go_wp2_with fail
    refine HGD.out.mono ?_
    rintro e w1 ⟨rfl, hb1⟩
    obtain ⟨R1, B1⟩ := fin _ hb1
    clear fin hb1
    have hc : ∀ j x, mzc[j]? = some x → w1.cell? ⟨wm.heap.size, j, none⟩ = some x := fun j x hx => R1.out.cell hx
    have hfz : ∀ j, w1.frozen? ⟨wm.heap.size, j, none⟩ = false := fun j => R1.out.frozen j
    have k0 := hc 0 _ rfl
    have k1 := hc 1 _ rfl
    have k2 := hc 2 _ rfl
    have k3 := hc 3 _ rfl
    have k4 := hc 4 _ rfl
    have k5 := hc 5 _ rfl
    have k6 := hc 6 _ rfl
    obtain ⟨s1, s2, s3⟩ := BlkAt.set7 ic_ne (show BlkAt 46 wm.heap.size [.int .u8 0, .int .u8 0, .int .u8 0, .int .u8 0, .int .u8 0, .int .u8 0, .slice none 0 0] w1 from R1.out) (.int .u8 0) (.int .u8 0) (.int .u8 0) (.int .u8 0) (.int .u8 0) (.int .u8 0) (.slice none 0 0)
    have Q1 := Lib.hid s1
    have Q4 := Lib.hid (B1.out.trans (s3 _ (Nat.le_refl _)))
    clear hc s1 s2 s3
    go_wp2_with fail
    have d0 := BlkAt.cell Q1.out (j := 0) rfl
    have d1 := BlkAt.cell Q1.out (j := 1) rfl
    have d2 := BlkAt.cell Q1.out (j := 2) rfl
    have d3 := BlkAt.cell Q1.out (j := 3) rfl
    have d4 := BlkAt.cell Q1.out (j := 4) rfl
    have d5 := BlkAt.cell Q1.out (j := 5) rfl
    have d6 := BlkAt.cell Q1.out (j := 6) rfl
    exact bodyPost_ret (v := .tuple #[MZ, .bool false]) (by simp [results, Try.results28, go_sem, d0, d1, d2, d3, d4, d5, d6, MZ]) rfl ⟨rfl, Q4.out⟩

set_option maxHeartbeats 8000000 in
set_option maxRecDepth 100000 in
theorem ofR_yes (a : Option Addr) (c : Nat) (l : List UInt8) (wm : World) (hv : Bytes wm (.slice a l.length c) l) (hl : l.length ≤ 10000) (h : okM l = true) :
    Calls Try.prog 28 #[.slice a l.length c] wm fun e w' => ∃ u, e = .returned (.tuple #[.agg #[.int .u8 (Sm.at0 l 0 : Nat), .int .u8 (Sm.at0 l 1 : Nat), .int .u8 (Sm.at0 l 4 : Nat), .int .u8 (Sm.at0 l 5 : Nat), .int .u8 (Sm.at0 l 6 : Nat), .int .u8 (Sm.at0 l 7 : Nat), u], .bool true]) ∧ Bytes w' u (l.drop 8) ∧ Below wm.heap.size wm w' := by
  obtain ⟨h8, ht⟩ : 8 ≤ l.length ∧ Sm.tot l = 65535 := by
    unfold okM at h; simpa using h
  obtain ⟨b, o, rfl, hbl⟩ : ∃ b o, a = some ⟨b, o, none⟩ ∧ b < wm.heap.size := by
    rcases hv with ⟨rfl, _⟩ | ⟨b, o, c', e, hb, _⟩
    · simp at h8
    · simp only [Value.slice.injEq] at e; exact ⟨b, o, e.1, hb⟩
  obtain ⟨n, hn⟩ : ∃ n, n = l.length := ⟨_, rfl⟩
  have hA : Below wm.heap.size wm (wm.alloc (.cells #[.int .u8 0, .int .u8 0, .int .u8 0, .int .u8 0, .int .u8 0, .int .u8 0, .slice none 0 0] 46)) := (Below.refl _ _).alloc (Nat.le_refl _) _
  have hr0 : BlkAt 46 wm.heap.size mzc (wm.alloc (.cells #[.int .u8 0, .int .u8 0, .int .u8 0, .int .u8 0, .int .u8 0, .int .u8 0, .slice none 0 0] 46)) := BlkAt.new wm mzc
  have hgd := totalR_any _ l _ (hv.later hA) hl
  rw [ht] at hgd
  obtain ⟨a8, hs8, hb8⟩ := hv.cut_l 8 8 rfl h8
  have hcell : ∀ k, k < l.length → wm.cell? ⟨b, o + k, none⟩ = some (.int .u8 (Sm.at0 l k : Nat)) := by
    intro k hk
    rcases hv with ⟨rfl, _⟩ | ⟨b', o', c', e, _, _, hx⟩
    · simp at h8
    · simp only [Value.slice.injEq, Option.some.injEq, Addr.mk.injEq] at e
      obtain ⟨⟨rfl, rfl, _⟩, _⟩ := e
      rw [hx k l[k] (by simp [hk]), at0_get hk]
  have HGD := Lib.hid hgd
  have HA := Lib.hid hA
  have HR0 := Lib.hid hr0
  have HCL := Lib.hid hcell
  have HB8m := Lib.hid hb8
  have HLN : Hid (8 ≤ l.length ∧ l.length ≤ 10000 ∧ n = l.length) := ⟨h8, hl, hn⟩
  have k1 : (8 : Int) ≤ n := by omega
  have k2 : n ≤ c := by have := hv.cap; omega
  have hi0 : 0 < n ∧ 1 < n ∧ 4 < n ∧ 5 < n ∧ 6 < n ∧ 7 < n := by omega
  have hj0 : (0 : Int) < n ∧ (1 : Int) < n ∧ (4 : Int) < n ∧ (5 : Int) < n ∧ (6 : Int) < n ∧ (7 : Int) < n := by omega
  obtain ⟨i0, i1, i4, i5, i6, i7⟩ := hi0
  obtain ⟨j0, j1, j4, j5, j6, j7⟩ := hj0
  rw [← hn]
  rw [← hn] at HGD HB8m hs8
  clear hgd hA hr0 hv hcell hb8 h hn h8 hl ht
  obtain ⟨e0, he0⟩ : ∃ e, e = Sm.at0 l 0 := ⟨_, rfl⟩
  obtain ⟨e1, he1⟩ : ∃ e, e = Sm.at0 l 1 := ⟨_, rfl⟩
  obtain ⟨f4, hf4⟩ : ∃ e, e = Sm.at0 l 4 := ⟨_, rfl⟩
  obtain ⟨f5, hf5⟩ : ∃ e, e = Sm.at0 l 5 := ⟨_, rfl⟩
  obtain ⟨f6, hf6⟩ : ∃ e, e = Sm.at0 l 6 := ⟨_, rfl⟩
  obtain ⟨f7, hf7⟩ : ∃ e, e = Sm.at0 l 7 := ⟨_, rfl⟩
  have HE : Hid (e0 = Sm.at0 l 0 ∧ e1 = Sm.at0 l 1 ∧ f4 = Sm.at0 l 4 ∧ f5 = Sm.at0 l 5 ∧ f6 = Sm.at0 l 6 ∧ f7 = Sm.at0 l 7) := ⟨he0, he1, hf4, hf5, hf6, hf7⟩
  clear he0 he1 hf4 hf5 hf6 hf7
  go_enter Try.func28, Try.ntmps28
  go_wp2_with fail
  refine HGD.out.mono ?_
  rintro e w ⟨rfl, hb1⟩
  have HBM := Lib.hid (HA.out.trans (hb1.mono HA.out.size))
  have HRM : Hid (BlkAt 46 wm.heap.size mzc w) := HR0.out.later hb1
  have C0 : Hid (wm.cell? ⟨b, o, none⟩ = some (.int .u8 (e0 : Nat))) := by rw [HE.out.1]; exact HCL.out 0 (by have := HLN.out; omega)
  have C1 : Hid (wm.cell? ⟨b, o + 1, none⟩ = some (.int .u8 (e1 : Nat))) := by rw [HE.out.2.1]; exact HCL.out 1 (by have := HLN.out; omega)
  have C4 : Hid (wm.cell? ⟨b, o + 4, none⟩ = some (.int .u8 (f4 : Nat))) := by rw [HE.out.2.2.1]; exact HCL.out 4 (by have := HLN.out; omega)
  have C5 : Hid (wm.cell? ⟨b, o + 5, none⟩ = some (.int .u8 (f5 : Nat))) := by rw [HE.out.2.2.2.1]; exact HCL.out 5 (by have := HLN.out; omega)
  have C6 : Hid (wm.cell? ⟨b, o + 6, none⟩ = some (.int .u8 (f6 : Nat))) := by rw [HE.out.2.2.2.2.1]; exact HCL.out 6 (by have := HLN.out; omega)
  have C7 : Hid (wm.cell? ⟨b, o + 7, none⟩ = some (.int .u8 (f7 : Nat))) := by rw [HE.out.2.2.2.2.2]; exact HCL.out 7 (by have := HLN.out; omega)
  clear hb1 HGD HR0
  go_wp2_with fail
  (refine wp_region_held_drew (S := (fun w' => Below wm.heap.size wm w')) (by kernel_rfl) ?_ (fun hHeld => ?_); (focus ((try dsimp only); (exact HBM.out.drew))))
  (try dsimp only at hHeld)
  obtain ⟨w4, hw4⟩ : ∃ w4, w4 = World.drew w := ⟨_, rfl⟩
  have HR4 : Hid (BlkAt 46 wm.heap.size mzc w4) := by rw [hw4]; exact HRM.out
  rw [← hw4]
  rw [← hw4] at hHeld
  clear hw4
  (refine wpAnyH_take (i := 0) (v := ?_) rfl (by kernel_rfl) (by kernel_rfl) (by kernel_rfl) (fun _ _ _ h => h) (Or.inl ⟨by rfl, ?_⟩) hHeld ?_; rotate_left; (focus (intro w hSw; (try dsimp only at hSw); go_simp; try with_reducible rfl)); (try simp only [Act.put, List.setIfInBounds_toArray, List.set_cons_zero, List.set_cons_succ, List.getElem_toArray, List.getElem_cons_zero])); (refine wpAnyH_take (i := 1) (v := ?_) rfl (by kernel_rfl) (by kernel_rfl) (by kernel_rfl) (fun _ _ _ h => h) (Or.inl ⟨by rfl, ?_⟩) hHeld ?_; rotate_left; (focus (intro w hSw; (try dsimp only at hSw); go_simp; try with_reducible rfl)); (try simp only [Act.put, List.setIfInBounds_toArray, List.set_cons_zero, List.set_cons_succ, List.getElem_toArray, List.getElem_cons_zero, List.getElem_cons_succ]))
  (refine wpAnyH_take (i := 2) (v := ?_) rfl (by kernel_rfl) (by kernel_rfl) (by kernel_rfl) (fun _ _ _ h => h) (Or.inl ⟨by rfl, ?_⟩) hHeld ?_; rotate_left; (focus (intro w hSw; (try dsimp only at hSw); go_simp; (have hcc := cell_later' hSw hbl C0.out; go_simp; try with_reducible rfl))); (try simp only [Act.put, List.setIfInBounds_toArray, List.set_cons_zero, List.set_cons_succ, List.getElem_toArray, List.getElem_cons_zero, List.getElem_cons_succ]))
  (refine wpAnyH_take (i := 3) (v := ?_) rfl (by kernel_rfl) (by kernel_rfl) (by kernel_rfl) (fun _ _ _ h => h) (Or.inl ⟨by rfl, ?_⟩) hHeld ?_; rotate_left; (focus (intro w hSw; (try dsimp only at hSw); go_simp; try with_reducible rfl)); (try simp only [Act.put, List.setIfInBounds_toArray, List.set_cons_zero, List.set_cons_succ, List.getElem_toArray, List.getElem_cons_zero, List.getElem_cons_succ])); (refine wpAnyH_take (i := 4) (v := ?_) rfl (by kernel_rfl) (by kernel_rfl) (by kernel_rfl) (fun _ _ _ h => h) (Or.inl ⟨by rfl, ?_⟩) hHeld ?_; rotate_left; (focus (intro w hSw; (try dsimp only at hSw); go_simp; try with_reducible rfl)); (try simp only [Act.put, List.setIfInBounds_toArray, List.set_cons_zero, List.set_cons_succ, List.getElem_toArray, List.getElem_cons_zero, List.getElem_cons_succ]))
  (refine wpAnyH_take (i := 5) (v := ?_) rfl (by kernel_rfl) (by kernel_rfl) (by kernel_rfl) (fun _ _ _ h => h) (Or.inl ⟨by rfl, ?_⟩) hHeld ?_; rotate_left; (focus (intro w hSw; (try dsimp only at hSw); go_simp; (have hcc := cell_later' hSw hbl C1.out; go_simp; try with_reducible rfl))); (try simp only [Act.put, List.setIfInBounds_toArray, List.set_cons_zero, List.set_cons_succ, List.getElem_toArray, List.getElem_cons_zero, List.getElem_cons_succ]))
  (refine wpAnyH_take (i := 6) (v := ?_) rfl (by kernel_rfl) (by kernel_rfl) (by kernel_rfl) (fun _ _ _ h => h) (Or.inl ⟨by rfl, ?_⟩) hHeld ?_; rotate_left; (focus (intro w hSw; (try dsimp only at hSw); go_simp; try with_reducible rfl)); (try simp only [Act.put, List.setIfInBounds_toArray, List.set_cons_zero, List.set_cons_succ, List.getElem_toArray, List.getElem_cons_zero, List.getElem_cons_succ])); (refine wpAnyH_take (i := 7) (v := ?_) rfl (by kernel_rfl) (by kernel_rfl) (by kernel_rfl) (fun _ _ _ h => h) (Or.inl ⟨by rfl, ?_⟩) hHeld ?_; rotate_left; (focus (intro w hSw; (try dsimp only at hSw); go_simp; try with_reducible rfl)); (try simp only [Act.put, List.setIfInBounds_toArray, List.set_cons_zero, List.set_cons_succ, List.getElem_toArray, List.getElem_cons_zero, List.getElem_cons_succ]))
  (refine wpAnyH_take (i := 8) (v := ?_) rfl (by kernel_rfl) (by kernel_rfl) (by kernel_rfl) (fun _ _ _ h => h) (Or.inl ⟨by rfl, ?_⟩) hHeld ?_; rotate_left; (focus (intro w hSw; (try dsimp only at hSw); go_simp; (have hcc := cell_later' hSw hbl C4.out; go_simp; try with_reducible rfl))); (try simp only [Act.put, List.setIfInBounds_toArray, List.set_cons_zero, List.set_cons_succ, List.getElem_toArray, List.getElem_cons_zero, List.getElem_cons_succ]))
  (refine wpAnyH_take (i := 9) (v := ?_) rfl (by kernel_rfl) (by kernel_rfl) (by kernel_rfl) (fun _ _ _ h => h) (Or.inl ⟨by rfl, ?_⟩) hHeld ?_; rotate_left; (focus (intro w hSw; (try dsimp only at hSw); go_simp; try with_reducible rfl)); (try simp only [Act.put, List.setIfInBounds_toArray, List.set_cons_zero, List.set_cons_succ, List.getElem_toArray, List.getElem_cons_zero, List.getElem_cons_succ])); (refine wpAnyH_take (i := 10) (v := ?_) rfl (by kernel_rfl) (by kernel_rfl) (by kernel_rfl) (fun _ _ _ h => h) (Or.inl ⟨by rfl, ?_⟩) hHeld ?_; rotate_left; (focus (intro w hSw; (try dsimp only at hSw); go_simp; try with_reducible rfl)); (try simp only [Act.put, List.setIfInBounds_toArray, List.set_cons_zero, List.set_cons_succ, List.getElem_toArray, List.getElem_cons_zero, List.getElem_cons_succ]))
  (refine wpAnyH_take (i := 11) (v := ?_) rfl (by kernel_rfl) (by kernel_rfl) (by kernel_rfl) (fun _ _ _ h => h) (Or.inl ⟨by rfl, ?_⟩) hHeld ?_; rotate_left; (focus (intro w hSw; (try dsimp only at hSw); go_simp; (have hcc := cell_later' hSw hbl C5.out; go_simp; try with_reducible rfl))); (try simp only [Act.put, List.setIfInBounds_toArray, List.set_cons_zero, List.set_cons_succ, List.getElem_toArray, List.getElem_cons_zero, List.getElem_cons_succ]))
  (refine wpAnyH_take (i := 12) (v := ?_) rfl (by kernel_rfl) (by kernel_rfl) (by kernel_rfl) (fun _ _ _ h => h) (Or.inl ⟨by rfl, ?_⟩) hHeld ?_; rotate_left; (focus (intro w hSw; (try dsimp only at hSw); go_simp; try with_reducible rfl)); (try simp only [Act.put, List.setIfInBounds_toArray, List.set_cons_zero, List.set_cons_succ, List.getElem_toArray, List.getElem_cons_zero, List.getElem_cons_succ])); (refine wpAnyH_take (i := 13) (v := ?_) rfl (by kernel_rfl) (by kernel_rfl) (by kernel_rfl) (fun _ _ _ h => h) (Or.inl ⟨by rfl, ?_⟩) hHeld ?_; rotate_left; (focus (intro w hSw; (try dsimp only at hSw); go_simp; try with_reducible rfl)); (try simp only [Act.put, List.setIfInBounds_toArray, List.set_cons_zero, List.set_cons_succ, List.getElem_toArray, List.getElem_cons_zero, List.getElem_cons_succ]))
  (refine wpAnyH_take (i := 14) (v := ?_) rfl (by kernel_rfl) (by kernel_rfl) (by kernel_rfl) (fun _ _ _ h => h) (Or.inl ⟨by rfl, ?_⟩) hHeld ?_; rotate_left; (focus (intro w hSw; (try dsimp only at hSw); go_simp; (have hcc := cell_later' hSw hbl C6.out; go_simp; try with_reducible rfl))); (try simp only [Act.put, List.setIfInBounds_toArray, List.set_cons_zero, List.set_cons_succ, List.getElem_toArray, List.getElem_cons_zero, List.getElem_cons_succ]))
  (refine wpAnyH_take (i := 15) (v := ?_) rfl (by kernel_rfl) (by kernel_rfl) (by kernel_rfl) (fun _ _ _ h => h) (Or.inl ⟨by rfl, ?_⟩) hHeld ?_; rotate_left; (focus (intro w hSw; (try dsimp only at hSw); go_simp; try with_reducible rfl)); (try simp only [Act.put, List.setIfInBounds_toArray, List.set_cons_zero, List.set_cons_succ, List.getElem_toArray, List.getElem_cons_zero, List.getElem_cons_succ])); (refine wpAnyH_take (i := 16) (v := ?_) rfl (by kernel_rfl) (by kernel_rfl) (by kernel_rfl) (fun _ _ _ h => h) (Or.inl ⟨by rfl, ?_⟩) hHeld ?_; rotate_left; (focus (intro w hSw; (try dsimp only at hSw); go_simp; try with_reducible rfl)); (try simp only [Act.put, List.setIfInBounds_toArray, List.set_cons_zero, List.set_cons_succ, List.getElem_toArray, List.getElem_cons_zero, List.getElem_cons_succ]))
  (refine wpAnyH_take (i := 17) (v := ?_) rfl (by kernel_rfl) (by kernel_rfl) (by kernel_rfl) (fun _ _ _ h => h) (Or.inl ⟨by rfl, ?_⟩) hHeld ?_; rotate_left; (focus (intro w hSw; (try dsimp only at hSw); go_simp; (have hcc := cell_later' hSw hbl C7.out; go_simp; try with_reducible rfl))); (try simp only [Act.put, List.setIfInBounds_toArray, List.set_cons_zero, List.set_cons_succ, List.getElem_toArray, List.getElem_cons_zero, List.getElem_cons_succ]))
  (refine wpAnyH_take (i := 18) (v := ?_) rfl (by kernel_rfl) (by kernel_rfl) (by kernel_rfl) (fun _ _ _ h => h) (Or.inl ⟨by rfl, ?_⟩) hHeld ?_; rotate_left; (focus (intro w hSw; (try dsimp only at hSw); go_simp; try with_reducible rfl)); (try simp only [Act.put, List.setIfInBounds_toArray, List.set_cons_zero, List.set_cons_succ, List.getElem_toArray, List.getElem_cons_zero, List.getElem_cons_succ])); (refine wpAnyH_take (i := 19) (v := ?_) rfl (by kernel_rfl) (by kernel_rfl) (by kernel_rfl) (fun _ _ _ h => h) (Or.inl ⟨by rfl, ?_⟩) hHeld ?_; rotate_left; (focus (intro w hSw; (try dsimp only at hSw); go_simp; try with_reducible rfl)); (try simp only [Act.put, List.setIfInBounds_toArray, List.set_cons_zero, List.set_cons_succ, List.getElem_toArray, List.getElem_cons_zero, List.getElem_cons_succ])); (refine wpAnyH_take (i := 20) (v := ?_) rfl (by kernel_rfl) (by kernel_rfl) (by kernel_rfl) (fun _ _ _ h => h) (Or.inl ⟨by rfl, ?_⟩) hHeld ?_; rotate_left; (focus (intro w hSw; (try dsimp only at hSw); go_simp; try with_reducible rfl)); (try simp only [Act.put, List.setIfInBounds_toArray, List.set_cons_zero, List.set_cons_succ, List.getElem_toArray, List.getElem_cons_zero, List.getElem_cons_succ])); (refine wpAnyH_take (i := 21) (v := ?_) rfl (by kernel_rfl) (by kernel_rfl) (by kernel_rfl) (fun _ _ _ h => h) (Or.inl ⟨by rfl, ?_⟩) hHeld ?_; rotate_left; (focus (intro w hSw; (try dsimp only at hSw); go_simp; try with_reducible rfl)); (try simp only [Act.put, List.setIfInBounds_toArray, List.set_cons_zero, List.set_cons_succ, List.getElem_toArray, List.getElem_cons_zero, List.getElem_cons_succ]))
  refine wpAnyH_ready (rs := [22]) (by kernel_rfl) (by simp) ?_
  refine AllReadyH.cons rfl (fun K hK => ?_) AllReadyH.nil
  have hfz : ∀ j, w4.frozen? ⟨wm.heap.size, j, none⟩ = false := fun j => HR4.out.frozen j
  have c0 := HR4.out.cell (j := 0) rfl
  have c1 := HR4.out.cell (j := 1) rfl
  have c2 := HR4.out.cell (j := 2) rfl
  have c3 := HR4.out.cell (j := 3) rfl
  have c4 := HR4.out.cell (j := 4) rfl
  have c5 := HR4.out.cell (j := 5) rfl
  have c6 := HR4.out.cell (j := 6) rfl
  obtain ⟨s1, _, s3⟩ := BlkAt.set7 ic_ne (show BlkAt 46 wm.heap.size [.int .u8 0, .int .u8 0, .int .u8 0, .int .u8 0, .int .u8 0, .int .u8 0, .slice none 0 0] w4 from HR4.out) (.int .u8 (e0 : Nat)) (.int .u8 (e1 : Nat)) (.int .u8 (f4 : Nat)) (.int .u8 (f5 : Nat)) (.int .u8 (f6 : Nat)) (.int .u8 (f7 : Nat)) (.slice a8 (n - 8) (c - 8))
  have S1 := Lib.hid s1
  have S3 := Lib.hid (hHeld.trans (s3 _ (Nat.le_refl _)))
  have S2 : Hid _ := Lib.hid ((show Bytes wm _ _ from HB8m.out).later S3.out)
  clear s1 s3
  go_simp
  refine hK.out _ _ S3.out (fun hHeldN => ?_)
  (try simp only [Act.put, List.setIfInBounds_toArray, List.set_cons_zero, List.set_cons_succ, List.getElem_toArray, List.getElem_cons_zero, List.getElem_cons_succ])
  clear hK K hHeld
  have hHeld := hHeldN
  clear hHeldN c0 c1 c2 c3 c4 c5 c6 hfz
  (refine wpAnyH_take (i := 23) (v := ?_) rfl (by kernel_rfl) (by kernel_rfl) (by kernel_rfl) (fun _ _ _ h => h) (Or.inl ⟨by rfl, ?_⟩) hHeld ?_; rotate_left; (focus (intro w hSw; (try dsimp only at hSw); go_simp; try with_reducible rfl)); (try simp only [Act.put, List.setIfInBounds_toArray, List.set_cons_zero, List.set_cons_succ, List.getElem_toArray, List.getElem_cons_zero, List.getElem_cons_succ]))
  refine wpAnyH_done (by kernel_rfl) ?_ _
  go_wp2_with fail
  have d0 := BlkAt.cell S1.out (j := 0) rfl
  have d1 := BlkAt.cell S1.out (j := 1) rfl
  have d2 := BlkAt.cell S1.out (j := 2) rfl
  have d3 := BlkAt.cell S1.out (j := 3) rfl
  have d4 := BlkAt.cell S1.out (j := 4) rfl
  have d5 := BlkAt.cell S1.out (j := 5) rfl
  have d6 := BlkAt.cell S1.out (j := 6) rfl
  rw [← HE.out.1, ← HE.out.2.1, ← HE.out.2.2.1, ← HE.out.2.2.2.1, ← HE.out.2.2.2.2.1, ← HE.out.2.2.2.2.2]
  exact bodyPost_ret (v := .tuple #[.agg #[.int .u8 (e0 : Nat), .int .u8 (e1 : Nat), .int .u8 (f4 : Nat), .int .u8 (f5 : Nat), .int .u8 (f6 : Nat), .int .u8 (f7 : Nat), .slice a8 (n - 8) (c - 8)], .bool true]) (by simp [results, Try.results28, go_sem, d0, d1, d2, d3, d4, d5, d6]) rfl ⟨_, rfl, S2.out, S3.out⟩

/-- What bytes tell of a message; noughts if they are none's. -/
def mgP (l : List UInt8) : Mg := if okM l then ⟨Sm.at0 l 0, Sm.at0 l 1, Sm.at0 l 4, Sm.at0 l 5, Sm.at0 l 6, Sm.at0 l 7⟩ else ⟨0, 0, 0, 0, 0, 0⟩
def bdP (l : List UInt8) : List UInt8 := if okM l then l.drop 8 else []
def erP (l : List UInt8) : Nat := if okM l then 0 else 4
theorem mgP_ok (l : List UInt8) : (mgP l).Ok := by
  unfold mgP; split
  · exact ⟨Sm.at0_lt _ _, Sm.at0_lt _ _, Sm.at0_lt _ _, Sm.at0_lt _ _, Sm.at0_lt _ _, Sm.at0_lt _ _⟩
  · exact ⟨by decide, by decide, by decide, by decide, by decide, by decide⟩
theorem ofW_any (v : Value) (l : List UInt8) (wm : World) (hv : Bytes wm v l) (hl : l.length ≤ 10000) :
    Calls Try.prog 27 #[v] wm fun e w' => ∃ u, e = .returned (.tuple #[.agg #[.int .u8 ((mgP l).ty : Nat), .int .u8 ((mgP l).co : Nat), .int .u8 ((mgP l).r0 : Nat), .int .u8 ((mgP l).r1 : Nat), .int .u8 ((mgP l).r2 : Nat), .int .u8 ((mgP l).r3 : Nat), u], .int .i64 (erP l : Nat)]) ∧ OwnB w' wm.heap.size u (bdP l) ∧ Below wm.heap.size wm w' := by
  obtain ⟨a, c, rfl⟩ := hv.form
  cases h : okM l with
  | false =>
    refine (of_no a c l wm hv hl h).mono ?_
    rintro e w' ⟨rfl, hb⟩
    refine ⟨.slice none 0 0, ?_, ?_, hb⟩
    · rw [mgP, erP, if_neg (by simp [h]), if_neg (by simp [h])]; rfl
    · rw [bdP, if_neg (by simp [h])]; exact OwnB.nil _ _
  | true =>
    refine (of_yes a c l wm hv hl h).mono ?_
    rintro e w' ⟨u, rfl, ho, hb⟩
    refine ⟨u, ?_, ?_, hb⟩
    · rw [mgP, erP, if_pos h, if_pos h]; rfl
    · rw [bdP, if_pos h]; exact ho
theorem ofR_any (v : Value) (l : List UInt8) (wm : World) (hv : Bytes wm v l) (hl : l.length ≤ 10000) :
    Calls Try.prog 28 #[v] wm fun e w' => ∃ u, e = .returned (.tuple #[.agg #[.int .u8 ((mgP l).ty : Nat), .int .u8 ((mgP l).co : Nat), .int .u8 ((mgP l).r0 : Nat), .int .u8 ((mgP l).r1 : Nat), .int .u8 ((mgP l).r2 : Nat), .int .u8 ((mgP l).r3 : Nat), u], .bool (okM l)]) ∧ Bytes w' u (bdP l) ∧ Below wm.heap.size wm w' := by
  obtain ⟨a, c, rfl⟩ := hv.form
  cases h : okM l with
  | false =>
    refine (ofR_no a c l wm hv hl h).mono ?_
    rintro e w' ⟨rfl, hb⟩
    refine ⟨.slice none 0 0, ?_, ?_, hb⟩
    · rw [mgP, if_neg (by simp [h])]; rfl
    · rw [bdP, if_neg (by simp [h])]; exact Bytes.nil _ _ _
  | true =>
    refine (ofR_yes a c l wm hv hl h).mono ?_
    rintro e w' ⟨u, rfl, ho, hb⟩
    refine ⟨u, ?_, ?_, hb⟩
    · rw [mgP, if_pos h]
    · rw [bdP, if_pos h]; exact ho
end Go.Proofs.Ytnhkkpcepppgoaa

namespace Go.Proofs.Ytnhkkpcepppgoaa
open Go.RowKit
attribute [local go_sem ↓] Go.wp_at_zero Go.wp_at_succ

/-- What the count of the first lists comes to. -/
def msum (L : List (List UInt8)) : Nat → Nat
  | 0 => 0
  | k + 1 => msum L k + min (L[k]?.getD []).length 9001
def lsum (L : List (List UInt8)) : Nat → Nat
  | 0 => 0
  | k + 1 => lsum L k + (L[k]?.getD []).length
theorem msum_le (L : List (List UInt8)) : ∀ k, msum L k ≤ lsum L k
  | 0 => Nat.le_refl _
  | k + 1 => by have := msum_le L k; unfold msum lsum; omega
theorem msum_eq (L : List (List UInt8)) : ∀ k, msum L k ≤ 9000 → msum L k = lsum L k
  | 0, _ => rfl
  | k + 1, h => by
    unfold msum at h ⊢
    unfold lsum
    have e := msum_eq L k (by omega)
    omega
theorem lsum_take (L : List (List UInt8)) : ∀ k, k ≤ L.length → lsum L k = (L.take k).flatten.length
  | 0, _ => by simp [lsum]
  | k + 1, h => by
    unfold lsum
    rw [lsum_take L k (by omega), List.take_succ_eq_append_getElem (by omega), List.flatten_append, List.length_append, List.flatten_singleton, List.getElem?_eq_getElem (by omega)]
    rfl
theorem lsum_all (L : List (List UInt8)) : lsum L L.length = L.flatten.length := by rw [lsum_take L _ (Nat.le_refl _), List.take_length]
theorem lsum_mono (L : List (List UInt8)) {i k : Nat} (h : i ≤ k) : lsum L i ≤ lsum L k := by
  induction k with
  | zero => have : i = 0 := by omega
            subst this; exact Nat.le_refl _
  | succ k ih =>
    rcases Nat.eq_or_lt_of_le h with rfl | h
    · exact Nat.le_refl _
    · have := ih (by omega)
      show _ ≤ lsum L k + _
      omega
/-- More than so many bytes and parts. -/
def muchB (L : List (List UInt8)) : Bool := decide (9000 < L.length + L.flatten.length)

set_option maxHeartbeats 2000000 in
set_option maxRecDepth 100000 in
theorem joinR_some (b : Option Addr) (c : Nat) (L : List (List UInt8)) (w : World) (hv : Lists w (.slice b L.length c) L) (hL : L.length ≤ 10000) (hS : L.flatten.length ≤ 10000) :
    Calls Try.prog 63 #[.slice b L.length c] w fun e w' => ∃ v, e = .returned v ∧ Bytes w' v L.flatten ∧ Below w.heap.size w w' := by
  have hi5 : (Try.prog.info? 5).map (fun i => (i.zero, i.size, i.bytes)) = some (some (.int .u8 0), 1, 1) := by kernel_rfl
  obtain ⟨i0, hi, hx⟩ := Option.map_eq_some_iff.1 hi5
  simp only [Prod.mk.injEq] at hx
  obtain ⟨hz0, hz1, hz2⟩ := hx
  have HV := Lib.hid hv
  clear hi5 hv
  go_enter Try.func63, Try.ntmps63
  go_wp2_with fail
  go_loopw [3, 4] (fun v i wr => ∃ k : Nat, k ≤ L.length ∧ i = .int .i64 k ∧ Hid (wr.ownsRow w.heap.size 5 1 v (L.take k).flatten.length (bv (L.take k).flatten)) ∧ Hid (Below w.heap.size w wr)) (fun _ i _ => L.length - (intOf i).toNat)
  case atStart => exact ⟨0, Nat.zero_le _, rfl, World.ownsRow_nil w _ _ _, Below.refl _ _⟩
  case round =>
    obtain ⟨k, hk, rfl, HW, HB⟩ := hrel
    rcases Nat.lt_or_ge k L.length with hlt | hge
    · have g1 : (k : Int) < L.length := by omega
      obtain ⟨bl, bo, rfl, hbl, x, d, he, hbe⟩ := HV.out.at hlt
      have he' := cell_later' HB.out hbl he
      have b1 : bl < wr.heap.size := Nat.lt_of_lt_of_le hbl HB.out.size
      have hbw := hbe.later HB.out
      have hsz := lsum_take L (k + 1) (by omega)
      have hsz2 := lsum_mono L (i := k + 1) (k := L.length) (by omega)
      rw [lsum_all, hsz] at hsz2
      have hfl : (L.take (k + 1)).flatten = (L.take k).flatten ++ L[k] := by rw [List.take_succ_eq_append_getElem hlt, List.flatten_append, List.flatten_singleton]
      have hfn : (L.take (k + 1)).flatten.length = (L.take k).flatten.length + L[k].length := by rw [hfl, List.length_append]
      have Hfl := Lib.hid hfl
      obtain ⟨F, hF⟩ : ∃ F, F = (L.take k).flatten := ⟨_, rfl⟩
      rw [← hF] at HW hfn Hfl
      obtain ⟨l, hl⟩ : ∃ l, l = L[k] := ⟨_, rfl⟩
      rw [← hl] at he he' hbe hbw hfn Hfl
      have hb2 : F.length + l.length ≤ 10000 := by omega
      have Hbw := Lib.hid hbw
      have Hfn := Lib.hid hfn
      clear hl hF hfn hfl hsz hsz2 hbe he hbw
      cases x with
      | none =>
        obtain ⟨e1, e2, e3⟩ := Hbw.out.noaddr
        subst e2 e3
        have Hl : Hid (F = (L.take (k + 1)).flatten) := by show _ = _; rw [Hfl.out]; simp
        clear e1
        go_wp2_with (at_builtin; refine wpList_append_own_none rfl _ _ 22 rfl w.heap.size 5 i0 1 Try.underlying22 hi _ _ _ rfl HW.out rfl ?_)
        go_wp2_with fail
        go_roundw
        case rel => exact ⟨k + 1, by omega, by go_num, by rw [← Hl.out]; exact HW, HB⟩
        case measure => simp [intOf]; omega
      | some x =>
        go_wp2_with (at_builtin; refine wpList_append_own _ rfl _ _ 22 rfl w.heap.size 5 i0 (.int .u8 0) 1 1 Try.underlying22 hi hz0 hz1 hz2 rfl (by decide) _ _ _ rfl HW.out x l.length d (bv l) rfl (by simp [bv]) (Hbw.out.news) (bv_one l) (by unfold maxLen; omega) (by omega) HB.out.size ?_)
        intro v' w1 hown' hgrow _
        have hown2 : Hid (w1.ownsRow w.heap.size 5 1 v' (L.take (k + 1)).flatten.length (bv (L.take (k + 1)).flatten)) := by
          show World.ownsRow _ _ _ _ _ _ _
          rw [Hfn.out, Hfl.out, bv_append]; exact hown'
        have hB2 : Hid (Below w.heap.size w w1) := HB.out.grown hgrow HB.out.size (fun j hj => own_base HW.out hj)
        clear hown' hgrow
        go_wp2_with fail
        go_roundw
        case rel => exact ⟨k + 1, by omega, by go_num, hown2, hB2⟩
        case measure => simp [intOf]; omega
    · have e : k = L.length := by omega
      subst e
      rw [List.take_length] at HW
      go_wp2_with fail
      go_ret
      exact ⟨_, rfl, Bytes.of_own HW.out, HB.out⟩
theorem joinR_any (v : Value) (L : List (List UInt8)) (w : World) (hv : Lists w v L) (hL : L.length ≤ 10000) (hS : L.flatten.length ≤ 10000) :
    Calls Try.prog 63 #[v] w fun e w' => ∃ v, e = .returned v ∧ Bytes w' v L.flatten ∧ Below w.heap.size w w' := by
  obtain ⟨b, c, rfl⟩ := hv.form
  exact joinR_some b c L w hv hL hS
end Go.Proofs.Ytnhkkpcepppgoaa

namespace Go.Proofs.Ytnhkkpcepppgoaa
open Go.RowKit
attribute [local go_sem ↓] Go.wp_at_zero Go.wp_at_succ

set_option maxRecDepth 100000 in
theorem growW_some (n : Nat) (w : World) (h0 : 0 < n) (hn : n ≤ 100000) :
    Calls Try.prog 88 #[.slice none 0 0, .int .i64 (n : Int)] w fun e w' => ∃ v, e = .returned v ∧ OwnB w' w.heap.size v [] ∧ Below w.heap.size w w' := by
  obtain ⟨i0, hi, hz0, hz1, hz2⟩ := info8
  have hold : (Builtin.firstCells i0.size 0 (.slice none 0 0)).run Try.prog w.drew = .ok #[] w.drew := run_firstCells_none w.drew i0.size 0 0 0
  have hrz : ∀ ty, (Builtin.append_ #[22, 3] ty #[.slice none 0 0, .int .i64 (n : Int)]).run Try.prog w =
      .ok (.slice (some ⟨w.heap.size, 0, none⟩) n (grownCap w n 0 5)) (w.drew.alloc (.cells (([] : List Value).toArray ++ Builtin.zeroCells (Value.int .u8 0).cells n ++ Builtin.zeroCells (Value.int .u8 0).cells (grownCap w n 0 5 - n)) 5)) := fun ty => by
    have h := Lib.run_append_grow_zeros w 22 3 ty 5 i0 (.int .u8 0) .i64 .i64 Try.underlying22 Try.underlying3 hi hz0 none 0 0 [] hold n (by omega) (by omega) (by omega) (by omega)
      (by rw [hz2]; omega) (by rw [Nat.zero_add]; exact growslice_fits h0 (by rw [hz2]; omega))
    rw [Nat.zero_add] at h
    exact h
  have hGn : n ≤ grownCap w n 0 5 := grownCap_ge w _ _ _
  have hG63 := grownCap_le_maxLen w n 0 5 (by unfold maxLen; omega)
  obtain ⟨G, hG⟩ : ∃ G, G = grownCap w n 0 5 := ⟨_, rfl⟩
  rw [← hG] at hrz hGn hG63
  have hsz : (([] : List Value).toArray ++ Builtin.zeroCells (Value.int .u8 0).cells n ++ Builtin.zeroCells (Value.int .u8 0).cells (G - n)).size = G * 1 := by
    have e : ∀ k, (Builtin.zeroCells (Value.int .u8 0).cells k).size = k := fun k => by simp [Builtin.zeroCells, Value.cells]
    simp [e]; omega
  obtain ⟨cur, hcur⟩ : ∃ cur, cur = (([] : List Value).toArray ++ Builtin.zeroCells (Value.int .u8 0).cells n ++ Builtin.zeroCells (Value.int .u8 0).cells (G - n)) := ⟨_, rfl⟩
  rw [← hcur] at hrz hsz
  have hown : OwnB (w.drew.alloc (.cells cur 5)) w.heap.size (.slice (some ⟨w.heap.size, 0, none⟩) 0 G) [] :=
    World.ownsRow_made (w := w.drew) cur G (Nat.le_refl _) hG63 hsz
  have HO := Lib.hid hown
  have HB := Lib.hid (show Below w.heap.size w (w.drew.alloc (.cells cur 5)) from ((Below.refl _ _).drew).alloc (Nat.le_refl _) _)
  have g1 : (0 : Int) < n := by omega
  have g2 : (n : Int) ≤ 100000 := by omega
  clear hold hG hcur hsz hown hG63 hGn hn h0
  go_enter Try.func88, Try.ntmps88
  go_wp2_with (at_builtin; refine Lib.wpList_append_run _ rfl _ _ _ _ rfl _ _ rfl rfl _ _ (hrz _) ?_)
  all_goals
    go_ret
    exact ⟨_, rfl, HO.out, HB.out⟩
theorem growW_none (w : World) :
    Calls Try.prog 88 #[.slice none 0 0, .int .i64 0] w fun e w' => e = .returned (.slice none 0 0) ∧ w = w' := by
  go_enter Try.func88, Try.ntmps88
  go_wp2_with fail
  go_ret
  exact ⟨rfl, rfl⟩

set_option maxHeartbeats 2000000 in
set_option maxRecDepth 100000 in
theorem concatW_some (b : Option Addr) (c : Nat) (L : List (List UInt8)) (w : World) (hv : Lists w (.slice b L.length c) L) (hL : L.length ≤ 10000) (hS : L.flatten.length ≤ 100000) :
    Calls Try.prog 83 #[.slice b L.length c] w fun e w' => ∃ v, e = .returned v ∧ OwnB w' w.heap.size v L.flatten ∧ Below w.heap.size w w' := by
  have HV := Lib.hid hv
  clear hv
  go_enter Try.func83, Try.ntmps83
  go_wp2_with fail
  go_loop [3, 11] (fun s i => ∃ k : Nat, k ≤ L.length ∧ i = .int .i64 k ∧ s = .int .i64 (lsum L k)) (fun _ i => L.length - (intOf i).toNat)
  case atStart => exact ⟨0, Nat.zero_le _, rfl, rfl⟩
  case round =>
    obtain ⟨k, hk, rfl, rfl⟩ := hrel
    have hz1 := lsum_mono L hk
    rw [lsum_all] at hz1
    obtain ⟨z, hz⟩ : ∃ z, z = lsum L k := ⟨_, rfl⟩
    rw [← hz] at hz1 ⊢
    have Hz := Lib.hid hz
    have HZ1 := Lib.hid (show z ≤ 100000 by omega)
    clear hz hz1
    rcases Nat.lt_or_ge k L.length with hlt | hge
    · obtain ⟨bl, bo, rfl, hbl, x, d, he, hbe⟩ := HV.out.at hlt
      have hs2 : lsum L (k + 1) = z + L[k].length := by
        show lsum L k + _ = _
        rw [List.getElem?_eq_getElem hlt, Hz.out]; rfl
      have hz2 := lsum_mono L (show k + 1 ≤ L.length by omega)
      rw [lsum_all] at hz2
      obtain ⟨m, hm⟩ : ∃ m, m = L[k].length := ⟨_, rfl⟩
      rw [← hm] at he hs2
      have hm2 : (z : Int) + m ≤ 100000 := by omega
      have Hs2 := Lib.hid hs2
      have g1 : (k : Int) < L.length := by omega
      clear hm hs2 hbe hz2
      go_wp2_with fail
      go_round
      case rel => exact ⟨k + 1, by omega, by go_num, by rw [Hs2.out]; go_num⟩
      case measure => simp [intOf]; omega
    · have e : k = L.length := by omega
      subst e
      have hgrow : Calls Try.prog 88 #[.slice none 0 0, .int .i64 (z : Int)] w fun e w' => ∃ v, e = .returned v ∧ OwnB w' w.heap.size v [] ∧ Below w.heap.size w w' := by
        rcases Nat.eq_zero_or_pos z with h0 | h0
        · subst h0
          exact (growW_none w).mono fun e w' ⟨h1, h2⟩ => by subst h2; exact ⟨_, h1, OwnB.nil _ _, Below.refl _ _⟩
        · exact growW_some z w h0 (by have := HZ1.out; omega)
      have hz2 : (z : Int) ≤ 100000 := by have := HZ1.out; omega
      go_wp2_with fail
      refine hgrow.mono ?_
      rintro e w1 ⟨v1, rfl, ho1, hb1⟩
      have HO := Lib.hid ho1
      have HB1 := Lib.hid hb1
      clear ho1 hb1 hgrow hz2
      go_wp2_with fail
      go_loopw [6, 27] (fun v i wr => ∃ k : Nat, k ≤ L.length ∧ i = .int .i64 k ∧ Hid (OwnB wr w.heap.size v (L.take k).flatten) ∧ Hid (Below w.heap.size w wr)) (fun _ i _ => L.length - (intOf i).toNat)
      case atStart => exact ⟨0, Nat.zero_le _, rfl, HO.out, HB1.out⟩
      case round =>
        obtain ⟨k, hk, rfl, HW, HB⟩ := hrel
        rcases Nat.lt_or_ge k L.length with hlt | hge2
        · have g1 : (k : Int) < L.length := by omega
          obtain ⟨bl, bo, rfl, hbl, x, d, he, hbe⟩ := HV.out.at hlt
          have he' := cell_later' HB.out hbl he
          have b1 : bl < wr.heap.size := Nat.lt_of_lt_of_le hbl HB.out.size
          have hbw := hbe.later HB.out
          have hsz := lsum_take L (k + 1) (by omega)
          have hsz2 := lsum_mono L (i := k + 1) (k := L.length) (by omega)
          rw [lsum_all, hsz] at hsz2
          have hfl : (L.take (k + 1)).flatten = (L.take k).flatten ++ L[k] := by rw [List.take_succ_eq_append_getElem hlt, List.flatten_append, List.flatten_singleton]
          have hfn : (L.take k).flatten.length + L[k].length ≤ 100000 := by rw [← List.length_append, ← hfl]; omega
          have Hfl := Lib.hid hfl
          have Hbw := Lib.hid hbw
          have Hfn := Lib.hid hfn
          clear hfn hfl hsz hsz2 hbe he hbw
          go_wp2_with (at_builtin; refine wpList_app rfl _ _ rfl w.heap.size _ _ _ L[k] rfl rfl HW.out Hbw.out (by have := Hfn.out; omega) HB.out.size ?_)
          intro v' w2 ho2 hb2 hg2
          have HO2 := Lib.hid ho2
          rw [← Hfl.out] at HO2
          have HB2 := Lib.hid (HB.out.trans hb2)
          clear ho2 hb2 hg2
          go_wp2_with fail
          go_roundw
          case rel => exact ⟨k + 1, by omega, by go_num, HO2, HB2⟩
          case measure => simp [intOf]; omega
        · have e : k = L.length := by omega
          subst e
          rw [List.take_length] at HW
          go_wp2_with fail
          go_ret
          exact ⟨_, rfl, HW.out, HB.out⟩
theorem joinW_own (v : Value) (L : List (List UInt8)) (w : World) (hv : Lists w v L) (hL : L.length ≤ 10000) (hS : L.flatten.length ≤ 100000) :
    Calls Try.prog 60 #[v] w fun e w' => ∃ v, e = .returned v ∧ OwnB w' w.heap.size v L.flatten ∧ Below w.heap.size w w' := by
  obtain ⟨b, c, rfl⟩ := hv.form
  have HV := Lib.hid hv
  clear hv
  go_enter Try.func60, Try.ntmps60
  go_wp2_with fail
  refine (concatW_some b c L w HV.out hL hS).mono ?_
  rintro e w1 ⟨v1, rfl, h1, hb1⟩
  have H1 := Lib.hid h1
  clear h1
  go_wp2_with fail
  go_ret
  exact ⟨_, rfl, H1.out, hb1⟩
theorem joinW_any (v : Value) (L : List (List UInt8)) (w : World) (hv : Lists w v L) (hL : L.length ≤ 10000) (hS : L.flatten.length ≤ 100000) :
    Calls Try.prog 60 #[v] w fun e w' => ∃ v, e = .returned v ∧ Bytes w' v L.flatten ∧ Below w.heap.size w w' :=
  (joinW_own v L w hv hL hS).mono fun _ _ ⟨v, h1, h2, h3⟩ => ⟨v, h1, h2.bytes, h3⟩
end Go.Proofs.Ytnhkkpcepppgoaa

namespace Go.Proofs.Ytnhkkpcepppgoaa
open Go.RowKit
def evB (f : Nat) : Bool := decide (f / 32768 % 2 = 1)
def dfB (f : Nat) : Bool := decide (f / 16384 % 2 = 1)
def mfB (f : Nat) : Bool := decide (f / 8192 % 2 = 1)
theorem and_bit (f k : Nat) : (f &&& 2 ^ k != 0) = f.testBit k := by
  cases h : f.testBit k with
  | true =>
    rw [bne_iff_ne]
    intro e
    have h2 : (f &&& 2 ^ k).testBit k = true := by rw [Nat.testBit_and, Nat.testBit_two_pow, h]; simp
    rw [e] at h2; simp at h2
  | false =>
    rw [bne_eq_false_iff_eq]
    refine Nat.eq_of_testBit_eq fun j => ?_
    rw [Nat.testBit_and, Nat.testBit_two_pow]
    by_cases e : k = j
    · subst e; rw [h]; simp
    · simp [e]
theorem cast_bne (n : Nat) : ((n : Int) != 0) = (n != 0) := by rw [Bool.eq_iff_iff]; simp
theorem and_pow {f : Nat} (hf : f < 65536) (m k : Nat) (hm : m = 2 ^ k) (hk : m < 65536) : (bits .and .u64 (f : Int) (m : Int) != 0) = decide (f / 2 ^ k % 2 = 1) := by
  rw [u64_and _ _ (by omega) (by omega) (by omega) (by omega), Int.toNat_natCast, Int.toNat_natCast, cast_bne, hm, and_bit, Nat.testBit_eq_decide_div_mod_eq]
theorem ev_bits {f : Nat} (hf : f < 65536) : (bits .and .u64 (f : Int) 32768 != 0) = evB f := and_pow hf 32768 15 (by decide) (by decide)
theorem df_bits {f : Nat} (hf : f < 65536) : (bits .and .u64 (f : Int) 16384 != 0) = dfB f := and_pow hf 16384 14 (by decide) (by decide)
theorem mf_bits {f : Nat} (hf : f < 65536) : (bits .and .u64 (f : Int) 8192 != 0) = mfB f := and_pow hf 8192 13 (by decide) (by decide)
theorem off_bits {f : Nat} (hf : f < 65536) : bits .and .u64 (f : Int) 8191 = ((f % 8192 : Nat) : Int) := by
  rw [u64_and _ _ (by omega) (by omega) (by omega) (by omega), Int.toNat_natCast]
  have : (8191 : Int).toNat = 8191 := rfl
  rw [this, Nat.and_two_pow_sub_one_eq_mod f 13]
theorem drop_take_cons {l : List UInt8} {i k : Nat} (h : i < l.length) : (l.take (i + (k + 1))).drop i = l[i] :: (l.take (i + 1 + k)).drop (i + 1) := by
  rw [show i + (k + 1) = i + 1 + k by omega, List.drop_eq_getElem_cons (by simp; omega), List.getElem_take]
theorem drop_take_nil {l : List UInt8} {i : Nat} : (l.take (i + 0)).drop i = [] := by rw [List.drop_eq_nil_of_le]; simp; omega
theorem numAt_1 {l : List UInt8} {i : Nat} (h : i + 1 ≤ l.length) : numAt l i 1 = Sm.at0 l i := by
  unfold numAt
  rw [drop_take_cons (k := 0) (by omega), drop_take_nil, at0_get (by omega)]
  simp [getL]
theorem numAt_2 {l : List UInt8} {i : Nat} (h : i + 2 ≤ l.length) : numAt l i 2 = 256 * Sm.at0 l i + Sm.at0 l (i + 1) := by
  unfold numAt
  rw [drop_take_cons (k := 1) (by omega), drop_take_cons (k := 0) (by omega), drop_take_nil, at0_get (by omega), at0_get (by omega)]
  simp [getL]; omega
end Go.Proofs.Ytnhkkpcepppgoaa

namespace Go.Proofs.Ytnhkkpcepppgoaa
open Go.RowKit
attribute [local go_sem ↓] Go.wp_at_zero Go.wp_at_succ

/-- A header's fields, but its options. -/
structure Hd where
  (tos id : Nat) (ev df mf : Bool) (off : Int) (ttl pr src dst : Nat)
structure Hd.Ok (h : Hd) : Prop where
  (tos : h.tos < 256) (id : h.id < 65536) (ttl : h.ttl < 256) (pr : h.pr < 256) (src : h.src < 4294967296) (dst : h.dst < 4294967296)
/-- May such a header be? -/
def mayB (off : Int) (O : List UInt8) : Bool := decide (0 ≤ off) && (decide (off ≤ 8191) && (decide (O.length ≤ 40) && (decide (O.length % 4 = 0) && Om.ok O)))
def sizeN (off : Int) (O : List UInt8) : Nat := if mayB off O then 20 + O.length else 0
/-- The word of flags and offset. -/
def flagsN (h : Hd) : Nat := h.ev.toNat * 32768 + h.df.toNat * 16384 + h.mf.toNat * 8192 + h.off.toNat

theorem may_of {off : Int} {O : List UInt8} (h1 : 0 ≤ off) (h2 : off ≤ 8191) (h3 : O.length ≤ 40) (h4 : O.length % 4 = 0) : mayB off O = Om.ok O := by
  unfold mayB; simp [h1, h2, h3, h4]
theorem may_no {off : Int} {O : List UInt8} (h : ¬ (0 ≤ off ∧ off ≤ 8191 ∧ O.length ≤ 40 ∧ O.length % 4 = 0)) : mayB off O = false := by
  cases hm : mayB off O with
  | false => rfl
  | true =>
    unfold mayB at hm
    simp only [Bool.and_eq_true, decide_eq_true_eq] at hm
    exact absurd ⟨hm.1, hm.2.1, hm.2.2.1, hm.2.2.2.1⟩ h

set_option maxHeartbeats 4000000 in
set_option maxRecDepth 100000 in
theorem mayW3_any (h : Hd) (a : Option Addr) (c : Nat) (O : List UInt8) (w : World) (hv : Bytes w (.slice a O.length c) O) (hO : O.length ≤ 9223372036854775807) :
    Calls Try.prog 15 #[.agg #[.int .u8 (h.tos : Nat), .int .u16 (h.id : Nat), .bool h.ev, .bool h.df, .bool h.mf, .int .i64 h.off, .int .u8 (h.ttl : Nat), .int .u8 (h.pr : Nat), .int .u32 (h.src : Nat), .int .u32 (h.dst : Nat), .slice a O.length c]] w fun e w' => e = .returned (.bool (mayB h.off O)) ∧ Below w.heap.size w w' := by
  have hA : Below w.heap.size w (w.alloc (.cells #[.int .u8 (h.tos : Nat), .int .u16 (h.id : Nat), .bool h.ev, .bool h.df, .bool h.mf, .int .i64 h.off, .int .u8 (h.ttl : Nat), .int .u8 (h.pr : Nat), .int .u32 (h.src : Nat), .int .u32 (h.dst : Nat), .slice a O.length c] 28)) := (Below.refl _ _).alloc (Nat.le_refl _) _
  have hg2 : (O.length : Int) ≤ 9223372036854775807 := by omega
  by_cases h1 : 0 ≤ h.off
  · by_cases h2 : h.off ≤ 8191
    · rcases Nat.lt_or_ge 40 O.length with h3 | h3
      · have HM := Lib.hid (may_no (off := h.off) (O := O) (by omega))
        have g3 : (40 : Int) < O.length := by omega
        have HA := Lib.hid hA
        clear hv hA
        go_enter Try.func15, Try.ntmps15
        go_wp2_with fail
        go_ret
        exact ⟨ret_b HM.out.symm, HA.out⟩
      · have g3 : (O.length : Int) ≤ 40 := by omega
        by_cases h4 : O.length % 4 = 0
        · have HM := Lib.hid (may_of (O := O) h1 h2 h3 h4)
          have g4 : ((O.length : Int) % 4 == 0) = true := by rw [beq_iff_eq]; omega
          have HMO := Lib.hid (mayOptions_any _ O (by omega) _ (hv.later hA))
          have HA := Lib.hid hA
          clear hv hA h4
          go_enter Try.func15, Try.ntmps15
          go_wp2_with fail
          refine HMO.out.mono ?_
          rintro e w1 ⟨rfl, hb1⟩
          go_wp2_with fail
          go_ret
          exact ⟨ret_b HM.out.symm, HA.out.trans (hb1.mono HA.out.size)⟩
        · have HM := Lib.hid (may_no (off := h.off) (O := O) (by omega))
          have g4 : ((O.length : Int) % 4 == 0) = false := by rw [beq_eq_false_iff_ne]; omega
          have HA := Lib.hid hA
          clear hv hA h4
          go_enter Try.func15, Try.ntmps15
          go_wp2_with fail
          go_ret
          exact ⟨ret_b HM.out.symm, HA.out⟩
    · have HM := Lib.hid (may_no (off := h.off) (O := O) (by omega))
      have HA := Lib.hid hA
      clear hv hA
      go_enter Try.func15, Try.ntmps15
      go_wp2_with fail
      go_ret
      exact ⟨ret_b HM.out.symm, HA.out⟩
  · have HM := Lib.hid (may_no (off := h.off) (O := O) (by omega))
    have HA := Lib.hid hA
    clear hv hA
    go_enter Try.func15, Try.ntmps15
    go_wp2_with fail
    go_ret
    exact ⟨ret_b HM.out.symm, HA.out⟩

theorem mayB_len {off : Int} {O : List UInt8} (h : mayB off O = true) : O.length ≤ 40 ∧ O.length % 4 = 0 ∧ 0 ≤ off ∧ off ≤ 8191 ∧ Om.ok O = true := by
  unfold mayB at h
  simp only [Bool.and_eq_true, decide_eq_true_eq] at h
  exact ⟨h.2.2.1, h.2.2.2.1, h.1, h.2.1, h.2.2.2.2⟩
set_option maxHeartbeats 4000000 in
set_option maxRecDepth 100000 in
theorem size_any (h : Hd) (a : Option Addr) (c : Nat) (O : List UInt8) (w : World) (hv : Bytes w (.slice a O.length c) O) (hO : O.length ≤ 9223372036854775807) :
    Calls Try.prog 16 #[.agg #[.int .u8 (h.tos : Nat), .int .u16 (h.id : Nat), .bool h.ev, .bool h.df, .bool h.mf, .int .i64 h.off, .int .u8 (h.ttl : Nat), .int .u8 (h.pr : Nat), .int .u32 (h.src : Nat), .int .u32 (h.dst : Nat), .slice a O.length c]] w fun e w' => e = .returned (.int .i64 (sizeN h.off O : Nat)) ∧ Below w.heap.size w w' := by
  have hA : Below w.heap.size w (w.alloc (.cells #[.int .u8 (h.tos : Nat), .int .u16 (h.id : Nat), .bool h.ev, .bool h.df, .bool h.mf, .int .i64 h.off, .int .u8 (h.ttl : Nat), .int .u8 (h.pr : Nat), .int .u32 (h.src : Nat), .int .u32 (h.dst : Nat), .slice a O.length c] 28)) := (Below.refl _ _).alloc (Nat.le_refl _) _
  have hmay := mayW3_any h a c O _ (hv.later hA) hO
  have hcell : (w.alloc (.cells #[.int .u8 (h.tos : Nat), .int .u16 (h.id : Nat), .bool h.ev, .bool h.df, .bool h.mf, .int .i64 h.off, .int .u8 (h.ttl : Nat), .int .u8 (h.pr : Nat), .int .u32 (h.src : Nat), .int .u32 (h.dst : Nat), .slice a O.length c] 28)).cell? ⟨w.heap.size, 10, none⟩ = some (.slice a O.length c) := by simp
  have HC := Lib.hid hcell
  have HMAY := Lib.hid hmay
  have HA := Lib.hid hA
  clear hv hA hmay hcell
  cases hm : mayB h.off O with
  | false =>
    have HS : Hid (sizeN h.off O = 0) := by show _ = _; unfold sizeN; rw [hm]; rfl
    have HM := Lib.hid hm
    clear hm
    go_enter Try.func16, Try.ntmps16
    go_wp2_with fail
    refine HMAY.out.mono ?_
    rintro e w1 ⟨rfl, hb1⟩
    rw [HM.out]
    go_wp2_with fail
    go_ret
    exact ⟨ret_i (by rw [HS.out]; rfl), HA.out.trans (hb1.mono HA.out.size)⟩
  | true =>
    have hl := mayB_len hm
    have HS : Hid (sizeN h.off O = 20 + O.length) := by show _ = _; unfold sizeN; rw [hm]; rfl
    have HM := Lib.hid hm
    have g : (O.length : Int) ≤ 40 := by omega
    clear hm hl
    go_enter Try.func16, Try.ntmps16
    go_wp2_with fail
    refine HMAY.out.mono ?_
    rintro e w1 ⟨rfl, hb1⟩
    rw [HM.out]
    have hc := cell_later hb1 HC.out
    go_wp2_with fail
    go_ret
    exact ⟨ret_i (by rw [HS.out]; omega), HA.out.trans (hb1.mono HA.out.size)⟩
end Go.Proofs.Ytnhkkpcepppgoaa

namespace Go.Proofs.Ytnhkkpcepppgoaa
open Go.RowKit
attribute [local go_sem ↓] Go.wp_at_zero Go.wp_at_succ

theorem or_bit (x k : Nat) (h : x / 2 ^ k % 2 = 0) : x ||| 2 ^ k = x + 2 ^ k := by
  have hp : 0 < 2 ^ k := Nat.pow_pos (by decide)
  have hlt : x % 2 ^ (k + 1) < 2 ^ k := by
    rw [Nat.pow_succ, Nat.mod_mul, h, Nat.mul_zero, Nat.add_zero]
    exact Nat.mod_lt _ hp
  have e : x = x / 2 ^ (k + 1) * 2 ^ (k + 1) + x % 2 ^ (k + 1) := by rw [Nat.mul_comm]; exact (Nat.div_add_mod _ _).symm
  obtain ⟨hi, hhi⟩ : ∃ y, y = x / 2 ^ (k + 1) * 2 ^ (k + 1) := ⟨_, rfl⟩
  obtain ⟨lo, hlo⟩ : ∃ y, y = x % 2 ^ (k + 1) := ⟨_, rfl⟩
  rw [← hlo] at hlt
  rw [← hhi, ← hlo] at e
  have hm : hi % 2 ^ (k + 1) = 0 := by rw [hhi]; exact Nat.mul_mod_left _ _
  have hk1 : 2 ^ (k + 1) = 2 * 2 ^ k := by rw [Nat.pow_succ, Nat.mul_comm]
  rw [e, ← nat_join (k + 1) hi lo hm (by omega), Nat.or_assoc, Nat.or_comm lo, nat_join k (2 ^ k) lo (Nat.mod_self _) hlt, nat_join (k + 1) hi _ hm (by omega), nat_join (k + 1) hi lo hm (by omega)]
  omega
theorem or_u64 (x m k : Nat) (hm : m = 2 ^ k) (hk : m < 65536) (hx : x < 65536) (h : x / 2 ^ k % 2 = 0) : bits .or .u64 (x : Int) (m : Int) = ((x + m : Nat) : Int) := by
  rw [u64_or_nat _ _ (by omega) (by omega), hm, or_bit _ _ h]
theorem or64 (k : Nat) (h : k < 16) : bits .or .i64 64 (k : Int) = ((64 + k : Nat) : Int) := by
  have hall : ∀ k : Fin 16, bits .or .i64 64 ((k.val : Nat) : Int) = ((64 + k.val : Nat) : Int) := by decide +kernel
  exact hall ⟨k, h⟩

set_option maxHeartbeats 8000000 in
set_option maxRecDepth 100000 in
theorem flagsW_any (h : Hd) (a : Option Addr) (n c : Nat) (w : World) (h1 : 0 ≤ h.off) (h2 : h.off ≤ 8191) :
    Calls Try.prog 61 #[.agg #[.int .u8 (h.tos : Nat), .int .u16 (h.id : Nat), .bool h.ev, .bool h.df, .bool h.mf, .int .i64 h.off, .int .u8 (h.ttl : Nat), .int .u8 (h.pr : Nat), .int .u32 (h.src : Nat), .int .u32 (h.dst : Nat), .slice a n c]] w fun e w' => e = .returned (.int .u64 (flagsN h : Nat)) ∧ Below w.heap.size w w' := by
  obtain ⟨tos, id, ev, df, mf, off, ttl, pr, src, dst⟩ := h
  obtain ⟨o, rfl⟩ := Int.eq_ofNat_of_zero_le h1
  simp only at h1 h2 ⊢
  have ho : o < 8192 := by omega
  have hw : IntKind.u64.wrap (o : Int) = o := IntWalk.u64_in _ ⟨by omega, by omega⟩
  have HW := Lib.hid hw
  have g1 : (o : Int) ≤ 8191 := h2
  clear hw h1 h2
  cases ev <;> cases df <;> cases mf
  · have HF : Hid (flagsN ⟨tos, id, false, false, false, o, ttl, pr, src, dst⟩ = o) := by show _ = _; simp [flagsN]
    clear ho
    go_enter Try.func61, Try.ntmps61
    go_wp2_with fail
    go_ret
    exact ⟨ret_i (by rw [HF.out]), by go_grown⟩
  · have HF : Hid (flagsN ⟨tos, id, false, false, true, o, ttl, pr, src, dst⟩ = o + 8192) := by show _ = _; simp [flagsN]; omega
    have HO := Lib.hid (or_u64 o 8192 13 rfl (by omega) (by omega) (by omega))
    clear ho
    go_enter Try.func61, Try.ntmps61
    go_wp2_with fail
    go_ret
    exact ⟨ret_i (by rw [HF.out, ← HO.out]; rfl), by go_grown⟩
  · have HF : Hid (flagsN ⟨tos, id, false, true, false, o, ttl, pr, src, dst⟩ = o + 16384) := by show _ = _; simp [flagsN]; omega
    have HO := Lib.hid (or_u64 o 16384 14 rfl (by omega) (by omega) (by omega))
    clear ho
    go_enter Try.func61, Try.ntmps61
    go_wp2_with fail
    go_ret
    exact ⟨ret_i (by rw [HF.out, ← HO.out]; rfl), by go_grown⟩
  · have HF : Hid (flagsN ⟨tos, id, false, true, true, o, ttl, pr, src, dst⟩ = o + 16384 + 8192) := by show _ = _; simp [flagsN]; omega
    have HO := Lib.hid (or_u64 o 16384 14 rfl (by omega) (by omega) (by omega))
    have HO2 := Lib.hid (or_u64 (o + 16384) 8192 13 rfl (by omega) (by omega) (by omega))
    clear ho
    go_enter Try.func61, Try.ntmps61
    go_wp2_with fail
    go_ret
    exact ⟨ret_i (by rw [HF.out, ← HO2.out, ← HO.out]; rfl), by go_grown⟩
  · have HF : Hid (flagsN ⟨tos, id, true, false, false, o, ttl, pr, src, dst⟩ = o + 32768) := by show _ = _; simp [flagsN]; omega
    have HO := Lib.hid (or_u64 o 32768 15 rfl (by omega) (by omega) (by omega))
    clear ho
    go_enter Try.func61, Try.ntmps61
    go_wp2_with fail
    go_ret
    exact ⟨ret_i (by rw [HF.out, ← HO.out]; rfl), by go_grown⟩
  · have HF : Hid (flagsN ⟨tos, id, true, false, true, o, ttl, pr, src, dst⟩ = o + 32768 + 8192) := by show _ = _; simp [flagsN]; omega
    have HO := Lib.hid (or_u64 o 32768 15 rfl (by omega) (by omega) (by omega))
    have HO2 := Lib.hid (or_u64 (o + 32768) 8192 13 rfl (by omega) (by omega) (by omega))
    clear ho
    go_enter Try.func61, Try.ntmps61
    go_wp2_with fail
    go_ret
    exact ⟨ret_i (by rw [HF.out, ← HO2.out, ← HO.out]; rfl), by go_grown⟩
  · have HF : Hid (flagsN ⟨tos, id, true, true, false, o, ttl, pr, src, dst⟩ = o + 32768 + 16384) := by show _ = _; simp [flagsN]; omega
    have HO := Lib.hid (or_u64 o 32768 15 rfl (by omega) (by omega) (by omega))
    have HO2 := Lib.hid (or_u64 (o + 32768) 16384 14 rfl (by omega) (by omega) (by omega))
    clear ho
    go_enter Try.func61, Try.ntmps61
    go_wp2_with fail
    go_ret
    exact ⟨ret_i (by rw [HF.out, ← HO2.out, ← HO.out]; rfl), by go_grown⟩
  · have HF : Hid (flagsN ⟨tos, id, true, true, true, o, ttl, pr, src, dst⟩ = o + 32768 + 16384 + 8192) := by show _ = _; simp [flagsN]; omega
    have HO := Lib.hid (or_u64 o 32768 15 rfl (by omega) (by omega) (by omega))
    have HO2 := Lib.hid (or_u64 (o + 32768) 16384 14 rfl (by omega) (by omega) (by omega))
    have HO3 := Lib.hid (or_u64 (o + 32768 + 16384) 8192 13 rfl (by omega) (by omega) (by omega))
    clear ho
    go_enter Try.func61, Try.ntmps61
    go_wp2_with fail
    go_ret
    exact ⟨ret_i (by rw [HF.out, ← HO3.out, ← HO2.out, ← HO.out]; rfl), by go_grown⟩

/-- The first twenty bytes of a header. -/
def hd20 (h : Hd) (size total chk : Nat) : List UInt8 :=
  putL (64 + size / 4) 1 ++ (putL h.tos 1 ++ (putL total 2 ++ (putL h.id 2 ++ (putL (flagsN h) 2 ++ (putL h.ttl 1 ++ (putL h.pr 1 ++ (putL chk 2 ++ (putL h.src 4 ++ putL h.dst 4))))))))
theorem hd20_length (h : Hd) (size total chk : Nat) : (hd20 h size total chk).length = 20 := rfl
/-- A header's bytes, with a checksum. -/
def hdrS (h : Hd) (O P : List UInt8) (chk : Nat) : List UInt8 := hd20 h (20 + O.length) (20 + O.length + P.length) chk ++ O
def chkN (h : Hd) (O P : List UInt8) : Nat := 65535 - Sm.tot (hdrS h O P 0)
/-- A packet's bytes. -/
def pktL (h : Hd) (O P : List UInt8) : List UInt8 := hdrS h O P (chkN h O P) ++ P
theorem spl_hd (h : Hd) (size total chk : Nat) (R : List UInt8) :
    spl (spl (spl (spl (spl (spl (spl (spl (spl (List.replicate 20 0 ++ R) 0 (putL (64 + size / 4) 1)) 1 (putL h.tos 1)) 2 (putL total 2)) 4 (putL h.id 2)) 6 (putL (flagsN h) 2)) 8 (putL h.ttl 1)) 9 (putL h.pr 1)) 12 (putL h.src 4)) 16 (putL h.dst 4) = hd20 h size total 0 ++ R := rfl
theorem spl_chk (h : Hd) (size total chk : Nat) (R : List UInt8) : spl (hd20 h size total 0 ++ R) 10 (putL chk 2) = hd20 h size total chk ++ R := rfl
end Go.Proofs.Ytnhkkpcepppgoaa
