/- TrieGone: the walk.
   A trie that is not there: what its functions answer; the laws' nothing.
   The laws' known: the walk. -/
import Derived.Test.YtbfkjdnopiadjaaZ12
import Derived.Test.YtbfkjdnopiadjaaZ15

set_option linter.unusedSimpArgs false
set_option linter.unusedVariables false
namespace Go.Proofs.Ytbfkjdnopiadjaa
open Go.RowKit
attribute [local go_sem ↓] Go.wp_at_zero Go.wp_at_succ
attribute [local go_sem ↓ high] eqP neP
open Tp (Pf Ok En Tr)

def kp0 : Pf := (167772160, 8)
def kp1 : Pf := (167837696, 16)
def kp2 : Pf := (167903232, 16)
def K1 : Tr := insT 3 kp0 1 .nil
def K2 : Tr := insT 3 kp1 2 K1
def K3 : Tr := insT 3 kp2 3 K2
def K5 : Tr := delT kp0 K3
theorem kc1 : insC 3 kp0 (Tr.nil).el = 0 := by kernel_rfl
theorem kc2 : insC 3 kp1 K1.el = 0 := by kernel_rfl
theorem km1 : lastE (K2.el.filter (Tp.hasE 167838211)) = ((kp1, 2), true) := by kernel_rfl
theorem km2 : lastE (K2.el.filter (Tp.hasE 167903747)) = ((kp0, 1), true) := by kernel_rfl
theorem km3 : lastE (K2.el.filter (Tp.hasE 184549376)) = (((0, 0), 0), false) := by kernel_rfl
theorem kc3 : insC 3 kp2 K2.el = 0 := by kernel_rfl
theorem kn3 : K3.size = 4 := by kernel_rfl
theorem kc4 : insC 3 (0, 0) K3.el = 5 := by kernel_rfl
theorem kt4 : insT 3 (0, 0) 4 K3 = K3 := by kernel_rfl
theorem kc5 : delC kp0 K3.el = 0 := by kernel_rfl
theorem kn5 : K5.size = 3 := by kernel_rfl
theorem ks : K1.size ≤ 1000000 ∧ K2.size ≤ 1000000 := by
  have a : K1.size = 1 := by kernel_rfl
  have b : K2.size = 2 := by kernel_rfl
  omega
theorem ten08 (w : World) : Calls Try.prog 28 #[.int .u32 0, .int .i64 8] w fun e w' => e = .returned (.agg #[.int .u32 167772160, .int .i64 8]) ∧ Below w.heap.size w w' := tenT 0 8 (.inl rfl) w
theorem ten116 (w : World) : Calls Try.prog 28 #[.int .u32 1, .int .i64 16] w fun e w' => e = .returned (.agg #[.int .u32 167837696, .int .i64 16]) ∧ Below w.heap.size w w' := tenT 1 16 (.inr (.inl rfl)) w
theorem ten216 (w : World) : Calls Try.prog 28 #[.int .u32 2, .int .i64 16] w fun e w' => e = .returned (.agg #[.int .u32 167903232, .int .i64 16]) ∧ Below w.heap.size w w' := tenT 2 16 (.inr (.inr rfl)) w
theorem ad0 : Ad kp0 := ⟨by decide, by decide⟩
theorem ad1 : Ad kp1 := ⟨by decide, by decide⟩
theorem ad2 : Ad kp2 := ⟨by decide, by decide⟩

set_option maxHeartbeats 4000000 in
set_option maxRecDepth 100000 in
theorem knownT (w : World) : Calls Try.prog 9 #[] w fun e w' => e = .returned (.bool true) ∧ Below w.heap.size w w' := by
  have HN := Lib.hid (newT 3 w (by decide))
  go_enter Try.func9, Try.ntmps9
  go_wp2_with fail
  refine HN.out.mono ?_
  rintro e w1 ⟨rfl, h1, b1⟩
  have H1 : Hid (TSt w.heap.size 3 .nil w1) := h1
  have B1 := Lib.hid b1
  clear h1 b1 HN
  go_wp2_with fail
  refine (ten08 _).mono ?_
  rintro e w2 ⟨rfl, b2⟩
  have H2 := Lib.hid (H1.out.later b2)
  have B2 := Lib.hid (below_of B1.out b2)
  clear b2
  have C2 := Lib.hid (insertT H2.out ad0 1 (by decide))
  rw [kc1] at C2
  go_wp2_with fail
  refine (C2.out).mono ?_
  rintro e w3 ⟨rfl, h3, c3⟩
  have H3 := Lib.hid h3
  have B3 := Lib.hid (B2.out.trans (c3.below B2.out.size (by simp)))
  clear h3 c3 C2
  change Hid (TSt w.heap.size 3 K1 w3) at H3
  go_wp2_with fail
  refine (ten116 _).mono ?_
  rintro e w4 ⟨rfl, b4⟩
  have H4 := Lib.hid (H3.out.later b4)
  have B4 := Lib.hid (below_of B3.out b4)
  clear b4
  have C4 := Lib.hid (insertT H4.out ad1 2 ks.1)
  rw [kc2] at C4
  go_wp2_with fail
  refine (C4.out).mono ?_
  rintro e w5 ⟨rfl, h5, c5⟩
  have H5 := Lib.hid h5
  have B5 := Lib.hid (B4.out.trans (c5.below B4.out.size (by simp)))
  clear h5 c5 C4
  change Hid (TSt w.heap.size 3 K2 w5) at H5
  have C5 := Lib.hid (matchT H5.out (a := 167838211) (by decide) (by decide))
  rw [km1] at C5
  have D5 : Hid (Calls Try.prog 23 #[.pointer (some ⟨w.heap.size, 0, none⟩), .int .u32 167838211] w5 fun e w' => e = .returned (.tuple #[.agg #[.int .u32 167837696, .int .i64 16], .int .i64 2, .bool true]) ∧ Below w5.heap.size w5 w') := C5.out
  clear C5
  go_wp2_with fail
  refine (D5.out).mono ?_
  rintro e w6 ⟨rfl, b6⟩
  have H6 := Lib.hid (H5.out.later b6)
  have B6 := Lib.hid (below_of B5.out b6)
  clear b6 D5
  have Px := BlkAt.new w6 (t := 37) [.int .u32 167837696, .int .i64 16]
  have Pn : Hid (w.heap.size < w6.heap.size) := by have h1 := H6.out.lt; exact h1
  obtain ⟨w7, hw7⟩ : ∃ W, W = w6.alloc (.cells #[.int .u32 167837696, .int .i64 16] 37) := ⟨_, rfl⟩
  have b7 : Below w6.heap.size w6 w7 := by rw [hw7]; exact ba1 _ _
  have P7 : Hid (BlkAt 37 w6.heap.size [.int .u32 167837696, .int .i64 16] w7) := by rw [hw7]; exact Px
  clear Px
  have H7 := Lib.hid (H6.out.later b7)
  have B7 := Lib.hid (below_of B6.out b7)
  go_wp2_with fail
  rw [← hw7]
  clear hw7
  have C7 := Lib.hid (matchT H7.out (a := 167903747) (by decide) (by decide))
  rw [km2] at C7
  have D7 : Hid (Calls Try.prog 23 #[.pointer (some ⟨w.heap.size, 0, none⟩), .int .u32 167903747] w7 fun e w' => e = .returned (.tuple #[.agg #[.int .u32 167772160, .int .i64 8], .int .i64 1, .bool true]) ∧ Below w7.heap.size w7 w') := C7.out
  clear C7
  go_wp2_with fail
  refine (D7.out).mono ?_
  rintro e w8 ⟨rfl, b8⟩
  have H8 := Lib.hid (H7.out.later b8)
  have B8 := Lib.hid (below_of B7.out b8)
  have P8 := Lib.hid (P7.out.later b8)
  clear b8 D7
  have Qx := BlkAt.new w8 (t := 37) [.int .u32 167772160, .int .i64 8]
  have Qn : Hid (w.heap.size < w8.heap.size) := by have h1 := H8.out.lt; exact h1
  obtain ⟨w9, hw9⟩ : ∃ W, W = w8.alloc (.cells #[.int .u32 167772160, .int .i64 8] 37) := ⟨_, rfl⟩
  have b9 : Below w8.heap.size w8 w9 := by rw [hw9]; exact ba1 _ _
  have Q9 : Hid (BlkAt 37 w8.heap.size [.int .u32 167772160, .int .i64 8] w9) := by rw [hw9]; exact Qx
  clear Qx
  have H9 := Lib.hid (H8.out.later b9)
  have B9 := Lib.hid (below_of B8.out b9)
  have P9 := Lib.hid (P8.out.later b9)
  go_wp2_with fail
  rw [← hw9]
  clear hw9
  have C9 := Lib.hid (matchT H9.out (a := 184549376) (by decide) (by decide))
  rw [km3] at C9
  have D9 : Hid (Calls Try.prog 23 #[.pointer (some ⟨w.heap.size, 0, none⟩), .int .u32 184549376] w9 fun e w' => e = .returned (.tuple #[.agg #[.int .u32 0, .int .i64 0], .int .i64 0, .bool false]) ∧ Below w9.heap.size w9 w') := C9.out
  clear C9
  go_wp2_with fail
  refine (D9.out).mono ?_
  rintro e w10 ⟨rfl, b10⟩
  have H10 := Lib.hid (H9.out.later b10)
  have B10 := Lib.hid (below_of B9.out b10)
  have P10 := Lib.hid (P9.out.later b10)
  have Q10 := Lib.hid (Q9.out.later b10)
  clear b10 D9
  obtain ⟨w11, hw11⟩ : ∃ W, W = w10.alloc (.cells #[.int .u32 0, .int .i64 0] 37) := ⟨_, rfl⟩
  have b11 : Below w10.heap.size w10 w11 := by rw [hw11]; exact ba1 _ _
  have H11 := Lib.hid (H10.out.later b11)
  have B11 := Lib.hid (below_of B10.out b11)
  have P11 := Lib.hid (P10.out.later b11)
  have Q11 := Lib.hid (Q10.out.later b11)
  go_wp2_with fail
  rw [← hw11]
  clear hw11
  go_wp2_with fail
  refine (ten216 _).mono ?_
  rintro e w12 ⟨rfl, b12⟩
  have H12 := Lib.hid (H11.out.later b12)
  have B12 := Lib.hid (below_of B11.out b12)
  have P12 := Lib.hid (P11.out.later b12)
  have Q12 := Lib.hid (Q11.out.later b12)
  clear b12
  have C12 := Lib.hid (insertT H12.out ad2 3 ks.2)
  rw [kc3] at C12
  go_wp2_with fail
  refine (C12.out).mono ?_
  rintro e w13 ⟨rfl, h13, c13⟩
  have H13 := Lib.hid h13
  have B13 := Lib.hid (B12.out.trans (c13.below B12.out.size (by simp)))
  have P13 := Lib.hid (c13.blk P12.out (by have := Pn.out; simp; omega))
  have Q13 := Lib.hid (c13.blk Q12.out (by have := Qn.out; simp; omega))
  clear h13 c13 C12
  change Hid (TSt w.heap.size 3 K3 w13) at H13
  have C13 := Lib.hid (nodesT H13.out (by rw [kn3]; decide))
  rw [kn3] at C13
  go_wp2_with fail
  refine (C13.out).mono ?_
  rintro e w14 ⟨rfl, b14⟩
  have H14 := Lib.hid (H13.out.later b14)
  have B14 := Lib.hid (below_of B13.out b14)
  have P14 := Lib.hid (P13.out.later b14)
  have Q14 := Lib.hid (Q13.out.later b14)
  clear b14 C13
  have C14 := Lib.hid (insertT (p := (0, 0)) H14.out ⟨by decide, by decide⟩ 4 (by rw [kn3]; decide))
  rw [kc4, kt4] at C14
  go_wp2_with fail
  refine (C14.out).mono ?_
  rintro e w15 ⟨rfl, h15, c15⟩
  have H15 := Lib.hid h15
  have B15 := Lib.hid (B14.out.trans (c15.below B14.out.size (by simp)))
  have P15 := Lib.hid (c15.blk P14.out (by have := Pn.out; simp; omega))
  have Q15 := Lib.hid (c15.blk Q14.out (by have := Qn.out; simp; omega))
  clear h15 c15 C14
  go_wp2_with fail
  refine (ten08 _).mono ?_
  rintro e w16 ⟨rfl, b16⟩
  have H16 := Lib.hid (H15.out.later b16)
  have B16 := Lib.hid (below_of B15.out b16)
  have P16 := Lib.hid (P15.out.later b16)
  have Q16 := Lib.hid (Q15.out.later b16)
  clear b16
  have C16 := Lib.hid (deleteT H16.out ad0 (by rw [kn3]; decide))
  rw [kc5] at C16
  go_wp2_with fail
  refine (C16.out).mono ?_
  rintro e w17 ⟨rfl, h17, c17⟩
  have H17 := Lib.hid h17
  have B17 := Lib.hid (B16.out.trans (c17.below B16.out.size (by simp)))
  have P17 := Lib.hid (c17.blk P16.out (by have := Pn.out; simp; omega))
  have Q17 := Lib.hid (c17.blk Q16.out (by have := Qn.out; simp; omega))
  clear h17 c17 C16
  change Hid (TSt w.heap.size 3 K5 w17) at H17
  have HNd := Lib.hid (fun (V : World) (hb : Below w17.heap.size w17 V) => nodesT (H17.out.later hb) (by rw [kn5]; decide))
  rw [kn5] at HNd
  have sp1 : sameP 167837696 16 167837696 16 = true := by kernel_rfl
  have sp2 : sameP 167772160 8 167772160 8 = true := by kernel_rfl
  have p0 := P17.out.cell (j := 0) rfl
  have p1 := P17.out.cell (j := 1) rfl
  have q0 := Q17.out.cell (j := 0) rfl
  have q1 := Q17.out.cell (j := 1) rfl
  go_wp2_with fail
  (refine wp_region_held_drew (S := (fun w' => Below w17.heap.size w17 w')) (by kernel_rfl) ?_ (fun hHeld => ?_); (focus ((try dsimp only); (exact (Below.refl _ _).drew))))
  (refine wpAnyH_take (i := 0) (v := ?_) rfl (by kernel_rfl) (by kernel_rfl) (by kernel_rfl) (fun _ _ _ h => h) (Or.inl ⟨by rfl, ?_⟩) hHeld ?_; rotate_left; (focus (intro w hSw; (try dsimp only at hSw); go_simp; try with_reducible rfl)); (try simp only [Act.put, List.setIfInBounds_toArray, List.set_cons_zero, List.set_cons_succ, List.getElem_toArray, List.getElem_cons_zero])); (refine wpAnyH_take (i := 2) (v := ?_) rfl (by kernel_rfl) (by kernel_rfl) (by kernel_rfl) (fun _ _ _ h => h) (Or.inl ⟨by rfl, ?_⟩) hHeld ?_; rotate_left; (focus (intro w hSw; (try dsimp only at hSw); go_simp; try with_reducible rfl)); (try simp only [Act.put, List.setIfInBounds_toArray, List.set_cons_zero, List.set_cons_succ, List.getElem_toArray, List.getElem_cons_zero, List.getElem_cons_succ])); (refine wpAnyH_take (i := 5) (v := ?_) rfl (by kernel_rfl) (by kernel_rfl) (by kernel_rfl) (fun _ _ _ h => h) (Or.inl ⟨by rfl, ?_⟩) hHeld ?_; rotate_left; (focus (intro w hSw; (try dsimp only at hSw); go_simp; try with_reducible rfl)); (try simp only [Act.put, List.setIfInBounds_toArray, List.set_cons_zero, List.set_cons_succ, List.getElem_toArray, List.getElem_cons_zero, List.getElem_cons_succ])); (refine wpAnyH_take (i := 8) (v := ?_) rfl (by kernel_rfl) (by kernel_rfl) (by kernel_rfl) (fun _ _ _ h => h) (Or.inl ⟨by rfl, ?_⟩) hHeld ?_; rotate_left; (focus (intro w hSw; (try dsimp only at hSw); go_simp; try with_reducible rfl)); (try simp only [Act.put, List.setIfInBounds_toArray, List.set_cons_zero, List.set_cons_succ, List.getElem_toArray, List.getElem_cons_zero, List.getElem_cons_succ]))
  (refine wpAnyH_ready (rs := [1]) (by kernel_rfl) (by simp) ?_; refine AllReadyH.cons rfl (fun K hK => ?_) AllReadyH.nil; go_simp; (refine (numT _ _).mono ?_; rintro e v1 ⟨rfl, rfl⟩); refine hK.out _ _ ?_ (fun hHeldN => ?_); (focus ((try dsimp only); (exact hHeld))); clear hK K hHeld; have hHeld := hHeldN; clear hHeldN; (try simp only [Act.put, List.setIfInBounds_toArray, List.set_cons_zero, List.set_cons_succ, List.getElem_toArray, List.getElem_cons_zero, List.getElem_cons_succ]))
  (refine wpAnyH_ready (rs := [3]) (by kernel_rfl) (by simp) ?_; refine AllReadyH.cons rfl (fun K hK => ?_) AllReadyH.nil; go_simp; (refine (numT _ _).mono ?_; rintro e v3 ⟨rfl, rfl⟩); refine hK.out _ _ ?_ (fun hHeldN => ?_); (focus ((try dsimp only); (exact hHeld))); clear hK K hHeld; have hHeld := hHeldN; clear hHeldN; (try simp only [Act.put, List.setIfInBounds_toArray, List.set_cons_zero, List.set_cons_succ, List.getElem_toArray, List.getElem_cons_zero, List.getElem_cons_succ]))
  (refine wpAnyH_take (i := 4) (v := ?_) rfl (by kernel_rfl) (by kernel_rfl) (by kernel_rfl) (fun _ _ _ h => h) (Or.inl ⟨by rfl, ?_⟩) hHeld ?_; rotate_left; (focus (intro w hSw; (try dsimp only at hSw); go_simp; try with_reducible rfl)); (try simp only [Act.put, List.setIfInBounds_toArray, List.set_cons_zero, List.set_cons_succ, List.getElem_toArray, List.getElem_cons_zero, List.getElem_cons_succ]))
  (refine wpAnyH_ready (rs := [6]) (by kernel_rfl) (by simp) ?_; refine AllReadyH.cons rfl (fun K hK => ?_) AllReadyH.nil; go_simp; (refine (numT _ _).mono ?_; rintro e v6 ⟨rfl, rfl⟩); refine hK.out _ _ ?_ (fun hHeldN => ?_); (focus ((try dsimp only); (exact hHeld))); clear hK K hHeld; have hHeld := hHeldN; clear hHeldN; (try simp only [Act.put, List.setIfInBounds_toArray, List.set_cons_zero, List.set_cons_succ, List.getElem_toArray, List.getElem_cons_zero, List.getElem_cons_succ]))
  (refine wpAnyH_take (i := 7) (v := ?_) rfl (by kernel_rfl) (by kernel_rfl) (by kernel_rfl) (fun _ _ _ h => h) (Or.inl ⟨by rfl, ?_⟩) hHeld ?_; rotate_left; (focus (intro w hSw; (try dsimp only at hSw); go_simp; try with_reducible rfl)); (try simp only [Act.put, List.setIfInBounds_toArray, List.set_cons_zero, List.set_cons_succ, List.getElem_toArray, List.getElem_cons_zero, List.getElem_cons_succ]))
  (refine wpAnyH_ready (rs := [9]) (by kernel_rfl) (by simp) ?_; refine AllReadyH.cons rfl (fun K hK => ?_) AllReadyH.nil; go_simp; (refine (numT _ _).mono ?_; rintro e v9 ⟨rfl, rfl⟩); refine hK.out _ _ ?_ (fun hHeldN => ?_); (focus ((try dsimp only); (exact hHeld))); clear hK K hHeld; have hHeld := hHeldN; clear hHeldN; (try simp only [Act.put, List.setIfInBounds_toArray, List.set_cons_zero, List.set_cons_succ, List.getElem_toArray, List.getElem_cons_zero, List.getElem_cons_succ]))
  (refine wpAnyH_take (i := 10) (v := ?_) rfl (by kernel_rfl) (by kernel_rfl) (by kernel_rfl) (fun _ _ _ h => h) (Or.inl ⟨by rfl, ?_⟩) hHeld ?_; rotate_left; (focus (intro w hSw; (try dsimp only at hSw); go_simp; try with_reducible rfl)); (try simp only [Act.put, List.setIfInBounds_toArray, List.set_cons_zero, List.set_cons_succ, List.getElem_toArray, List.getElem_cons_zero, List.getElem_cons_succ])); (refine wpAnyH_take (i := 11) (v := ?_) rfl (by kernel_rfl) (by kernel_rfl) (by kernel_rfl) (fun _ _ _ h => h) (Or.inl ⟨by rfl, ?_⟩) hHeld ?_; rotate_left; (focus (intro w hSw; (try dsimp only at hSw); go_simp; try with_reducible rfl)); (try simp only [Act.put, List.setIfInBounds_toArray, List.set_cons_zero, List.set_cons_succ, List.getElem_toArray, List.getElem_cons_zero, List.getElem_cons_succ])); (refine wpAnyH_take (i := 12) (v := ?_) rfl (by kernel_rfl) (by kernel_rfl) (by kernel_rfl) (fun _ _ _ h => h) (Or.inl ⟨by rfl, ?_⟩) hHeld ?_; rotate_left; (focus (intro w hSw; (try dsimp only at hSw); go_simp; try with_reducible rfl)); (try simp only [Act.put, List.setIfInBounds_toArray, List.set_cons_zero, List.set_cons_succ, List.getElem_toArray, List.getElem_cons_zero, List.getElem_cons_succ]))
  (refine wpAnyH_take (i := 13) (v := ?_) rfl (by kernel_rfl) (by kernel_rfl) (by kernel_rfl) (fun _ _ _ h => h) (Or.inl ⟨by rfl, ?_⟩) hHeld ?_; rotate_left; (focus (intro w hSw; (try dsimp only at hSw); go_simp; ((have hc0 := cell_later hSw p0); (have hc1 := cell_later hSw p1); go_simp; try with_reducible rfl))); (try simp only [Act.put, List.setIfInBounds_toArray, List.set_cons_zero, List.set_cons_succ, List.getElem_toArray, List.getElem_cons_zero, List.getElem_cons_succ]))
  (refine wpAnyH_ready (rs := [14]) (by kernel_rfl) (by simp) ?_; refine AllReadyH.cons rfl (fun K hK => ?_) AllReadyH.nil; go_simp; (refine (ten116 _).mono ?_; rintro e v14 ⟨rfl, hb14⟩); refine hK.out _ _ ?_ (fun hHeldN => ?_); (focus ((try dsimp only); (exact below_of hHeld hb14))); clear hK K hHeld; have hHeld := hHeldN; clear hHeldN; (try simp only [Act.put, List.setIfInBounds_toArray, List.set_cons_zero, List.set_cons_succ, List.getElem_toArray, List.getElem_cons_zero, List.getElem_cons_succ]))
  (refine wpAnyH_take (i := 15) (v := ?_) rfl (by kernel_rfl) (by kernel_rfl) (by kernel_rfl) (fun _ _ _ h => h) (Or.inl ⟨by rfl, ?_⟩) hHeld ?_; rotate_left; (focus (intro w hSw; (try dsimp only at hSw); go_simp; try with_reducible rfl)); (try simp only [Act.put, List.setIfInBounds_toArray, List.set_cons_zero, List.set_cons_succ, List.getElem_toArray, List.getElem_cons_zero, List.getElem_cons_succ])); (refine wpAnyH_take (i := 16) (v := ?_) rfl (by kernel_rfl) (by kernel_rfl) (by kernel_rfl) (fun _ _ _ h => h) (Or.inl ⟨by rfl, ?_⟩) hHeld ?_; rotate_left; (focus (intro w hSw; (try dsimp only at hSw); go_simp; try with_reducible rfl)); (try simp only [Act.put, List.setIfInBounds_toArray, List.set_cons_zero, List.set_cons_succ, List.getElem_toArray, List.getElem_cons_zero, List.getElem_cons_succ])); (refine wpAnyH_take (i := 17) (v := ?_) rfl (by kernel_rfl) (by kernel_rfl) (by kernel_rfl) (fun _ _ _ h => h) (Or.inl ⟨by rfl, ?_⟩) hHeld ?_; rotate_left; (focus (intro w hSw; (try dsimp only at hSw); go_simp; try with_reducible rfl)); (try simp only [Act.put, List.setIfInBounds_toArray, List.set_cons_zero, List.set_cons_succ, List.getElem_toArray, List.getElem_cons_zero, List.getElem_cons_succ])); (refine wpAnyH_take (i := 18) (v := ?_) rfl (by kernel_rfl) (by kernel_rfl) (by kernel_rfl) (fun _ _ _ h => h) (Or.inl ⟨by rfl, ?_⟩) hHeld ?_; rotate_left; (focus (intro w hSw; (try dsimp only at hSw); go_simp; try with_reducible rfl)); (try simp only [Act.put, List.setIfInBounds_toArray, List.set_cons_zero, List.set_cons_succ, List.getElem_toArray, List.getElem_cons_zero, List.getElem_cons_succ])); (refine wpAnyH_take (i := 19) (v := ?_) rfl (by kernel_rfl) (by kernel_rfl) (by kernel_rfl) (fun _ _ _ h => h) (Or.inl ⟨by rfl, ?_⟩) hHeld ?_; rotate_left; (focus (intro w hSw; (try dsimp only at hSw); go_simp; try with_reducible rfl)); (try simp only [Act.put, List.setIfInBounds_toArray, List.set_cons_zero, List.set_cons_succ, List.getElem_toArray, List.getElem_cons_zero, List.getElem_cons_succ])); (refine wpAnyH_take (i := 20) (v := ?_) rfl (by kernel_rfl) (by kernel_rfl) (by kernel_rfl) (fun _ _ _ h => h) (Or.inl ⟨by rfl, ?_⟩) hHeld ?_; rotate_left; (focus (intro w hSw; (try dsimp only at hSw); go_simp; try with_reducible rfl)); (try simp only [Act.put, List.setIfInBounds_toArray, List.set_cons_zero, List.set_cons_succ, List.getElem_toArray, List.getElem_cons_zero, List.getElem_cons_succ])); (refine wpAnyH_take (i := 21) (v := ?_) rfl (by kernel_rfl) (by kernel_rfl) (by kernel_rfl) (fun _ _ _ h => h) (Or.inl ⟨by rfl, ?_⟩) hHeld ?_; rotate_left; (focus (intro w hSw; (try dsimp only at hSw); go_simp; try with_reducible rfl)); (try simp only [Act.put, List.setIfInBounds_toArray, List.set_cons_zero, List.set_cons_succ, List.getElem_toArray, List.getElem_cons_zero, List.getElem_cons_succ])); (refine wpAnyH_take (i := 22) (v := ?_) rfl (by kernel_rfl) (by kernel_rfl) (by kernel_rfl) (fun _ _ _ h => h) (Or.inl ⟨by rfl, ?_⟩) hHeld ?_; rotate_left; (focus (intro w hSw; (try dsimp only at hSw); go_simp; try with_reducible rfl)); (try simp only [Act.put, List.setIfInBounds_toArray, List.set_cons_zero, List.set_cons_succ, List.getElem_toArray, List.getElem_cons_zero, List.getElem_cons_succ])); (refine wpAnyH_take (i := 23) (v := ?_) rfl (by kernel_rfl) (by kernel_rfl) (by kernel_rfl) (fun _ _ _ h => h) (Or.inl ⟨by rfl, ?_⟩) hHeld ?_; rotate_left; (focus (intro w hSw; (try dsimp only at hSw); go_simp; try with_reducible rfl)); (try simp only [Act.put, List.setIfInBounds_toArray, List.set_cons_zero, List.set_cons_succ, List.getElem_toArray, List.getElem_cons_zero, List.getElem_cons_succ])); (refine wpAnyH_take (i := 24) (v := ?_) rfl (by kernel_rfl) (by kernel_rfl) (by kernel_rfl) (fun _ _ _ h => h) (Or.inl ⟨by rfl, ?_⟩) hHeld ?_; rotate_left; (focus (intro w hSw; (try dsimp only at hSw); go_simp; try with_reducible rfl)); (try simp only [Act.put, List.setIfInBounds_toArray, List.set_cons_zero, List.set_cons_succ, List.getElem_toArray, List.getElem_cons_zero, List.getElem_cons_succ]))
  (refine wpAnyH_take (i := 25) (v := ?_) rfl (by kernel_rfl) (by kernel_rfl) (by kernel_rfl) (fun _ _ _ h => h) (Or.inl ⟨by rfl, ?_⟩) hHeld ?_; rotate_left; (focus (intro w hSw; (try dsimp only at hSw); go_simp; ((have hc0 := cell_later hSw q0); (have hc1 := cell_later hSw q1); go_simp; try with_reducible rfl))); (try simp only [Act.put, List.setIfInBounds_toArray, List.set_cons_zero, List.set_cons_succ, List.getElem_toArray, List.getElem_cons_zero, List.getElem_cons_succ]))
  (refine wpAnyH_ready (rs := [26]) (by kernel_rfl) (by simp) ?_; refine AllReadyH.cons rfl (fun K hK => ?_) AllReadyH.nil; go_simp; (refine (ten08 _).mono ?_; rintro e v26 ⟨rfl, hb26⟩); refine hK.out _ _ ?_ (fun hHeldN => ?_); (focus ((try dsimp only); (exact below_of hHeld hb26))); clear hK K hHeld; have hHeld := hHeldN; clear hHeldN; (try simp only [Act.put, List.setIfInBounds_toArray, List.set_cons_zero, List.set_cons_succ, List.getElem_toArray, List.getElem_cons_zero, List.getElem_cons_succ]))
  (refine wpAnyH_take (i := 27) (v := ?_) rfl (by kernel_rfl) (by kernel_rfl) (by kernel_rfl) (fun _ _ _ h => h) (Or.inl ⟨by rfl, ?_⟩) hHeld ?_; rotate_left; (focus (intro w hSw; (try dsimp only at hSw); go_simp; try with_reducible rfl)); (try simp only [Act.put, List.setIfInBounds_toArray, List.set_cons_zero, List.set_cons_succ, List.getElem_toArray, List.getElem_cons_zero, List.getElem_cons_succ])); (refine wpAnyH_take (i := 28) (v := ?_) rfl (by kernel_rfl) (by kernel_rfl) (by kernel_rfl) (fun _ _ _ h => h) (Or.inl ⟨by rfl, ?_⟩) hHeld ?_; rotate_left; (focus (intro w hSw; (try dsimp only at hSw); go_simp; try with_reducible rfl)); (try simp only [Act.put, List.setIfInBounds_toArray, List.set_cons_zero, List.set_cons_succ, List.getElem_toArray, List.getElem_cons_zero, List.getElem_cons_succ])); (refine wpAnyH_take (i := 29) (v := ?_) rfl (by kernel_rfl) (by kernel_rfl) (by kernel_rfl) (fun _ _ _ h => h) (Or.inl ⟨by rfl, ?_⟩) hHeld ?_; rotate_left; (focus (intro w hSw; (try dsimp only at hSw); go_simp; try with_reducible rfl)); (try simp only [Act.put, List.setIfInBounds_toArray, List.set_cons_zero, List.set_cons_succ, List.getElem_toArray, List.getElem_cons_zero, List.getElem_cons_succ])); (refine wpAnyH_take (i := 30) (v := ?_) rfl (by kernel_rfl) (by kernel_rfl) (by kernel_rfl) (fun _ _ _ h => h) (Or.inl ⟨by rfl, ?_⟩) hHeld ?_; rotate_left; (focus (intro w hSw; (try dsimp only at hSw); go_simp; try with_reducible rfl)); (try simp only [Act.put, List.setIfInBounds_toArray, List.set_cons_zero, List.set_cons_succ, List.getElem_toArray, List.getElem_cons_zero, List.getElem_cons_succ])); (refine wpAnyH_take (i := 31) (v := ?_) rfl (by kernel_rfl) (by kernel_rfl) (by kernel_rfl) (fun _ _ _ h => h) (Or.inl ⟨by rfl, ?_⟩) hHeld ?_; rotate_left; (focus (intro w hSw; (try dsimp only at hSw); go_simp; try with_reducible rfl)); (try simp only [Act.put, List.setIfInBounds_toArray, List.set_cons_zero, List.set_cons_succ, List.getElem_toArray, List.getElem_cons_zero, List.getElem_cons_succ])); (refine wpAnyH_take (i := 32) (v := ?_) rfl (by kernel_rfl) (by kernel_rfl) (by kernel_rfl) (fun _ _ _ h => h) (Or.inl ⟨by rfl, ?_⟩) hHeld ?_; rotate_left; (focus (intro w hSw; (try dsimp only at hSw); go_simp; try with_reducible rfl)); (try simp only [Act.put, List.setIfInBounds_toArray, List.set_cons_zero, List.set_cons_succ, List.getElem_toArray, List.getElem_cons_zero, List.getElem_cons_succ])); (refine wpAnyH_take (i := 33) (v := ?_) rfl (by kernel_rfl) (by kernel_rfl) (by kernel_rfl) (fun _ _ _ h => h) (Or.inl ⟨by rfl, ?_⟩) hHeld ?_; rotate_left; (focus (intro w hSw; (try dsimp only at hSw); go_simp; try with_reducible rfl)); (try simp only [Act.put, List.setIfInBounds_toArray, List.set_cons_zero, List.set_cons_succ, List.getElem_toArray, List.getElem_cons_zero, List.getElem_cons_succ])); (refine wpAnyH_take (i := 34) (v := ?_) rfl (by kernel_rfl) (by kernel_rfl) (by kernel_rfl) (fun _ _ _ h => h) (Or.inl ⟨by rfl, ?_⟩) hHeld ?_; rotate_left; (focus (intro w hSw; (try dsimp only at hSw); go_simp; try with_reducible rfl)); (try simp only [Act.put, List.setIfInBounds_toArray, List.set_cons_zero, List.set_cons_succ, List.getElem_toArray, List.getElem_cons_zero, List.getElem_cons_succ])); (refine wpAnyH_take (i := 35) (v := ?_) rfl (by kernel_rfl) (by kernel_rfl) (by kernel_rfl) (fun _ _ _ h => h) (Or.inl ⟨by rfl, ?_⟩) hHeld ?_; rotate_left; (focus (intro w hSw; (try dsimp only at hSw); go_simp; try with_reducible rfl)); (try simp only [Act.put, List.setIfInBounds_toArray, List.set_cons_zero, List.set_cons_succ, List.getElem_toArray, List.getElem_cons_zero, List.getElem_cons_succ])); (refine wpAnyH_take (i := 36) (v := ?_) rfl (by kernel_rfl) (by kernel_rfl) (by kernel_rfl) (fun _ _ _ h => h) (Or.inl ⟨by rfl, ?_⟩) hHeld ?_; rotate_left; (focus (intro w hSw; (try dsimp only at hSw); go_simp; try with_reducible rfl)); (try simp only [Act.put, List.setIfInBounds_toArray, List.set_cons_zero, List.set_cons_succ, List.getElem_toArray, List.getElem_cons_zero, List.getElem_cons_succ])); (refine wpAnyH_take (i := 37) (v := ?_) rfl (by kernel_rfl) (by kernel_rfl) (by kernel_rfl) (fun _ _ _ h => h) (Or.inl ⟨by rfl, ?_⟩) hHeld ?_; rotate_left; (focus (intro w hSw; (try dsimp only at hSw); go_simp; try with_reducible rfl)); (try simp only [Act.put, List.setIfInBounds_toArray, List.set_cons_zero, List.set_cons_succ, List.getElem_toArray, List.getElem_cons_zero, List.getElem_cons_succ])); (refine wpAnyH_take (i := 38) (v := ?_) rfl (by kernel_rfl) (by kernel_rfl) (by kernel_rfl) (fun _ _ _ h => h) (Or.inl ⟨by rfl, ?_⟩) hHeld ?_; rotate_left; (focus (intro w hSw; (try dsimp only at hSw); go_simp; try with_reducible rfl)); (try simp only [Act.put, List.setIfInBounds_toArray, List.set_cons_zero, List.set_cons_succ, List.getElem_toArray, List.getElem_cons_zero, List.getElem_cons_succ])); (refine wpAnyH_take (i := 39) (v := ?_) rfl (by kernel_rfl) (by kernel_rfl) (by kernel_rfl) (fun _ _ _ h => h) (Or.inl ⟨by rfl, ?_⟩) hHeld ?_; rotate_left; (focus (intro w hSw; (try dsimp only at hSw); go_simp; try with_reducible rfl)); (try simp only [Act.put, List.setIfInBounds_toArray, List.set_cons_zero, List.set_cons_succ, List.getElem_toArray, List.getElem_cons_zero, List.getElem_cons_succ])); (refine wpAnyH_take (i := 40) (v := ?_) rfl (by kernel_rfl) (by kernel_rfl) (by kernel_rfl) (fun _ _ _ h => h) (Or.inl ⟨by rfl, ?_⟩) hHeld ?_; rotate_left; (focus (intro w hSw; (try dsimp only at hSw); go_simp; try with_reducible rfl)); (try simp only [Act.put, List.setIfInBounds_toArray, List.set_cons_zero, List.set_cons_succ, List.getElem_toArray, List.getElem_cons_zero, List.getElem_cons_succ])); (refine wpAnyH_take (i := 41) (v := ?_) rfl (by kernel_rfl) (by kernel_rfl) (by kernel_rfl) (fun _ _ _ h => h) (Or.inl ⟨by rfl, ?_⟩) hHeld ?_; rotate_left; (focus (intro w hSw; (try dsimp only at hSw); go_simp; try with_reducible rfl)); (try simp only [Act.put, List.setIfInBounds_toArray, List.set_cons_zero, List.set_cons_succ, List.getElem_toArray, List.getElem_cons_zero, List.getElem_cons_succ])); (refine wpAnyH_take (i := 42) (v := ?_) rfl (by kernel_rfl) (by kernel_rfl) (by kernel_rfl) (fun _ _ _ h => h) (Or.inl ⟨by rfl, ?_⟩) hHeld ?_; rotate_left; (focus (intro w hSw; (try dsimp only at hSw); go_simp; try with_reducible rfl)); (try simp only [Act.put, List.setIfInBounds_toArray, List.set_cons_zero, List.set_cons_succ, List.getElem_toArray, List.getElem_cons_zero, List.getElem_cons_succ])); (refine wpAnyH_take (i := 43) (v := ?_) rfl (by kernel_rfl) (by kernel_rfl) (by kernel_rfl) (fun _ _ _ h => h) (Or.inl ⟨by rfl, ?_⟩) hHeld ?_; rotate_left; (focus (intro w hSw; (try dsimp only at hSw); go_simp; try with_reducible rfl)); (try simp only [Act.put, List.setIfInBounds_toArray, List.set_cons_zero, List.set_cons_succ, List.getElem_toArray, List.getElem_cons_zero, List.getElem_cons_succ])); (refine wpAnyH_take (i := 44) (v := ?_) rfl (by kernel_rfl) (by kernel_rfl) (by kernel_rfl) (fun _ _ _ h => h) (Or.inl ⟨by rfl, ?_⟩) hHeld ?_; rotate_left; (focus (intro w hSw; (try dsimp only at hSw); go_simp; try with_reducible rfl)); (try simp only [Act.put, List.setIfInBounds_toArray, List.set_cons_zero, List.set_cons_succ, List.getElem_toArray, List.getElem_cons_zero, List.getElem_cons_succ])); (refine wpAnyH_take (i := 45) (v := ?_) rfl (by kernel_rfl) (by kernel_rfl) (by kernel_rfl) (fun _ _ _ h => h) (Or.inl ⟨by rfl, ?_⟩) hHeld ?_; rotate_left; (focus (intro w hSw; (try dsimp only at hSw); go_simp; try with_reducible rfl)); (try simp only [Act.put, List.setIfInBounds_toArray, List.set_cons_zero, List.set_cons_succ, List.getElem_toArray, List.getElem_cons_zero, List.getElem_cons_succ]))
  (refine wpAnyH_ready (rs := [46]) (by kernel_rfl) (by simp) ?_; refine AllReadyH.cons rfl (fun K hK => ?_) AllReadyH.nil; go_simp; (refine (numT _ _).mono ?_; rintro e v46 ⟨rfl, rfl⟩); refine hK.out _ _ ?_ (fun hHeldN => ?_); (focus ((try dsimp only); (exact hHeld))); clear hK K hHeld; have hHeld := hHeldN; clear hHeldN; (try simp only [Act.put, List.setIfInBounds_toArray, List.set_cons_zero, List.set_cons_succ, List.getElem_toArray, List.getElem_cons_zero, List.getElem_cons_succ]))
  (refine wpAnyH_take (i := 47) (v := ?_) rfl (by kernel_rfl) (by kernel_rfl) (by kernel_rfl) (fun _ _ _ h => h) (Or.inl ⟨by rfl, ?_⟩) hHeld ?_; rotate_left; (focus (intro w hSw; (try dsimp only at hSw); go_simp; try with_reducible rfl)); (try simp only [Act.put, List.setIfInBounds_toArray, List.set_cons_zero, List.set_cons_succ, List.getElem_toArray, List.getElem_cons_zero, List.getElem_cons_succ])); (refine wpAnyH_take (i := 48) (v := ?_) rfl (by kernel_rfl) (by kernel_rfl) (by kernel_rfl) (fun _ _ _ h => h) (Or.inl ⟨by rfl, ?_⟩) hHeld ?_; rotate_left; (focus (intro w hSw; (try dsimp only at hSw); go_simp; try with_reducible rfl)); (try simp only [Act.put, List.setIfInBounds_toArray, List.set_cons_zero, List.set_cons_succ, List.getElem_toArray, List.getElem_cons_zero, List.getElem_cons_succ])); (refine wpAnyH_take (i := 49) (v := ?_) rfl (by kernel_rfl) (by kernel_rfl) (by kernel_rfl) (fun _ _ _ h => h) (Or.inl ⟨by rfl, ?_⟩) hHeld ?_; rotate_left; (focus (intro w hSw; (try dsimp only at hSw); go_simp; try with_reducible rfl)); (try simp only [Act.put, List.setIfInBounds_toArray, List.set_cons_zero, List.set_cons_succ, List.getElem_toArray, List.getElem_cons_zero, List.getElem_cons_succ])); (refine wpAnyH_take (i := 50) (v := ?_) rfl (by kernel_rfl) (by kernel_rfl) (by kernel_rfl) (fun _ _ _ h => h) (Or.inl ⟨by rfl, ?_⟩) hHeld ?_; rotate_left; (focus (intro w hSw; (try dsimp only at hSw); go_simp; try with_reducible rfl)); (try simp only [Act.put, List.setIfInBounds_toArray, List.set_cons_zero, List.set_cons_succ, List.getElem_toArray, List.getElem_cons_zero, List.getElem_cons_succ]))
  (refine wpAnyH_ready (rs := [51]) (by kernel_rfl) (by simp) ?_; refine AllReadyH.cons rfl (fun K hK => ?_) AllReadyH.nil; go_simp; (refine (HNd.out _ hHeld).mono ?_; rintro e v51 ⟨rfl, hb51⟩); refine hK.out _ _ ?_ (fun hHeldN => ?_); (focus ((try dsimp only); (exact below_of hHeld hb51))); clear hK K hHeld; have hHeld := hHeldN; clear hHeldN; (try simp only [Act.put, List.setIfInBounds_toArray, List.set_cons_zero, List.set_cons_succ, List.getElem_toArray, List.getElem_cons_zero, List.getElem_cons_succ]))
  (refine wpAnyH_take (i := 52) (v := ?_) rfl (by kernel_rfl) (by kernel_rfl) (by kernel_rfl) (fun _ _ _ h => h) (Or.inl ⟨by rfl, ?_⟩) hHeld ?_; rotate_left; (focus (intro w hSw; (try dsimp only at hSw); go_simp; try with_reducible rfl)); (try simp only [Act.put, List.setIfInBounds_toArray, List.set_cons_zero, List.set_cons_succ, List.getElem_toArray, List.getElem_cons_zero, List.getElem_cons_succ])); (refine wpAnyH_take (i := 53) (v := ?_) rfl (by kernel_rfl) (by kernel_rfl) (by kernel_rfl) (fun _ _ _ h => h) (Or.inl ⟨by rfl, ?_⟩) hHeld ?_; rotate_left; (focus (intro w hSw; (try dsimp only at hSw); go_simp; try with_reducible rfl)); (try simp only [Act.put, List.setIfInBounds_toArray, List.set_cons_zero, List.set_cons_succ, List.getElem_toArray, List.getElem_cons_zero, List.getElem_cons_succ])); (refine wpAnyH_take (i := 54) (v := ?_) rfl (by kernel_rfl) (by kernel_rfl) (by kernel_rfl) (fun _ _ _ h => h) (Or.inl ⟨by rfl, ?_⟩) hHeld ?_; rotate_left; (focus (intro w hSw; (try dsimp only at hSw); go_simp; try with_reducible rfl)); (try simp only [Act.put, List.setIfInBounds_toArray, List.set_cons_zero, List.set_cons_succ, List.getElem_toArray, List.getElem_cons_zero, List.getElem_cons_succ]))
  refine wpAnyH_done (by kernel_rfl) ?_ _
  have HH := Lib.hid hHeld
  clear hHeld
  go_wp2_with fail
  go_ret
  exact ⟨rfl, B17.out.trans (HH.out.mono B17.out.size)⟩
end Go.Proofs.Ytbfkjdnopiadjaa

namespace Go.Proofs.Ytbfkjdnopiadjaa
open Go.RowKit
attribute [local go_sem ↓] Go.wp_at_zero Go.wp_at_succ
attribute [local go_sem ↓ high] eqP neP
open Tp (Pf Ok En Tr)

theorem noneN {tv : Value} {w : World} (h : NonV w tv) : Calls Try.prog 32 #[tv] w fun e w' => e = .returned (.bool true) ∧ w = w' := by
  rcases h with rfl | ⟨z, rfl, hz⟩
  · go_enter Try.func32, Try.ntmps32
    go_wp2_with fail
    go_ret
    exact ⟨rfl, rfl⟩
  · have c3 := hz.cell (j := 3) rfl
    clear hz
    go_enter Try.func32, Try.ntmps32
    go_wp2_with fail
    go_ret
    exact ⟨rfl, rfl⟩
theorem readyN {tv : Value} {w : World} (h : NonV w tv) (a n : Int) : Calls Try.prog 42 #[tv, .agg #[.int .u32 a, .int .i64 n]] w fun e w' => e = .returned (.int .i64 1) ∧ Below w.heap.size w w' := by
  have HN := Lib.hid (noneN (h.later (ba1 w (.cells #[.int .u32 a, .int .i64 n] 37))))
  clear h
  go_enter Try.func42, Try.ntmps42
  go_wp2_with fail
  refine HN.out.mono ?_
  rintro e w1 ⟨rfl, rfl⟩
  go_wp2_with fail
  go_ret
  exact ⟨rfl, ba1 _ _⟩
theorem insertN {tv : Value} {w : World} (h : NonV w tv) (a n x : Int) : Calls Try.prog 22 #[tv, .agg #[.int .u32 a, .int .i64 n], .int .i64 x] w fun e w' => e = .returned (.int .i64 1) ∧ Below w.heap.size w w' := by
  have hB := ba1 w (.cells #[.int .u32 a, .int .i64 n] 37)
  have HN := Lib.hid (readyN (h.later hB) a n)
  have HB := Lib.hid hB
  clear h hB
  go_enter Try.func22, Try.ntmps22
  go_wp2_with fail
  refine HN.out.mono ?_
  rintro e w1 ⟨rfl, hb⟩
  have HB2 := Lib.hid (below_of HB.out hb)
  clear hb
  go_wp2_with fail
  go_ret
  exact ⟨rfl, HB2.out⟩
theorem deleteN {tv : Value} {w : World} (h : NonV w tv) (a n : Int) : Calls Try.prog 21 #[tv, .agg #[.int .u32 a, .int .i64 n]] w fun e w' => e = .returned (.int .i64 1) ∧ Below w.heap.size w w' := by
  have hB := ba1 w (.cells #[.int .u32 a, .int .i64 n] 37)
  have HN := Lib.hid (readyN (h.later hB) a n)
  have HB := Lib.hid hB
  clear h hB
  go_enter Try.func21, Try.ntmps21
  go_wp2_with fail
  refine HN.out.mono ?_
  rintro e w1 ⟨rfl, hb⟩
  have HB2 := Lib.hid (below_of HB.out hb)
  clear hb
  go_wp2_with fail
  go_ret
  exact ⟨rfl, HB2.out⟩
theorem lenN {tv : Value} {w : World} (h : NonV w tv) : Calls Try.prog 26 #[tv] w fun e w' => e = .returned (.int .i64 0) ∧ w = w' := by
  rcases h with rfl | ⟨z, rfl, hz⟩
  · go_enter Try.func26, Try.ntmps26
    go_wp2_with fail
    go_ret
    exact ⟨rfl, rfl⟩
  · have c2 := hz.cell (j := 2) rfl
    clear hz
    go_enter Try.func26, Try.ntmps26
    go_wp2_with fail
    go_ret
    exact ⟨rfl, rfl⟩
theorem copyN {tv : Value} {w : World} (h : NonV w tv) : Calls Try.prog 11 #[tv] w fun e w' => e = .returned (.pointer none) ∧ w = w' := by
  have HN := Lib.hid (noneN h)
  clear h
  go_enter Try.func11, Try.ntmps11
  go_wp2_with fail
  refine HN.out.mono ?_
  rintro e w1 ⟨rfl, rfl⟩
  go_wp2_with fail
  go_ret
  exact ⟨rfl, rfl⟩
theorem nodesN {tv : Value} {w : World} (h : NonV w tv) : Calls Try.prog 27 #[tv] w fun e w' => e = .returned (.int .i64 0) ∧ Below w.heap.size w w' := by
  have HT := Lib.hid (topV (.inr ⟨h, rfl⟩ : Tops w tv .nil))
  clear h
  go_enter Try.func27, Try.ntmps27
  go_wp2_with fail
  refine HT.out.mono ?_
  rintro e w1 ⟨v, rfl, hv, rfl⟩
  have HS := Lib.hid (sizeT .nil v w hv (by decide))
  clear hv
  go_wp2_with fail
  refine HS.out.mono ?_
  rintro e w1 ⟨rfl, m, rfl⟩
  go_wp2_with fail
  go_ret
  exact ⟨rfl, below_dr0 _ _ _⟩
theorem NonV.tops {w : World} {tv : Value} (h : NonV w tv) : Tops w tv .nil := .inr ⟨h, rfl⟩
theorem enr_nil (w : World) : EnR w (.slice none 0 0) [] := (OwnE.nil w 0).reads
theorem nl0 (a : Int) : lastE ((Tr.nil).el.filter (Tp.hasE a)) = (((0, 0), 0), false) := rfl
theorem nl1 (p : Pf) : getA (Tp.look (Tr.nil).el p) = (0, false) := rfl

set_option maxHeartbeats 4000000 in
set_option maxRecDepth 100000 in
theorem nothingT {tv : Value} {w : World} (h : NonV w tv) : Calls Try.prog 29 #[tv] w fun e w' => e = .returned (.bool true) ∧ Below w.heap.size w w' := by
  have HN := Lib.hid h
  have htv : ∃ ad, tv = .pointer ad := by rcases h with rfl | ⟨z, rfl, _⟩ <;> exact ⟨_, rfl⟩
  obtain ⟨ad, rfl⟩ := htv
  have B0 := Lib.hid (Below.refl w.heap.size w)
  clear h
  go_enter Try.func29, Try.ntmps29
  go_wp2_with fail
  refine (tenT 0 8 (.inl rfl) _).mono ?_
  rintro e w1 ⟨rfl, b1⟩
  have B1 := Lib.hid (below_of B0.out b1)
  clear b1
  have C := Lib.hid (getV (HN.out.later B1.out).tops (p := (167772160, 8)) ⟨by decide, by decide⟩)
  rw [nl1] at C
  go_wp2_with fail
  refine C.out.mono ?_
  rintro e w2 ⟨rfl, b2⟩
  have B2 := Lib.hid (below_of B1.out b2)
  clear b2 C
  have C := Lib.hid (matchV (HN.out.later B2.out).tops (a := 0) (by decide) (by decide))
  rw [nl0] at C
  simp only [pv] at C
  go_wp2_with fail
  refine C.out.mono ?_
  rintro e w3 ⟨rfl, b3⟩
  have B3 := Lib.hid (below_of B2.out b3)
  have b4 := ba1 w3 (.cells #[.int .u32 0, .int .i64 0] 37)
  obtain ⟨w4, hw4⟩ : ∃ W, W = w3.alloc (.cells #[.int .u32 0, .int .i64 0] 37) := ⟨_, rfl⟩
  rw [← hw4] at b4
  have B4 := Lib.hid (below_of B3.out b4)
  clear b3 b4 C
  go_wp2_with fail
  rw [← hw4]
  clear hw4
  refine (tenT 1 8 (.inr (.inl rfl)) _).mono ?_
  rintro e w5 ⟨rfl, b5⟩
  have B5 := Lib.hid (below_of B4.out b5)
  clear b5
  go_wp2_with fail
  refine (insertN (HN.out.later B5.out) _ _ _).mono ?_
  rintro e w6 ⟨rfl, b6⟩
  have B6 := Lib.hid (below_of B5.out b6)
  clear b6
  go_wp2_with fail
  refine (numT _ _).mono ?_
  rintro e w7 ⟨rfl, rfl⟩
  go_wp2_with fail
  refine (tenT 1 8 (.inr (.inl rfl)) _).mono ?_
  rintro e w7 ⟨rfl, b7⟩
  have B7 := Lib.hid (below_of B6.out b7)
  clear b7
  go_wp2_with fail
  refine (deleteN (HN.out.later B7.out) _ _).mono ?_
  rintro e w8 ⟨rfl, b8⟩
  have B8 := Lib.hid (below_of B7.out b8)
  clear b8
  go_wp2_with fail
  refine (numT _ _).mono ?_
  rintro e w9 ⟨rfl, rfl⟩
  go_wp2_with fail
  refine (allV (HN.out.later B8.out).tops).mono ?_
  rintro e w9 ⟨Br, Bg, rfl, hs, _, _, b9⟩
  have B9 := Lib.hid (below_of B8.out b9)
  have C := Lib.hid (onceT (L := []) hs (enr_nil _) (by decide) 0)
  clear b9 hs
  unfold seqF at C ⊢
  go_wp2_with fail
  refine C.out.mono ?_
  rintro e w10 ⟨rfl, b10⟩
  have B10 := Lib.hid (below_of B9.out b10)
  clear b10 C
  go_wp2_with fail
  refine (coversV (HN.out.later B10.out).tops (a := 0) (by decide) (by decide)).mono ?_
  rintro e w11 ⟨Br2, Bg2, rfl, hs, _, _, b11⟩
  have B11 := Lib.hid (below_of B10.out b11)
  have C := Lib.hid (onceT (L := []) hs (enr_nil _) (by decide) 0)
  clear b11 hs
  unfold seqF at C ⊢
  go_wp2_with fail
  refine C.out.mono ?_
  rintro e w12 ⟨rfl, b12⟩
  have B12 := Lib.hid (below_of B11.out b12)
  clear b12 C
  go_wp2_with fail
  refine (lenN (HN.out.later B12.out)).mono ?_
  rintro e w13 ⟨rfl, rfl⟩
  go_wp2_with fail
  refine (nodesN (HN.out.later B12.out)).mono ?_
  rintro e w13 ⟨rfl, b13⟩
  have B13 := Lib.hid (below_of B12.out b13)
  clear b13
  go_wp2_with fail
  refine (copyN (HN.out.later B13.out)).mono ?_
  rintro e w14 ⟨rfl, rfl⟩
  go_wp2_with fail
  go_ret
  exact ⟨rfl, B13.out⟩
end Go.Proofs.Ytbfkjdnopiadjaa

namespace Go.Proofs.Ytbfkjdnopiadjaa
open Go.RowKit
attribute [local go_sem ↓] Go.wp_at_zero Go.wp_at_succ
open Tp (Pf Ok En Tr)

theorem size_le {T : Tr} {n : Nat} (h : T.Inv) (hn : T.el.length ≤ n) : T.size ≤ 2 * n := by have := h.few.1; omega
theorem TSt.few {t : Nat} {lim : Int} {T : Tr} {w : World} (h : TSt t lim T w) {n : Nat} (hn : lim = n) : T.el.length ≤ n := by have := h.le; omega
theorem delL_sub {p : Pf} {L : List En} {x : En} (h : x ∈ delL p L) : x ∈ L := by
  unfold delL at h
  split at h
  · exact (Tp.mem_del.1 h).1
  · exact h
theorem delL_ne {p : Pf} {T : Tr} (hT : T.Inv) {x : En} (h : x ∈ delL p T.el) : x.1 ≠ p := by
  unfold delL at h
  split at h
  · exact (Tp.mem_del.1 h).2
  · rename_i hm
    intro e
    have := hT.okE x h
    rw [e] at this
    exact hm this.may
theorem insL_mem {lim : Int} {p : Pf} {v : Int} {L : List En} {x : En} (h : x ∈ insL lim p v L) : x = (p, v) ∨ x ∈ L := by
  unfold insL at h
  split at h
  · exact Tp.mem_ins L p v x h
  · exact .inr h

set_option maxHeartbeats 4000000 in
set_option maxRecDepth 100000 in
theorem trieGone_walk (u0 : Value) (l : List Pf) (u1 : Value) (r : List Int) (w : World) (hl : Rds 2 pc w u0 l) (hln : l.length ≤ 9223372036854775807) (hky : ∀ x ∈ l, Ky x) (hr : Rds 1 ic w u1 r) (hrn : r.length ≤ 9223372036854775807) (hrk : ∀ x ∈ r, -9223372036854775808 ≤ x ∧ x ≤ 9223372036854775807) :
    Calls Try.prog 8 #[u0, u1] w fun e w' => e = .returned (.bool true) ∧ Below w.heap.size w w' := by
  obtain ⟨la, lc, rfl⟩ := hl.form
  obtain ⟨ra, rc, rfl⟩ := hr.form
  have HL := Lib.hid hl
  have HR := Lib.hid hr
  have HK := Lib.hid hky
  clear hl hr hky hrk
  by_cases hgo : l.length ≤ 60 ∧ r.length ≤ 300
  · obtain ⟨hl60, hr300⟩ := hgo
    have k1 : ¬ (60 : Int) < l.length := by omega
    have k2 : ¬ (300 : Int) < r.length := by omega
    have HN := Lib.hid (newT 100 w (by decide))
    go_enter Try.func8, Try.ntmps8
    go_wp2_with fail
    refine HN.out.mono ?_
    rintro e w1 ⟨rfl, h1, b1⟩
    have H1 : Hid (TSt w.heap.size 100 .nil w1) := h1
    have B1 := Lib.hid b1
    clear h1 b1 HN k1 k2
    go_wp2_with fail
    go_loopw [6] (fun x wr => ∃ (i : Nat) (T : Tr), i ≤ l.length ∧ x = .int .i64 i ∧ Hid (TSt w.heap.size 100 T wr) ∧ Hid (∀ x ∈ T.el, x.1 ∈ l) ∧ Hid (Below w.heap.size w wr)) (fun x _ => l.length - (intOf x).toNat)
    case atStart => exact ⟨0, .nil, Nat.zero_le _, rfl, H1, (fun x hx => by cases hx), B1⟩
    case round =>
      obtain ⟨i, T, hi, rfl, HT, HM, HB⟩ := hrel
      cases hx : l[i]? with
      | some p =>
        obtain ⟨g, o, rfl, _, hc⟩ := (show Rds 2 pc wr (.slice la l.length lc) l from HL.out.later HB.out).at hx
        have k0 : (i : Int) < l.length := by have := (List.getElem?_eq_some_iff.1 hx).1; omega
        have c0 := hc 0 _ rfl
        have c1 := hc 1 _ rfl
        have hm := List.mem_of_getElem? hx
        have hp := (HK.out p hm).ad
        have HC := Lib.hid (insertT HT.out hp (i : Int) (by have := size_le HT.out.inv (HT.out.few (n := 100) rfl); omega))
        have HM2 : Hid (∀ x ∈ (insT 100 p (i : Int) T).el, x.1 ∈ l) := by
          intro x hx
          rw [insT_el hp _ HT.out.inv] at hx
          rcases insL_mem hx with rfl | hx
          · exact hm
          · exact HM.out x hx
        clear hc hx hm hp
        rw [Nat.add_zero] at c0
        go_wp2_with fail
        refine HC.out.mono ?_
        rintro e w2 ⟨rfl, h2, c2⟩
        have H2 := Lib.hid h2
        have B2 := Lib.hid (HB.out.trans (c2.below HB.out.size (by simp)))
        clear h2 c2 c0 c1 HC
        go_wp2_with fail
        go_roundw
        case rel => exact ⟨i + 1, _, by omega, by go_num, H2, HM2, B2⟩
        case measure => simp [intOf]; omega
      | none =>
        have e : i = l.length := by have := List.getElem?_eq_none_iff.1 hx; omega
        subst e
        clear hx
        go_wp2_with fail
        go_loopw [7] (fun x wr => ∃ (i : Nat) (T : Tr), i ≤ r.length ∧ x = .int .i64 i ∧ Hid (TSt w.heap.size 100 T wr) ∧ Hid (∀ x ∈ T.el, x.1 ∈ l) ∧ Hid (Below w.heap.size w wr)) (fun x _ => r.length - (intOf x).toNat)
        case atStart => exact ⟨0, T, Nat.zero_le _, rfl, HT, HM, HB⟩
        case round =>
          obtain ⟨i, T, hi, rfl, HT, HM, HB⟩ := hrel
          cases hx : r[i]? with
          | some z =>
            obtain ⟨g, o, rfl, _, hc⟩ := (show Rds 1 ic wr (.slice ra r.length rc) r from HR.out.later HB.out).at hx
            have k0 : (i : Int) < r.length := by have := (List.getElem?_eq_some_iff.1 hx).1; omega
            have c0 := hc 0 _ rfl
            rw [Nat.add_zero, Nat.mul_one] at c0
            clear hc hx
            by_cases hz0 : 0 ≤ z
            · by_cases hz1 : z < l.length
              · obtain ⟨k, rfl⟩ := Int.eq_ofNat_of_zero_le hz0
                obtain ⟨p, hx⟩ : ∃ p, l[k]? = some p := ⟨l[k]'(by omega), List.getElem?_eq_getElem _⟩
                obtain ⟨g2, o2, rfl, _, hd⟩ := (show Rds 2 pc wr (.slice la l.length lc) l from HL.out.later HB.out).at hx
                have d0 := hd 0 _ rfl
                have d1 := hd 1 _ rfl
                have hm := List.mem_of_getElem? hx
                have hp := (HK.out p hm).ad
                have HC := Lib.hid (deleteT HT.out hp (by have := size_le HT.out.inv (HT.out.few (n := 100) rfl); omega))
                have HM2 : Hid (∀ x ∈ (delT p T).el, x.1 ∈ l) := by
                  intro x hx
                  rw [delT_el hp HT.out.inv] at hx
                  exact HM.out x (delL_sub hx)
                clear hd hx hm hp
                rw [Nat.add_zero] at d0
                go_wp2_with fail
                refine HC.out.mono ?_
                rintro e w2 ⟨rfl, h2, c2⟩
                have H2 := Lib.hid h2
                have B2 := Lib.hid (HB.out.trans (c2.below HB.out.size (by simp)))
                clear h2 c2 c0 d0 d1 HC
                go_wp2_with fail
                go_roundw
                case rel => exact ⟨i + 1, _, by omega, by go_num, H2, HM2, B2⟩
                case measure => simp [intOf]; omega
              · go_wp2_with fail
                go_roundw
                case rel => exact ⟨i + 1, _, by omega, by go_num, HT, HM, HB⟩
                case measure => simp [intOf]; omega
            · go_wp2_with fail
              go_roundw
              case rel => exact ⟨i + 1, _, by omega, by go_num, HT, HM, HB⟩
              case measure => simp [intOf]; omega
          | none =>
            have e : i = r.length := by have := List.getElem?_eq_none_iff.1 hx; omega
            subst e
            clear hx
            go_wp2_with fail
            go_loopw [8] (fun x wr => ∃ (i : Nat) (T : Tr), i ≤ l.length ∧ x = .int .i64 i ∧ Hid (TSt w.heap.size 100 T wr) ∧ Hid (∀ x ∈ T.el, x.1 ∈ l.drop i) ∧ Hid (Below w.heap.size w wr)) (fun x _ => l.length - (intOf x).toNat)
            case atStart => exact ⟨0, T, Nat.zero_le _, rfl, HT, by rw [List.drop_zero]; exact HM, HB⟩
            case round =>
              obtain ⟨i, T, hi, rfl, HT, HM, HB⟩ := hrel
              cases hx : l[i]? with
              | some p =>
                obtain ⟨g, o, rfl, _, hc⟩ := (show Rds 2 pc wr (.slice la l.length lc) l from HL.out.later HB.out).at hx
                have k0 : (i : Int) < l.length := by have := (List.getElem?_eq_some_iff.1 hx).1; omega
                have c0 := hc 0 _ rfl
                have c1 := hc 1 _ rfl
                have hm := List.mem_of_getElem? hx
                have hp := (HK.out p hm).ad
                have HP := Lib.hid hp
                have HX := Lib.hid hx
                have HC := Lib.hid (deleteT HT.out hp (by have := size_le HT.out.inv (HT.out.few (n := 100) rfl); omega))
                have HNe : Hid (∀ x ∈ (delT p T).el, x.1 ≠ p) := by
                  intro x hx
                  rw [delT_el hp HT.out.inv] at hx
                  exact delL_ne HT.out.inv hx
                have HM2 : Hid (∀ x ∈ (delT p T).el, x.1 ∈ l.drop (i + 1)) := by
                  intro x hx2
                  have h1 := HNe.out x hx2
                  rw [delT_el hp HT.out.inv] at hx2
                  have h2 := HM.out x (delL_sub hx2)
                  have hlt := (List.getElem?_eq_some_iff.1 hx).1
                  rw [List.drop_eq_getElem_cons hlt, (List.getElem?_eq_some_iff.1 hx).2] at h2
                  rcases List.mem_cons.1 h2 with h2 | h2
                  · exact absurd h2 h1
                  · exact h2
                clear hc hx hm hp
                rw [Nat.add_zero] at c0
                go_wp2_with fail
                refine HC.out.mono ?_
                rintro e w2 ⟨rfl, h2, c2⟩
                have H2 := Lib.hid h2
                have B2 := Lib.hid (HB.out.trans (c2.below HB.out.size (by simp)))
                have hRd := (show Rds 2 pc w2 _ l from HL.out.later B2.out).at HX.out
                obtain ⟨g', o', eg, _, hc'⟩ := hRd
                simp only [Option.some.injEq, Addr.mk.injEq, and_true] at eg
                obtain ⟨rfl, rfl⟩ := eg
                have d0 := hc' 0 _ rfl
                have d1 := hc' 1 _ rfl
                rw [Nat.add_zero] at d0
                have HG := Lib.hid (getT h2 HP.out)
                rw [look_none HNe.out] at HG
                clear h2 c2 c0 c1 HC hc'
                go_wp2_with fail
                refine HG.out.mono ?_
                rintro e w3 ⟨rfl, b3⟩
                have H3 := Lib.hid (H2.out.later b3)
                have B3 := Lib.hid (below_of B2.out b3)
                clear b3 HG d0 d1
                simp only [getA, Option.getD_none, Option.isSome_none]
                go_wp2_with fail
                go_roundw
                case rel => exact ⟨i + 1, _, by omega, by go_num, H3, HM2, B3⟩
                case measure => simp [intOf]; omega
              | none =>
                have e : i = l.length := by have := List.getElem?_eq_none_iff.1 hx; omega
                subst e
                have he : T.el = [] := by
                  cases hh : T.el with
                  | nil => rfl
                  | cons x L =>
                    have := HM.out x (by rw [hh]; exact List.mem_cons_self)
                    rw [List.drop_length] at this
                    cases this
                have hnil : T = .nil := HT.out.inv.none he
                subst hnil
                clear hx he HM
                have C := Lib.hid (matchT HT.out (a := 0) (by decide) (by decide))
                rw [nl0] at C
                simp only [pv] at C
                go_wp2_with fail
                refine C.out.mono ?_
                rintro e w3 ⟨rfl, b3⟩
                have H3 := Lib.hid (HT.out.later b3)
                have B3 := Lib.hid (below_of HB.out b3)
                have b4 := ba1 w3 (.cells #[.int .u32 0, .int .i64 0] 37)
                obtain ⟨w4, hw4⟩ : ∃ W, W = w3.alloc (.cells #[.int .u32 0, .int .i64 0] 37) := ⟨_, rfl⟩
                rw [← hw4] at b4
                have H4 := Lib.hid (H3.out.later b4)
                have B4 := Lib.hid (below_of B3.out b4)
                clear b3 b4 C
                go_wp2_with fail
                rw [← hw4]
                clear hw4
                refine (lenT H4.out).mono ?_
                rintro e w5 ⟨rfl, rfl⟩
                go_wp2_with fail
                refine (nodesT H4.out (by decide)).mono ?_
                rintro e w5 ⟨rfl, b5⟩
                have H5 := Lib.hid (H4.out.later b5)
                have B5 := Lib.hid (below_of B4.out b5)
                clear b5
                go_wp2_with fail
                refine (allT H5.out).mono ?_
                rintro e w9 ⟨Br, Bg, rfl, hs, _, _, b9⟩
                have B9 := Lib.hid (below_of B5.out b9)
                have C := Lib.hid (onceT (L := []) hs (enr_nil _) (by decide) 0)
                clear b9 hs
                unfold seqF at C ⊢
                go_wp2_with fail
                refine C.out.mono ?_
                rintro e w10 ⟨rfl, b10⟩
                have B10 := Lib.hid (below_of B9.out b10)
                clear b10 C
                go_wp2_with fail
                refine (knownT _).mono ?_
                rintro e w11 ⟨rfl, b11⟩
                have B11 := Lib.hid (below_of B10.out b11)
                clear b11
                go_wp2_with fail
                go_ret
                exact ⟨rfl, B11.out⟩
  · by_cases hl60 : l.length ≤ 60
    · have k1 : ¬ (60 : Int) < l.length := by omega
      have k2 : (300 : Int) < r.length := by omega
      clear hgo
      go_enter Try.func8, Try.ntmps8
      go_wp2_with fail
      refine (knownT _).mono ?_
      rintro e w1 ⟨rfl, b1⟩
      have B1 := Lib.hid b1
      clear b1
      go_wp2_with fail
      go_ret
      exact ⟨rfl, B1.out⟩
    · have k1 : (60 : Int) < l.length := by omega
      clear hgo
      go_enter Try.func8, Try.ntmps8
      go_wp2_with fail
      refine (knownT _).mono ?_
      rintro e w1 ⟨rfl, b1⟩
      have B1 := Lib.hid b1
      clear b1
      go_wp2_with fail
      go_ret
      exact ⟨rfl, B1.out⟩
end Go.Proofs.Ytbfkjdnopiadjaa
