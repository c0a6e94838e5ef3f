/- The walks of Of, the program's and the reference's, for longer bytes. -/
import Derived.Test.YtnhkkpcepppgoaaZ05
import Derived.Test.YtnhkkpcepppgoaaZ19

set_option linter.unusedSimpArgs false
set_option linter.unusedVariables false
namespace Go.Proofs.Ytnhkkpcepppgoaa
open Go.RowKit
attribute [local go_sem ↓] Go.wp_at_zero Go.wp_at_succ

set_option maxHeartbeats 4000000 in
set_option maxRecDepth 100000 in
theorem of_noB (a : Option Addr) (c : Nat) (l : List UInt8) (wm : World) (hv : Bytes wm (.slice a l.length c) l) (hl : l.length ≤ 100000) (h : okM l = false) :
    Calls Try.prog 27 #[.slice a l.length c] wm fun e w' => e = .returned (.tuple #[MZ, .int .i64 4]) ∧ Below wm.heap.size wm w' := by
  obtain ⟨n, hn⟩ : ∃ n, n = l.length := ⟨_, rfl⟩
  have hA : Below wm.heap.size wm (wm.alloc (.cells #[.int .u8 0, .int .u8 0, .int .u8 0, .int .u8 0, .int .u8 0, .int .u8 0, .slice none 0 0] 46)) := (Below.refl _ _).alloc (Nat.le_refl _) _
  have hr0 : BlkAt 46 wm.heap.size mzc (wm.alloc (.cells #[.int .u8 0, .int .u8 0, .int .u8 0, .int .u8 0, .int .u8 0, .int .u8 0, .slice none 0 0] 46)) := BlkAt.new wm mzc
  have hgd := goodW_anyB _ _ l (hv.later hA) hl
  have HGD := Lib.hid hgd
  have HA := Lib.hid hA
  have HR0 := Lib.hid hr0
  have HN := Lib.hid hn
  have HH := Lib.hid h
  rw [← hn]
  rw [← hn] at HGD
  clear hgd hA hr0 hv
  have fin : ∀ w1, Below (wm.alloc (.cells #[.int .u8 0, .int .u8 0, .int .u8 0, .int .u8 0, .int .u8 0, .int .u8 0, .slice none 0 0] 46)).heap.size (wm.alloc (.cells #[.int .u8 0, .int .u8 0, .int .u8 0, .int .u8 0, .int .u8 0, .int .u8 0, .slice none 0 0] 46)) w1 → Hid (BlkAt 46 wm.heap.size mzc w1) ∧ Hid (Below wm.heap.size wm w1) := fun w1 hb => ⟨HR0.out.later hb, HA.out.trans (hb.mono HA.out.size)⟩
  by_cases h8 : n < 8
  · have k1 : (n : Int) < 8 := by omega
    obtain ⟨R1, B1⟩ := fin _ (Below.refl _ _)
    clear fin h hl hn
    go_enter Try.func27, Try.ntmps27
    go_wp2_with fail
    exact bodyPost_ret (v := .tuple #[MZ, .int .i64 4]) (by simp [results, Try.results27, go_sem, MZ]) rfl ⟨rfl, B1.out⟩
  · have k1 : (8 : Int) ≤ n := by omega
    have ht : (Sm.tot l == 65535) = false := by
      unfold okM at h; rw [decide_eq_true (by omega)] at h; simpa using h
    rw [ht] at HGD
    clear h hl hn ht
    go_enter Try.func27, Try.ntmps27
    go_wp2_with fail
    refine HGD.out.mono ?_
    rintro e w1 ⟨rfl, hb1⟩
    obtain ⟨R1, B1⟩ := fin _ hb1
    clear fin hb1
    have hc : ∀ j x, mzc[j]? = some x → w1.cell? ⟨wm.heap.size, j, none⟩ = some x := fun j x hx => R1.out.cell hx
    have hfz : ∀ j, w1.frozen? ⟨wm.heap.size, j, none⟩ = false := fun j => R1.out.frozen j
    have k0 := hc 0 _ rfl
    have k1 := hc 1 _ rfl
    have k2 := hc 2 _ rfl
    have k3 := hc 3 _ rfl
    have k4 := hc 4 _ rfl
    have k5 := hc 5 _ rfl
    have k6 := hc 6 _ rfl
    obtain ⟨s1, s2, s3⟩ := BlkAt.set7 ic_ne (show BlkAt 46 wm.heap.size [.int .u8 0, .int .u8 0, .int .u8 0, .int .u8 0, .int .u8 0, .int .u8 0, .slice none 0 0] w1 from R1.out) (.int .u8 0) (.int .u8 0) (.int .u8 0) (.int .u8 0) (.int .u8 0) (.int .u8 0) (.slice none 0 0)
    have Q1 := Lib.hid s1
    have Q4 := Lib.hid (B1.out.trans (s3 _ (Nat.le_refl _)))
    clear hc s1 s2 s3
    go_wp2_with fail
    have d0 := BlkAt.cell Q1.out (j := 0) rfl
    have d1 := BlkAt.cell Q1.out (j := 1) rfl
    have d2 := BlkAt.cell Q1.out (j := 2) rfl
    have d3 := BlkAt.cell Q1.out (j := 3) rfl
    have d4 := BlkAt.cell Q1.out (j := 4) rfl
    have d5 := BlkAt.cell Q1.out (j := 5) rfl
    have d6 := BlkAt.cell Q1.out (j := 6) rfl
    exact bodyPost_ret (v := .tuple #[MZ, .int .i64 4]) (by simp [results, Try.results27, go_sem, d0, d1, d2, d3, d4, d5, d6, MZ]) rfl ⟨rfl, Q4.out⟩
set_option maxHeartbeats 8000000 in
set_option maxRecDepth 100000 in
theorem of_yesB (a : Option Addr) (c : Nat) (l : List UInt8) (wm : World) (hv : Bytes wm (.slice a l.length c) l) (hl : l.length ≤ 100000) (h : okM l = true) :
    Calls Try.prog 27 #[.slice a l.length c] wm fun e w' => ∃ u, e = .returned (.tuple #[.agg #[.int .u8 (Sm.at0 l 0 : Nat), .int .u8 (Sm.at0 l 1 : Nat), .int .u8 (Sm.at0 l 4 : Nat), .int .u8 (Sm.at0 l 5 : Nat), .int .u8 (Sm.at0 l 6 : Nat), .int .u8 (Sm.at0 l 7 : Nat), u], .int .i64 0]) ∧ OwnB w' wm.heap.size u (l.drop 8) ∧ Below wm.heap.size wm w' := by
  obtain ⟨h8, ht⟩ : 8 ≤ l.length ∧ (Sm.tot l == 65535) = true := by
    unfold okM at h; simpa using h
  obtain ⟨b, o, rfl, hbl⟩ : ∃ b o, a = some ⟨b, o, none⟩ ∧ b < wm.heap.size := by
    rcases hv with ⟨rfl, _⟩ | ⟨b, o, c', e, hb, _⟩
    · simp at h8
    · simp only [Value.slice.injEq] at e; exact ⟨b, o, e.1, hb⟩
  obtain ⟨n, hn⟩ : ∃ n, n = l.length := ⟨_, rfl⟩
  have hA : Below wm.heap.size wm (wm.alloc (.cells #[.int .u8 0, .int .u8 0, .int .u8 0, .int .u8 0, .int .u8 0, .int .u8 0, .slice none 0 0] 46)) := (Below.refl _ _).alloc (Nat.le_refl _) _
  have hr0 : BlkAt 46 wm.heap.size mzc (wm.alloc (.cells #[.int .u8 0, .int .u8 0, .int .u8 0, .int .u8 0, .int .u8 0, .int .u8 0, .slice none 0 0] 46)) := BlkAt.new wm mzc
  have hgd := goodW_anyB _ _ l (hv.later hA) hl
  rw [ht] at hgd
  obtain ⟨a8, hs8, hb8⟩ := hv.cut_l 8 8 rfl h8
  obtain ⟨a4, hs4, hb4⟩ := hv.cut_l 4 4 rfl (by omega)
  obtain ⟨b4, o4, rfl, hb4l⟩ : ∃ b o, a4 = some ⟨b, o, none⟩ ∧ b < wm.heap.size := by
    rcases hb4 with ⟨h0, _⟩ | ⟨b, o, c', e, hb, _⟩
    · have := congrArg List.length h0; simp at this; omega
    · simp only [Value.slice.injEq] at e; exact ⟨b, o, e.1, hb⟩
  have hsrc : ∀ j v, [Value.int .u8 (Sm.at0 l 4 : Nat), .int .u8 (Sm.at0 l 5 : Nat), .int .u8 (Sm.at0 l 6 : Nat), .int .u8 (Sm.at0 l 7 : Nat)][j]? = some v → wm.cell? ((⟨b4, o4, none⟩ : Addr).add j) = some v := by
    intro j v hj
    refine hb4.news j v ?_
    have hd : ∀ k, 4 + k < l.length → (bv (l.drop 4))[k]? = some (.int .u8 (Sm.at0 l (4 + k) : Nat)) := by
      intro k hk
      rw [at0_get hk]
      simp [bv, hk]
    match j, hj with
    | 0, hj => rw [← hj]; exact hd 0 (by omega)
    | 1, hj => rw [← hj]; exact hd 1 (by omega)
    | 2, hj => rw [← hj]; exact hd 2 (by omega)
    | 3, hj => rw [← hj]; exact hd 3 (by omega)
  have hcell : ∀ k, k < l.length → wm.cell? ⟨b, o + k, none⟩ = some (.int .u8 (Sm.at0 l k : Nat)) := by
    intro k hk
    rcases hv with ⟨rfl, _⟩ | ⟨b', o', c', e, _, _, hx⟩
    · simp at h8
    · simp only [Value.slice.injEq, Option.some.injEq, Addr.mk.injEq] at e
      obtain ⟨⟨rfl, rfl, _⟩, _⟩ := e
      rw [hx k l[k] (by simp [hk]), at0_get hk]
  have HGD := Lib.hid hgd
  have HA := Lib.hid hA
  have HR0 := Lib.hid hr0
  have HCL := Lib.hid hcell
  have HB8m := Lib.hid hb8
  have HSRC := Lib.hid hsrc
  have HLN : Hid (8 ≤ l.length ∧ l.length ≤ 100000 ∧ n = l.length) := ⟨h8, hl, hn⟩
  have HL8 : Hid ((l.drop 8).length ≤ 140737488355328) := by show _ ≤ _; simp; omega
  have k1 : (8 : Int) ≤ n := by omega
  have k2 : n ≤ c := by have := hv.cap; omega
  have k3 : 0 < n := by omega
  have k4 : 1 < n := by omega
  have k5 : (0 : Int) < n := by omega
  have k6 : (1 : Int) < n := by omega
  rw [← hn]
  rw [← hn] at HGD HB8m hs8 hs4
  clear hgd hA hr0 hv hcell hb8 hb4 h hn h8 hl ht hsrc
  obtain ⟨e0, he0⟩ : ∃ e, e = Sm.at0 l 0 := ⟨_, rfl⟩
  obtain ⟨e1, he1⟩ : ∃ e, e = Sm.at0 l 1 := ⟨_, rfl⟩
  obtain ⟨f4, hf4⟩ : ∃ e, e = Sm.at0 l 4 := ⟨_, rfl⟩
  obtain ⟨f5, hf5⟩ : ∃ e, e = Sm.at0 l 5 := ⟨_, rfl⟩
  obtain ⟨f6, hf6⟩ : ∃ e, e = Sm.at0 l 6 := ⟨_, rfl⟩
  obtain ⟨f7, hf7⟩ : ∃ e, e = Sm.at0 l 7 := ⟨_, rfl⟩
  rw [← hf4, ← hf5, ← hf6, ← hf7] at HSRC
  have HE : Hid (e0 = Sm.at0 l 0 ∧ e1 = Sm.at0 l 1 ∧ f4 = Sm.at0 l 4 ∧ f5 = Sm.at0 l 5 ∧ f6 = Sm.at0 l 6 ∧ f7 = Sm.at0 l 7) := ⟨he0, he1, hf4, hf5, hf6, hf7⟩
  clear he0 he1 hf4 hf5 hf6 hf7
  go_enter Try.func27, Try.ntmps27
  go_wp2_with fail
  refine HGD.out.mono ?_
  rintro e w ⟨rfl, hb1⟩
  have HBM := Lib.hid (HA.out.trans (hb1.mono HA.out.size))
  have HRM : Hid (BlkAt 46 wm.heap.size mzc w) := HR0.out.later hb1
  have HB8 : Hid (Bytes w (.slice a8 (n - 8) (c - 8)) (l.drop 8)) := (show Bytes wm _ _ from HB8m.out).later HBM.out
  have C0 : Hid (w.cell? ⟨b, o, none⟩ = some (.int .u8 (e0 : Nat))) := by rw [HE.out.1]; exact cell_later' HBM.out hbl (HCL.out 0 (by have := HLN.out; omega))
  have C1 : Hid (w.cell? ⟨b, o + 1, none⟩ = some (.int .u8 (e1 : Nat))) := by rw [HE.out.2.1]; exact cell_later' HBM.out hbl (HCL.out 1 (by have := HLN.out; omega))
  clear hb1 HGD HR0
  go_wp2_with fail
  refine wp_region_fin (S := fun w' => Below w.heap.size w w') (fun A w3 => ∃ (x5 : Value) (x6 : Value) (x7 : Value) (x8 : Value) (x9 : Value) (x10 : Value) (x11 : Value) (x12 : Value) (v15 : Value) (v18 : Value) (a22 : Option Addr) (n22 : Nat) (c22 : Nat) (g4 : Nat), A = ⟨#[.slice (some ⟨b, o, none⟩) n c, undef, .pointer (some ⟨wm.heap.size, 0, none⟩), .int .i64 0, .pointer (some ⟨g4, 0, none⟩), x5, x6, x7, x8, x9, x10, x11, x12, undef, .slice (some ⟨b, o, none⟩) n c, v15, .int .u8 (e0 : Nat), .slice (some ⟨b, o, none⟩) n c, v18, .int .u8 (e1 : Nat), .slice (some ⟨b, o, none⟩) n c, .slice a8 (n - 8) (c - 8), .slice a22 n22 c22, .agg #[.int .u8 (e0 : Nat), .int .u8 (e1 : Nat), .int .u8 0, .int .u8 0, .int .u8 0, .int .u8 0, .slice a22 n22 c22], undef, undef, undef, undef, undef, undef], []⟩ ∧ Hid (BlkAt 46 g4 [.int .u8 (e0 : Nat), .int .u8 (e1 : Nat), .int .u8 0, .int .u8 0, .int .u8 0, .int .u8 0, .slice a22 n22 c22] w3) ∧ Hid (OwnB w3 wm.heap.size (.slice a22 n22 c22) (l.drop 8)) ∧ Hid (Below w.heap.size w w3) ∧ Hid (w.heap.size ≤ g4)) (by kernel_rfl) (Below.refl _ _).drew ?fin (fun hfin hHeld => ?_)
  case fin =>
    rintro A w3 ⟨x5, x6, x7, x8, x9, x10, x11, x12, v15, v18, a22, n22, c22, g4, rfl, G1, G2, G3, HG4⟩
    clear HB8 C0 C1
    have HR3 : Hid (BlkAt 46 wm.heap.size mzc w3) := HRM.out.later G3.out
    have HBM3 := Lib.hid (HBM.out.trans (G3.out.mono HBM.out.size))
    have HNE : Hid (g4 ≠ wm.heap.size) := by have h1 := HRM.out.lt; have h2 := HG4.out; show g4 ≠ _; omega
    have k7 : 4 ≤ n - 4 := by omega
    go_wp2_with fail
    (refine wp_region_held_drew (S := (fun w' => Below w.heap.size w w')) (by kernel_rfl) ?_ (fun hHeld => ?_); (focus ((try dsimp only); (exact G3.out.drew))))
    (try dsimp only at hHeld)
    obtain ⟨w4, hw4⟩ : ∃ w4, w4 = World.drew w3 := ⟨_, rfl⟩
    have G1' : Hid (BlkAt 46 g4 [.int .u8 (e0 : Nat), .int .u8 (e1 : Nat), .int .u8 0, .int .u8 0, .int .u8 0, .int .u8 0, .slice a22 n22 c22] w4) := by rw [hw4]; exact G1.out
    have G2' : Hid (OwnB w4 wm.heap.size (.slice a22 n22 c22) (l.drop 8)) := by rw [hw4]; exact G2.out
    have HR4 : Hid (BlkAt 46 wm.heap.size mzc w4) := by rw [hw4]; exact HR3.out
    rw [← hw4]
    rw [← hw4] at hHeld
    clear hw4
    (refine wpAnyH_take (i := 0) (v := ?_) rfl (by kernel_rfl) (by kernel_rfl) (by kernel_rfl) (fun _ _ _ h => h) (Or.inl ⟨by rfl, ?_⟩) hHeld ?_; rotate_left; (focus (intro w hSw; (try dsimp only at hSw); go_simp; try with_reducible rfl)); (try simp only [Act.put, List.setIfInBounds_toArray, List.set_cons_zero, List.set_cons_succ, List.getElem_toArray, List.getElem_cons_zero])); (refine wpAnyH_take (i := 2) (v := ?_) rfl (by kernel_rfl) (by kernel_rfl) (by kernel_rfl) (fun _ _ _ h => h) (Or.inl ⟨by rfl, ?_⟩) hHeld ?_; rotate_left; (focus (intro w hSw; (try dsimp only at hSw); go_simp; try with_reducible rfl)); (try simp only [Act.put, List.setIfInBounds_toArray, List.set_cons_zero, List.set_cons_succ, List.getElem_toArray, List.getElem_cons_zero, List.getElem_cons_succ])); (refine wpAnyH_take (i := 1) (v := ?_) rfl (by kernel_rfl) (by kernel_rfl) (by kernel_rfl) (fun _ _ _ h => h) (Or.inl ⟨by rfl, ?_⟩) hHeld ?_; rotate_left; (focus (intro w hSw; (try dsimp only at hSw); go_simp; try with_reducible rfl)); (try simp only [Act.put, List.setIfInBounds_toArray, List.set_cons_zero, List.set_cons_succ, List.getElem_toArray, List.getElem_cons_zero, List.getElem_cons_succ])); (refine wpAnyH_take (i := 3) (v := ?_) rfl (by kernel_rfl) (by kernel_rfl) (by kernel_rfl) (fun _ _ _ h => h) (Or.inl ⟨by rfl, ?_⟩) hHeld ?_; rotate_left; (focus (intro w hSw; (try dsimp only at hSw); go_simp; try with_reducible rfl)); (try simp only [Act.put, List.setIfInBounds_toArray, List.set_cons_zero, List.set_cons_succ, List.getElem_toArray, List.getElem_cons_zero, List.getElem_cons_succ]))
    have had : ∀ j, (⟨b4, o4, none⟩ : Addr).add j = ⟨b4, o4 + j, none⟩ := fun j => by unfold Addr.add; split <;> simp_all
    have hsr : ∀ j v, [Value.int .u8 (f4 : Nat), .int .u8 (f5 : Nat), .int .u8 (f6 : Nat), .int .u8 (f7 : Nat)][j]? = some v → w4.cell? ((⟨b4, o4, none⟩ : Addr).add j) = some v := fun j v hj => ((HBM.out.trans (hHeld.mono HBM.out.size)).cell (by rw [had]; exact hb4l)).trans (HSRC.out j v hj)
    (refine wpAnyH_ready (rs := [4]) (by kernel_rfl) (by simp) ?_; refine AllReadyH.cons rfl (fun K hK => ?_) AllReadyH.nil; refine step_copy_blk rfl (.tmp 25) (.tmp 27) 22 22 rfl 5 Try.underlying22 (by kernel_rfl) g4 2 _ _ ⟨b4, o4, none⟩ _ _ rfl rfl [.int .u8 (e0 : Nat), .int .u8 (e1 : Nat), .int .u8 0, .int .u8 0, .int .u8 0, .int .u8 0, .slice a22 n22 c22] 46 G1'.out [.int .u8 (f4 : Nat), .int .u8 (f5 : Nat), .int .u8 (f6 : Nat), .int .u8 (f7 : Nat)] (by exact (Nat.min_eq_right k7).symm) hsr (by simp) (by simp [Value.oneCell']) ?_; intro w5 hg5 hk5 hb5; refine hK.out _ _ ?_ (fun hHeldN => ?_); (focus ((try dsimp only); (exact hHeld.trans (hb5.out _ HG4.out)))); clear hK K hHeld; have hHeld := hHeldN; clear hHeldN; (try simp only [Act.put, List.setIfInBounds_toArray, List.set_cons_zero, List.set_cons_succ, List.getElem_toArray, List.getElem_cons_zero, List.getElem_cons_succ]))
    refine wpAnyH_done (by kernel_rfl) ?_ _
    have Q1 : Hid (BlkAt 46 g4 [.int .u8 (e0 : Nat), .int .u8 (e1 : Nat), .int .u8 (f4 : Nat), .int .u8 (f5 : Nat), .int .u8 (f6 : Nat), .int .u8 (f7 : Nat), .slice a22 n22 c22] w5) := hg5
    have hq2 : OwnB w5 wm.heap.size (.slice a22 n22 c22) (l.drop 8) := OwnB.kept G2'.out hk5.out (fun b hb => BlkAt.ne_own G1'.out ic_ne G2'.out hb)
    have hq3 : BlkAt 46 wm.heap.size mzc w5 := (hk5.out _ (Ne.symm HNE.out)).trans HR4.out
    have hfz : ∀ j, w5.frozen? ⟨wm.heap.size, j, none⟩ = false := fun j => hq3.frozen j
    have c0 := Q1.out.cell (j := 0) rfl
    have c1 := Q1.out.cell (j := 1) rfl
    have c2 := Q1.out.cell (j := 2) rfl
    have c3 := Q1.out.cell (j := 3) rfl
    have c4 := Q1.out.cell (j := 4) rfl
    have c5 := Q1.out.cell (j := 5) rfl
    have c6 := Q1.out.cell (j := 6) rfl
    have k0 := hq3.cell (j := 0) rfl
    have k1 := hq3.cell (j := 1) rfl
    have k2 := hq3.cell (j := 2) rfl
    have k3 := hq3.cell (j := 3) rfl
    have k4 := hq3.cell (j := 4) rfl
    have k5 := hq3.cell (j := 5) rfl
    have k6 := hq3.cell (j := 6) rfl
    obtain ⟨s1, s2, s3⟩ := BlkAt.set7 ic_ne (show BlkAt 46 wm.heap.size [.int .u8 0, .int .u8 0, .int .u8 0, .int .u8 0, .int .u8 0, .int .u8 0, .slice none 0 0] w5 from hq3) (.int .u8 (e0 : Nat)) (.int .u8 (e1 : Nat)) (.int .u8 (f4 : Nat)) (.int .u8 (f5 : Nat)) (.int .u8 (f6 : Nat)) (.int .u8 (f7 : Nat)) (.slice a22 n22 c22)
    have S1 := Lib.hid s1
    have S2 := Lib.hid (s2 _ _ _ hq2)
    have S3 := Lib.hid ((HBM.out.trans (hHeld.mono HBM.out.size)).trans (s3 _ (Nat.le_refl _)))
    clear hq2 hq3 s1 s2 s3 hHeld hg5 hk5 hb5 hsr had
    go_wp2_with fail
    have d0 := BlkAt.cell S1.out (j := 0) rfl
    have d1 := BlkAt.cell S1.out (j := 1) rfl
    have d2 := BlkAt.cell S1.out (j := 2) rfl
    have d3 := BlkAt.cell S1.out (j := 3) rfl
    have d4 := BlkAt.cell S1.out (j := 4) rfl
    have d5 := BlkAt.cell S1.out (j := 5) rfl
    have d6 := BlkAt.cell S1.out (j := 6) rfl
    have HX := Lib.hid HE
    rw [← HE.out.1, ← HE.out.2.1, ← HE.out.2.2.1, ← HE.out.2.2.2.1, ← HE.out.2.2.2.2.1, ← HE.out.2.2.2.2.2]
    exact bodyPost_ret (v := .tuple #[.agg #[.int .u8 (e0 : Nat), .int .u8 (e1 : Nat), .int .u8 (f4 : Nat), .int .u8 (f5 : Nat), .int .u8 (f6 : Nat), .int .u8 (f7 : Nat), .slice a22 n22 c22], .int .i64 0]) (by simp [results, Try.results27, go_sem, d0, d1, d2, d3, d4, d5, d6]) rfl ⟨_, rfl, S2.out, S3.out⟩
  · obtain ⟨w0, hw0⟩ : ∃ w0, w0 = World.drew w := ⟨_, rfl⟩
    rw [← hw0]
    (try dsimp only at hHeld)
    rw [← hw0] at hHeld
    clear hw0
    change wpAnyH _ _ _ _ _ 12 _ _ _
    refine wpAnyH_cut #[true, true, true, true, true, true, true, true, true, true, true, false] 1 (fun A w1 => ∃ (x5 : Value) (x6 : Value) (x7 : Value) (x8 : Value) (x9 : Value) (x10 : Value) (x11 : Value) (x12 : Value) (v15 : Value) (v18 : Value) (a22 : Option Addr) (n22 : Nat) (c22 : Nat) (g4 : Nat), A = ⟨#[.slice (some ⟨b, o, none⟩) n c, undef, .pointer (some ⟨wm.heap.size, 0, none⟩), .int .i64 0, .pointer (some ⟨g4, 0, none⟩), x5, x6, x7, x8, x9, x10, x11, x12, undef, .slice (some ⟨b, o, none⟩) n c, v15, .int .u8 (e0 : Nat), .slice (some ⟨b, o, none⟩) n c, v18, .int .u8 (e1 : Nat), .slice (some ⟨b, o, none⟩) n c, .slice a8 (n - 8) (c - 8), .slice a22 n22 c22, .agg #[.int .u8 (e0 : Nat), .int .u8 (e1 : Nat), .int .u8 0, .int .u8 0, .int .u8 0, .int .u8 0, .slice a22 n22 c22], undef, undef, undef, undef, undef, undef], []⟩ ∧ Hid (OwnB w1 wm.heap.size (.slice a22 n22 c22) (l.drop 8)) ∧ Hid (BlkG 46 w g4 mzc w1)) ?_ (fun m0 => ?_)
    · rintro l A w1 rfl ⟨x5, x6, x7, x8, x9, x10, x11, x12, v15, v18, a22, n22, c22, g4, rfl, F22, F4⟩ hHeld
      refine wpAnyH_ready (rs := [11]) (by kernel_rfl) (by simp) ?_
      refine AllReadyH.cons rfl (fun K hK => ?_) AllReadyH.nil
      have hcz : ∀ j x, mzc[j]? = some x → w1.cell? ⟨g4, j, none⟩ = some x := fun j x hx => BlkAt.cell F4.out.1 hx
      have hfz : ∀ j, w1.frozen? ⟨g4, j, none⟩ = false := fun j => BlkAt.frozen F4.out.1 j
      have c0 := hcz 0 _ rfl
      have c1 := hcz 1 _ rfl
      have c2 := hcz 2 _ rfl
      have c3 := hcz 3 _ rfl
      have c4 := hcz 4 _ rfl
      have c5 := hcz 5 _ rfl
      have c6 := hcz 6 _ rfl
      clear hcz
      obtain ⟨s1, s2, s3⟩ := BlkAt.set7 ic_ne (show BlkAt 46 g4 [.int .u8 0, .int .u8 0, .int .u8 0, .int .u8 0, .int .u8 0, .int .u8 0, .slice none 0 0] w1 from F4.out.1) (.int .u8 (e0 : Nat)) (.int .u8 (e1 : Nat)) (.int .u8 0) (.int .u8 0) (.int .u8 0) (.int .u8 0) (.slice a22 n22 c22)
      have G1 := Lib.hid s1
      have G2 := Lib.hid (s2 _ _ _ F22.out)
      have G3 := Lib.hid (hHeld.trans (s3 _ F4.out.2))
      clear s1 s2 s3
      go_simp
      refine hK.out _ _ G3.out (fun hHeldN => ?_)
      refine wpAnyH_done (by kernel_rfl) ?_ _
      exact hfin _ _ ⟨_, _, _, _, _, _, _, _, _, _, _, _, _, _, rfl, G1, G2, G3, Lib.hid F4.out.2⟩
    refine wpAnyH_cut #[true, true, true, true, true, true, true, true, true, true, false, false] 2 (fun A w1 => ∃ (x5 : Value) (x6 : Value) (x7 : Value) (x8 : Value) (x9 : Value) (x10 : Value) (x11 : Value) (x12 : Value) (v15 : Value) (v18 : Value) (a22 : Option Addr) (n22 : Nat) (c22 : Nat), A = ⟨#[.slice (some ⟨b, o, none⟩) n c, undef, .pointer (some ⟨wm.heap.size, 0, none⟩), .int .i64 0, undef, x5, x6, x7, x8, x9, x10, x11, x12, undef, .slice (some ⟨b, o, none⟩) n c, v15, .int .u8 (e0 : Nat), .slice (some ⟨b, o, none⟩) n c, v18, .int .u8 (e1 : Nat), .slice (some ⟨b, o, none⟩) n c, .slice a8 (n - 8) (c - 8), .slice a22 n22 c22, .agg #[.int .u8 (e0 : Nat), .int .u8 (e1 : Nat), .int .u8 0, .int .u8 0, .int .u8 0, .int .u8 0, .slice a22 n22 c22], undef, undef, undef, undef, undef, undef], []⟩ ∧ Hid (OwnB w1 wm.heap.size (.slice a22 n22 c22) (l.drop 8))) ?_ (fun m1 => ?_)
    · rintro l A w1 rfl ⟨x5, x6, x7, x8, x9, x10, x11, x12, v15, v18, a22, n22, c22, rfl, F22⟩ hHeld
      refine wpAnyH_ready (rs := [10]) (by kernel_rfl) (by simp) ?_
      refine AllReadyH.cons rfl (fun K hK => ?_) AllReadyH.nil
      go_simp
      have hs : Below (World.heap w1).size w1 (w1.alloc (.cells #[.int .u8 0, .int .u8 0, .int .u8 0, .int .u8 0, .int .u8 0, .int .u8 0, .slice none 0 0] 46)) := (Below.refl _ _).alloc (Nat.le_refl _) _
      have hF : Hid (BlkG 46 w (World.heap w1).size mzc (w1.alloc (.cells #[.int .u8 0, .int .u8 0, .int .u8 0, .int .u8 0, .int .u8 0, .int .u8 0, .slice none 0 0] 46))) := ⟨BlkAt.new w1 mzc, hHeld.size⟩
      refine hK.out _ _ (hHeld.trans (hs.mono hHeld.size)) (fun hHeldN => ?_)
      exact m0 _ _ _ (by kernel_rfl) ⟨_, _, _, _, _, _, _, _, _, _, _, _, _, _, rfl, Lib.hid (F22.out.later hs), hF⟩ hHeldN
    refine wpAnyH_cut #[true, true, true, true, true, true, true, true, false, false, true, false] 3 (fun A w1 => ∃ (x5 : Value) (x6 : Value) (x7 : Value) (x8 : Value) (x9 : Value) (x10 : Value) (x11 : Value) (x12 : Value) (v15 : Value) (v18 : Value) (g4 : Nat), A = ⟨#[.slice (some ⟨b, o, none⟩) n c, undef, .pointer (some ⟨wm.heap.size, 0, none⟩), .int .i64 0, .pointer (some ⟨g4, 0, none⟩), x5, x6, x7, x8, x9, x10, x11, x12, undef, .slice (some ⟨b, o, none⟩) n c, v15, .int .u8 (e0 : Nat), .slice (some ⟨b, o, none⟩) n c, v18, .int .u8 (e1 : Nat), .slice (some ⟨b, o, none⟩) n c, .slice a8 (n - 8) (c - 8), undef, undef, undef, undef, undef, undef, undef, undef], []⟩ ∧ Hid (BlkG 46 w g4 mzc w1)) ?_ (fun m2 => ?_)
    · rintro l A w1 rfl ⟨x5, x6, x7, x8, x9, x10, x11, x12, v15, v18, g4, rfl, F4⟩ hHeld
      refine wpAnyH_ready (rs := [8]) (by kernel_rfl) (by simp) ?_
      refine AllReadyH.cons rfl (fun K hK => ?_) AllReadyH.nil
      go_simp
      refine (clone_any _ (l.drop 8) _ ((show Bytes w _ (l.drop 8) from HB8.out).later hHeld) HL8.out).mono ?_
      rintro e w_n ⟨vv, rfl, ho, hs⟩
      obtain ⟨a22, c22, rfl⟩ := ho.form
      obtain ⟨n22, hn22⟩ : ∃ k, k = (l.drop 8).length := ⟨_, rfl⟩
      rw [← hn22] at ho ⊢
      have hF : Hid (OwnB w_n wm.heap.size (.slice a22 n22 c22) (l.drop 8)) := OwnB.weak (show OwnB w_n _ _ (l.drop 8) from ho) (Nat.le_trans HBM.out.size hHeld.size)
      clear ho hn22
      simp only []
      refine hK.out _ _ (hHeld.trans (hs.mono hHeld.size)) (fun hHeldN => ?_)
      try simp only [Act.put, List.setIfInBounds_toArray, List.set_cons_zero, List.set_cons_succ, List.getElem_toArray, List.getElem_cons_zero, List.getElem_cons_succ]
      (have hHeldO := hHeld; clear hHeld; have hHeld := hHeldN)
      (refine wpAnyH_take (i := 9) (v := ?_) rfl (by kernel_rfl) (by kernel_rfl) (by kernel_rfl) (fun _ _ _ h => h) (Or.inl ⟨by rfl, ?_⟩) hHeld ?_; rotate_left; (focus (intro w hSw; (try dsimp only at hSw); go_simp; try with_reducible rfl)); (try simp only [Act.put, List.setIfInBounds_toArray, List.set_cons_zero, List.set_cons_succ, List.getElem_toArray, List.getElem_cons_zero, List.getElem_cons_succ]))
      exact m0 _ _ _ (by kernel_rfl) ⟨_, _, _, _, _, _, _, _, _, _, _, _, _, _, rfl, hF, Lib.hid (F4.out.later hs)⟩ hHeldN
    (refine wpAnyH_take (i := 0) (v := ?_) rfl (by kernel_rfl) (by kernel_rfl) (by kernel_rfl) (fun _ _ _ h => h) (Or.inl ⟨by rfl, ?_⟩) hHeld ?_; rotate_left; (focus (intro w hSw; (try dsimp only at hSw); go_simp; try with_reducible rfl)); (try simp only [Act.put, List.setIfInBounds_toArray, List.set_cons_zero, List.set_cons_succ, List.getElem_toArray, List.getElem_cons_zero])); (refine wpAnyH_take (i := 3) (v := ?_) rfl (by kernel_rfl) (by kernel_rfl) (by kernel_rfl) (fun _ _ _ h => h) (Or.inl ⟨by rfl, ?_⟩) hHeld ?_; rotate_left; (focus (intro w hSw; (try dsimp only at hSw); go_simp; try with_reducible rfl)); (try simp only [Act.put, List.setIfInBounds_toArray, List.set_cons_zero, List.set_cons_succ, List.getElem_toArray, List.getElem_cons_zero, List.getElem_cons_succ])); (refine wpAnyH_take (i := 6) (v := ?_) rfl (by kernel_rfl) (by kernel_rfl) (by kernel_rfl) (fun _ _ _ h => h) (Or.inl ⟨by rfl, ?_⟩) hHeld ?_; rotate_left; (focus (intro w hSw; (try dsimp only at hSw); go_simp; try with_reducible rfl)); (try simp only [Act.put, List.setIfInBounds_toArray, List.set_cons_zero, List.set_cons_succ, List.getElem_toArray, List.getElem_cons_zero, List.getElem_cons_succ])); (refine wpAnyH_take (i := 1) (v := ?_) rfl (by kernel_rfl) (by kernel_rfl) (by kernel_rfl) (fun _ _ _ h => h) (Or.inl ⟨by rfl, ?_⟩) hHeld ?_; rotate_left; (focus (intro w hSw; (try dsimp only at hSw); go_simp; try with_reducible rfl)); (try simp only [Act.put, List.setIfInBounds_toArray, List.set_cons_zero, List.set_cons_succ, List.getElem_toArray, List.getElem_cons_zero, List.getElem_cons_succ])); (refine wpAnyH_take (i := 4) (v := ?_) rfl (by kernel_rfl) (by kernel_rfl) (by kernel_rfl) (fun _ _ _ h => h) (Or.inl ⟨by rfl, ?_⟩) hHeld ?_; rotate_left; (focus (intro w hSw; (try dsimp only at hSw); go_simp; try with_reducible rfl)); (try simp only [Act.put, List.setIfInBounds_toArray, List.set_cons_zero, List.set_cons_succ, List.getElem_toArray, List.getElem_cons_zero, List.getElem_cons_succ])); (refine wpAnyH_take (i := 7) (v := ?_) rfl (by kernel_rfl) (by kernel_rfl) (by kernel_rfl) (fun _ _ _ h => h) (Or.inl ⟨by rfl, ?_⟩) hHeld ?_; rotate_left; (focus (intro w hSw; (try dsimp only at hSw); go_simp; try with_reducible rfl)); (try simp only [Act.put, List.setIfInBounds_toArray, List.set_cons_zero, List.set_cons_succ, List.getElem_toArray, List.getElem_cons_zero, List.getElem_cons_succ]))
    (refine wpAnyH_take (i := 2) (v := ?_) rfl (by kernel_rfl) (by kernel_rfl) (by kernel_rfl) (fun _ _ _ h => h) (Or.inl ⟨by rfl, ?_⟩) hHeld ?_; rotate_left; (focus (intro w hSw; (try dsimp only at hSw); go_simp; (have hcc := cell_later hSw C0.out; go_simp; try with_reducible rfl))); (try simp only [Act.put, List.setIfInBounds_toArray, List.set_cons_zero, List.set_cons_succ, List.getElem_toArray, List.getElem_cons_zero, List.getElem_cons_succ]))
    (refine wpAnyH_take (i := 5) (v := ?_) rfl (by kernel_rfl) (by kernel_rfl) (by kernel_rfl) (fun _ _ _ h => h) (Or.inl ⟨by rfl, ?_⟩) hHeld ?_; rotate_left; (focus (intro w hSw; (try dsimp only at hSw); go_simp; (have hcc := cell_later hSw C1.out; go_simp; try with_reducible rfl))); (try simp only [Act.put, List.setIfInBounds_toArray, List.set_cons_zero, List.set_cons_succ, List.getElem_toArray, List.getElem_cons_zero, List.getElem_cons_succ]))
    refine wpAnyH_ready (rs := [8, 10]) (by kernel_rfl) (by simp) ?_
    refine AllReadyH.cons rfl (fun K hK => ?_) (AllReadyH.cons rfl (fun K hK => ?_) AllReadyH.nil)
    · go_simp
      refine (clone_any _ (l.drop 8) _ ((show Bytes w _ (l.drop 8) from HB8.out).later hHeld) HL8.out).mono ?_
      rintro e w_n ⟨vv, rfl, ho, hs⟩
      obtain ⟨a22, c22, rfl⟩ := ho.form
      obtain ⟨n22, hn22⟩ : ∃ k, k = (l.drop 8).length := ⟨_, rfl⟩
      rw [← hn22] at ho ⊢
      have hF : Hid (OwnB w_n wm.heap.size (.slice a22 n22 c22) (l.drop 8)) := OwnB.weak (show OwnB w_n _ _ (l.drop 8) from ho) (Nat.le_trans HBM.out.size hHeld.size)
      clear ho hn22
      simp only []
      refine hK.out _ _ (hHeld.trans (hs.mono hHeld.size)) (fun hHeldN => ?_)
      try simp only [Act.put, List.setIfInBounds_toArray, List.set_cons_zero, List.set_cons_succ, List.getElem_toArray, List.getElem_cons_zero, List.getElem_cons_succ]
      (have hHeldO := hHeld; clear hHeld; have hHeld := hHeldN)
      (refine wpAnyH_take (i := 9) (v := ?_) rfl (by kernel_rfl) (by kernel_rfl) (by kernel_rfl) (fun _ _ _ h => h) (Or.inl ⟨by rfl, ?_⟩) hHeld ?_; rotate_left; (focus (intro w hSw; (try dsimp only at hSw); go_simp; try with_reducible rfl)); (try simp only [Act.put, List.setIfInBounds_toArray, List.set_cons_zero, List.set_cons_succ, List.getElem_toArray, List.getElem_cons_zero, List.getElem_cons_succ]))
      exact m1 _ _ _ (by kernel_rfl) ⟨_, _, _, _, _, _, _, _, _, _, _, _, _, rfl, hF⟩ hHeldN
    · go_simp
      have hs : Below (World.heap w0).size w0 (w0.alloc (.cells #[.int .u8 0, .int .u8 0, .int .u8 0, .int .u8 0, .int .u8 0, .int .u8 0, .slice none 0 0] 46)) := (Below.refl _ _).alloc (Nat.le_refl _) _
      have hF : Hid (BlkG 46 w (World.heap w0).size mzc (w0.alloc (.cells #[.int .u8 0, .int .u8 0, .int .u8 0, .int .u8 0, .int .u8 0, .int .u8 0, .slice none 0 0] 46))) := ⟨BlkAt.new w0 mzc, hHeld.size⟩
      refine hK.out _ _ (hHeld.trans (hs.mono hHeld.size)) (fun hHeldN => ?_)
      exact m2 _ _ _ (by kernel_rfl) ⟨_, _, _, _, _, _, _, _, _, _, _, rfl, hF⟩ hHeldN
set_option maxHeartbeats 4000000 in
set_option maxRecDepth 100000 in
theorem ofR_noB (a : Option Addr) (c : Nat) (l : List UInt8) (wm : World) (hv : Bytes wm (.slice a l.length c) l) (hl : l.length ≤ 100000) (h : okM l = false) :
    Calls Try.prog 28 #[.slice a l.length c] wm fun e w' => e = .returned (.tuple #[MZ, .bool false]) ∧ Below wm.heap.size wm w' := by
  obtain ⟨n, hn⟩ : ∃ n, n = l.length := ⟨_, rfl⟩
  have hA : Below wm.heap.size wm (wm.alloc (.cells #[.int .u8 0, .int .u8 0, .int .u8 0, .int .u8 0, .int .u8 0, .int .u8 0, .slice none 0 0] 46)) := (Below.refl _ _).alloc (Nat.le_refl _) _
  have hr0 : BlkAt 46 wm.heap.size mzc (wm.alloc (.cells #[.int .u8 0, .int .u8 0, .int .u8 0, .int .u8 0, .int .u8 0, .int .u8 0, .slice none 0 0] 46)) := BlkAt.new wm mzc
  have hgd := totalR_anyB _ l _ (hv.later hA) hl
  have HGD := Lib.hid hgd
  have HA := Lib.hid hA
  have HR0 := Lib.hid hr0
  have HN := Lib.hid hn
  have HH := Lib.hid h
  rw [← hn]
  rw [← hn] at HGD
  clear hgd hA hr0 hv
  have fin : ∀ w1, Below (wm.alloc (.cells #[.int .u8 0, .int .u8 0, .int .u8 0, .int .u8 0, .int .u8 0, .int .u8 0, .slice none 0 0] 46)).heap.size (wm.alloc (.cells #[.int .u8 0, .int .u8 0, .int .u8 0, .int .u8 0, .int .u8 0, .int .u8 0, .slice none 0 0] 46)) w1 → Hid (BlkAt 46 wm.heap.size mzc w1) ∧ Hid (Below wm.heap.size wm w1) := fun w1 hb => ⟨HR0.out.later hb, HA.out.trans (hb.mono HA.out.size)⟩
  by_cases h8 : n < 8
  · have k1 : (n : Int) < 8 := by omega
    obtain ⟨R1, B1⟩ := fin _ (Below.refl _ _)
    clear fin h hl hn
    go_enter Try.func28, Try.ntmps28
    go_wp2_with fail
    exact bodyPost_ret (v := .tuple #[MZ, .bool false]) (by simp [results, Try.results28, go_sem, MZ]) rfl ⟨rfl, B1.out⟩
  · have k1 : (8 : Int) ≤ n := by omega
    have ht : Sm.tot l ≠ 65535 := by
      unfold okM at h; rw [decide_eq_true (by omega)] at h; simpa using h
    obtain ⟨t, hte⟩ : ∃ t, t = Sm.tot l := ⟨_, rfl⟩
    rw [← hte] at HGD ht
    have kt : ((t : Int) != 65535) = true := by rw [bne_iff_ne]; omega
    clear h hl hn ht hte
    go_enter Try.func28, Try.ntmps28
    go_wp2_with fail
    refine HGD.out.mono ?_
    rintro e w1 ⟨rfl, hb1⟩
    obtain ⟨R1, B1⟩ := fin _ hb1
    clear fin hb1
    have hc : ∀ j x, mzc[j]? = some x → w1.cell? ⟨wm.heap.size, j, none⟩ = some x := fun j x hx => R1.out.cell hx
    have hfz : ∀ j, w1.frozen? ⟨wm.heap.size, j, none⟩ = false := fun j => R1.out.frozen j
    have k0 := hc 0 _ rfl
    have k1 := hc 1 _ rfl
    have k2 := hc 2 _ rfl
    have k3 := hc 3 _ rfl
    have k4 := hc 4 _ rfl
    have k5 := hc 5 _ rfl
    have k6 := hc 6 _ rfl
    obtain ⟨s1, s2, s3⟩ := BlkAt.set7 ic_ne (show BlkAt 46 wm.heap.size [.int .u8 0, .int .u8 0, .int .u8 0, .int .u8 0, .int .u8 0, .int .u8 0, .slice none 0 0] w1 from R1.out) (.int .u8 0) (.int .u8 0) (.int .u8 0) (.int .u8 0) (.int .u8 0) (.int .u8 0) (.slice none 0 0)
    have Q1 := Lib.hid s1
    have Q4 := Lib.hid (B1.out.trans (s3 _ (Nat.le_refl _)))
    clear hc s1 s2 s3
    go_wp2_with fail
    have d0 := BlkAt.cell Q1.out (j := 0) rfl
    have d1 := BlkAt.cell Q1.out (j := 1) rfl
    have d2 := BlkAt.cell Q1.out (j := 2) rfl
    have d3 := BlkAt.cell Q1.out (j := 3) rfl
    have d4 := BlkAt.cell Q1.out (j := 4) rfl
    have d5 := BlkAt.cell Q1.out (j := 5) rfl
    have d6 := BlkAt.cell Q1.out (j := 6) rfl
    exact bodyPost_ret (v := .tuple #[MZ, .bool false]) (by simp [results, Try.results28, go_sem, d0, d1, d2, d3, d4, d5, d6, MZ]) rfl ⟨rfl, Q4.out⟩

set_option maxHeartbeats 8000000 in
set_option maxRecDepth 100000 in
theorem ofR_yesB (a : Option Addr) (c : Nat) (l : List UInt8) (wm : World) (hv : Bytes wm (.slice a l.length c) l) (hl : l.length ≤ 100000) (h : okM l = true) :
    Calls Try.prog 28 #[.slice a l.length c] wm fun e w' => ∃ u, e = .returned (.tuple #[.agg #[.int .u8 (Sm.at0 l 0 : Nat), .int .u8 (Sm.at0 l 1 : Nat), .int .u8 (Sm.at0 l 4 : Nat), .int .u8 (Sm.at0 l 5 : Nat), .int .u8 (Sm.at0 l 6 : Nat), .int .u8 (Sm.at0 l 7 : Nat), u], .bool true]) ∧ Bytes w' u (l.drop 8) ∧ Below wm.heap.size wm w' := by
  obtain ⟨h8, ht⟩ : 8 ≤ l.length ∧ Sm.tot l = 65535 := by
    unfold okM at h; simpa using h
  obtain ⟨b, o, rfl, hbl⟩ : ∃ b o, a = some ⟨b, o, none⟩ ∧ b < wm.heap.size := by
    rcases hv with ⟨rfl, _⟩ | ⟨b, o, c', e, hb, _⟩
    · simp at h8
    · simp only [Value.slice.injEq] at e; exact ⟨b, o, e.1, hb⟩
  obtain ⟨n, hn⟩ : ∃ n, n = l.length := ⟨_, rfl⟩
  have hA : Below wm.heap.size wm (wm.alloc (.cells #[.int .u8 0, .int .u8 0, .int .u8 0, .int .u8 0, .int .u8 0, .int .u8 0, .slice none 0 0] 46)) := (Below.refl _ _).alloc (Nat.le_refl _) _
  have hr0 : BlkAt 46 wm.heap.size mzc (wm.alloc (.cells #[.int .u8 0, .int .u8 0, .int .u8 0, .int .u8 0, .int .u8 0, .int .u8 0, .slice none 0 0] 46)) := BlkAt.new wm mzc
  have hgd := totalR_anyB _ l _ (hv.later hA) hl
  rw [ht] at hgd
  obtain ⟨a8, hs8, hb8⟩ := hv.cut_l 8 8 rfl h8
  have hcell : ∀ k, k < l.length → wm.cell? ⟨b, o + k, none⟩ = some (.int .u8 (Sm.at0 l k : Nat)) := by
    intro k hk
    rcases hv with ⟨rfl, _⟩ | ⟨b', o', c', e, _, _, hx⟩
    · simp at h8
    · simp only [Value.slice.injEq, Option.some.injEq, Addr.mk.injEq] at e
      obtain ⟨⟨rfl, rfl, _⟩, _⟩ := e
      rw [hx k l[k] (by simp [hk]), at0_get hk]
  have HGD := Lib.hid hgd
  have HA := Lib.hid hA
  have HR0 := Lib.hid hr0
  have HCL := Lib.hid hcell
  have HB8m := Lib.hid hb8
  have HLN : Hid (8 ≤ l.length ∧ l.length ≤ 100000 ∧ n = l.length) := ⟨h8, hl, hn⟩
  have k1 : (8 : Int) ≤ n := by omega
  have k2 : n ≤ c := by have := hv.cap; omega
  have hi0 : 0 < n ∧ 1 < n ∧ 4 < n ∧ 5 < n ∧ 6 < n ∧ 7 < n := by omega
  have hj0 : (0 : Int) < n ∧ (1 : Int) < n ∧ (4 : Int) < n ∧ (5 : Int) < n ∧ (6 : Int) < n ∧ (7 : Int) < n := by omega
  obtain ⟨i0, i1, i4, i5, i6, i7⟩ := hi0
  obtain ⟨j0, j1, j4, j5, j6, j7⟩ := hj0
  rw [← hn]
  rw [← hn] at HGD HB8m hs8
  clear hgd hA hr0 hv hcell hb8 h hn h8 hl ht
  obtain ⟨e0, he0⟩ : ∃ e, e = Sm.at0 l 0 := ⟨_, rfl⟩
  obtain ⟨e1, he1⟩ : ∃ e, e = Sm.at0 l 1 := ⟨_, rfl⟩
  obtain ⟨f4, hf4⟩ : ∃ e, e = Sm.at0 l 4 := ⟨_, rfl⟩
  obtain ⟨f5, hf5⟩ : ∃ e, e = Sm.at0 l 5 := ⟨_, rfl⟩
  obtain ⟨f6, hf6⟩ : ∃ e, e = Sm.at0 l 6 := ⟨_, rfl⟩
  obtain ⟨f7, hf7⟩ : ∃ e, e = Sm.at0 l 7 := ⟨_, rfl⟩
  have HE : Hid (e0 = Sm.at0 l 0 ∧ e1 = Sm.at0 l 1 ∧ f4 = Sm.at0 l 4 ∧ f5 = Sm.at0 l 5 ∧ f6 = Sm.at0 l 6 ∧ f7 = Sm.at0 l 7) := ⟨he0, he1, hf4, hf5, hf6, hf7⟩
  clear he0 he1 hf4 hf5 hf6 hf7
  go_enter Try.func28, Try.ntmps28
  go_wp2_with fail
  refine HGD.out.mono ?_
  rintro e w ⟨rfl, hb1⟩
  have HBM := Lib.hid (HA.out.trans (hb1.mono HA.out.size))
  have HRM : Hid (BlkAt 46 wm.heap.size mzc w) := HR0.out.later hb1
  have C0 : Hid (wm.cell? ⟨b, o, none⟩ = some (.int .u8 (e0 : Nat))) := by rw [HE.out.1]; exact HCL.out 0 (by have := HLN.out; omega)
  have C1 : Hid (wm.cell? ⟨b, o + 1, none⟩ = some (.int .u8 (e1 : Nat))) := by rw [HE.out.2.1]; exact HCL.out 1 (by have := HLN.out; omega)
  have C4 : Hid (wm.cell? ⟨b, o + 4, none⟩ = some (.int .u8 (f4 : Nat))) := by rw [HE.out.2.2.1]; exact HCL.out 4 (by have := HLN.out; omega)
  have C5 : Hid (wm.cell? ⟨b, o + 5, none⟩ = some (.int .u8 (f5 : Nat))) := by rw [HE.out.2.2.2.1]; exact HCL.out 5 (by have := HLN.out; omega)
  have C6 : Hid (wm.cell? ⟨b, o + 6, none⟩ = some (.int .u8 (f6 : Nat))) := by rw [HE.out.2.2.2.2.1]; exact HCL.out 6 (by have := HLN.out; omega)
  have C7 : Hid (wm.cell? ⟨b, o + 7, none⟩ = some (.int .u8 (f7 : Nat))) := by rw [HE.out.2.2.2.2.2]; exact HCL.out 7 (by have := HLN.out; omega)
  clear hb1 HGD HR0
  go_wp2_with fail
  (refine wp_region_held_drew (S := (fun w' => Below wm.heap.size wm w')) (by kernel_rfl) ?_ (fun hHeld => ?_); (focus ((try dsimp only); (exact HBM.out.drew))))
  (try dsimp only at hHeld)
  obtain ⟨w4, hw4⟩ : ∃ w4, w4 = World.drew w := ⟨_, rfl⟩
  have HR4 : Hid (BlkAt 46 wm.heap.size mzc w4) := by rw [hw4]; exact HRM.out
  rw [← hw4]
  rw [← hw4] at hHeld
  clear hw4
  (refine wpAnyH_take (i := 0) (v := ?_) rfl (by kernel_rfl) (by kernel_rfl) (by kernel_rfl) (fun _ _ _ h => h) (Or.inl ⟨by rfl, ?_⟩) hHeld ?_; rotate_left; (focus (intro w hSw; (try dsimp only at hSw); go_simp; try with_reducible rfl)); (try simp only [Act.put, List.setIfInBounds_toArray, List.set_cons_zero, List.set_cons_succ, List.getElem_toArray, List.getElem_cons_zero])); (refine wpAnyH_take (i := 1) (v := ?_) rfl (by kernel_rfl) (by kernel_rfl) (by kernel_rfl) (fun _ _ _ h => h) (Or.inl ⟨by rfl, ?_⟩) hHeld ?_; rotate_left; (focus (intro w hSw; (try dsimp only at hSw); go_simp; try with_reducible rfl)); (try simp only [Act.put, List.setIfInBounds_toArray, List.set_cons_zero, List.set_cons_succ, List.getElem_toArray, List.getElem_cons_zero, List.getElem_cons_succ]))
  (refine wpAnyH_take (i := 2) (v := ?_) rfl (by kernel_rfl) (by kernel_rfl) (by kernel_rfl) (fun _ _ _ h => h) (Or.inl ⟨by rfl, ?_⟩) hHeld ?_; rotate_left; (focus (intro w hSw; (try dsimp only at hSw); go_simp; (have hcc := cell_later' hSw hbl C0.out; go_simp; try with_reducible rfl))); (try simp only [Act.put, List.setIfInBounds_toArray, List.set_cons_zero, List.set_cons_succ, List.getElem_toArray, List.getElem_cons_zero, List.getElem_cons_succ]))
  (refine wpAnyH_take (i := 3) (v := ?_) rfl (by kernel_rfl) (by kernel_rfl) (by kernel_rfl) (fun _ _ _ h => h) (Or.inl ⟨by rfl, ?_⟩) hHeld ?_; rotate_left; (focus (intro w hSw; (try dsimp only at hSw); go_simp; try with_reducible rfl)); (try simp only [Act.put, List.setIfInBounds_toArray, List.set_cons_zero, List.set_cons_succ, List.getElem_toArray, List.getElem_cons_zero, List.getElem_cons_succ])); (refine wpAnyH_take (i := 4) (v := ?_) rfl (by kernel_rfl) (by kernel_rfl) (by kernel_rfl) (fun _ _ _ h => h) (Or.inl ⟨by rfl, ?_⟩) hHeld ?_; rotate_left; (focus (intro w hSw; (try dsimp only at hSw); go_simp; try with_reducible rfl)); (try simp only [Act.put, List.setIfInBounds_toArray, List.set_cons_zero, List.set_cons_succ, List.getElem_toArray, List.getElem_cons_zero, List.getElem_cons_succ]))
  (refine wpAnyH_take (i := 5) (v := ?_) rfl (by kernel_rfl) (by kernel_rfl) (by kernel_rfl) (fun _ _ _ h => h) (Or.inl ⟨by rfl, ?_⟩) hHeld ?_; rotate_left; (focus (intro w hSw; (try dsimp only at hSw); go_simp; (have hcc := cell_later' hSw hbl C1.out; go_simp; try with_reducible rfl))); (try simp only [Act.put, List.setIfInBounds_toArray, List.set_cons_zero, List.set_cons_succ, List.getElem_toArray, List.getElem_cons_zero, List.getElem_cons_succ]))
  (refine wpAnyH_take (i := 6) (v := ?_) rfl (by kernel_rfl) (by kernel_rfl) (by kernel_rfl) (fun _ _ _ h => h) (Or.inl ⟨by rfl, ?_⟩) hHeld ?_; rotate_left; (focus (intro w hSw; (try dsimp only at hSw); go_simp; try with_reducible rfl)); (try simp only [Act.put, List.setIfInBounds_toArray, List.set_cons_zero, List.set_cons_succ, List.getElem_toArray, List.getElem_cons_zero, List.getElem_cons_succ])); (refine wpAnyH_take (i := 7) (v := ?_) rfl (by kernel_rfl) (by kernel_rfl) (by kernel_rfl) (fun _ _ _ h => h) (Or.inl ⟨by rfl, ?_⟩) hHeld ?_; rotate_left; (focus (intro w hSw; (try dsimp only at hSw); go_simp; try with_reducible rfl)); (try simp only [Act.put, List.setIfInBounds_toArray, List.set_cons_zero, List.set_cons_succ, List.getElem_toArray, List.getElem_cons_zero, List.getElem_cons_succ]))
  (refine wpAnyH_take (i := 8) (v := ?_) rfl (by kernel_rfl) (by kernel_rfl) (by kernel_rfl) (fun _ _ _ h => h) (Or.inl ⟨by rfl, ?_⟩) hHeld ?_; rotate_left; (focus (intro w hSw; (try dsimp only at hSw); go_simp; (have hcc := cell_later' hSw hbl C4.out; go_simp; try with_reducible rfl))); (try simp only [Act.put, List.setIfInBounds_toArray, List.set_cons_zero, List.set_cons_succ, List.getElem_toArray, List.getElem_cons_zero, List.getElem_cons_succ]))
  (refine wpAnyH_take (i := 9) (v := ?_) rfl (by kernel_rfl) (by kernel_rfl) (by kernel_rfl) (fun _ _ _ h => h) (Or.inl ⟨by rfl, ?_⟩) hHeld ?_; rotate_left; (focus (intro w hSw; (try dsimp only at hSw); go_simp; try with_reducible rfl)); (try simp only [Act.put, List.setIfInBounds_toArray, List.set_cons_zero, List.set_cons_succ, List.getElem_toArray, List.getElem_cons_zero, List.getElem_cons_succ])); (refine wpAnyH_take (i := 10) (v := ?_) rfl (by kernel_rfl) (by kernel_rfl) (by kernel_rfl) (fun _ _ _ h => h) (Or.inl ⟨by rfl, ?_⟩) hHeld ?_; rotate_left; (focus (intro w hSw; (try dsimp only at hSw); go_simp; try with_reducible rfl)); (try simp only [Act.put, List.setIfInBounds_toArray, List.set_cons_zero, List.set_cons_succ, List.getElem_toArray, List.getElem_cons_zero, List.getElem_cons_succ]))
  (refine wpAnyH_take (i := 11) (v := ?_) rfl (by kernel_rfl) (by kernel_rfl) (by kernel_rfl) (fun _ _ _ h => h) (Or.inl ⟨by rfl, ?_⟩) hHeld ?_; rotate_left; (focus (intro w hSw; (try dsimp only at hSw); go_simp; (have hcc := cell_later' hSw hbl C5.out; go_simp; try with_reducible rfl))); (try simp only [Act.put, List.setIfInBounds_toArray, List.set_cons_zero, List.set_cons_succ, List.getElem_toArray, List.getElem_cons_zero, List.getElem_cons_succ]))
  (refine wpAnyH_take (i := 12) (v := ?_) rfl (by kernel_rfl) (by kernel_rfl) (by kernel_rfl) (fun _ _ _ h => h) (Or.inl ⟨by rfl, ?_⟩) hHeld ?_; rotate_left; (focus (intro w hSw; (try dsimp only at hSw); go_simp; try with_reducible rfl)); (try simp only [Act.put, List.setIfInBounds_toArray, List.set_cons_zero, List.set_cons_succ, List.getElem_toArray, List.getElem_cons_zero, List.getElem_cons_succ])); (refine wpAnyH_take (i := 13) (v := ?_) rfl (by kernel_rfl) (by kernel_rfl) (by kernel_rfl) (fun _ _ _ h => h) (Or.inl ⟨by rfl, ?_⟩) hHeld ?_; rotate_left; (focus (intro w hSw; (try dsimp only at hSw); go_simp; try with_reducible rfl)); (try simp only [Act.put, List.setIfInBounds_toArray, List.set_cons_zero, List.set_cons_succ, List.getElem_toArray, List.getElem_cons_zero, List.getElem_cons_succ]))
  (refine wpAnyH_take (i := 14) (v := ?_) rfl (by kernel_rfl) (by kernel_rfl) (by kernel_rfl) (fun _ _ _ h => h) (Or.inl ⟨by rfl, ?_⟩) hHeld ?_; rotate_left; (focus (intro w hSw; (try dsimp only at hSw); go_simp; (have hcc := cell_later' hSw hbl C6.out; go_simp; try with_reducible rfl))); (try simp only [Act.put, List.setIfInBounds_toArray, List.set_cons_zero, List.set_cons_succ, List.getElem_toArray, List.getElem_cons_zero, List.getElem_cons_succ]))
  (refine wpAnyH_take (i := 15) (v := ?_) rfl (by kernel_rfl) (by kernel_rfl) (by kernel_rfl) (fun _ _ _ h => h) (Or.inl ⟨by rfl, ?_⟩) hHeld ?_; rotate_left; (focus (intro w hSw; (try dsimp only at hSw); go_simp; try with_reducible rfl)); (try simp only [Act.put, List.setIfInBounds_toArray, List.set_cons_zero, List.set_cons_succ, List.getElem_toArray, List.getElem_cons_zero, List.getElem_cons_succ])); (refine wpAnyH_take (i := 16) (v := ?_) rfl (by kernel_rfl) (by kernel_rfl) (by kernel_rfl) (fun _ _ _ h => h) (Or.inl ⟨by rfl, ?_⟩) hHeld ?_; rotate_left; (focus (intro w hSw; (try dsimp only at hSw); go_simp; try with_reducible rfl)); (try simp only [Act.put, List.setIfInBounds_toArray, List.set_cons_zero, List.set_cons_succ, List.getElem_toArray, List.getElem_cons_zero, List.getElem_cons_succ]))
  (refine wpAnyH_take (i := 17) (v := ?_) rfl (by kernel_rfl) (by kernel_rfl) (by kernel_rfl) (fun _ _ _ h => h) (Or.inl ⟨by rfl, ?_⟩) hHeld ?_; rotate_left; (focus (intro w hSw; (try dsimp only at hSw); go_simp; (have hcc := cell_later' hSw hbl C7.out; go_simp; try with_reducible rfl))); (try simp only [Act.put, List.setIfInBounds_toArray, List.set_cons_zero, List.set_cons_succ, List.getElem_toArray, List.getElem_cons_zero, List.getElem_cons_succ]))
  (refine wpAnyH_take (i := 18) (v := ?_) rfl (by kernel_rfl) (by kernel_rfl) (by kernel_rfl) (fun _ _ _ h => h) (Or.inl ⟨by rfl, ?_⟩) hHeld ?_; rotate_left; (focus (intro w hSw; (try dsimp only at hSw); go_simp; try with_reducible rfl)); (try simp only [Act.put, List.setIfInBounds_toArray, List.set_cons_zero, List.set_cons_succ, List.getElem_toArray, List.getElem_cons_zero, List.getElem_cons_succ])); (refine wpAnyH_take (i := 19) (v := ?_) rfl (by kernel_rfl) (by kernel_rfl) (by kernel_rfl) (fun _ _ _ h => h) (Or.inl ⟨by rfl, ?_⟩) hHeld ?_; rotate_left; (focus (intro w hSw; (try dsimp only at hSw); go_simp; try with_reducible rfl)); (try simp only [Act.put, List.setIfInBounds_toArray, List.set_cons_zero, List.set_cons_succ, List.getElem_toArray, List.getElem_cons_zero, List.getElem_cons_succ])); (refine wpAnyH_take (i := 20) (v := ?_) rfl (by kernel_rfl) (by kernel_rfl) (by kernel_rfl) (fun _ _ _ h => h) (Or.inl ⟨by rfl, ?_⟩) hHeld ?_; rotate_left; (focus (intro w hSw; (try dsimp only at hSw); go_simp; try with_reducible rfl)); (try simp only [Act.put, List.setIfInBounds_toArray, List.set_cons_zero, List.set_cons_succ, List.getElem_toArray, List.getElem_cons_zero, List.getElem_cons_succ])); (refine wpAnyH_take (i := 21) (v := ?_) rfl (by kernel_rfl) (by kernel_rfl) (by kernel_rfl) (fun _ _ _ h => h) (Or.inl ⟨by rfl, ?_⟩) hHeld ?_; rotate_left; (focus (intro w hSw; (try dsimp only at hSw); go_simp; try with_reducible rfl)); (try simp only [Act.put, List.setIfInBounds_toArray, List.set_cons_zero, List.set_cons_succ, List.getElem_toArray, List.getElem_cons_zero, List.getElem_cons_succ]))
  refine wpAnyH_ready (rs := [22]) (by kernel_rfl) (by simp) ?_
  refine AllReadyH.cons rfl (fun K hK => ?_) AllReadyH.nil
  have hfz : ∀ j, w4.frozen? ⟨wm.heap.size, j, none⟩ = false := fun j => HR4.out.frozen j
  have c0 := HR4.out.cell (j := 0) rfl
  have c1 := HR4.out.cell (j := 1) rfl
  have c2 := HR4.out.cell (j := 2) rfl
  have c3 := HR4.out.cell (j := 3) rfl
  have c4 := HR4.out.cell (j := 4) rfl
  have c5 := HR4.out.cell (j := 5) rfl
  have c6 := HR4.out.cell (j := 6) rfl
  obtain ⟨s1, _, s3⟩ := BlkAt.set7 ic_ne (show BlkAt 46 wm.heap.size [.int .u8 0, .int .u8 0, .int .u8 0, .int .u8 0, .int .u8 0, .int .u8 0, .slice none 0 0] w4 from HR4.out) (.int .u8 (e0 : Nat)) (.int .u8 (e1 : Nat)) (.int .u8 (f4 : Nat)) (.int .u8 (f5 : Nat)) (.int .u8 (f6 : Nat)) (.int .u8 (f7 : Nat)) (.slice a8 (n - 8) (c - 8))
  have S1 := Lib.hid s1
  have S3 := Lib.hid (hHeld.trans (s3 _ (Nat.le_refl _)))
  have S2 : Hid _ := Lib.hid ((show Bytes wm _ _ from HB8m.out).later S3.out)
  clear s1 s3
  go_simp
  refine hK.out _ _ S3.out (fun hHeldN => ?_)
  (try simp only [Act.put, List.setIfInBounds_toArray, List.set_cons_zero, List.set_cons_succ, List.getElem_toArray, List.getElem_cons_zero, List.getElem_cons_succ])
  clear hK K hHeld
  have hHeld := hHeldN
  clear hHeldN c0 c1 c2 c3 c4 c5 c6 hfz
  (refine wpAnyH_take (i := 23) (v := ?_) rfl (by kernel_rfl) (by kernel_rfl) (by kernel_rfl) (fun _ _ _ h => h) (Or.inl ⟨by rfl, ?_⟩) hHeld ?_; rotate_left; (focus (intro w hSw; (try dsimp only at hSw); go_simp; try with_reducible rfl)); (try simp only [Act.put, List.setIfInBounds_toArray, List.set_cons_zero, List.set_cons_succ, List.getElem_toArray, List.getElem_cons_zero, List.getElem_cons_succ]))
  refine wpAnyH_done (by kernel_rfl) ?_ _
  go_wp2_with fail
  have d0 := BlkAt.cell S1.out (j := 0) rfl
  have d1 := BlkAt.cell S1.out (j := 1) rfl
  have d2 := BlkAt.cell S1.out (j := 2) rfl
  have d3 := BlkAt.cell S1.out (j := 3) rfl
  have d4 := BlkAt.cell S1.out (j := 4) rfl
  have d5 := BlkAt.cell S1.out (j := 5) rfl
  have d6 := BlkAt.cell S1.out (j := 6) rfl
  rw [← HE.out.1, ← HE.out.2.1, ← HE.out.2.2.1, ← HE.out.2.2.2.1, ← HE.out.2.2.2.2.1, ← HE.out.2.2.2.2.2]
  exact bodyPost_ret (v := .tuple #[.agg #[.int .u8 (e0 : Nat), .int .u8 (e1 : Nat), .int .u8 (f4 : Nat), .int .u8 (f5 : Nat), .int .u8 (f6 : Nat), .int .u8 (f7 : Nat), .slice a8 (n - 8) (c - 8)], .bool true]) (by simp [results, Try.results28, go_sem, d0, d1, d2, d3, d4, d5, d6]) rfl ⟨_, rfl, S2.out, S3.out⟩

theorem ofW_anyB (v : Value) (l : List UInt8) (wm : World) (hv : Bytes wm v l) (hl : l.length ≤ 100000) :
    Calls Try.prog 27 #[v] wm fun e w' => ∃ u, e = .returned (.tuple #[.agg #[.int .u8 ((mgP l).ty : Nat), .int .u8 ((mgP l).co : Nat), .int .u8 ((mgP l).r0 : Nat), .int .u8 ((mgP l).r1 : Nat), .int .u8 ((mgP l).r2 : Nat), .int .u8 ((mgP l).r3 : Nat), u], .int .i64 (erP l : Nat)]) ∧ OwnB w' wm.heap.size u (bdP l) ∧ Below wm.heap.size wm w' := by
  obtain ⟨a, c, rfl⟩ := hv.form
  cases h : okM l with
  | false =>
    refine (of_noB a c l wm hv hl h).mono ?_
    rintro e w' ⟨rfl, hb⟩
    refine ⟨.slice none 0 0, ?_, ?_, hb⟩
    · rw [mgP, erP, if_neg (by simp [h]), if_neg (by simp [h])]; rfl
    · rw [bdP, if_neg (by simp [h])]; exact OwnB.nil _ _
  | true =>
    refine (of_yesB a c l wm hv hl h).mono ?_
    rintro e w' ⟨u, rfl, ho, hb⟩
    refine ⟨u, ?_, ?_, hb⟩
    · rw [mgP, erP, if_pos h, if_pos h]; rfl
    · rw [bdP, if_pos h]; exact ho
theorem ofR_anyB (v : Value) (l : List UInt8) (wm : World) (hv : Bytes wm v l) (hl : l.length ≤ 100000) :
    Calls Try.prog 28 #[v] wm fun e w' => ∃ u, e = .returned (.tuple #[.agg #[.int .u8 ((mgP l).ty : Nat), .int .u8 ((mgP l).co : Nat), .int .u8 ((mgP l).r0 : Nat), .int .u8 ((mgP l).r1 : Nat), .int .u8 ((mgP l).r2 : Nat), .int .u8 ((mgP l).r3 : Nat), u], .bool (okM l)]) ∧ Bytes w' u (bdP l) ∧ Below wm.heap.size wm w' := by
  obtain ⟨a, c, rfl⟩ := hv.form
  cases h : okM l with
  | false =>
    refine (ofR_noB a c l wm hv hl h).mono ?_
    rintro e w' ⟨rfl, hb⟩
    refine ⟨.slice none 0 0, ?_, ?_, hb⟩
    · rw [mgP, if_neg (by simp [h])]; rfl
    · rw [bdP, if_neg (by simp [h])]; exact Bytes.nil _ _ _
  | true =>
    refine (ofR_yesB a c l wm hv hl h).mono ?_
    rintro e w' ⟨u, rfl, ho, hb⟩
    refine ⟨u, ?_, ?_, hb⟩
    · rw [mgP, if_pos h]
    · rw [bdP, if_pos h]; exact ho
end Go.Proofs.Ytnhkkpcepppgoaa
