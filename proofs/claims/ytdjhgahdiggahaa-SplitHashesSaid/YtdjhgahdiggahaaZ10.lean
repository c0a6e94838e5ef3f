/- What changes: all but some blocks stands.
   A flow's hash: the program's walk, the whole. -/
import Derived.Test.YtdjhgahdiggahaaZ09

set_option linter.unusedSimpArgs false
set_option linter.unusedVariables false
namespace Go.Proofs.Ytdjhgahdiggahaa
open Go.RowKit
attribute [local go_sem ↓] Go.wp_at_zero Go.wp_at_succ
open Sp

set_option maxRecDepth 100000 in
theorem hash_no {w : World} {v : Value} {l : List UInt8} (hv : Bytes w v l) (hl : l.length ≤ 1000000) (hf : flt l ≠ 0) :
    Calls Try.prog 42 #[v] w fun e w' => e = .returned (.tuple #[.int .u32 0, .int .i64 4]) ∧ Below w.heap.size w w' := by
  have hp := prsW_any v l hl w hv
  obtain ⟨a, c, rfl⟩ := hv.form
  obtain ⟨h, hh⟩ : ∃ h, h = hdP l := ⟨_, rfl⟩
  obtain ⟨f, hff⟩ : ∃ f, f = flt l := ⟨_, rfl⟩
  unfold PrsW at hp
  rw [← hh, ← hff] at hp
  rw [← hff] at hf
  have HP := Lib.hid hp
  have k5 : ((f : Int) != 0) = true := by rw [bne_iff_ne]; omega
  clear hp hh hff hv hl
  go_enter Try.func42, Try.ntmps42
  go_wp2_with fail
  refine HP.out.mono ?_
  rintro e w1 ⟨u, v, B, rfl, hu, hvv, _, _, hb1⟩
  obtain ⟨ua, uc, rfl⟩ := hu.form
  obtain ⟨pa, pc, rfl⟩ := hvv.form
  have HBA := Lib.hid (hb1.alloc hb1.size (.cells #[.int .u8 (h.tos : Nat), .int .u16 (h.id : Nat), .bool h.ev, .bool h.df, .bool h.mf, .int .i64 h.off, .int .u8 (h.ttl : Nat), .int .u8 (h.pr : Nat), .int .u32 (h.src : Nat), .int .u32 (h.dst : Nat), .slice ua (opP l).length uc] 106))
  obtain ⟨on, hon⟩ : ∃ n, n = (opP l).length := ⟨_, rfl⟩
  obtain ⟨pn, hpn⟩ : ∃ n, n = (plP l).length := ⟨_, rfl⟩
  rw [← hon] at HBA
  rw [← hon, ← hpn]
  clear hu hvv hb1 hon hpn
  go_wp2_with fail
  go_ret2
  exact ⟨rfl, HBA.out⟩
set_option maxRecDepth 100000 in
theorem lists4 {W : World} {v1 v2 v3 v4 : Value} {l1 l2 l3 l4 : List UInt8} (h1 : Bytes W v1 l1) (h2 : Bytes W v2 l2) (h3 : Bytes W v3 l3) (h4 : Bytes W v4 l4) :
    Lists (W.alloc (.cells #[v1, v2, v3, v4] 97)) (.slice (some ⟨W.heap.size, 0, none⟩) 4 4) [l1, l2, l3, l4] := by
  have hb : Below W.heap.size W (W.alloc (.cells #[v1, v2, v3, v4] 97)) := ba1 _ _
  have hX : BlkAt 97 W.heap.size [v1, v2, v3, v4] (W.alloc (.cells #[v1, v2, v3, v4] 97)) := BlkAt.new W _
  refine .inr ⟨W.heap.size, 0, 4, rfl, BlkAt.lt hX, Nat.le_refl 4, fun i l hl => ?_⟩
  rw [Nat.zero_add]
  match i, hl with
  | 0, hl => cases hl; exact ⟨v1, hX.cell (j := 0) rfl, h1.later hb⟩
  | 1, hl => cases hl; exact ⟨v2, hX.cell (j := 1) rfl, h2.later hb⟩
  | 2, hl => cases hl; exact ⟨v3, hX.cell (j := 2) rfl, h3.later hb⟩
  | 3, hl => cases hl; exact ⟨v4, hX.cell (j := 3) rfl, h4.later hb⟩
  | i + 4, hl => simp at hl
set_option maxRecDepth 100000 in
theorem byte1 {n : Nat} (h : n < 256) : Value.int .u8 ((n : Nat) : Int) = .int .u8 ((UInt8.ofNat n).toNat : Int) := by
  have : (UInt8.ofNat n).toNat = n := by simp; omega
  rw [this]
set_option maxRecDepth 100000 in
theorem one_byte {n : Nat} (h : n < 256) (W : World) : Bytes (W.alloc (.cells #[.int .u8 ((n : Nat) : Int)] 5)) (.slice (some ⟨W.heap.size, 0, none⟩) 1 1) [UInt8.ofNat n] := by
  rw [byte1 h]
  exact bytes_lit W [UInt8.ofNat n]
set_option maxHeartbeats 8000000 in
set_option maxRecDepth 100000 in
theorem hash_yes {w : World} {v : Value} {l : List UInt8} (hv : Bytes w v l) (hl : l.length ≤ 1000000) (hf : flt l = 0) :
    Calls Try.prog 42 #[v] w fun e w' => e = .returned (.tuple #[.int .u32 (hashH (hdP l) (plP l) : Nat), .int .i64 0]) ∧ Below w.heap.size w w' := by
  have hp := prsW_any v l hl w hv
  have hok := hdP_ok l
  have hpl := (prs_lens hf).2.2.2.2.2.2.2
  obtain ⟨a, c, rfl⟩ := hv.form
  obtain ⟨h, hh⟩ : ∃ h, h = hdP l := ⟨_, rfl⟩
  obtain ⟨P, hP⟩ : ∃ P, P = plP l := ⟨_, rfl⟩
  unfold PrsW at hp
  rw [← hh, ← hP, hf] at hp
  rw [← hh, ← hP]
  rw [← hh] at hok
  rw [← hP] at hpl
  have hPL : P.length ≤ 1000000 := by omega
  have hz1 : hashH h P = fnvs [putL h.src 4, putL h.dst 4, [UInt8.ofNat h.pr], pthI h P] := by unfold hashH; rfl
  obtain ⟨z, hz⟩ : ∃ z, z = hashH h P := ⟨_, rfl⟩
  rw [← hz] at hz1 ⊢
  have HZ := Lib.hid hz1
  clear hz hz1
  have HP := Lib.hid hp
  have HPL := Lib.hid hPL
  have HPT := Lib.hid (fun (ua : Option Addr) (un uc : Nat) (v : Value) (W : World) (hv : Bytes W v P) => portsL h ua un uc v P W hv hPL)
  have HS := Lib.hid (fun W => putW_yes h.src 4 W (by omega) (by omega) hok.src)
  have HD := Lib.hid (fun W => putW_yes h.dst 4 W (by omega) (by omega) hok.dst)
  have q1 : ((h.src : Nat) : Int) < 4294967296 := by have := hok.src; omega
  have q2 : ((h.dst : Nat) : Int) < 4294967296 := by have := hok.dst; omega
  have q3 : h.pr < 256 := hok.pr
  clear hp hh hP hv hl hok hpl hPL
  go_enter Try.func42, Try.ntmps42
  go_wp2_with fail
  refine HP.out.mono ?_
  rintro e w1 ⟨u, v, B, rfl, hu, hvv, _, _, hb1⟩
  obtain ⟨ua, uc, rfl⟩ := hu.form
  obtain ⟨pa, pc, rfl⟩ := hvv.form
  obtain ⟨on, hon⟩ : ∃ n, n = (opP l).length := ⟨_, rfl⟩
  obtain ⟨pn, hpn⟩ : ∃ n, n = P.length := ⟨_, rfl⟩
  rw [← hpn] at hvv
  rw [← hon, ← hpn]
  obtain ⟨w2, hw2⟩ : ∃ w2, w2 = w1.alloc (.cells #[.int .u8 (h.tos : Nat), .int .u16 (h.id : Nat), .bool h.ev, .bool h.df, .bool h.mf, .int .i64 h.off, .int .u8 (h.ttl : Nat), .int .u8 (h.pr : Nat), .int .u32 (h.src : Nat), .int .u32 (h.dst : Nat), .slice ua on uc] 106) := ⟨_, rfl⟩
  have hb2 : Below w1.heap.size w1 w2 := by rw [hw2]; exact ba1 _ _
  have HX : Hid (BlkAt 106 w1.heap.size [.int .u8 (h.tos : Nat), .int .u16 (h.id : Nat), .bool h.ev, .bool h.df, .bool h.mf, .int .i64 h.off, .int .u8 (h.ttl : Nat), .int .u8 (h.pr : Nat), .int .u32 (h.src : Nat), .int .u32 (h.dst : Nat), .slice ua on uc] w2) := by
    show BlkAt _ _ _ _
    rw [hw2]; exact BlkAt.new w1 _
  have HB2 := Lib.hid (below_of hb1 hb2)
  have HVV := Lib.hid ((OwnB.bytes hvv).later hb2)
  have HW2 := Lib.hid hw2
  clear hu hvv hb1 hb2 hon hpn hw2
  go_wp2_with fail
  rw [← HW2.out]
  obtain ⟨hb, hhb⟩ : ∃ b, b = w1.heap.size := ⟨_, rfl⟩
  rw [← hhb] at HX ⊢
  clear hhb
  refine (HS.out _).mono ?_
  rintro e w3 ⟨v3, rfl, hy3, hb3⟩
  obtain ⟨a3, c3, rfl⟩ := hy3.form
  obtain ⟨n3, hn3⟩ : ∃ n, n = (putL h.src 4).length := ⟨_, rfl⟩
  rw [← hn3] at hy3 ⊢
  have HB3 := Lib.hid (below_of HB2.out hb3)
  have HY3 := Lib.hid hy3
  have HX3 := Lib.hid (HX.out.later hb3)
  have HV3 := Lib.hid (HVV.out.later hb3)
  have d9 := HX3.out.cell (j := 9) rfl
  clear hy3 hb3 hn3
  go_wp2_with fail
  refine (HD.out _).mono ?_
  rintro e w4 ⟨v4, rfl, hy4, hb4⟩
  obtain ⟨a4, c4, rfl⟩ := hy4.form
  obtain ⟨n4, hn4⟩ : ∃ n, n = (putL h.dst 4).length := ⟨_, rfl⟩
  rw [← hn4] at hy4 ⊢
  have HB4 := Lib.hid (below_of HB3.out hb4)
  have HG : Hid (∀ W, Below w4.heap.size w4 W → Bytes W (.slice a3 n3 c3) (putL h.src 4) ∧ Bytes W (.slice a4 n4 c4) (putL h.dst 4) ∧ BlkAt 106 hb [.int .u8 (h.tos : Nat), .int .u16 (h.id : Nat), .bool h.ev, .bool h.df, .bool h.mf, .int .i64 h.off, .int .u8 (h.ttl : Nat), .int .u8 (h.pr : Nat), .int .u32 (h.src : Nat), .int .u32 (h.dst : Nat), .slice ua on uc] W ∧ Bytes W (.slice pa pn pc) P) := by
    have : ∀ W, Below w4.heap.size w4 W → Bytes W (.slice a3 n3 c3) (putL h.src 4) ∧ Bytes W (.slice a4 n4 c4) (putL h.dst 4) ∧ BlkAt 106 hb [.int .u8 (h.tos : Nat), .int .u16 (h.id : Nat), .bool h.ev, .bool h.df, .bool h.mf, .int .i64 h.off, .int .u8 (h.ttl : Nat), .int .u8 (h.pr : Nat), .int .u32 (h.src : Nat), .int .u32 (h.dst : Nat), .slice ua on uc] W ∧ Bytes W (.slice pa pn pc) P := fun W hW =>
      ⟨(HY3.out.later hb4).later hW, hy4.later hW, (HX3.out.later hb4).later hW, (HV3.out.later hb4).later hW⟩
    exact this
  clear hy4 hb4 hn4 d9
  go_wp2_with fail
  (refine wp_region_held_drew (S := (fun w' => Below w4.heap.size w4 w')) (by kernel_rfl) ?_ (fun hHeld => ?_); (focus ((try dsimp only); (exact (Below.refl _ _).drew))))
  obtain ⟨wD, hwD⟩ : ∃ wD, wD = w4.drew := ⟨_, rfl⟩
  rw [← hwD] at hHeld ⊢
  clear hwD
  (refine wpAnyH_take (i := 0) (v := ?_) rfl (by kernel_rfl) (by kernel_rfl) (by kernel_rfl) (fun _ _ _ h => h) (Or.inl ⟨by rfl, ?_⟩) hHeld ?_; rotate_left; (focus (intro w hSw; (try dsimp only at hSw); go_simp; try with_reducible rfl)); (try simp only [Act.put, List.setIfInBounds_toArray, List.set_cons_zero, List.set_cons_succ, List.getElem_toArray, List.getElem_cons_zero])); (refine wpAnyH_take (i := 1) (v := ?_) rfl (by kernel_rfl) (by kernel_rfl) (by kernel_rfl) (fun _ _ _ h => h) (Or.inl ⟨by rfl, ?_⟩) hHeld ?_; rotate_left; (focus (intro w hSw; (try dsimp only at hSw); go_simp; try with_reducible rfl)); (try simp only [Act.put, List.setIfInBounds_toArray, List.set_cons_zero, List.set_cons_succ, List.getElem_toArray, List.getElem_cons_zero, List.getElem_cons_succ])); (refine wpAnyH_take (i := 2) (v := ?_) rfl (by kernel_rfl) (by kernel_rfl) (by kernel_rfl) (fun _ _ _ h => h) (Or.inl ⟨by rfl, ?_⟩) hHeld ?_; rotate_left; (focus (intro w hSw; (try dsimp only at hSw); go_simp; try with_reducible rfl)); (try simp only [Act.put, List.setIfInBounds_toArray, List.set_cons_zero, List.set_cons_succ, List.getElem_toArray, List.getElem_cons_zero, List.getElem_cons_succ]))
  (refine wpAnyH_take (i := 3) (v := ?_) rfl (by kernel_rfl) (by kernel_rfl) (by kernel_rfl) (fun _ _ _ h => h) (Or.inl ⟨by rfl, ?_⟩) hHeld ?_; rotate_left; (focus (intro w hSw; (try dsimp only at hSw); go_simp; (have cc := (HG.out _ hSw).2.2.1.cell (j := 7) rfl; go_simp; try with_reducible rfl))); (try simp only [Act.put, List.setIfInBounds_toArray, List.set_cons_zero, List.set_cons_succ, List.getElem_toArray, List.getElem_cons_zero, List.getElem_cons_succ]))
  (refine wpAnyH_take (i := 5) (v := ?_) rfl (by kernel_rfl) (by kernel_rfl) (by kernel_rfl) (fun _ _ _ h => h) (Or.inl ⟨by rfl, ?_⟩) hHeld ?_; rotate_left; (focus (intro w hSw; (try dsimp only at hSw); go_simp; (have hX := (HG.out _ hSw).2.2.1; have y0 := BlkAt.cell hX (j := 0) rfl; have y1 := BlkAt.cell hX (j := 1) rfl; have y2 := BlkAt.cell hX (j := 2) rfl; have y3 := BlkAt.cell hX (j := 3) rfl; have y4 := BlkAt.cell hX (j := 4) rfl; have y5 := BlkAt.cell hX (j := 5) rfl; have y6 := BlkAt.cell hX (j := 6) rfl; have y7 := BlkAt.cell hX (j := 7) rfl; have y8 := BlkAt.cell hX (j := 8) rfl; have y9 := BlkAt.cell hX (j := 9) rfl; have y10 := BlkAt.cell hX (j := 10) rfl; go_simp; try with_reducible rfl))); (try simp only [Act.put, List.setIfInBounds_toArray, List.set_cons_zero, List.set_cons_succ, List.getElem_toArray, List.getElem_cons_zero, List.getElem_cons_succ]))
  (refine wpAnyH_take (i := 6) (v := ?_) rfl (by kernel_rfl) (by kernel_rfl) (by kernel_rfl) (fun _ _ _ h => h) (Or.inl ⟨by rfl, ?_⟩) hHeld ?_; rotate_left; (focus (intro w hSw; (try dsimp only at hSw); go_simp; try with_reducible rfl)); (try simp only [Act.put, List.setIfInBounds_toArray, List.set_cons_zero, List.set_cons_succ, List.getElem_toArray, List.getElem_cons_zero, List.getElem_cons_succ]))
  have HPP : Hid ((pthI h P).length ≤ 100000) := by
    show _ ≤ _
    unfold pthI
    split
    · rw [List.length_take]; omega
    · simp
  refine wpAnyH_ready (rs := [4, 7]) (by kernel_rfl) (by simp) ?_
  refine AllReadyH.cons rfl (fun K hK => ?_) (AllReadyH.cons rfl (fun K hK => ?_) AllReadyH.nil)
  · go_simp
    have hbu : Below wD.heap.size wD (wD.alloc (.cells #[.int .u8 ((h.pr : Nat) : Int)] 5)) := ba1 _ _
    have hH1 := hHeld.trans (hbu.mono hHeld.size)
    refine hK.out _ _ ?_ (fun hHeldN => ?_)
    (focus ((try dsimp only); exact hH1))
    clear hK K hHeld
    have hHeld := hHeldN
    clear hHeldN
    (try simp only [Act.put, List.setIfInBounds_toArray, List.set_cons_zero, List.set_cons_succ, List.getElem_toArray, List.getElem_cons_zero, List.getElem_cons_succ])
    have hB1 := one_byte q3 wD
    (refine wpAnyH_ready (rs := [7]) (by kernel_rfl) (by simp) ?_; refine AllReadyH.cons rfl (fun K hK => ?_) AllReadyH.nil; go_simp; refine (HPT.out ua on uc _ _ (HG.out _ hHeld).2.2.2).mono ?_; rintro e w5 ⟨v5, rfl, hy5, hb5⟩; obtain ⟨a5, c5, rfl⟩ := hy5.form; obtain ⟨n5, hn5⟩ : ∃ n, n = (pthI h P).length := ⟨_, rfl⟩; rw [← hn5] at hy5 ⊢; refine hK.out _ _ ?_ (fun hHeldN => ?_); (focus ((try dsimp only); (exact hHeld.trans (hb5.mono hHeld.size)))); clear hK K hHeld; have hHeld := hHeldN; clear hHeldN; (try simp only [Act.put, List.setIfInBounds_toArray, List.set_cons_zero, List.set_cons_succ, List.getElem_toArray, List.getElem_cons_zero, List.getElem_cons_succ]))
    have H1 := hB1.later hb5
    have H3 := (HG.out _ hHeld).1
    have H4 := (HG.out _ hHeld).2.1
    have H5 := hy5
    clear hB1 hbu hH1 hn5
    have hLS := lists4 H3 H4 H1 H5
    have hMX := mixedL hLS (by simp) (by
      intro l hl
      simp only [List.mem_cons, List.not_mem_nil, or_false] at hl
      rcases hl with rfl | rfl | rfl | rfl
      · rw [putL_length]; decide
      · rw [putL_length]; decide
      · simp
      · exact HPP.out)
    rw [← HZ.out] at hMX
    (refine wpAnyH_ready (rs := [8]) (by kernel_rfl) (by simp) ?_; refine AllReadyH.cons rfl (fun K hK => ?_) AllReadyH.nil; go_simp; skip; refine hK.out _ _ ?_ (fun hHeldN => ?_); (focus ((try dsimp only); (exact hHeld.trans ((ba1 _ _).mono hHeld.size)))); clear hK K hHeld; have hHeld := hHeldN; clear hHeldN; (try simp only [Act.put, List.setIfInBounds_toArray, List.set_cons_zero, List.set_cons_succ, List.getElem_toArray, List.getElem_cons_zero, List.getElem_cons_succ]))
    (refine wpAnyH_ready (rs := [9]) (by kernel_rfl) (by simp) ?_; refine AllReadyH.cons rfl (fun K hK => ?_) AllReadyH.nil; go_simp; refine hMX.mono ?_; rintro e w9 ⟨rfl, hb9⟩; refine hK.out _ _ ?_ (fun hHeldN => ?_); (focus ((try dsimp only); (exact hHeld.trans (hb9.mono hHeld.size)))); clear hK K hHeld; have hHeld := hHeldN; clear hHeldN; (try simp only [Act.put, List.setIfInBounds_toArray, List.set_cons_zero, List.set_cons_succ, List.getElem_toArray, List.getElem_cons_zero, List.getElem_cons_succ]))
    (refine wpAnyH_take (i := 10) (v := ?_) rfl (by kernel_rfl) (by kernel_rfl) (by kernel_rfl) (fun _ _ _ h => h) (Or.inl ⟨by rfl, ?_⟩) hHeld ?_; rotate_left; (focus (intro w hSw; (try dsimp only at hSw); go_simp; try with_reducible rfl)); (try simp only [Act.put, List.setIfInBounds_toArray, List.set_cons_zero, List.set_cons_succ, List.getElem_toArray, List.getElem_cons_zero, List.getElem_cons_succ])); (refine wpAnyH_take (i := 11) (v := ?_) rfl (by kernel_rfl) (by kernel_rfl) (by kernel_rfl) (fun _ _ _ h => h) (Or.inl ⟨by rfl, ?_⟩) hHeld ?_; rotate_left; (focus (intro w hSw; (try dsimp only at hSw); go_simp; try with_reducible rfl)); (try simp only [Act.put, List.setIfInBounds_toArray, List.set_cons_zero, List.set_cons_succ, List.getElem_toArray, List.getElem_cons_zero, List.getElem_cons_succ]))
    refine wpAnyH_done (by kernel_rfl) ?_ _
    have HE := Lib.hid (below_of HB4.out hHeld)
    clear hHeld hLS hMX H1 H3 H4 H5
    go_wp2_with fail
    go_ret2
    exact ⟨rfl, HE.out⟩
  · go_simp
    refine (HPT.out ua on uc _ _ (HG.out _ hHeld).2.2.2).mono ?_
    rintro e w5 ⟨v5, rfl, hy5, hb5⟩
    obtain ⟨a5, c5, rfl⟩ := hy5.form
    obtain ⟨n5, hn5⟩ : ∃ n, n = (pthI h P).length := ⟨_, rfl⟩
    rw [← hn5] at hy5 ⊢
    clear hn5
    have hH1 := hHeld.trans (hb5.mono hHeld.size)
    refine hK.out _ _ ?_ (fun hHeldN => ?_)
    (focus ((try dsimp only); exact hH1))
    clear hK K hHeld
    have hHeld := hHeldN
    clear hHeldN
    (try simp only [Act.put, List.setIfInBounds_toArray, List.set_cons_zero, List.set_cons_succ, List.getElem_toArray, List.getElem_cons_zero, List.getElem_cons_succ])
    have H1 := one_byte q3 w5
    have hbu : Below w5.heap.size w5 (w5.alloc (.cells #[.int .u8 ((h.pr : Nat) : Int)] 5)) := ba1 _ _
    have H5 := hy5.later hbu
    (refine wpAnyH_ready (rs := [4]) (by kernel_rfl) (by simp) ?_; refine AllReadyH.cons rfl (fun K hK => ?_) AllReadyH.nil; go_simp; skip; refine hK.out _ _ ?_ (fun hHeldN => ?_); (focus ((try dsimp only); (exact hHeld.trans (hbu.mono hHeld.size)))); clear hK K hHeld; have hHeld := hHeldN; clear hHeldN; (try simp only [Act.put, List.setIfInBounds_toArray, List.set_cons_zero, List.set_cons_succ, List.getElem_toArray, List.getElem_cons_zero, List.getElem_cons_succ]))
    obtain ⟨w6, hw6⟩ : ∃ w6, w6 = w5.alloc (.cells #[.int .u8 ((h.pr : Nat) : Int)] 5) := ⟨_, rfl⟩
    rw [← hw6] at hHeld H1 H5 ⊢
    clear hw6 hbu
    have H3 := (HG.out _ hHeld).1
    have H4 := (HG.out _ hHeld).2.1
    clear hH1
    have hLS := lists4 H3 H4 H1 H5
    have hMX := mixedL hLS (by simp) (by
      intro l hl
      simp only [List.mem_cons, List.not_mem_nil, or_false] at hl
      rcases hl with rfl | rfl | rfl | rfl
      · rw [putL_length]; decide
      · rw [putL_length]; decide
      · simp
      · exact HPP.out)
    rw [← HZ.out] at hMX
    (refine wpAnyH_ready (rs := [8]) (by kernel_rfl) (by simp) ?_; refine AllReadyH.cons rfl (fun K hK => ?_) AllReadyH.nil; go_simp; skip; refine hK.out _ _ ?_ (fun hHeldN => ?_); (focus ((try dsimp only); (exact hHeld.trans ((ba1 _ _).mono hHeld.size)))); clear hK K hHeld; have hHeld := hHeldN; clear hHeldN; (try simp only [Act.put, List.setIfInBounds_toArray, List.set_cons_zero, List.set_cons_succ, List.getElem_toArray, List.getElem_cons_zero, List.getElem_cons_succ]))
    (refine wpAnyH_ready (rs := [9]) (by kernel_rfl) (by simp) ?_; refine AllReadyH.cons rfl (fun K hK => ?_) AllReadyH.nil; go_simp; refine hMX.mono ?_; rintro e w9 ⟨rfl, hb9⟩; refine hK.out _ _ ?_ (fun hHeldN => ?_); (focus ((try dsimp only); (exact hHeld.trans (hb9.mono hHeld.size)))); clear hK K hHeld; have hHeld := hHeldN; clear hHeldN; (try simp only [Act.put, List.setIfInBounds_toArray, List.set_cons_zero, List.set_cons_succ, List.getElem_toArray, List.getElem_cons_zero, List.getElem_cons_succ]))
    (refine wpAnyH_take (i := 10) (v := ?_) rfl (by kernel_rfl) (by kernel_rfl) (by kernel_rfl) (fun _ _ _ h => h) (Or.inl ⟨by rfl, ?_⟩) hHeld ?_; rotate_left; (focus (intro w hSw; (try dsimp only at hSw); go_simp; try with_reducible rfl)); (try simp only [Act.put, List.setIfInBounds_toArray, List.set_cons_zero, List.set_cons_succ, List.getElem_toArray, List.getElem_cons_zero, List.getElem_cons_succ])); (refine wpAnyH_take (i := 11) (v := ?_) rfl (by kernel_rfl) (by kernel_rfl) (by kernel_rfl) (fun _ _ _ h => h) (Or.inl ⟨by rfl, ?_⟩) hHeld ?_; rotate_left; (focus (intro w hSw; (try dsimp only at hSw); go_simp; try with_reducible rfl)); (try simp only [Act.put, List.setIfInBounds_toArray, List.set_cons_zero, List.set_cons_succ, List.getElem_toArray, List.getElem_cons_zero, List.getElem_cons_succ]))
    refine wpAnyH_done (by kernel_rfl) ?_ _
    have HE := Lib.hid (below_of HB4.out hHeld)
    clear hHeld hLS hMX H1 H3 H4 H5
    go_wp2_with fail
    go_ret2
    exact ⟨rfl, HE.out⟩
end Go.Proofs.Ytdjhgahdiggahaa

namespace Go.Proofs.Ytdjhgahdiggahaa
open Go.RowKit

/-- All but these blocks stands as it was. -/
structure Chg (l : List Nat) (w w' : World) : Prop where
  low : Below 0 w w'
  rest : ∀ b, b < w.heap.size → b ∉ l → w'.heap[b]? = w.heap[b]?
theorem Chg.refl (l : List Nat) (w : World) : Chg l w w := ⟨Below.refl _ _, fun _ _ _ => rfl⟩
theorem Chg.size {l : List Nat} {w w' : World} (h : Chg l w w') : w.heap.size ≤ w'.heap.size := h.low.size
theorem Chg.trans {l : List Nat} {w w' w'' : World} (h : Chg l w w') (h' : Chg l w' w'') : Chg l w w'' :=
  ⟨h.low.trans h'.low, fun b hb hn => (h'.rest b (Nat.lt_of_lt_of_le hb h.size) hn).trans (h.rest b hb hn)⟩
theorem Chg.mono {l l' : List Nat} {w w' : World} (h : Chg l w w') (hl : ∀ b ∈ l, b ∈ l') : Chg l' w w' := ⟨h.low, fun b hb hn => h.rest b hb (fun h2 => hn (hl b h2))⟩
theorem Chg.of_below {w w' : World} (l : List Nat) (h : Below w.heap.size w w') : Chg l w w' := ⟨h.mono (Nat.zero_le _), fun b hb _ => h.block b hb⟩
theorem Chg.below {l : List Nat} {w w' : World} (h : Chg l w w') {B : Nat} (hB : B ≤ w.heap.size) (hl : ∀ b ∈ l, B ≤ b) : Below B w w' :=
  ⟨h.low.os, h.low.tape, h.low.output, h.low.size, fun b hb => h.rest b (by omega) (fun h2 => by have := hl b h2; omega)⟩
theorem Chg.set {l : List Nat} {w w' : World} (h : Chg l w w') {b : Nat} (hb : b ∈ l) (j : Nat) (x : Value) : Chg l w (w'.setCell ⟨b, j, none⟩ x) :=
  h.trans ⟨(Below.refl _ _).setCell (Nat.zero_le _) _, fun k _ hk => Below.heap_setCell _ _ _ _ (fun e => hk (by rw [e]; exact hb))⟩
theorem Chg.alloc {l : List Nat} {w w' : World} (h : Chg l w w') (o : Obj) : Chg l w (w'.alloc o) := h.trans (Chg.of_below _ ((Below.refl _ _).alloc (Nat.le_refl _) o))
theorem Chg.drew {l : List Nat} {w w' : World} (h : Chg l w w') : Chg l w w'.drew := ⟨h.low.drew, h.rest⟩
theorem Chg.blk {l : List Nat} {w w' : World} (hm : Chg l w w') {t : TypeId} {g : Nat} {cs : List Value} (h : BlkAt t g cs w) (hg : g ∉ l) : BlkAt t g cs w' := (hm.rest g h.lt hg).trans h
theorem Chg.heap {l : List Nat} {w w' : World} (hm : Chg l w w') {g : Nat} {o : Obj} (h : w.heap[g]? = some o) (hg : g ∉ l) : w'.heap[g]? = some o := (hm.rest g (Array.getElem?_eq_some_iff.1 h).1 hg).trans h
theorem Chg.owns {l : List Nat} {w w' : World} (hm : Chg l w w') {B : Nat} {e : TypeId} {size n : Nat} {v : Value} {xs : List Value} (h : w.ownsRow B e size v n xs) (hg : ∀ g, v.ownBlock = some g → g ∉ l) : w'.ownsRow B e size v n xs := by
  obtain ⟨hl, h0 | ⟨g, cap, cur, rfl, hb1, h2, hr⟩⟩ := h
  · exact ⟨hl, .inl h0⟩
  · exact ⟨hl, .inr ⟨g, cap, cur, rfl, hb1, hm.heap h2 (hg g rfl), hr⟩⟩
theorem Chg.cell {l : List Nat} {w w' : World} (hm : Chg l w w') {a : Addr} {u : Value} (h : w.cell? a = some u) (hg : a.block ∉ l) : w'.cell? a = some u := by
  rw [World.cell?_of_block (hm.rest a.block (World.block_lt_of_cell? _ _ h) hg)]; exact h
end Go.Proofs.Ytdjhgahdiggahaa
