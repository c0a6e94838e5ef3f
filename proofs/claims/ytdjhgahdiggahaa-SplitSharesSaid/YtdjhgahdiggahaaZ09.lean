/- The reference's table.
   Buckets: arrays of 256 in memory.
   Shares of ways: the reference's walk. -/
import Derived.Test.YtdjhgahdiggahaaZ06
import Derived.Test.YtdjhgahdiggahaaZ07
import Derived.Test.YtdjhgahdiggahaaZ08

set_option linter.unusedSimpArgs false
set_option linter.unusedVariables false
namespace Go.Proofs.Ytdjhgahdiggahaa
open Go.RowKit
attribute [local go_sem ↓] Go.wp_at_zero Go.wp_at_succ
open Sp

set_option maxRecDepth 100000 in
set_option maxHeartbeats 8000000 in
set_option maxRecDepth 100000 in
theorem sharesR {w : World} {v : Value} {l : List WyN} (hv : Nxs w v l) (hm : mayP l) :
    Calls Try.prog 39 #[v] w fun e w' => ∃ g, e = .returned (.slice (some ⟨g, 0, none⟩) l.length l.length) ∧ w.heap.size ≤ g ∧ IB g (zil (shares (ws l))) w' ∧ Below w.heap.size w w' := by
  obtain ⟨hn1, hn8⟩ := mayP_len hm
  have HV := Lib.hid hv
  obtain ⟨a, c, rfl⟩ := hv.form
  obtain ⟨n, hn⟩ : ∃ n, n = l.length := ⟨_, rfl⟩
  rw [← hn] at HV hn1 hn8 ⊢
  have HNN := Lib.hid hn
  obtain ⟨W, hW⟩ : ∃ W, W = ws l := ⟨_, rfl⟩
  have hWn : W.length = n := by rw [hW, ws_len, hn]
  have hWs : 0 < W.sum := by rw [hW]; exact ws_pos hm
  have hW8 : W.sum ≤ 8 * 65536 := by
    have := ws_sum_le l
    rw [← hW] at this
    exact Nat.le_trans this (Nat.mul_le_mul_right 65536 (by omega))
  have HW : Hid (W = ws l ∧ W.length = n ∧ 0 < W.sum ∧ W.sum ≤ 8 * 65536 ∧ 1 ≤ n ∧ n ≤ 8) := ⟨hW, hWn, hWs, hW8, hn1, hn8⟩
  have HWI : Hid (∀ i, i < n → W.getD i 0 = wt (wyAt l i).2) := by
    have : ∀ i, i < n → W.getD i 0 = wt (wyAt l i).2 := fun i hi => by rw [hW]; exact ws_at (by omega)
    exact this
  rw [← hW]
  have g0 : (n : Int) ≤ 8 := by omega
  clear hv hm hn hW hWn hWs hW8 hn1 hn8
  go_enter Try.func39, Try.ntmps39
  go_wp2_with fail
  go_loopw [3, 4] (fun y x wr => ∃ i : Nat, i ≤ n ∧ y = .int .i64 (((W.take i).sum : Nat) : Int) ∧ x = .int .i64 i ∧ Hid (Below w.heap.size w wr)) (fun _ x _ => n - (intOf x).toNat)
  case atStart => exact ⟨0, Nat.zero_le _, rfl, rfl, Below.refl _ _⟩
  case round =>
    obtain ⟨i, hi, rfl, rfl, HB⟩ := hrel
    rcases Nat.lt_or_ge i n with hlt | hge
    · have g1 : (i : Int) < n := by omega
      obtain ⟨x, hx⟩ : ∃ x, l[i]? = some x := ⟨l[i]'(by have := HNN.out; omega), List.getElem?_eq_getElem _⟩
      obtain ⟨bb, oo, ha, _, hcell⟩ := (HV.out.later HB.out).at hx
      have c0 := hcell 0 _ rfl
      have c1 := hcell 1 _ rfl
      simp only [Nat.add_zero] at c0
      subst ha
      have hwi := HWI.out i hlt
      rw [wyAt_get hx] at hwi
      obtain ⟨xp, xd⟩ := x
      simp only [nxc] at c0 c1
      have hs1 : (W.take (i + 1)).sum = (W.take i).sum + wt xd := by
        rw [sum_take W i (by have := HW.out.2.1; omega), hwi]
      have hs2 := take_sum_le W (i + 1)
      obtain ⟨s0, hs0⟩ : ∃ s, s = (W.take i).sum := ⟨_, rfl⟩
      rw [← hs0] at hs1 ⊢
      have hs3 : s0 + wt xd ≤ 8 * 65536 := by have := HW.out.2.2.2.1; omega
      have HWT := Lib.hid (weightR xp xd)
      obtain ⟨wx, hwx⟩ : ∃ wx, wx = wt xd := ⟨_, rfl⟩
      rw [← hwx] at HWT hs3 hs1
      have HS1 := Lib.hid hs1
      have g3 : (s0 : Int) + wx ≤ 524288 := by omega
      clear hcell hx hwi hs1 hs2 hs0 hs3 hwx
      go_wp2_with fail
      refine (HWT.out _).mono ?_
      rintro e w1 ⟨rfl, hb1⟩
      have HB1 := Lib.hid (below_of HB.out hb1)
      clear hb1 c0 c1
      go_wp2_with fail
      go_roundw
      case rel => exact ⟨i + 1, by omega, by rw [HS1.out]; go_num, by go_num, HB1.out⟩
      case measure => simp [intOf]; omega
    · obtain rfl : i = n := by omega
      have q0 : ¬ (i : Int) < i := by omega
      have HTK : Hid ((W.take i).sum = W.sum) := by
        have := HW.out.2.1
        show _ = _
        rw [List.take_of_length_le (by omega)]
      rw [HTK.out]
      obtain ⟨S, hS⟩ : ∃ S, S = W.sum := ⟨_, rfl⟩
      have HSS := Lib.hid hS
      rw [← hS]
      have g2 : (S : Int) ≤ 524288 := by have := HW.out.2.2.2.1; omega
      have g3 : 0 < (S : Int) := by have := HW.out.2.2.1; omega
      obtain ⟨wM, hm1, hI1, hb1⟩ := make_ints i wr (by omega)
      obtain ⟨wN, hm2, hI2, hb2⟩ := make_ints i wM (by omega)
      have hbM := below_of HB.out hb1
      have hbN := below_of hbM hb2
      obtain ⟨g5, hg5⟩ : ∃ g, g = wr.heap.size := ⟨_, rfl⟩
      obtain ⟨g6, hg6⟩ : ∃ g, g = wM.heap.size := ⟨_, rfl⟩
      have H2 : Hid (IB g5 (List.replicate i 0) wN ∧ IB g6 (List.replicate i 0) wN ∧ g5 ≠ g6 ∧ w.heap.size ≤ g5 ∧ w.heap.size ≤ g6 ∧ Below w.heap.size w wN) := by
        rw [hg5, hg6]
        exact ⟨hI1.later hb2, hI2, by have := BlkAt.lt hI1; omega, HB.out.size, hbM.size, hbN⟩
      rw [← hg5] at hm1
      rw [← hg6] at hm2
      have HBS : Hid ((bseS W).length = i ∧ (rstS W).length = i ∧ (bseS W).sum ≤ 256 ∧ left W < i) := by
        obtain ⟨q1, q2⟩ := base_sum HW.out.2.2.1
        have q3 := HW.out.2.1
        exact ⟨by rw [base_len]; exact q3, by rw [rest_len]; exact q3, q1, by omega⟩
      clear hS hI1 hI2 hb1 hb2 hbM hbN hg5 hg6
      go_wp2_with fail
      clear hm1 hm2
      go_loopw [7, 8] (fun y x wr => ∃ k : Nat, k ≤ i ∧ y = .int .i64 (256 - ((((bseS W).take k).sum : Nat) : Int)) ∧ x = .int .i64 k ∧ Hid (IB g5 (zil (uptoS (bseS W) k)) wr ∧ IB g6 (zil (uptoS (rstS W) k)) wr) ∧ Hid (Below w.heap.size w wr)) (fun _ x _ => i - (intOf x).toNat)
      case atStart =>
        have e0 : zil (List.replicate i 0) = List.replicate i 0 := by simp [zil]
        refine ⟨0, Nat.zero_le _, rfl, rfl, ?_, H2.out.2.2.2.2.2⟩
        rw [upto_zero, upto_zero, HBS.out.1, HBS.out.2.1, e0]
        exact ⟨H2.out.1, H2.out.2.1⟩
      case round =>
        obtain ⟨k, hk, rfl, rfl, HI, HBR⟩ := hrel
        rcases Nat.lt_or_ge k i with hlt | hge2
        · have g1 : (k : Int) < i := by omega
          obtain ⟨x, hx⟩ : ∃ x, l[k]? = some x := ⟨l[k]'(by have := HNN.out; omega), List.getElem?_eq_getElem _⟩
          obtain ⟨bb, oo, ha, hbl, hcell⟩ := HV.out.at hx
          subst ha
          have hwi := HWI.out k hlt
          rw [wyAt_get hx] at hwi
          obtain ⟨xp, xd⟩ := x
          have hwk : k < W.length := by have := HW.out.2.1; omega
          have hb := base_at hwk
          have hr := rest_at hwk
          rw [hwi, ← HSS.out] at hb hr
          have hs1 := sum_take (bseS W) k (by rw [base_len]; exact hwk)
          have hs2 := take_sum_le (bseS W) (k + 1)
          have hs3 := HBS.out.2.2.1
          have hwl := wt_le xd
          obtain ⟨s0, hs0⟩ : ∃ s, s = ((bseS W).take k).sum := ⟨_, rfl⟩
          rw [← hs0] at hs1 ⊢
          obtain ⟨bk, hbk⟩ : ∃ b, b = (bseS W).getD k 0 := ⟨_, rfl⟩
          obtain ⟨rk', hrk⟩ : ∃ b, b = (rstS W).getD k 0 := ⟨_, rfl⟩
          rw [← hbk] at hs1 hb
          rw [← hrk] at hr
          have HWT := Lib.hid (weightR xp xd)
          obtain ⟨wx, hwx⟩ : ∃ wx, wx = wt xd := ⟨_, rfl⟩
          rw [← hwx] at HWT hb hr hwl
          have HS1 := Lib.hid hs1
          have HBK := Lib.hid hbk
          have HRK := Lib.hid hrk
          have HQ : Hid (¬ S = 0 ∧ IntKind.i64.wrap ((256 * (wx : Int)).tdiv (S : Int)) = (bk : Int) ∧ (256 * (wx : Int)).tmod (S : Int) = (rk' : Int) ∧ IntKind.i64.wrap (256 * (wx : Int)) = 256 * (wx : Int)) := by
            have e1 : (256 * (wx : Int)) = ((256 * wx : Nat) : Int) := by omega
            refine ⟨by omega, ?_, ?_, IntWalk.i64_in _ ⟨by omega, by omega⟩⟩
            · rw [e1, ← Int.ofNat_tdiv, ← hb]
              exact IntWalk.i64_in _ ⟨by omega, by omega⟩
            · rw [hr, e1]
              exact (Int.ofNat_tmod _ _).symm
          have HL : Hid (∀ V, Below w.heap.size w V → V.cell? ⟨bb, oo + k * 2, none⟩ = some (.int .i64 xp) ∧ V.cell? ⟨bb, oo + k * 2 + 1, none⟩ = some (.int .i64 xd)) := by
            have : ∀ V, Below w.heap.size w V → V.cell? ⟨bb, oo + k * 2, none⟩ = some (.int .i64 xp) ∧ V.cell? ⟨bb, oo + k * 2 + 1, none⟩ = some (.int .i64 xd) := fun V hV => ⟨cell_later hV (hcell 0 _ rfl), cell_later hV (hcell 1 _ rfl)⟩
            exact this
          have g4 : (s0 : Int) + bk ≤ 256 := by omega
          have g5' : (wx : Int) ≤ 65536 := by omega
          clear hcell hx hwi hs1 hs2 hs3 hs0 hwx hb hr hbk hrk hwl hwk
          go_wp2_with fail
          (refine wp_region_held_drew (S := (fun w' => Below w.heap.size w w')) (by kernel_rfl) ?_ (fun hHeld => ?_); (focus ((try dsimp only); (exact HBR.out.drew))))
          obtain ⟨wD, hwD⟩ : ∃ wD, wD = wr.drew := ⟨_, rfl⟩
          rw [← hwD] at hHeld ⊢
          have hID : IB g5 (zil (uptoS (bseS W) k)) wD ∧ IB g6 (zil (uptoS (rstS W) k)) wD := by
            rw [hwD]
            exact ⟨HI.out.1.later (Below.refl _ _).drew, HI.out.2.later (Below.refl _ _).drew⟩
          clear hwD
          (refine wpAnyH_take (i := 0) (v := ?_) rfl (by kernel_rfl) (by kernel_rfl) (by kernel_rfl) (fun _ _ _ h => h) (Or.inl ⟨by rfl, ?_⟩) hHeld ?_; rotate_left; (focus (intro w hSw; (try dsimp only at hSw); go_simp; try with_reducible rfl)); (try simp only [Act.put, List.setIfInBounds_toArray, List.set_cons_zero, List.set_cons_succ, List.getElem_toArray, List.getElem_cons_zero])); (refine wpAnyH_take (i := 1) (v := ?_) rfl (by kernel_rfl) (by kernel_rfl) (by kernel_rfl) (fun _ _ _ h => h) (Or.inl ⟨by rfl, ?_⟩) hHeld ?_; rotate_left; (focus (intro w hSw; (try dsimp only at hSw); go_simp; try with_reducible rfl)); (try simp only [Act.put, List.setIfInBounds_toArray, List.set_cons_zero, List.set_cons_succ, List.getElem_toArray, List.getElem_cons_zero, List.getElem_cons_succ])); (refine wpAnyH_take (i := 2) (v := ?_) rfl (by kernel_rfl) (by kernel_rfl) (by kernel_rfl) (fun _ _ _ h => h) (Or.inl ⟨by rfl, ?_⟩) hHeld ?_; rotate_left; (focus (intro w hSw; (try dsimp only at hSw); go_simp; try with_reducible rfl)); (try simp only [Act.put, List.setIfInBounds_toArray, List.set_cons_zero, List.set_cons_succ, List.getElem_toArray, List.getElem_cons_zero, List.getElem_cons_succ])); (refine wpAnyH_take (i := 3) (v := ?_) rfl (by kernel_rfl) (by kernel_rfl) (by kernel_rfl) (fun _ _ _ h => h) (Or.inl ⟨by rfl, ?_⟩) hHeld ?_; rotate_left; (focus (intro w hSw; (try dsimp only at hSw); go_simp; try with_reducible rfl)); (try simp only [Act.put, List.setIfInBounds_toArray, List.set_cons_zero, List.set_cons_succ, List.getElem_toArray, List.getElem_cons_zero, List.getElem_cons_succ])); (refine wpAnyH_take (i := 4) (v := ?_) rfl (by kernel_rfl) (by kernel_rfl) (by kernel_rfl) (fun _ _ _ h => h) (Or.inl ⟨by rfl, ?_⟩) hHeld ?_; rotate_left; (focus (intro w hSw; (try dsimp only at hSw); go_simp; try with_reducible rfl)); (try simp only [Act.put, List.setIfInBounds_toArray, List.set_cons_zero, List.set_cons_succ, List.getElem_toArray, List.getElem_cons_zero, List.getElem_cons_succ])); (refine wpAnyH_take (i := 5) (v := ?_) rfl (by kernel_rfl) (by kernel_rfl) (by kernel_rfl) (fun _ _ _ h => h) (Or.inl ⟨by rfl, ?_⟩) hHeld ?_; rotate_left; (focus (intro w hSw; (try dsimp only at hSw); go_simp; try with_reducible rfl)); (try simp only [Act.put, List.setIfInBounds_toArray, List.set_cons_zero, List.set_cons_succ, List.getElem_toArray, List.getElem_cons_zero, List.getElem_cons_succ])); (refine wpAnyH_take (i := 6) (v := ?_) rfl (by kernel_rfl) (by kernel_rfl) (by kernel_rfl) (fun _ _ _ h => h) (Or.inl ⟨by rfl, ?_⟩) hHeld ?_; rotate_left; (focus (intro w hSw; (try dsimp only at hSw); go_simp; try with_reducible rfl)); (try simp only [Act.put, List.setIfInBounds_toArray, List.set_cons_zero, List.set_cons_succ, List.getElem_toArray, List.getElem_cons_zero, List.getElem_cons_succ]))
          (refine wpAnyH_take (i := 7) (v := ?_) rfl (by kernel_rfl) (by kernel_rfl) (by kernel_rfl) (fun _ _ _ h => h) (Or.inl ⟨by rfl, ?_⟩) hHeld ?_; rotate_left; (focus (intro w hSw; (try dsimp only at hSw); go_simp; (have c0 := (HL.out _ hSw).1; have c1 := (HL.out _ hSw).2; go_simp; try with_reducible rfl))); (try simp only [Act.put, List.setIfInBounds_toArray, List.set_cons_zero, List.set_cons_succ, List.getElem_toArray, List.getElem_cons_zero, List.getElem_cons_succ]))
          (refine wpAnyH_take (i := 10) (v := ?_) rfl (by kernel_rfl) (by kernel_rfl) (by kernel_rfl) (fun _ _ _ h => h) (Or.inl ⟨by rfl, ?_⟩) hHeld ?_; rotate_left; (focus (intro w hSw; (try dsimp only at hSw); go_simp; try with_reducible rfl)); (try simp only [Act.put, List.setIfInBounds_toArray, List.set_cons_zero, List.set_cons_succ, List.getElem_toArray, List.getElem_cons_zero, List.getElem_cons_succ])); (refine wpAnyH_take (i := 12) (v := ?_) rfl (by kernel_rfl) (by kernel_rfl) (by kernel_rfl) (fun _ _ _ h => h) (Or.inl ⟨by rfl, ?_⟩) hHeld ?_; rotate_left; (focus (intro w hSw; (try dsimp only at hSw); go_simp; try with_reducible rfl)); (try simp only [Act.put, List.setIfInBounds_toArray, List.set_cons_zero, List.set_cons_succ, List.getElem_toArray, List.getElem_cons_zero, List.getElem_cons_succ])); (refine wpAnyH_take (i := 13) (v := ?_) rfl (by kernel_rfl) (by kernel_rfl) (by kernel_rfl) (fun _ _ _ h => h) (Or.inl ⟨by rfl, ?_⟩) hHeld ?_; rotate_left; (focus (intro w hSw; (try dsimp only at hSw); go_simp; try with_reducible rfl)); (try simp only [Act.put, List.setIfInBounds_toArray, List.set_cons_zero, List.set_cons_succ, List.getElem_toArray, List.getElem_cons_zero, List.getElem_cons_succ])); (refine wpAnyH_take (i := 14) (v := ?_) rfl (by kernel_rfl) (by kernel_rfl) (by kernel_rfl) (fun _ _ _ h => h) (Or.inl ⟨by rfl, ?_⟩) hHeld ?_; rotate_left; (focus (intro w hSw; (try dsimp only at hSw); go_simp; try with_reducible rfl)); (try simp only [Act.put, List.setIfInBounds_toArray, List.set_cons_zero, List.set_cons_succ, List.getElem_toArray, List.getElem_cons_zero, List.getElem_cons_succ]))
          (refine wpAnyH_take (i := 15) (v := ?_) rfl (by kernel_rfl) (by kernel_rfl) (by kernel_rfl) (fun _ _ _ h => h) (Or.inl ⟨by rfl, ?_⟩) hHeld ?_; rotate_left; (focus (intro w hSw; (try dsimp only at hSw); go_simp; (have c0 := (HL.out _ hSw).1; have c1 := (HL.out _ hSw).2; go_simp; try with_reducible rfl))); (try simp only [Act.put, List.setIfInBounds_toArray, List.set_cons_zero, List.set_cons_succ, List.getElem_toArray, List.getElem_cons_zero, List.getElem_cons_succ]))
          (refine wpAnyH_take (i := 18) (v := ?_) rfl (by kernel_rfl) (by kernel_rfl) (by kernel_rfl) (fun _ _ _ h => h) (Or.inl ⟨by rfl, ?_⟩) hHeld ?_; rotate_left; (focus (intro w hSw; (try dsimp only at hSw); go_simp; try with_reducible rfl)); (try simp only [Act.put, List.setIfInBounds_toArray, List.set_cons_zero, List.set_cons_succ, List.getElem_toArray, List.getElem_cons_zero, List.getElem_cons_succ]))
          (refine wpAnyH_ready (rs := [8]) (by kernel_rfl) (by simp) ?_; refine AllReadyH.cons rfl (fun K hK => ?_) AllReadyH.nil; go_simp; refine (HWT.out _).mono ?_; rintro e y1 ⟨rfl, hy1⟩; refine hK.out _ _ ?_ (fun hHeldN => ?_); (focus ((try dsimp only); (exact below_of hHeld hy1))); clear hK K hHeld; have hHeld := hHeldN; clear hHeldN; (try simp only [Act.put, List.setIfInBounds_toArray, List.set_cons_zero, List.set_cons_succ, List.getElem_toArray, List.getElem_cons_zero, List.getElem_cons_succ]))
          have hI1 : IB g5 (zil (uptoS (bseS W) k)) y1 ∧ IB g6 (zil (uptoS (rstS W) k)) y1 := ⟨hID.1.later hy1, hID.2.later hy1⟩
          clear hy1 hID
          (refine wpAnyH_take (i := 9) (v := ?_) rfl (by kernel_rfl) (by kernel_rfl) (by kernel_rfl) (fun _ _ _ h => h) (Or.inl ⟨by rfl, ?_⟩) hHeld ?_; rotate_left; (focus (intro w hSw; (try dsimp only at hSw); go_simp; (have h1 := HQ.out.2.2.2; go_simp; try with_reducible rfl))); (try simp only [Act.put, List.setIfInBounds_toArray, List.set_cons_zero, List.set_cons_succ, List.getElem_toArray, List.getElem_cons_zero, List.getElem_cons_succ]))
          (refine wpAnyH_take (i := 11) (v := ?_) rfl (by kernel_rfl) (by kernel_rfl) (by kernel_rfl) (fun _ _ _ h => h) (Or.inl ⟨by rfl, ?_⟩) hHeld ?_; rotate_left; (focus (intro w hSw; (try dsimp only at hSw); go_simp; (have h0 := HQ.out.1; have h1 := HQ.out.2.1; go_simp; try with_reducible rfl))); (try simp only [Act.put, List.setIfInBounds_toArray, List.set_cons_zero, List.set_cons_succ, List.getElem_toArray, List.getElem_cons_zero, List.getElem_cons_succ]))
          (refine wpAnyH_ready (rs := [16]) (by kernel_rfl) (by simp) ?_; refine AllReadyH.cons rfl (fun K hK => ?_) AllReadyH.nil; go_simp; refine (HWT.out _).mono ?_; rintro e y2 ⟨rfl, hy2⟩; refine hK.out _ _ ?_ (fun hHeldN => ?_); (focus ((try dsimp only); (exact below_of hHeld hy2))); clear hK K hHeld; have hHeld := hHeldN; clear hHeldN; (try simp only [Act.put, List.setIfInBounds_toArray, List.set_cons_zero, List.set_cons_succ, List.getElem_toArray, List.getElem_cons_zero, List.getElem_cons_succ]))
          have hI2 : IB g5 (zil (uptoS (bseS W) k)) y2 ∧ IB g6 (zil (uptoS (rstS W) k)) y2 := ⟨hI1.1.later hy2, hI1.2.later hy2⟩
          clear hy2 hI1
          (refine wpAnyH_take (i := 17) (v := ?_) rfl (by kernel_rfl) (by kernel_rfl) (by kernel_rfl) (fun _ _ _ h => h) (Or.inl ⟨by rfl, ?_⟩) hHeld ?_; rotate_left; (focus (intro w hSw; (try dsimp only at hSw); go_simp; (have h1 := HQ.out.2.2.2; go_simp; try with_reducible rfl))); (try simp only [Act.put, List.setIfInBounds_toArray, List.set_cons_zero, List.set_cons_succ, List.getElem_toArray, List.getElem_cons_zero, List.getElem_cons_succ]))
          (refine wpAnyH_take (i := 19) (v := ?_) rfl (by kernel_rfl) (by kernel_rfl) (by kernel_rfl) (fun _ _ _ h => h) (Or.inl ⟨by rfl, ?_⟩) hHeld ?_; rotate_left; (focus (intro w hSw; (try dsimp only at hSw); go_simp; (have h0 := HQ.out.1; have h1 := HQ.out.2.2.1; go_simp; try with_reducible rfl))); (try simp only [Act.put, List.setIfInBounds_toArray, List.set_cons_zero, List.set_cons_succ, List.getElem_toArray, List.getElem_cons_zero, List.getElem_cons_succ]))
          (refine wpAnyH_take (i := 20) (v := ?_) rfl (by kernel_rfl) (by kernel_rfl) (by kernel_rfl) (fun _ _ _ h => h) (Or.inl ⟨by rfl, ?_⟩) hHeld ?_; rotate_left; (focus (intro w hSw; (try dsimp only at hSw); go_simp; try with_reducible rfl)); (try simp only [Act.put, List.setIfInBounds_toArray, List.set_cons_zero, List.set_cons_succ, List.getElem_toArray, List.getElem_cons_zero, List.getElem_cons_succ]))
          have d7 := ib_at hI2.1 (j := k) (by rw [upto_len (by rw [HBS.out.1]; omega), HBS.out.1]; exact hlt)
          have f7 : ∀ j, y2.frozen? ⟨g5, j, none⟩ = false := fun j => BlkAt.frozen hI2.1 j
          have d9 : (y2.setCell ⟨g5, k, none⟩ (.int .i64 (bk : Int))).cell? ⟨g6, k, none⟩ = some (.int .i64 (((uptoS (rstS W) k).getD k 0 : Nat) : Int)) := ib_at (BlkAt.other hI2.2 (fun e => H2.out.2.2.1 e.symm) _ _) (j := k) (by rw [upto_len (by rw [HBS.out.2.1]; omega), HBS.out.2.1]; exact hlt)
          have f9 : ∀ j, (y2.setCell ⟨g5, k, none⟩ (.int .i64 (bk : Int))).frozen? ⟨g6, j, none⟩ = false := fun j => BlkAt.frozen (BlkAt.other hI2.2 (fun e => H2.out.2.2.1 e.symm) _ _) j
          (refine wpAnyH_ready (rs := [21]) (by kernel_rfl) (by simp) ?_; refine AllReadyH.cons rfl (fun K hK => ?_) AllReadyH.nil; go_simp; skip; refine hK.out _ _ ?_ (fun hHeldN => ?_); (focus ((try dsimp only); (exact hHeld.setCell H2.out.2.2.2.1 _))); clear hK K hHeld; have hHeld := hHeldN; clear hHeldN; (try simp only [Act.put, List.setIfInBounds_toArray, List.set_cons_zero, List.set_cons_succ, List.getElem_toArray, List.getElem_cons_zero, List.getElem_cons_succ]))
          (refine wpAnyH_take (i := 22) (v := ?_) rfl (by kernel_rfl) (by kernel_rfl) (by kernel_rfl) (fun _ _ _ h => h) (Or.inl ⟨by rfl, ?_⟩) hHeld ?_; rotate_left; (focus (intro w hSw; (try dsimp only at hSw); go_simp; try with_reducible rfl)); (try simp only [Act.put, List.setIfInBounds_toArray, List.set_cons_zero, List.set_cons_succ, List.getElem_toArray, List.getElem_cons_zero, List.getElem_cons_succ]))
          (refine wpAnyH_ready (rs := [23]) (by kernel_rfl) (by simp) ?_; refine AllReadyH.cons rfl (fun K hK => ?_) AllReadyH.nil; go_simp; skip; refine hK.out _ _ ?_ (fun hHeldN => ?_); (focus ((try dsimp only); (exact hHeld.setCell H2.out.2.2.2.2.1 _))); clear hK K hHeld; have hHeld := hHeldN; clear hHeldN; (try simp only [Act.put, List.setIfInBounds_toArray, List.set_cons_zero, List.set_cons_succ, List.getElem_toArray, List.getElem_cons_zero, List.getElem_cons_succ]))
          refine wpAnyH_done (by kernel_rfl) ?_ _
          obtain ⟨wE, hwE⟩ : ∃ wE, wE = (y2.setCell ⟨g5, k, none⟩ (.int .i64 (bk : Int))).setCell ⟨g6, k, none⟩ (.int .i64 (rk' : Int)) := ⟨_, rfl⟩
          rw [← hwE] at hHeld ⊢
          have hI7 : IB g5 (zil (uptoS (bseS W) (k + 1))) wE := by
            rw [hwE]
            have h1 := ib_set hI2.1 k bk
            have h2 := upto_set (B := bseS W) (k := k) (by rw [HBS.out.1]; exact hlt)
            rw [← HBK.out] at h2
            rw [h2] at h1
            exact BlkAt.other h1 H2.out.2.2.1 _ _
          have hI8 : IB g6 (zil (uptoS (rstS W) (k + 1))) wE := by
            rw [hwE]
            have h1 := ib_set (BlkAt.other hI2.2 (fun e => H2.out.2.2.1 e.symm) k (.int .i64 (bk : Int))) k rk'
            have h2 := upto_set (B := rstS W) (k := k) (by rw [HBS.out.2.1]; exact hlt)
            rw [← HRK.out] at h2
            rw [h2] at h1
            exact h1
          have e7 : wE.cell? ⟨g5, k, none⟩ = some (.int .i64 (bk : Int)) := by
            have h1 := ib_at hI7 (j := k) (by rw [upto_len (by rw [HBS.out.1]; omega), HBS.out.1]; exact hlt)
            rw [h1, upto_get (Nat.lt_succ_self k) (by rw [HBS.out.1]; omega), ← HBK.out]
          have HIE : Hid (IB g5 (zil (uptoS (bseS W) (k + 1))) wE ∧ IB g6 (zil (uptoS (rstS W) (k + 1))) wE) := ⟨hI7, hI8⟩
          have HBE := Lib.hid hHeld
          clear hwE hI7 hI8 d7 d9 f7 f9 hHeld hI2
          go_wp2_with fail
          go_roundw
          case rel => exact ⟨k + 1, by omega, by rw [HS1.out]; go_num, by go_num, HIE.out, HBE.out⟩
          case measure => simp [intOf]; omega
        · obtain rfl : k = i := by omega
          have q1 : ¬ (k : Int) < k := by omega
          have hsum : ((bseS W).take k) = bseS W := List.take_of_length_le (by rw [HBS.out.1]; exact Nat.le_refl _)
          have HI7 : Hid (IB g5 (zil (oL W 0)) wr) := by
            have h1 := HI.out.1
            have h2 := upto_all (bseS W)
            rw [HBS.out.1] at h2
            rw [h2] at h1
            rw [oL_zero]
            exact h1
          have HI8 : Hid (IB g6 (rL W 0) wr) := by
            have h1 := HI.out.2
            have h2 := upto_all (rstS W)
            rw [HBS.out.2.1] at h2
            rw [h2] at h1
            rw [rL_zero]
            exact h1
          obtain ⟨L, hL⟩ : ∃ L, L = left W := ⟨_, rfl⟩
          have hL2 : (256 : Int) - (((bseS W).sum : Nat) : Int) = (L : Int) := by
            rw [hL]
            have := HBS.out.2.2.1
            unfold left
            omega
          have hL3 : L < k := by rw [hL]; exact HBS.out.2.2.2
          have HLL : Hid (L = left W ∧ L < k) := ⟨hL, hL3⟩
          have g9 : (L : Int) ≤ 8 := by omega
          rw [hsum, hL2]
          clear hsum hL hL2 hL3
          go_wp2_with fail
          go_loopw [7] (fun x wr => ∃ t : Nat, t ≤ L ∧ x = .int .i64 ((L : Int) - (t : Int)) ∧ Hid (IB g5 (zil (oL W t)) wr) ∧ Hid (IB g6 (rL W t) wr) ∧ Hid (Below w.heap.size w wr)) (fun x _ => (intOf x).toNat)
          case atStart => exact ⟨0, Nat.zero_le _, by simp, HI7.out, HI8.out, HBR.out⟩
          case round =>
            obtain ⟨t, ht, rfl, HO, HR, HBT⟩ := hrel
            rcases Nat.lt_or_ge t L with htl | htg
            · have k1 : (0 : Int) < (L : Int) - (t : Int) := by omega
              go_wp2_with fail
              obtain ⟨wr0, hwr0⟩ : ∃ wr0, wr0 = wr := ⟨_, rfl⟩
              rw [← hwr0] at HO HR HBT
              have H00 : Hid (Below wr0.heap.size wr0 wr) := by
                show Below _ _ _
                rw [hwr0]; exact Below.refl _ _
              clear hwr0
              go_loopw [9, 10] (fun y x wr => ∃ (j : Nat) (b : Int), j ≤ k ∧ y = .int .i64 b ∧ x = .int .i64 j ∧ Hid (bestP W t j b) ∧ Hid (Below wr0.heap.size wr0 wr)) (fun _ x _ => k - (intOf x).toNat)
              case atStart => exact ⟨0, -1, Nat.zero_le _, rfl, rfl, bestP_zero W t, H00.out⟩
              case round =>
                obtain ⟨j, b, hj, rfl, rfl, HBP, HBJ⟩ := hrel
                rcases Nat.lt_or_ge j k with hjl | hjg
                · have k2 : (j : Int) < k := by omega
                  have hjW : j < W.length := by have := HW.out.2.1; omega
                  have c0 := BlkAt.cell (HR.out.later HBJ.out) (iv_at2 (rL_at (t := t) hjW))
                  by_cases hrk : rk (rstS W) j < t
                  · rw [if_pos hrk] at c0
                    have HN := Lib.hid (bestP_skip HBP.out hrk)
                    clear hrk hjW
                    go_wp2_with fail
                    go_quiet (fail)
                    have HB2 := Lib.hid (below_drewN HBJ.out nq)
                    go_wp2_with fail
                    go_roundw
                    case rel => exact ⟨j + 1, b, by omega, rfl, by go_num, HN.out, HB2.out⟩
                    case measure => simp [intOf]; omega
                  · rw [if_neg hrk] at c0
                    obtain ⟨r, hr⟩ : ∃ r, r = (rstS W).getD j 0 := ⟨_, rfl⟩
                    rw [← hr] at c0
                    have t0 : decide ((0 : Int) ≤ (r : Int)) = true := decide_eq_true (by omega)
                    rcases HBP.out with ⟨hb1, _⟩ | ⟨bn, hb1, hb2, hb3, _⟩
                    · subst hb1
                      have HN := Lib.hid (bestP_first HBP.out (by omega))
                      clear hrk hjW hr
                      go_wp2_with fail
                      go_quiet (fail)
                      have HB2 := Lib.hid (below_drewN HBJ.out nq)
                      go_wp2_with fail
                      go_roundw
                      case rel => exact ⟨j + 1, j, by omega, rfl, by go_num, HN.out, HB2.out⟩
                      case measure => simp [intOf]; omega
                    · subst hb1
                      have hbW : bn < W.length := by omega
                      have k3 : (bn : Int) < k := by omega
                      have c1 := BlkAt.cell (HR.out.later HBJ.out) (iv_at2 (rL_at (t := t) hbW))
                      rw [if_neg (by omega)] at c1
                      obtain ⟨rb, hrb⟩ : ∃ r, r = (rstS W).getD bn 0 := ⟨_, rfl⟩
                      rw [← hrb] at c1
                      have t1 : decide ((bn : Int) < 0) = false := decide_eq_false (by omega)
                      by_cases hg : rb < r
                      · have HN := Lib.hid (bestP_take HBP.out (by omega) (by rw [← hrb, ← hr]; exact hg))
                        have t2 : decide (rb < r) = true := decide_eq_true hg
                        have t3 : decide ((rb : Int) < (r : Int)) = true := decide_eq_true (by omega)
                        clear hrk hjW hr hrb hg hbW hb2 hb3
                        go_wp2_with fail
                        go_quiet (fail)
                        have HB2 := Lib.hid (below_drewN HBJ.out nq)
                        go_wp2_with fail
                        go_roundw
                        case rel => exact ⟨j + 1, j, by omega, rfl, by go_num, HN.out, HB2.out⟩
                        case measure => simp [intOf]; omega
                      · have HN := Lib.hid (bestP_keep HBP.out (by rw [← hrb, ← hr]; exact hg))
                        have t2 : decide (rb < r) = false := decide_eq_false hg
                        have t3 : decide ((rb : Int) < (r : Int)) = false := decide_eq_false (by omega)
                        clear hrk hjW hr hrb hg hbW hb2 hb3
                        go_wp2_with fail
                        go_quiet (fail)
                        have HB2 := Lib.hid (below_drewN HBJ.out nq)
                        go_wp2_with fail
                        go_roundw
                        case rel => exact ⟨j + 1, (bn : Int), by omega, rfl, by go_num, HN.out, HB2.out⟩
                        case measure => simp [intOf]; omega
                · obtain rfl : j = k := by omega
                  have q2 : ¬ (j : Int) < j := by omega
                  have hbp := HBP.out
                  rw [← HW.out.2.1] at hbp
                  obtain ⟨bn, rfl, hb2, hb3⟩ := bestP_all hbp (by have := HW.out.2.1; have := HLL.out.2; omega)
                  have k3 : (bn : Int) < j := by have := HW.out.2.1; omega
                  have t1 : decide ((bn : Int) < 0) = false := decide_eq_false (by omega)
                  have hO := HO.out.later HBJ.out
                  have hR := HR.out.later HBJ.out
                  have c5 := ib_at hO (j := bn) (by rw [oL_len]; exact hb2)
                  have f5 : ∀ j, wr.frozen? ⟨g5, j, none⟩ = false := fun j => BlkAt.frozen hO j
                  obtain ⟨ov, hov⟩ : ∃ o, o = (oL W t).getD bn 0 := ⟨_, rfl⟩
                  rw [← hov] at c5
                  have hovb : ov ≤ 257 := by
                    rw [hov, oL_at hb2]
                    have h1 := sum_le (V := bseS W) (i := bn) (by rw [base_len]; exact hb2)
                    have h2 := HBS.out.2.2.1
                    split <;> omega
                  have k4 : (ov : Int) ≤ 257 := by omega
                  have hc6 := BlkAt.cell hR (iv_at2 (rL_at (t := t) hb2))
                  obtain ⟨wE, hwE⟩ : ∃ wE, wE = (wr.setCell ⟨g5, bn, none⟩ (.int .i64 ((ov : Int) + 1))).setCell ⟨g6, bn, none⟩ (.int .i64 (-1)) := ⟨_, rfl⟩
                  have hR1 : IB g6 (rL W t) (wr.setCell ⟨g5, bn, none⟩ (.int .i64 ((ov : Int) + 1))) := BlkAt.other hR (fun e => H2.out.2.2.1 e.symm) _ _
                  have d6 := BlkAt.cell hR1 (iv_at2 (rL_at (t := t) hb2))
                  have f6 : ∀ j, (wr.setCell ⟨g5, bn, none⟩ (.int .i64 ((ov : Int) + 1))).frozen? ⟨g6, j, none⟩ = false := fun j => BlkAt.frozen hR1 j
                  have HNE : Hid (IB g5 (zil (oL W (t + 1))) wE ∧ IB g6 (rL W (t + 1)) wE ∧ Below w.heap.size w wE) := by
                    refine ⟨?_, ?_, ?_⟩
                    · rw [hwE]
                      have h1 := ib_set hO bn (ov + 1)
                      rw [hov, oL_set hb2 hb3, ← hov] at h1
                      exact BlkAt.other h1 H2.out.2.2.1 _ _
                    · rw [hwE]
                      have h1 := IB.set hR1 bn (-1)
                      rw [rL_set hb2 hb3] at h1
                      exact h1
                    · rw [hwE]
                      have h1 := HBT.out.trans (HBJ.out.mono HBT.out.size)
                      exact (h1.setCell H2.out.2.2.2.1 _).setCell H2.out.2.2.2.2.1 _
                  have HWE := Lib.hid hwE
                  clear hbp hb2 hb3 hO hR hov hovb hc6 hwE hR1
                  go_wp2_with fail
                  rw [← HWE.out]
                  refine ⟨⟨t + 1, by omega, ?_, HNE.out.1, HNE.out.2.1, HNE.out.2.2⟩, by simp [intOf]; omega⟩
                  congr 1
                  omega
            · obtain rfl : t = L := by omega
              have k1 : ¬ (0 : Int) < (t : Int) - (t : Int) := by omega
              go_wp2_with fail
              go_ret
              refine ⟨g5, rfl, H2.out.2.2.2.1, ?_, HBT.out⟩
              have h1 := HO.out
              rw [HLL.out.1, oL_all] at h1
              exact h1
end Go.Proofs.Ytdjhgahdiggahaa

namespace Go.Proofs.Ytdjhgahdiggahaa
open Go.RowKit
attribute [local go_sem ↓] Go.wp_at_zero Go.wp_at_succ
open Sp

set_option maxRecDepth 100000 in
theorem results_ct6 {fn : Func} {p u : Tmp} {ty : TypeId} (h : fn.results = #[.cell p ty, .tmp u]) {tmps : Array Value} {P : Program} {w : World} {g : Nat} {v x : Value}
    (hp : tmps.getD p undef = .pointer (some ⟨g, 0, none⟩)) (hg : (loadVar ty ⟨g, 0, none⟩).run P w = .ok v w) (hu : tmps.getD u undef = x) : (results fn tmps).run P w = .ok (.tuple #[v, x]) w := by
  have hp' : tmps[p]?.getD undef = .pointer (some ⟨g, 0, none⟩) := by simpa using hp
  have hu' : tmps[u]?.getD undef = x := by simpa using hu
  simp [results, h, hp', hu', asAddr, hg, Result.andThen]
abbrev AB (g : Nat) (A : List Int) (w : World) : Prop := BlkAt 86 g (iv A) w
set_option maxRecDepth 100000 in
theorem iv_len (L : List Int) : (iv L).length = L.length := by simp [iv]
set_option maxRecDepth 100000 in
theorem ab_load {g : Nat} {A : List Int} {w : World} (h : AB g A w) (hA : A.length = 256) : (loadVar 86 ⟨g, 0, none⟩).run Try.prog w = .ok (av A) w :=
  run_loadVar_row w _ _ _ _ (0, 0) _ h Try.underlying86 (by rfl) (by rw [List.size_toArray, iv_len, hA]; kernel_rfl)
set_option maxRecDepth 100000 in
theorem ab_store {g : Nat} {A T : List Int} {w : World} (h : AB g A w) (hA : A.length = 256) (hT : T.length = 256) :
    (storeCells ⟨g, 0, none⟩ (iv T)).run Try.prog w = .ok () (w.setRow g (iv T).toArray) ∧ AB g T (w.setRow g (iv T).toArray) := by
  refine ⟨?_, setRow_heap w g _ _ _ _ h⟩
  have := run_storeCells_from (P := Try.prog) g _ (iv T) 0 _ w h (by rw [List.size_toArray, iv_len, iv_len, hA, hT]) (fun v hv => by unfold iv at hv; obtain ⟨x, _, rfl⟩ := List.mem_map.1 hv; rfl)
  rw [this]
  simp
set_option maxRecDepth 100000 in
theorem ab_set {g : Nat} {A : List Int} {w : World} (h : AB g A w) (j : Nat) (x : Int) : AB g (A.set j x) (w.setCell ⟨g, j, none⟩ (.int .i64 x)) := by
  have := BlkAt.set h j (.int .i64 x)
  rw [iv_set] at this
  exact this
set_option maxRecDepth 100000 in
theorem below_row {B g : Nat} {w0 w : World} (hb : Below B w0 w) (hBg : B ≤ g) (cs : Array Value) : Below B w0 (w.setRow g cs) :=
  hb.trans ⟨rfl, rfl, rfl, by simp, fun k hk => setRow_other w g k cs (by omega)⟩
set_option maxRecDepth 100000 in
theorem wp_ld {P : Program} {o : Oper} {a : Act} {w : World} {K : Act → World → Prop} {Q : Exit → Act → World → Prop} (t : TypeId) (x : Operand) (ad : Addr) (v : Value) (ho : o.op = .load t x) (hx : a.eval x = .pointer (some ad)) (hl : (loadVar t ad).run P w = .ok v w) (h : K (a.put o.dst v) w) : o.wp P a w K Q := by
  unfold Oper.wp
  rw [exLoad _ _ t x ad v w ho hx hl]
  exact h
set_option maxRecDepth 100000 in
theorem zero_iv : Try.zeroCells86 = (iv (List.replicate 256 0)).toArray := by kernel_rfl
set_option maxHeartbeats 8000000 in
set_option maxRecDepth 100000 in
theorem buckNo {w : World} {v : Value} {l : List WyN} (hv : Nxs w v l) (hl : l.length ≤ 1000000) (ho : ∀ n ∈ l, NxOk n) (hm : ¬ mayP l) :
    Calls Try.prog 34 #[v] w fun e w' => e = .returned (.tuple #[av (List.replicate 256 0), .int .i64 2]) ∧ Below w.heap.size w w' := by
  obtain ⟨V, hV⟩ : ∃ V, V = iv (List.replicate 256 0) := ⟨_, rfl⟩
  have hz := zero_iv
  rw [← hV] at hz
  obtain ⟨w1, hw1⟩ : ∃ w1, w1 = w.alloc (.cells V.toArray 86) := ⟨_, rfl⟩
  have hb1 : Below w.heap.size w w1 := by rw [hw1]; exact ba1 _ _
  have hX : BlkAt 86 w.heap.size V w1 := by rw [hw1]; exact BlkAt.new w _
  have HS := Lib.hid (sharesNo (hv.later hb1) hl ho hm)
  have HB1 := Lib.hid hb1
  have HX := Lib.hid hX
  have HW1 := Lib.hid hw1
  obtain ⟨a, c, rfl⟩ := hv.form
  obtain ⟨n, hn⟩ : ∃ n, n = l.length := ⟨_, rfl⟩
  rw [← hn] at HS ⊢
  unfold av
  rw [← hV]
  have hVl : V.length = 256 := by rw [hV, iv_len, List.length_replicate]
  have HVV := Lib.hid hV
  clear hv hl ho hm hw1 hb1 hX hn hV
  go_enter Try.func34, Try.ntmps34
  go_wp2_with fail
  rw [← HW1.out]
  refine HS.out.mono ?_
  rintro e w2 ⟨rfl, hb2⟩
  have HB2 := Lib.hid (below_of HB1.out hb2)
  have HX2 := Lib.hid (HX.out.later hb2)
  obtain ⟨g, hg⟩ : ∃ g, g = w.heap.size := ⟨_, rfl⟩
  rw [← hg] at HX2 ⊢
  obtain ⟨w3, hw3⟩ : ∃ w3, w3 = w2.setRow g V.toArray := ⟨_, rfl⟩
  have hst : (storeCells ⟨g, 0, none⟩ V).run Try.prog w2 = .ok () w3 ∧ BlkAt 86 g V w3 := by
    have h1 := HX2.out
    rw [HVV.out] at h1
    have h2 := ab_store (T := List.replicate 256 0) h1 List.length_replicate List.length_replicate
    unfold AB at h2
    rw [← HVV.out, ← hw3] at h2
    exact h2
  have HR3 := Lib.hid hst.2
  have HB3 : Hid (Below w.heap.size w w3) := by
    show Below _ _ _
    rw [hw3]
    exact below_row HB2.out (by omega) _
  have hs3 := hst.1
  clear hb2 hg hst hw3
  have hld : (loadVar 86 ⟨g, 0, none⟩).run Try.prog w3 = .ok (.agg V.toArray) w3 := by
    have h1 := HR3.out
    rw [HVV.out] at h1
    have h2 := ab_load h1 List.length_replicate
    unfold av at h2
    rw [← HVV.out] at h2
    exact h2
  go_wp2_with fail
  refine ⟨rfl, .tuple #[.agg V.toArray, .int .i64 2], results_ct6 rfl rfl hld rfl, rfl, HB3.out⟩
set_option maxHeartbeats 8000000 in
set_option maxRecDepth 100000 in
theorem buckYes {w : World} {v : Value} {l : List WyN} (hv : Nxs w v l) (ho : ∀ n ∈ l, NxOk n) (hm : mayP l) :
    Calls Try.prog 34 #[v] w fun e w' => e = .returned (.tuple #[av (tab l), .int .i64 0]) ∧ Below w.heap.size w w' := by
  obtain ⟨hn1, hn8⟩ := mayP_len hm
  obtain ⟨Z, hZ⟩ : ∃ Z, Z = iv (List.replicate 256 0) := ⟨_, rfl⟩
  have hz := zero_iv
  rw [← hZ] at hz
  obtain ⟨w1, hw1⟩ : ∃ w1, w1 = w.alloc (.cells Z.toArray 86) := ⟨_, rfl⟩
  have hb1 : Below w.heap.size w w1 := by rw [hw1]; exact ba1 _ _
  have hX : AB w.heap.size (List.replicate 256 0) w1 := by rw [hw1, hZ]; exact BlkAt.new w _
  have HS := Lib.hid (sharesYes (hv.later hb1) ho hm)
  have HB1 := Lib.hid hb1
  have HX := Lib.hid hX
  have HW1 := Lib.hid hw1
  have HV := Lib.hid hv
  obtain ⟨a, c, rfl⟩ := hv.form
  obtain ⟨n, hn⟩ : ∃ n, n = l.length := ⟨_, rfl⟩
  obtain ⟨S, hS⟩ : ∃ S, S = shares (ws l) := ⟨_, rfl⟩
  rw [← hn] at HV HS hn1 hn8 ⊢
  rw [← hS] at HS
  have hT := tab_len hm
  obtain ⟨T, hTT⟩ : ∃ T, T = tab l := ⟨_, rfl⟩
  have HT : Hid (T = pre l S n ∧ T.length = 256 ∧ S.length = n) := ⟨by rw [hTT, hS, hn]; rfl, by rw [hTT]; exact hT, by rw [hS, hn, shares_len, ws_len]⟩
  have HRM : Hid (∀ i k, i < n → k ≤ S.getD i 0 → (pre l S i).length + k ≤ 256) := by
    have : ∀ i k, i < n → k ≤ S.getD i 0 → (pre l S i).length + k ≤ 256 := fun i k hi hk => by rw [hS] at hk ⊢; exact pre_room hm (by omega) hk
    exact this
  rw [← hTT]
  have HNN := Lib.hid hn
  have HZZ := Lib.hid hZ
  clear hv ho hm hw1 hb1 hX hn hZ hT hTT hS
  go_enter Try.func34, Try.ntmps34
  go_wp2_with fail
  rw [← HW1.out]
  refine HS.out.mono ?_
  rintro e w2 ⟨g2, rfl, hg2, hI2, hb2⟩
  obtain ⟨g, hg⟩ : ∃ g, g = w.heap.size := ⟨_, rfl⟩
  have H2 : Hid (Below w.heap.size w w2 ∧ AB g (List.replicate 256 0) w2 ∧ IB g2 (zil S) w2 ∧ g ≠ g2 ∧ w.heap.size ≤ g ∧ w.heap.size ≤ g2) := by
    have h1 := HB1.out.size
    have h2 := BlkAt.lt HX.out
    rw [hg]
    exact ⟨below_of HB1.out hb2, HX.out.later hb2, hI2, by omega, by omega, by omega⟩
  rw [← hg]
  obtain ⟨w3, hw3⟩ : ∃ w3, w3 = w2.alloc (.cells Z.toArray 86) := ⟨_, rfl⟩
  obtain ⟨gb, hgb⟩ : ∃ gb, gb = w2.heap.size := ⟨_, rfl⟩
  have hb3 : Below w2.heap.size w2 w3 := by rw [hw3]; exact ba1 _ _
  have H3 : Hid (AB gb (fill []) w3 ∧ AB g (List.replicate 256 0) w3 ∧ IB g2 (zil S) w3 ∧ Below w.heap.size w w3) := by
    obtain ⟨p1, p2, p3, _⟩ := H2.out
    refine ⟨?_, p2.later hb3, p3.later hb3, below_of p1 hb3⟩
    show BlkAt _ _ (iv (List.replicate 256 0)) _
    rw [hgb, hw3, HZZ.out]
    exact BlkAt.new w2 _
  have HN3 : Hid (gb ≠ g ∧ gb ≠ g2 ∧ g ≠ g2 ∧ w.heap.size ≤ gb ∧ w.heap.size ≤ g ∧ w.heap.size ≤ g2) := by
    obtain ⟨p1, p2, p3, p4, p5, p6⟩ := H2.out
    have q1 := BlkAt.lt p2
    have q2 := BlkAt.lt p3
    have q3 := p1.size
    exact ⟨by omega, by omega, by omega, by omega, by omega, by omega⟩
  have HW3 := Lib.hid hw3
  have HGB := Lib.hid hgb
  clear hb2 hg hI2 hg2 HX HB1 HW1 HS hb3 hw3 hgb H2
  go_wp2_with fail
  rw [← HW3.out, ← HGB.out]
  clear HW3 HGB
  go_loopw [7, 21] (fun y x wr => ∃ i : Nat, i ≤ n ∧ y = .int .i64 ((pre l S i).length : Nat) ∧ x = .int .i64 i ∧ Hid (AB gb (fill (pre l S i)) wr ∧ AB g (List.replicate 256 0) wr ∧ IB g2 (zil S) wr) ∧ Hid (Below w.heap.size w wr)) (fun _ x _ => n - (intOf x).toNat)
  case atStart => exact ⟨0, Nat.zero_le _, rfl, rfl, ⟨H3.out.1, H3.out.2.1, H3.out.2.2.1⟩, H3.out.2.2.2⟩
  case round =>
    obtain ⟨i, hi, rfl, rfl, HI, HB⟩ := hrel
    rcases Nat.lt_or_ge i n with hlt | hge
    · have g1 : (i : Int) < n := by omega
      obtain ⟨x, hx⟩ : ∃ x, l[i]? = some x := ⟨l[i]'(by have := HNN.out; omega), List.getElem?_eq_getElem _⟩
      obtain ⟨bb, oo, ha, _, hcell⟩ := (HV.out.later HB.out).at hx
      have c0 := hcell 0 _ rfl
      have c1 := hcell 1 _ rfl
      simp only [Nat.add_zero] at c0
      subst ha
      have hps := pre_succ l S i
      rw [wyAt_get hx] at hps
      obtain ⟨xp, xd⟩ := x
      simp only [nxc] at c0 c1
      have hrm := fun k hk => HRM.out i k hlt hk
      obtain ⟨P, hP⟩ : ∃ P, P = pre l S i := ⟨_, rfl⟩
      rw [← hP] at hps hrm HI ⊢
      have hcs := zil_at (rs := S) (j := i) (by rw [HT.out.2.2]; exact hlt)
      obtain ⟨m, hm⟩ : ∃ m, m = S.getD i 0 := ⟨_, rfl⟩
      rw [← hm] at hps hrm hcs
      have HPS := Lib.hid hps
      have HRR := Lib.hid hrm
      have hm256 := hrm m (Nat.le_refl _)
      obtain ⟨wA, hwA⟩ : ∃ wA, wA = wr.alloc (.cells #[.int .i64 xp, .int .i64 xd] 76) := ⟨_, rfl⟩
      have hbA : Below wr.heap.size wr wA := by rw [hwA]; exact ba1 _ _
      have HBA := Lib.hid (below_of HB.out hbA)
      obtain ⟨gn, hgn⟩ : ∃ gn, gn = wr.heap.size := ⟨_, rfl⟩
      have HIA : Hid (AB gb (fill P) wA ∧ AB g (List.replicate 256 0) wA ∧ IB g2 (zil S) wA ∧ BlkAt 76 gn [.int .i64 xp, .int .i64 xd] wA) := by
        refine ⟨HI.out.1.later hbA, HI.out.2.1.later hbA, HI.out.2.2.later hbA, ?_⟩
        rw [hgn, hwA]; exact BlkAt.new wr _
      have HGN : Hid (gn ≠ gb ∧ w.heap.size ≤ gn) := by
        have q1 := BlkAt.lt HI.out.1
        have q2 := HB.out.size
        exact ⟨by omega, by omega⟩
      have c2 : wA.cell? ⟨g2, i, none⟩ = some (.int .i64 (m : Nat)) := HIA.out.2.2.1.cell (iv_at2 hcs)
      rw [hwA] at c2
      have HWA := Lib.hid hwA
      have HGNN := Lib.hid hgn
      have g3 : (m : Int) ≤ 256 := by omega
      have HPP := Lib.hid hP
      clear hcell hx hps hrm hP hcs hm hwA hbA hgn hm256
      go_wp2_with fail
      rw [← HWA.out, ← HGNN.out]
      clear HWA HGNN c0 c1 c2
      go_loopw [7, 30] (fun y x wr => ∃ k : Nat, k ≤ m ∧ y = .int .i64 (((P.length + k : Nat)) : Int) ∧ x = .int .i64 k ∧ Hid (AB gb (fill (P ++ List.replicate k xp)) wr ∧ AB g (List.replicate 256 0) wr ∧ IB g2 (zil S) wr ∧ BlkAt 76 gn [.int .i64 xp, .int .i64 xd] wr) ∧ Hid (Below w.heap.size w wr)) (fun _ x _ => m - (intOf x).toNat)
      case atStart =>
        refine ⟨0, Nat.zero_le _, by rw [Nat.add_zero], rfl, ?_, HBA.out⟩
        rw [show P ++ List.replicate 0 xp = P from List.append_nil P]
        exact HIA.out
      case round =>
        obtain ⟨k, hk, rfl, rfl, HIK, HBK⟩ := hrel
        rcases Nat.lt_or_ge k m with hlk | hgk
        · have g4 : (k : Int) < m := by omega
          have hr := HRR.out (k + 1) hlk
          have g5 : ((P.length + k : Nat) : Int) < 256 := by omega
          have hf := fill_snoc (A := P ++ List.replicate k xp) (by rw [List.length_append, List.length_replicate]; omega) xp
          rw [List.length_append, List.length_replicate, List.append_assoc, ← rep_succ] at hf
          obtain ⟨q, hq⟩ : ∃ q, q = P.length + k := ⟨_, rfl⟩
          rw [← hq] at hf g5 ⊢
          have HFQ : Hid ((fill (P ++ List.replicate k xp)).set q xp = fill (P ++ List.replicate (k + 1) xp) ∧ q = P.length + k) := ⟨hf, hq⟩
          have cn : wr.cell? ⟨gn, 0, none⟩ = some (.int .i64 xp) := HIK.out.2.2.2.cell rfl
          have hst : ∀ f : List Int, f.length = 256 → True := fun _ _ => trivial
          have cq : ∃ z, wr.cell? ⟨gb, q, none⟩ = some z ∧ wr.frozen? ⟨gb, q, none⟩ = false := by
            have hl : (fill (P ++ List.replicate k xp)).length = 256 := fill_len (by rw [List.length_append, List.length_replicate]; omega)
            exact ⟨_, HIK.out.1.cell (iv_at2 (List.getElem?_eq_getElem (by rw [hl]; omega))), HIK.out.1.frozen q⟩
          obtain ⟨z, cq, fq⟩ := cq
          clear hr hf hq hst
          go_wp2_with fail
          go_roundw
          case rel =>
            refine ⟨k + 1, hlk, by rw [HFQ.out.2]; go_num, by go_num, ?_, ?_⟩
            · have h1 := ab_set HIK.out.1 q xp
              rw [HFQ.out.1] at h1
              exact ⟨h1, BlkAt.other HIK.out.2.1 (fun e => HN3.out.1 e.symm) _ _, BlkAt.other HIK.out.2.2.1 (fun e => HN3.out.2.1 e.symm) _ _, BlkAt.other HIK.out.2.2.2 HGN.out.1 _ _⟩
            · exact Below.setCell HBK.out HN3.out.2.2.2.1 _
          case measure => simp [intOf]; omega
        · obtain rfl : k = m := by omega
          clear hlt
          have hlt : (i : Int) < n := g1
          have e1 : Hid ((((P.length + k : Nat)) : Int) = ((pre l S (i + 1)).length : Nat)) := by
            show _ = _
            rw [HPS.out, List.length_append, List.length_replicate]
          rw [e1.out]
          go_wp2_with fail
          go_roundw
          case rel =>
            refine ⟨i + 1, by omega, rfl, by go_num, ?_, HBK.out⟩
            have h1 := HIK.out
            rw [← HPS.out] at h1
            exact ⟨h1.1, h1.2.1, h1.2.2.1⟩
          case measure => simp [intOf]; omega
    · obtain rfl : i = n := by omega
      have HTP := Lib.hid HT.out.1
      have HI2 := HI
      rw [← HTP.out, fill_full HT.out.2.1] at HI2
      have hld := ab_load HI2.out.1 HT.out.2.1
      have hst := ab_store (T := T) HI2.out.2.1 List.length_replicate HT.out.2.1
      obtain ⟨w4, hw4⟩ : ∃ w4, w4 = wr.setRow g (iv T).toArray := ⟨_, rfl⟩
      rw [← hw4] at hst
      have hs1 := hst.1
      have hld2 := ab_load hst.2 HT.out.2.1
      have HB4 : Hid (Below w.heap.size w w4) := by
        show Below _ _ _
        rw [hw4]
        exact below_row HB.out HN3.out.2.2.2.2.1 _
      have hTl : (iv T).length = 256 := by rw [iv_len]; exact HT.out.2.1
      unfold av at hld hld2
      obtain ⟨V, hV⟩ : ∃ V, V = iv T := ⟨_, rfl⟩
      rw [← hV] at hld hld2 hs1 hTl
      have HVV := Lib.hid hV
      clear hst hw4 hV
      go_wp2_with fail
      refine wp_ld 86 (.tmp 6) ⟨gb, 0, none⟩ (.agg V.toArray) rfl rfl hld ?_
      go_wp2_with fail
      refine ⟨rfl, .tuple #[.agg V.toArray, .int .i64 0], results_ct6 rfl rfl hld2 rfl, ?_, HB4.out⟩
      unfold av
      rw [← HVV.out]
end Go.Proofs.Ytdjhgahdiggahaa

namespace Go.Proofs.Ytdjhgahdiggahaa
open Go.RowKit
attribute [local go_sem ↓] Go.wp_at_zero Go.wp_at_succ
open Sp

set_option maxRecDepth 100000 in
theorem results_c16 {fn : Func} {p : Tmp} {ty : TypeId} (h : fn.results = #[.cell p ty]) {tmps : Array Value} {P : Program} {w : World} {g : Nat} {v : Value}
    (hp : tmps.getD p undef = .pointer (some ⟨g, 0, none⟩)) (hg : (loadVar ty ⟨g, 0, none⟩).run P w = .ok v w) : (results fn tmps).run P w = .ok v w := by
  have hp' : tmps[p]?.getD undef = .pointer (some ⟨g, 0, none⟩) := by simpa using hp
  simp [results, h, hp', asAddr, hg, Result.andThen]
set_option maxHeartbeats 8000000 in
set_option maxRecDepth 100000 in
theorem tableR {w : World} {v : Value} {l : List WyN} (hv : Nxs w v l) (hm : mayP l) :
    Calls Try.prog 40 #[v] w fun e w' => e = .returned (av (tab l)) ∧ Below w.heap.size w w' := by
  obtain ⟨hn1, hn8⟩ := mayP_len hm
  obtain ⟨Z, hZ⟩ : ∃ Z, Z = iv (List.replicate 256 0) := ⟨_, rfl⟩
  have hz := zero_iv
  rw [← hZ] at hz
  obtain ⟨w1, hw1⟩ : ∃ w1, w1 = w.alloc (.cells Z.toArray 86) := ⟨_, rfl⟩
  have hb1 : Below w.heap.size w w1 := by rw [hw1]; exact ba1 _ _
  have hX : AB w.heap.size (List.replicate 256 0) w1 := by rw [hw1, hZ]; exact BlkAt.new w _
  obtain ⟨w2, hw2⟩ : ∃ w2, w2 = w1.alloc (.cells Z.toArray 86) := ⟨_, rfl⟩
  have hb2 : Below w1.heap.size w1 w2 := by rw [hw2]; exact ba1 _ _
  have hX2 : AB w1.heap.size (List.replicate 256 0) w2 := by rw [hw2, hZ]; exact BlkAt.new w1 _
  have hb12 := below_of hb1 hb2
  have HS := Lib.hid (sharesR (hv.later hb12) hm)
  obtain ⟨g, hg⟩ : ∃ g, g = w.heap.size := ⟨_, rfl⟩
  obtain ⟨gb, hgb⟩ : ∃ g, g = w1.heap.size := ⟨_, rfl⟩
  have H2 : Hid (AB gb (fill []) w2 ∧ AB g (List.replicate 256 0) w2 ∧ Below w.heap.size w w2 ∧ g < gb ∧ gb < w2.heap.size ∧ w.heap.size ≤ g) := by
    have q1 := BlkAt.lt hX
    have q2 := BlkAt.lt hX2
    rw [hg, hgb]
    exact ⟨hX2, hX.later hb2, hb12, q1, q2, Nat.le_refl _⟩
  have HW1 := Lib.hid hw1
  have HW2 := Lib.hid hw2
  have HGG : Hid (g = w.heap.size ∧ g + 1 = gb) := ⟨hg, by rw [hgb, hg, hw1]; simp⟩
  have HV := Lib.hid hv
  obtain ⟨a, c, rfl⟩ := hv.form
  obtain ⟨n, hn⟩ : ∃ n, n = l.length := ⟨_, rfl⟩
  obtain ⟨S, hS⟩ : ∃ S, S = shares (ws l) := ⟨_, rfl⟩
  rw [← hn] at HV HS hn1 hn8 ⊢
  rw [← hS] at HS
  have hT := tab_len hm
  obtain ⟨T, hTT⟩ : ∃ T, T = tab l := ⟨_, rfl⟩
  have HT : Hid (T = pre l S n ∧ T.length = 256 ∧ S.length = n) := ⟨by rw [hTT, hS, hn]; rfl, by rw [hTT]; exact hT, by rw [hS, hn, shares_len, ws_len]⟩
  have HRM : Hid (∀ i k, i < n → k ≤ S.getD i 0 → (pre l S i).length + k ≤ 256) := by
    have : ∀ i k, i < n → k ≤ S.getD i 0 → (pre l S i).length + k ≤ 256 := fun i k hi hk => by rw [hS] at hk ⊢; exact pre_room hm (by omega) hk
    exact this
  rw [← hTT]
  have HNN := Lib.hid hn
  have HZZ := Lib.hid hZ
  clear hv hm hw1 hw2 hb1 hb2 hb12 hX hX2 hn hZ hT hTT hS hg hgb
  go_enter Try.func40, Try.ntmps40
  go_wp2_with fail
  rw [← HW1.out, ← HW2.out, ← HGG.out.1, HGG.out.2]
  clear HW1 HW2 HGG
  refine HS.out.mono ?_
  rintro e w3 ⟨g2, rfl, hg2, hI2, hb3⟩
  have H3 : Hid (AB gb (fill []) w3 ∧ AB g (List.replicate 256 0) w3 ∧ IB g2 (zil S) w3 ∧ Below w.heap.size w w3) :=
    ⟨H2.out.1.later hb3, H2.out.2.1.later hb3, hI2, below_of H2.out.2.2.1 hb3⟩
  have HN3 : Hid (gb ≠ g ∧ gb ≠ g2 ∧ g ≠ g2 ∧ w.heap.size ≤ gb ∧ w.heap.size ≤ g ∧ w.heap.size ≤ g2) := by
    obtain ⟨_, _, _, p4, p5, p6⟩ := H2.out
    exact ⟨by omega, by omega, by omega, by omega, by omega, by omega⟩
  clear hb3 hI2 hg2 H2 HS
  go_wp2_with fail
  go_loopw [5, 6] (fun y x wr => ∃ i : Nat, i ≤ n ∧ y = .int .i64 ((pre l S i).length : Nat) ∧ x = .int .i64 i ∧ Hid (AB gb (fill (pre l S i)) wr ∧ AB g (List.replicate 256 0) wr ∧ IB g2 (zil S) wr) ∧ Hid (Below w.heap.size w wr)) (fun _ x _ => n - (intOf x).toNat)
  case atStart => exact ⟨0, Nat.zero_le _, rfl, rfl, ⟨H3.out.1, H3.out.2.1, H3.out.2.2.1⟩, H3.out.2.2.2⟩
  case round =>
    obtain ⟨i, hi, rfl, rfl, HI, HB⟩ := hrel
    rcases Nat.lt_or_ge i n with hlt | hge
    · have g1 : (i : Int) < n := by omega
      obtain ⟨x, hx⟩ : ∃ x, l[i]? = some x := ⟨l[i]'(by have := HNN.out; omega), List.getElem?_eq_getElem _⟩
      have hps := pre_succ l S i
      rw [wyAt_get hx] at hps
      have HX := Lib.hid hx
      obtain ⟨xp, xd⟩ := x
      have hrm := fun k hk => HRM.out i k hlt hk
      obtain ⟨P, hP⟩ : ∃ P, P = pre l S i := ⟨_, rfl⟩
      rw [← hP] at hps hrm HI ⊢
      have hcs := zil_at (rs := S) (j := i) (by rw [HT.out.2.2]; exact hlt)
      obtain ⟨m, hm⟩ : ∃ m, m = S.getD i 0 := ⟨_, rfl⟩
      rw [← hm] at hps hrm hcs
      have HPS := Lib.hid hps
      have HRR := Lib.hid hrm
      have HCS := Lib.hid hcs
      have hm256 := hrm m (Nat.le_refl _)
      have g3 : (m : Int) ≤ 256 := by omega
      have HPP := Lib.hid hP
      have HBW : Hid (∀ W, Below w.heap.size w W → ∃ (b o : Nat), a = some ⟨b, o, none⟩ ∧ W.cell? ⟨b, o + i * 2, none⟩ = some (.int .i64 xp)) := by
        have : ∀ W, Below w.heap.size w W → ∃ (b o : Nat), a = some ⟨b, o, none⟩ ∧ W.cell? ⟨b, o + i * 2, none⟩ = some (.int .i64 xp) := fun W hW => by
          obtain ⟨bb, oo, ha, _, hcell⟩ := (HV.out.later hW).at HX.out
          have c0 := hcell 0 _ rfl
          simp only [Nat.add_zero] at c0
          exact ⟨bb, oo, ha, c0⟩
        exact this
      clear hx hps hrm hP hcs hm hm256
      go_wp2_with fail
      go_loopw [5, 7] (fun y x wr => ∃ k : Nat, k ≤ m ∧ y = .int .i64 (((P.length + k : Nat)) : Int) ∧ x = .int .i64 k ∧ Hid (AB gb (fill (P ++ List.replicate k xp)) wr ∧ AB g (List.replicate 256 0) wr ∧ IB g2 (zil S) wr) ∧ Hid (Below w.heap.size w wr)) (fun _ x _ => m - (intOf x).toNat)
      case atStart =>
        refine ⟨0, Nat.zero_le _, by rw [Nat.add_zero], rfl, ?_, HB.out⟩
        rw [show P ++ List.replicate 0 xp = P from List.append_nil P]
        exact HI.out
      case round =>
        obtain ⟨k, hk, rfl, rfl, HIK, HBK⟩ := hrel
        have c2 : wr.cell? ⟨g2, i, none⟩ = some (.int .i64 (m : Nat)) := HIK.out.2.2.cell (iv_at2 HCS.out)
        rcases Nat.lt_or_ge k m with hlk | hgk
        · have g4 : (k : Int) < m := by omega
          have hr := HRR.out (k + 1) hlk
          have g5 : ((P.length + k : Nat) : Int) < 256 := by omega
          have hf := fill_snoc (A := P ++ List.replicate k xp) (by rw [List.length_append, List.length_replicate]; omega) xp
          rw [List.length_append, List.length_replicate, List.append_assoc, ← rep_succ] at hf
          obtain ⟨q, hq⟩ : ∃ q, q = P.length + k := ⟨_, rfl⟩
          rw [← hq] at hf g5 ⊢
          have HFQ : Hid ((fill (P ++ List.replicate k xp)).set q xp = fill (P ++ List.replicate (k + 1) xp) ∧ q = P.length + k) := ⟨hf, hq⟩
          obtain ⟨bb, oo, ha, c0⟩ := HBW.out _ HBK.out
          subst ha
          have cq : ∃ z, wr.cell? ⟨gb, q, none⟩ = some z ∧ wr.frozen? ⟨gb, q, none⟩ = false := by
            have hl : (fill (P ++ List.replicate k xp)).length = 256 := fill_len (by rw [List.length_append, List.length_replicate]; omega)
            exact ⟨_, HIK.out.1.cell (iv_at2 (List.getElem?_eq_getElem (by rw [hl]; omega))), HIK.out.1.frozen q⟩
          obtain ⟨z, cq, fq⟩ := cq
          clear hr hf hq
          go_wp2_with fail
          go_roundw
          case rel =>
            refine ⟨k + 1, hlk, by rw [HFQ.out.2]; go_num, by go_num, ?_, ?_⟩
            · have h1 := ab_set HIK.out.1 q xp
              rw [HFQ.out.1] at h1
              exact ⟨h1, BlkAt.other HIK.out.2.1 (fun e => HN3.out.1 e.symm) _ _, BlkAt.other HIK.out.2.2 (fun e => HN3.out.2.1 e.symm) _ _⟩
            · exact Below.setCell HBK.out HN3.out.2.2.2.1 _
          case measure => simp [intOf]; omega
        · obtain rfl : k = m := by omega
          have e1 : Hid ((((P.length + k : Nat)) : Int) = ((pre l S (i + 1)).length : Nat)) := by
            show _ = _
            rw [HPS.out, List.length_append, List.length_replicate]
          rw [e1.out]
          go_wp2_with fail
          go_roundw
          case rel =>
            refine ⟨i + 1, by omega, rfl, by go_num, ?_, HBK.out⟩
            have h1 := HIK.out
            rw [← HPS.out] at h1
            exact h1
          case measure => simp [intOf]; omega
    · obtain rfl : i = n := by omega
      have HTP := Lib.hid HT.out.1
      have HI2 := HI
      rw [← HTP.out, fill_full HT.out.2.1] at HI2
      have hld := ab_load HI2.out.1 HT.out.2.1
      have hst := ab_store (T := T) HI2.out.2.1 List.length_replicate HT.out.2.1
      obtain ⟨w4, hw4⟩ : ∃ w4, w4 = wr.setRow g (iv T).toArray := ⟨_, rfl⟩
      rw [← hw4] at hst
      have hs1 := hst.1
      have hld2 := ab_load hst.2 HT.out.2.1
      have HB4 : Hid (Below w.heap.size w w4) := by
        show Below _ _ _
        rw [hw4]
        exact below_row HB.out HN3.out.2.2.2.2.1 _
      have hTl : (iv T).length = 256 := by rw [iv_len]; exact HT.out.2.1
      unfold av at hld hld2
      obtain ⟨V, hV⟩ : ∃ V, V = iv T := ⟨_, rfl⟩
      rw [← hV] at hld hld2 hs1 hTl
      have HVV := Lib.hid hV
      clear hst hw4 hV
      go_wp2_with fail
      refine wp_ld 86 (.tmp 3) ⟨gb, 0, none⟩ (.agg V.toArray) rfl rfl hld ?_
      go_wp2_with fail
      refine ⟨rfl, .agg V.toArray, results_c16 rfl rfl hld2, ?_, HB4.out⟩
      unfold av
      rw [← HVV.out]
end Go.Proofs.Ytdjhgahdiggahaa
