/- What the law's rows ask: two lists that are the same, numbers of errors; the chapter's rows.
   Shares of ways: the program's walk. -/
import Derived.Test.YtdjhgahdiggahaaZ14

set_option linter.unusedSimpArgs false
set_option linter.unusedVariables false
namespace Go.Proofs.Ytdjhgahdiggahaa
open Go.RowKit
attribute [local go_sem ↓] Go.wp_at_zero Go.wp_at_succ
open Sp

set_option maxRecDepth 100000 in
theorem ib_at {g : Nat} {L : List Nat} {w : World} (h : IB g (zil L) w) {j : Nat} (hj : j < L.length) : w.cell? ⟨g, j, none⟩ = some (.int .i64 ((L.getD j 0 : Nat) : Int)) := h.cell (iv_at2 (zil_at hj))
set_option maxRecDepth 100000 in
theorem zil_set (L : List Nat) (j x : Nat) : (zil L).set j (x : Int) = zil (L.set j x) := by
  unfold zil
  rw [List.map_set]
set_option maxRecDepth 100000 in
theorem ib_set {g : Nat} {L : List Nat} {w : World} (h : IB g (zil L) w) (j x : Nat) : IB g (zil (L.set j x)) (w.setCell ⟨g, j, none⟩ (.int .i64 (x : Int))) := by
  have := IB.set h j (x : Int)
  rw [zil_set] at this
  exact this
set_option maxRecDepth 100000 in
theorem sharesNo {w : World} {v : Value} {l : List WyN} (hv : Nxs w v l) (hl : l.length ≤ 1000000) (ho : ∀ n ∈ l, NxOk n) (hm : ¬ mayP l) :
    Calls Try.prog 33 #[v] w fun e w' => e = .returned (.tuple #[.slice none 0 0, .int .i64 2]) ∧ Below w.heap.size w w' := by
  have HM := Lib.hid (mayW hv hl ho)
  rw [decide_eq_false hm] at HM
  obtain ⟨a, c, rfl⟩ := hv.form
  clear hv ho hm hl
  go_enter Try.func33, Try.ntmps33
  go_wp2_with fail
  refine HM.out.mono ?_
  rintro e w1 ⟨rfl, hb⟩
  have HB := Lib.hid hb
  clear hb
  go_wp2_with fail
  go_ret2
  exact ⟨rfl, HB.out⟩
set_option maxHeartbeats 8000000 in
theorem sharesYes {w : World} {v : Value} {l : List WyN} (hv : Nxs w v l) (ho : ∀ n ∈ l, NxOk n) (hm : mayP l) :
    Calls Try.prog 33 #[v] w fun e w' => ∃ g, e = .returned (.tuple #[.slice (some ⟨g, 0, none⟩) l.length l.length, .int .i64 0]) ∧ w.heap.size ≤ g ∧ IB g (zil (shares (ws l))) w' ∧ Below w.heap.size w w' := by
  obtain ⟨hn1, hn8⟩ := mayP_len hm
  have HM := Lib.hid (mayW hv (by omega) ho)
  rw [decide_eq_true hm] at HM
  have HV := Lib.hid hv
  obtain ⟨a, c, rfl⟩ := hv.form
  obtain ⟨n, hn⟩ : ∃ n, n = l.length := ⟨_, rfl⟩
  rw [← hn] at HV HM hn1 hn8 ⊢
  have HNN := Lib.hid hn
  obtain ⟨W, hW⟩ : ∃ W, W = ws l := ⟨_, rfl⟩
  have hWn : W.length = n := by rw [hW, ws_len, hn]
  have hWs : 0 < W.sum := by rw [hW]; exact ws_pos hm
  have hW8 : W.sum ≤ 8 * 65536 := by
    have := ws_sum_le l
    rw [← hW] at this
    exact Nat.le_trans this (Nat.mul_le_mul_right 65536 (by omega))
  have HW : Hid (W = ws l ∧ W.length = n ∧ 0 < W.sum ∧ W.sum ≤ 8 * 65536 ∧ 1 ≤ n ∧ n ≤ 8) := ⟨hW, hWn, hWs, hW8, hn1, hn8⟩
  have HWI : Hid (∀ i, i < n → W.getD i 0 = wt (wyAt l i).2) := by
    have : ∀ i, i < n → W.getD i 0 = wt (wyAt l i).2 := fun i hi => by rw [hW]; exact ws_at (by omega)
    exact this
  rw [← hW]
  have g0 : (n : Int) ≤ 8 := by omega
  clear hv ho hm hn hW hWn hWs hW8 hn1 hn8
  go_enter Try.func33, Try.ntmps33
  go_wp2_with fail
  refine HM.out.mono ?_
  rintro e w1 ⟨rfl, hb⟩
  have HB1 := Lib.hid hb
  clear hb HM
  go_wp2_with fail
  go_loopw [4, 20] (fun y x wr => ∃ i : Nat, i ≤ n ∧ y = .int .i64 (((W.take i).sum : Nat) : Int) ∧ x = .int .i64 i ∧ Hid (Below w.heap.size w wr)) (fun _ x _ => n - (intOf x).toNat)
  case atStart => exact ⟨0, Nat.zero_le _, rfl, rfl, HB1.out⟩
  case round =>
    obtain ⟨i, hi, rfl, rfl, HB⟩ := hrel
    rcases Nat.lt_or_ge i n with hlt | hge
    · have g1 : (i : Int) < n := by omega
      obtain ⟨x, hx⟩ : ∃ x, l[i]? = some x := ⟨l[i]'(by have := HNN.out; omega), List.getElem?_eq_getElem _⟩
      obtain ⟨bb, oo, ha, _, hcell⟩ := (HV.out.later HB.out).at hx
      have c0 := hcell 0 _ rfl
      have c1 := hcell 1 _ rfl
      simp only [Nat.add_zero] at c0
      subst ha
      have hwi := HWI.out i hlt
      rw [wyAt_get hx] at hwi
      obtain ⟨xp, xd⟩ := x
      simp only [nxc] at c0 c1
      have hs1 : (W.take (i + 1)).sum = (W.take i).sum + wt xd := by
        rw [sum_take W i (by have := HW.out.2.1; omega), hwi]
      have hs2 := take_sum_le W (i + 1)
      obtain ⟨s0, hs0⟩ : ∃ s, s = (W.take i).sum := ⟨_, rfl⟩
      rw [← hs0] at hs1 ⊢
      have hs3 : s0 + wt xd ≤ 8 * 65536 := by have := HW.out.2.2.2.1; omega
      have HWT := Lib.hid (weightL xp xd)
      obtain ⟨wx, hwx⟩ : ∃ wx, wx = wt xd := ⟨_, rfl⟩
      rw [← hwx] at HWT hs3 hs1
      have HS1 := Lib.hid hs1
      obtain ⟨wA, hwA⟩ : ∃ wA, wA = wr.alloc (.cells #[.int .i64 xp, .int .i64 xd] 76) := ⟨_, rfl⟩
      have hbA : Below wr.heap.size wr wA := by rw [hwA]; exact ba1 _ _
      have HBA := Lib.hid (HB.out.trans (hbA.mono HB.out.size))
      have HWA := Lib.hid hwA
      have g3 : (s0 : Int) + wx ≤ 524288 := by omega
      clear hcell hx hwi hs1 hs2 hs0 hs3 hwx hwA hbA
      go_wp2_with fail
      rw [← HWA.out]
      refine (HWT.out _).mono ?_
      rintro e w1 ⟨rfl, hb1⟩
      have HB1 := Lib.hid (below_of HBA.out hb1)
      clear hb1 c0 c1
      go_wp2_with fail
      go_roundw
      case rel => exact ⟨i + 1, by omega, by rw [HS1.out]; go_num, by go_num, HB1.out⟩
      case measure => simp [intOf]; omega
    · obtain rfl : i = n := by omega
      have HTK : Hid ((W.take i).sum = W.sum) := by
        have := HW.out.2.1
        show _ = _
        rw [List.take_of_length_le (by omega)]
      rw [HTK.out]
      obtain ⟨S, hS⟩ : ∃ S, S = W.sum := ⟨_, rfl⟩
      have HSS := Lib.hid hS
      rw [← hS]
      have g2 : (S : Int) ≤ 524288 := by have := HW.out.2.2.2.1; omega
      have g3 : 0 < (S : Int) := by have := HW.out.2.2.1; omega
      clear hS
      go_wp2_with fail
      (refine wp_region_held_drew (S := (fun w' => Below w.heap.size w w')) (by kernel_rfl) ?_ (fun hHeld => ?_); (focus ((try dsimp only); (exact HB.out.drew))))
      obtain ⟨wA, hwA⟩ : ∃ wA, wA = wr.drew := ⟨_, rfl⟩
      rw [← hwA] at hHeld ⊢
      obtain ⟨wM, hm1, hI1, hb1⟩ := make_ints i wA (by omega)
      obtain ⟨wN, hm2, hI2, hb2⟩ := make_ints i wM (by omega)
      have hbM := below_of hHeld hb1
      have hbN := below_of hbM hb2
      have H1 : Hid (IB wA.heap.size (List.replicate i 0) wN ∧ IB wM.heap.size (List.replicate i 0) wN ∧ wA.heap.size ≠ wM.heap.size ∧ w.heap.size ≤ wA.heap.size ∧ w.heap.size ≤ wM.heap.size ∧ Below w.heap.size w wN) :=
        ⟨hI1.later hb2, hI2, by have := BlkAt.lt hI1; omega, hHeld.size, hbM.size, hbN⟩
      have HBM := Lib.hid hbM
      have HBN := Lib.hid hbN
      clear hwA hI1 hI2 hb1 hb2 hbM hbN
      (refine wpAnyH_take (i := 0) (v := ?_) rfl (by kernel_rfl) (by kernel_rfl) (by kernel_rfl) (fun _ _ _ h => h) (Or.inl ⟨by rfl, ?_⟩) hHeld ?_; rotate_left; (focus (intro w hSw; (try dsimp only at hSw); go_simp; try with_reducible rfl)); (try simp only [Act.put, List.setIfInBounds_toArray, List.set_cons_zero, List.set_cons_succ, List.getElem_toArray, List.getElem_cons_zero])); (refine wpAnyH_take (i := 1) (v := ?_) rfl (by kernel_rfl) (by kernel_rfl) (by kernel_rfl) (fun _ _ _ h => h) (Or.inl ⟨by rfl, ?_⟩) hHeld ?_; rotate_left; (focus (intro w hSw; (try dsimp only at hSw); go_simp; try with_reducible rfl)); (try simp only [Act.put, List.setIfInBounds_toArray, List.set_cons_zero, List.set_cons_succ, List.getElem_toArray, List.getElem_cons_zero, List.getElem_cons_succ])); (refine wpAnyH_take (i := 3) (v := ?_) rfl (by kernel_rfl) (by kernel_rfl) (by kernel_rfl) (fun _ _ _ h => h) (Or.inl ⟨by rfl, ?_⟩) hHeld ?_; rotate_left; (focus (intro w hSw; (try dsimp only at hSw); go_simp; try with_reducible rfl)); (try simp only [Act.put, List.setIfInBounds_toArray, List.set_cons_zero, List.set_cons_succ, List.getElem_toArray, List.getElem_cons_zero, List.getElem_cons_succ])); (refine wpAnyH_take (i := 4) (v := ?_) rfl (by kernel_rfl) (by kernel_rfl) (by kernel_rfl) (fun _ _ _ h => h) (Or.inl ⟨by rfl, ?_⟩) hHeld ?_; rotate_left; (focus (intro w hSw; (try dsimp only at hSw); go_simp; try with_reducible rfl)); (try simp only [Act.put, List.setIfInBounds_toArray, List.set_cons_zero, List.set_cons_succ, List.getElem_toArray, List.getElem_cons_zero, List.getElem_cons_succ]))
      refine wpAnyH_ready (rs := [2, 5]) (by kernel_rfl) (by simp) ?_
      refine AllReadyH.cons rfl (fun K hK => ?_) (AllReadyH.cons rfl (fun K hK => ?_) AllReadyH.nil)
      · go_simp
        refine hK.out _ _ ?_ (fun hHeldN => ?_)
        (focus ((try dsimp only); exact HBM.out))
        clear hK K hHeld
        have hHeld := hHeldN
        clear hHeldN
        (try simp only [Act.put, List.setIfInBounds_toArray, List.set_cons_zero, List.set_cons_succ, List.getElem_toArray, List.getElem_cons_zero, List.getElem_cons_succ])
        (refine wpAnyH_take (i := 6) (v := ?_) rfl (by kernel_rfl) (by kernel_rfl) (by kernel_rfl) (fun _ _ _ h => h) (Or.inl ⟨by rfl, ?_⟩) hHeld ?_; rotate_left; (focus (intro w hSw; (try dsimp only at hSw); go_simp; try with_reducible rfl)); (try simp only [Act.put, List.setIfInBounds_toArray, List.set_cons_zero, List.set_cons_succ, List.getElem_toArray, List.getElem_cons_zero, List.getElem_cons_succ]))
        (refine wpAnyH_ready (rs := [5]) (by kernel_rfl) (by simp) ?_; refine AllReadyH.cons rfl (fun K hK => ?_) AllReadyH.nil; go_simp; skip; refine hK.out _ _ ?_ (fun hHeldN => ?_); (focus ((try dsimp only); (exact HBN.out))); clear hK K hHeld; have hHeld := hHeldN; clear hHeldN; (try simp only [Act.put, List.setIfInBounds_toArray, List.set_cons_zero, List.set_cons_succ, List.getElem_toArray, List.getElem_cons_zero, List.getElem_cons_succ]))
        (refine wpAnyH_take (i := 7) (v := ?_) rfl (by kernel_rfl) (by kernel_rfl) (by kernel_rfl) (fun _ _ _ h => h) (Or.inl ⟨by rfl, ?_⟩) hHeld ?_; rotate_left; (focus (intro w hSw; (try dsimp only at hSw); go_simp; try with_reducible rfl)); (try simp only [Act.put, List.setIfInBounds_toArray, List.set_cons_zero, List.set_cons_succ, List.getElem_toArray, List.getElem_cons_zero, List.getElem_cons_succ]))
        refine wpAnyH_done (by kernel_rfl) ?_ _
        clear hHeld hm1 hm2
        obtain ⟨g7, hg7⟩ : ∃ g, g = wA.heap.size := ⟨_, rfl⟩
        obtain ⟨g8, hg8⟩ : ∃ g, g = wM.heap.size := ⟨_, rfl⟩
        have H2 : Hid (IB g7 (List.replicate i 0) wN ∧ IB g8 (List.replicate i 0) wN ∧ g7 ≠ g8 ∧ w.heap.size ≤ g7 ∧ w.heap.size ≤ g8 ∧ Below w.heap.size w wN) := by
          obtain ⟨p1, p2, p3, p4, p5, p6⟩ := H1.out
          rw [hg7, hg8]
          exact ⟨p1, p2, p3, p4, p5, p6⟩
        rw [← hg7, ← hg8]
        clear hg7 hg8 H1 HBM HBN
        have HBS : Hid ((bseS W).length = i ∧ (rstS W).length = i ∧ (bseS W).sum ≤ 256 ∧ left W < i) := by
          obtain ⟨q1, q2⟩ := base_sum HW.out.2.2.1
          have q3 := HW.out.2.1
          exact ⟨by rw [base_len]; exact q3, by rw [rest_len]; exact q3, q1, by omega⟩
        go_wp2_with fail
        go_loopw [9, 37] (fun y x wr => ∃ k : Nat, k ≤ i ∧ y = .int .i64 (256 - ((((bseS W).take k).sum : Nat) : Int)) ∧ x = .int .i64 k ∧ Hid (IB g7 (zil (uptoS (bseS W) k)) wr ∧ IB g8 (zil (uptoS (rstS W) k)) wr) ∧ Hid (Below w.heap.size w wr)) (fun _ x _ => i - (intOf x).toNat)
        case atStart =>
          have e0 : zil (List.replicate i 0) = List.replicate i 0 := by simp [zil]
          refine ⟨0, Nat.zero_le _, rfl, rfl, ?_, H2.out.2.2.2.2.2⟩
          rw [upto_zero, upto_zero, HBS.out.1, HBS.out.2.1, e0]
          exact ⟨H2.out.1, H2.out.2.1⟩
        case round =>
          obtain ⟨k, hk, rfl, rfl, HI, HBR⟩ := hrel
          rcases Nat.lt_or_ge k i with hlt | hge2
          · have g1 : (k : Int) < i := by omega
            obtain ⟨x, hx⟩ : ∃ x, l[k]? = some x := ⟨l[k]'(by have := HNN.out; omega), List.getElem?_eq_getElem _⟩
            obtain ⟨bb, oo, ha, _, hcell⟩ := (HV.out.later HBR.out).at hx
            have c0 := hcell 0 _ rfl
            have c1 := hcell 1 _ rfl
            simp only [Nat.add_zero] at c0
            subst ha
            have hwi := HWI.out k hlt
            rw [wyAt_get hx] at hwi
            obtain ⟨xp, xd⟩ := x
            simp only [nxc] at c0 c1
            have hwk : k < W.length := by have := HW.out.2.1; omega
            have hb := base_at hwk
            have hr := rest_at hwk
            rw [hwi, ← HSS.out] at hb hr
            have hs1 := sum_take (bseS W) k (by rw [base_len]; exact hwk)
            have hs2 := take_sum_le (bseS W) (k + 1)
            have hs3 := HBS.out.2.2.1
            have hwl := wt_le xd
            obtain ⟨s0, hs0⟩ : ∃ s, s = ((bseS W).take k).sum := ⟨_, rfl⟩
            rw [← hs0] at hs1 ⊢
            obtain ⟨bk, hbk⟩ : ∃ b, b = (bseS W).getD k 0 := ⟨_, rfl⟩
            obtain ⟨rk', hrk⟩ : ∃ b, b = (rstS W).getD k 0 := ⟨_, rfl⟩
            rw [← hbk] at hs1 hb
            rw [← hrk] at hr
            have HWT := Lib.hid (weightL xp xd)
            obtain ⟨wx, hwx⟩ : ∃ wx, wx = wt xd := ⟨_, rfl⟩
            rw [← hwx] at HWT hb hr hwl
            have HS1 := Lib.hid hs1
            have HBK := Lib.hid hbk
            have HRK := Lib.hid hrk
            have HQ : Hid (¬ S = 0 ∧ IntKind.i64.wrap ((256 * (wx : Int)).tdiv (S : Int)) = (bk : Int) ∧ (256 * (wx : Int)).tmod (S : Int) = (rk' : Int)) := by
              have e1 : (256 * (wx : Int)) = ((256 * wx : Nat) : Int) := by omega
              refine ⟨by omega, ?_, ?_⟩
              · rw [e1, ← Int.ofNat_tdiv, ← hb]
                exact IntWalk.i64_in _ ⟨by omega, by omega⟩
              · rw [hr, e1]
                exact (Int.ofNat_tmod _ _).symm
            obtain ⟨wA', hwA⟩ : ∃ wA, wA = wr.alloc (.cells #[.int .i64 xp, .int .i64 xd] 76) := ⟨_, rfl⟩
            have hbA : Below wr.heap.size wr wA' := by rw [hwA]; exact ba1 _ _
            have HBA := Lib.hid (HBR.out.trans (hbA.mono HBR.out.size))
            have HIA : Hid (IB g7 (zil (uptoS (bseS W) k)) wA' ∧ IB g8 (zil (uptoS (rstS W) k)) wA') := ⟨HI.out.1.later hbA, HI.out.2.later hbA⟩
            have HXA : Hid (BlkAt 76 wr.heap.size [.int .i64 xp, .int .i64 xd] wA') := by
              show BlkAt _ _ _ _
              rw [hwA]; exact BlkAt.new wr _
            have HWA := Lib.hid hwA
            have g4 : (s0 : Int) + bk ≤ 256 := by omega
            have g5 : (wx : Int) ≤ 65536 := by omega
            clear hcell hx hwi hs1 hs2 hs3 hs0 hwx hwA hbA hb hr hbk hrk hwl hwk
            go_wp2_with fail
            rw [← HWA.out]
            refine (HWT.out _).mono ?_
            rintro e w1 ⟨rfl, hb1⟩
            have HB1 := Lib.hid (below_of HBA.out hb1)
            have HI1 : Hid (IB g7 (zil (uptoS (bseS W) k)) w1 ∧ IB g8 (zil (uptoS (rstS W) k)) w1) := ⟨HIA.out.1.later hb1, HIA.out.2.later hb1⟩
            clear hb1 c0 c1
            go_wp2_with fail
            (refine wp_region_held_drew (S := (fun w' => Chg [g7, g8] w1 w')) (by kernel_rfl) ?_ (fun hHeld => ?_); (focus ((try dsimp only); (exact Chg.of_below _ (Below.refl _ _).drew))))
            obtain ⟨wD, hwD⟩ : ∃ wD, wD = w1.drew := ⟨_, rfl⟩
            rw [← hwD] at hHeld ⊢
            have hID : IB g7 (zil (uptoS (bseS W) k)) wD ∧ IB g8 (zil (uptoS (rstS W) k)) wD := by
              rw [hwD]
              exact ⟨HI1.out.1.later (Below.refl _ _).drew, HI1.out.2.later (Below.refl _ _).drew⟩
            have d7 := ib_at hID.1 (j := k) (by rw [upto_len (by rw [HBS.out.1]; omega), HBS.out.1]; exact hlt)
            have d8 := ib_at hID.2 (j := k) (by rw [upto_len (by rw [HBS.out.2.1]; omega), HBS.out.2.1]; exact hlt)
            have f7 : ∀ j, wD.frozen? ⟨g7, j, none⟩ = false := fun j => BlkAt.frozen hID.1 j
            have HID := Lib.hid hID
            have HWD : Hid (Below w.heap.size w wD) := by
              show Below _ _ _
              rw [hwD]; exact HB1.out.drew
            clear hID hwD
            (refine wpAnyH_take (i := 0) (v := ?_) rfl (by kernel_rfl) (by kernel_rfl) (by kernel_rfl) (fun _ _ _ h => h) (Or.inl ⟨by rfl, ?_⟩) hHeld ?_; rotate_left; (focus (intro w hSw; (try dsimp only at hSw); go_simp; try with_reducible rfl)); (try simp only [Act.put, List.setIfInBounds_toArray, List.set_cons_zero, List.set_cons_succ, List.getElem_toArray, List.getElem_cons_zero])); (refine wpAnyH_take (i := 1) (v := ?_) rfl (by kernel_rfl) (by kernel_rfl) (by kernel_rfl) (fun _ _ _ h => h) (Or.inl ⟨by rfl, ?_⟩) hHeld ?_; rotate_left; (focus (intro w hSw; (try dsimp only at hSw); go_simp; try with_reducible rfl)); (try simp only [Act.put, List.setIfInBounds_toArray, List.set_cons_zero, List.set_cons_succ, List.getElem_toArray, List.getElem_cons_zero, List.getElem_cons_succ])); (refine wpAnyH_take (i := 2) (v := ?_) rfl (by kernel_rfl) (by kernel_rfl) (by kernel_rfl) (fun _ _ _ h => h) (Or.inl ⟨by rfl, ?_⟩) hHeld ?_; rotate_left; (focus (intro w hSw; (try dsimp only at hSw); go_simp; try with_reducible rfl)); (try simp only [Act.put, List.setIfInBounds_toArray, List.set_cons_zero, List.set_cons_succ, List.getElem_toArray, List.getElem_cons_zero, List.getElem_cons_succ])); (refine wpAnyH_take (i := 3) (v := ?_) rfl (by kernel_rfl) (by kernel_rfl) (by kernel_rfl) (fun _ _ _ h => h) (Or.inl ⟨by rfl, ?_⟩) hHeld ?_; rotate_left; (focus (intro w hSw; (try dsimp only at hSw); go_simp; try with_reducible rfl)); (try simp only [Act.put, List.setIfInBounds_toArray, List.set_cons_zero, List.set_cons_succ, List.getElem_toArray, List.getElem_cons_zero, List.getElem_cons_succ])); (refine wpAnyH_take (i := 4) (v := ?_) rfl (by kernel_rfl) (by kernel_rfl) (by kernel_rfl) (fun _ _ _ h => h) (Or.inl ⟨by rfl, ?_⟩) hHeld ?_; rotate_left; (focus (intro w hSw; (try dsimp only at hSw); go_simp; try with_reducible rfl)); (try simp only [Act.put, List.setIfInBounds_toArray, List.set_cons_zero, List.set_cons_succ, List.getElem_toArray, List.getElem_cons_zero, List.getElem_cons_succ])); (refine wpAnyH_take (i := 5) (v := ?_) rfl (by kernel_rfl) (by kernel_rfl) (by kernel_rfl) (fun _ _ _ h => h) (Or.inl ⟨by rfl, ?_⟩) hHeld ?_; rotate_left; (focus (intro w hSw; (try dsimp only at hSw); go_simp; try with_reducible rfl)); (try simp only [Act.put, List.setIfInBounds_toArray, List.set_cons_zero, List.set_cons_succ, List.getElem_toArray, List.getElem_cons_zero, List.getElem_cons_succ])); (refine wpAnyH_take (i := 7) (v := ?_) rfl (by kernel_rfl) (by kernel_rfl) (by kernel_rfl) (fun _ _ _ h => h) (Or.inl ⟨by rfl, ?_⟩) hHeld ?_; rotate_left; (focus (intro w hSw; (try dsimp only at hSw); go_simp; try with_reducible rfl)); (try simp only [Act.put, List.setIfInBounds_toArray, List.set_cons_zero, List.set_cons_succ, List.getElem_toArray, List.getElem_cons_zero, List.getElem_cons_succ])); (refine wpAnyH_take (i := 8) (v := ?_) rfl (by kernel_rfl) (by kernel_rfl) (by kernel_rfl) (fun _ _ _ h => h) (Or.inl ⟨by rfl, ?_⟩) hHeld ?_; rotate_left; (focus (intro w hSw; (try dsimp only at hSw); go_simp; try with_reducible rfl)); (try simp only [Act.put, List.setIfInBounds_toArray, List.set_cons_zero, List.set_cons_succ, List.getElem_toArray, List.getElem_cons_zero, List.getElem_cons_succ]))
            (refine wpAnyH_take (i := 6) (v := ?_) rfl (by kernel_rfl) (by kernel_rfl) (by kernel_rfl) (fun _ _ _ h => h) (Or.inl ⟨by rfl, ?_⟩) hHeld ?_; rotate_left; (focus (intro w hSw; (try dsimp only at hSw); go_simp; (have h0 := HQ.out.1; have h1 := HQ.out.2.1; go_simp; try with_reducible rfl))); (try simp only [Act.put, List.setIfInBounds_toArray, List.set_cons_zero, List.set_cons_succ, List.getElem_toArray, List.getElem_cons_zero, List.getElem_cons_succ]))
            (refine wpAnyH_take (i := 9) (v := ?_) rfl (by kernel_rfl) (by kernel_rfl) (by kernel_rfl) (fun _ _ _ h => h) (Or.inl ⟨by rfl, ?_⟩) hHeld ?_; rotate_left; (focus (intro w hSw; (try dsimp only at hSw); go_simp; (have h0 := HQ.out.1; have h1 := HQ.out.2.2; go_simp; try with_reducible rfl))); (try simp only [Act.put, List.setIfInBounds_toArray, List.set_cons_zero, List.set_cons_succ, List.getElem_toArray, List.getElem_cons_zero, List.getElem_cons_succ]))
            (refine wpAnyH_take (i := 10) (v := ?_) rfl (by kernel_rfl) (by kernel_rfl) (by kernel_rfl) (fun _ _ _ h => h) (Or.inl ⟨by rfl, ?_⟩) hHeld ?_; rotate_left; (focus (intro w hSw; (try dsimp only at hSw); go_simp; try with_reducible rfl)); (try simp only [Act.put, List.setIfInBounds_toArray, List.set_cons_zero, List.set_cons_succ, List.getElem_toArray, List.getElem_cons_zero, List.getElem_cons_succ]))
            (refine wpAnyH_ready (rs := [11]) (by kernel_rfl) (by simp) ?_; refine AllReadyH.cons rfl (fun K hK => ?_) AllReadyH.nil; go_simp; skip; refine hK.out _ _ ?_ (fun hHeldN => ?_); (focus ((try dsimp only); (exact Chg.set hHeld (by simp) _ _))); clear hK K hHeld; have hHeld := hHeldN; clear hHeldN; (try simp only [Act.put, List.setIfInBounds_toArray, List.set_cons_zero, List.set_cons_succ, List.getElem_toArray, List.getElem_cons_zero, List.getElem_cons_succ]))
            (refine wpAnyH_take (i := 12) (v := ?_) rfl (by kernel_rfl) (by kernel_rfl) (by kernel_rfl) (fun _ _ _ h => h) (Or.inl ⟨by rfl, ?_⟩) hHeld ?_; rotate_left; (focus (intro w hSw; (try dsimp only at hSw); go_simp; try with_reducible rfl)); (try simp only [Act.put, List.setIfInBounds_toArray, List.set_cons_zero, List.set_cons_succ, List.getElem_toArray, List.getElem_cons_zero, List.getElem_cons_succ]))
            have d9 : (wD.setCell ⟨g7, k, none⟩ (.int .i64 (bk : Int))).cell? ⟨g8, k, none⟩ = some (.int .i64 (((uptoS (rstS W) k).getD k 0 : Nat) : Int)) := ib_at (BlkAt.other HID.out.2 (fun e => H2.out.2.2.1 e.symm) _ _) (j := k) (by rw [upto_len (by rw [HBS.out.2.1]; omega), HBS.out.2.1]; exact hlt)
            have f9 : ∀ j, (wD.setCell ⟨g7, k, none⟩ (.int .i64 (bk : Int))).frozen? ⟨g8, j, none⟩ = false := fun j => BlkAt.frozen (BlkAt.other HID.out.2 (fun e => H2.out.2.2.1 e.symm) _ _) j
            (refine wpAnyH_ready (rs := [13]) (by kernel_rfl) (by simp) ?_; refine AllReadyH.cons rfl (fun K hK => ?_) AllReadyH.nil; go_simp; skip; refine hK.out _ _ ?_ (fun hHeldN => ?_); (focus ((try dsimp only); (exact Chg.set hHeld (by simp) _ _))); clear hK K hHeld; have hHeld := hHeldN; clear hHeldN; (try simp only [Act.put, List.setIfInBounds_toArray, List.set_cons_zero, List.set_cons_succ, List.getElem_toArray, List.getElem_cons_zero, List.getElem_cons_succ]))
            refine wpAnyH_done (by kernel_rfl) ?_ _
            obtain ⟨wE, hwE⟩ : ∃ wE, wE = (wD.setCell ⟨g7, k, none⟩ (.int .i64 (bk : Int))).setCell ⟨g8, k, none⟩ (.int .i64 (rk' : Int)) := ⟨_, rfl⟩
            rw [← hwE]
            have hI7 : IB g7 (zil (uptoS (bseS W) (k + 1))) wE := by
              rw [hwE]
              have h1 := ib_set HID.out.1 k bk
              have h2 := upto_set (B := bseS W) (k := k) (by rw [HBS.out.1]; exact hlt)
              rw [← HBK.out] at h2
              rw [h2] at h1
              exact BlkAt.other h1 H2.out.2.2.1 _ _
            have hI8 : IB g8 (zil (uptoS (rstS W) (k + 1))) wE := by
              rw [hwE]
              have h1 := ib_set (BlkAt.other HID.out.2 (fun e => H2.out.2.2.1 e.symm) k (.int .i64 (bk : Int))) k rk'
              have h2 := upto_set (B := rstS W) (k := k) (by rw [HBS.out.2.1]; exact hlt)
              rw [← HRK.out] at h2
              rw [h2] at h1
              exact h1
            have HBE : Hid (Below w.heap.size w wE) := by
              show Below _ _ _
              rw [hwE]
              exact (HWD.out.setCell H2.out.2.2.2.1 _).setCell H2.out.2.2.2.2.1 _
            have e7 : wE.cell? ⟨g7, k, none⟩ = some (.int .i64 (bk : Int)) := by
              have h1 := ib_at hI7 (j := k) (by rw [upto_len (by rw [HBS.out.1]; omega), HBS.out.1]; exact hlt)
              rw [h1, upto_get (Nat.lt_succ_self k) (by rw [HBS.out.1]; omega), ← HBK.out]
            have HIE : Hid (IB g7 (zil (uptoS (bseS W) (k + 1))) wE ∧ IB g8 (zil (uptoS (rstS W) (k + 1))) wE) := ⟨hI7, hI8⟩
            clear hwE hI7 hI8 d7 d8 d9 f7 f9 hHeld
            go_wp2_with fail
            go_roundw
            case rel => exact ⟨k + 1, by omega, by rw [HS1.out]; go_num, by go_num, HIE.out, HBE.out⟩
            case measure => simp [intOf]; omega
          · obtain rfl : k = i := by omega
            have hsum : ((bseS W).take k) = bseS W := List.take_of_length_le (by rw [HBS.out.1]; exact Nat.le_refl _)
            have hrl : k = (rstS W).length := HBS.out.2.1.symm
            have HI7 : Hid (IB g7 (zil (bseS W)) wr) := by
              have h1 := HI.out.1
              have h2 := upto_all (bseS W)
              rw [HBS.out.1] at h2
              rw [h2] at h1
              exact h1
            have HI8 : Hid (IB g8 (zil (rstS W)) wr) := by
              have h1 := HI.out.2
              have h2 := upto_all (rstS W)
              rw [HBS.out.2.1] at h2
              rw [h2] at h1
              exact h1
            have HGT := Lib.hid (greatestL (w := wr) hrl (by have := HW.out; omega) (by omega) HI8.out)
            obtain ⟨L, hL⟩ : ∃ L, L = left W := ⟨_, rfl⟩
            have hL2 : (256 : Int) - (((bseS W).sum : Nat) : Int) = (L : Int) := by
              rw [hL]
              have := HBS.out.2.2.1
              unfold left
              omega
            have hL3 : (L : Int) ≤ k := by
              have := HBS.out.2.2.2
              rw [hL]; omega
            have HLL := Lib.hid hL
            rw [hsum, hL2]
            clear hsum hrl hL hL2
            go_wp2_with fail
            refine HGT.out.mono ?_
            rintro e w3 ⟨g2', P, rfl, hp0, hp1, hp2, hp3, hp4⟩
            have hgl : g7 < wr.heap.size := BlkAt.lt HI7.out
            have HP : Hid (P.Perm (List.range k) ∧ P.Pairwise (fun i j => Sp.lt (rstS W) i j = true) ∧ P.Nodup ∧ P.length = k) := ⟨hp1, hp2, hp1.nodup_iff.2 List.nodup_range, by rw [hp1.length_eq, List.length_range]⟩
            have H3 : Hid (IB g7 (zil (bseS W)) w3 ∧ IB g2' (zil P) w3 ∧ g7 ≠ g2' ∧ Below w.heap.size w w3) := ⟨HI7.out.later hp4, hp3, by omega, below_of HBR.out hp4⟩
            clear hp0 hp1 hp2 hp3 hp4 hgl HGT
            go_wp2_with fail
            go_loopw [69] (fun x wr => ∃ j : Nat, j ≤ L ∧ x = .int .i64 j ∧ Hid (IB g7 (zil (given W P j)) wr) ∧ Hid (Chg [g7] w3 wr)) (fun x _ => L - (intOf x).toNat)
            case atStart =>
              refine ⟨0, Nat.zero_le _, rfl, ?_, Chg.refl _ _⟩
              rw [given_zero]
              exact H3.out.1
            case round =>
              obtain ⟨j, hj, rfl, HIJ, HCJ⟩ := hrel
              rcases Nat.lt_or_ge j L with hlt | hge3
              · have g4 : (j : Int) < L := by omega
                obtain ⟨p, hp⟩ : ∃ p, P[j]? = some p := ⟨P[j]'(by have := HP.out.2.2.2; omega), List.getElem?_eq_getElem _⟩
                have hpk : p < k := List.mem_range.1 (HP.out.1.mem_iff.1 (List.mem_of_getElem? hp))
                have hpW : p < W.length := by have := HW.out.2.1; omega
                have hI2 := HCJ.out.blk H3.out.2.1 (by simp; exact fun e => H3.out.2.2.1 e.symm)
                have c0 : wr.cell? ⟨g2', j, none⟩ = some (.int .i64 (p : Int)) := by
                  refine BlkAt.cell hI2 (iv_at2 ?_)
                  unfold zil
                  rw [List.getElem?_map, hp]
                  rfl
                have c1 := ib_at HIJ.out (j := p) (by rw [given_len]; exact hpW)
                have f1 : ∀ j, wr.frozen? ⟨g7, j, none⟩ = false := fun j => BlkAt.frozen HIJ.out j
                obtain ⟨gv, hgv⟩ : ∃ gv, gv = (given W P j).getD p 0 := ⟨_, rfl⟩
                rw [← hgv] at c1
                have hgb : gv ≤ 257 := by
                  rw [hgv, given_at hpW]
                  have h1 := sum_le (V := bseS W) (i := p) (by rw [base_len]; exact hpW)
                  have h2 := HBS.out.2.2.1
                  split <;> omega
                have g5 : (p : Int) < k := by omega
                have g6 : (gv : Int) ≤ 257 := by omega
                have HS : Hid ((given W P j).set p (gv + 1) = given W P (j + 1)) := by
                  show _ = _
                  rw [hgv]
                  exact given_set HP.out.2.2.1 hp hpW
                clear hp hpk hpW hI2 hgv hgb
                go_wp2_with fail
                go_roundw
                case rel =>
                  refine ⟨j + 1, by omega, by go_num, ?_, HCJ.out.set (by simp) _ _⟩
                  have h1 := ib_set HIJ.out p (gv + 1)
                  rw [HS.out] at h1
                  exact h1
                case measure => simp [intOf]; omega
              · obtain rfl : j = L := by omega
                go_wp2_with fail
                go_ret2
                have h1 := HIJ.out
                rw [HLL.out, given_all (by rw [HBS.out.2.1]; exact HP.out.1) HP.out.2.1] at h1
                exact ⟨g7, rfl, H2.out.2.2.2.1, h1, H3.out.2.2.2.trans (HCJ.out.below H3.out.2.2.2.size (fun b hb => by simp at hb; rw [hb]; exact H2.out.2.2.2.1))⟩
      · go_simp
        refine hK.out _ _ ?_ (fun hHeldN => ?_)
        (focus ((try dsimp only); exact HBM.out))
        clear hK K hHeld
        have hHeld := hHeldN
        clear hHeldN
        (try simp only [Act.put, List.setIfInBounds_toArray, List.set_cons_zero, List.set_cons_succ, List.getElem_toArray, List.getElem_cons_zero, List.getElem_cons_succ])
        (refine wpAnyH_ready (rs := [2]) (by kernel_rfl) (by simp) ?_; refine AllReadyH.cons rfl (fun K hK => ?_) AllReadyH.nil; go_simp; skip; refine hK.out _ _ ?_ (fun hHeldN => ?_); (focus ((try dsimp only); (exact HBN.out))); clear hK K hHeld; have hHeld := hHeldN; clear hHeldN; (try simp only [Act.put, List.setIfInBounds_toArray, List.set_cons_zero, List.set_cons_succ, List.getElem_toArray, List.getElem_cons_zero, List.getElem_cons_succ]))
        (refine wpAnyH_take (i := 6) (v := ?_) rfl (by kernel_rfl) (by kernel_rfl) (by kernel_rfl) (fun _ _ _ h => h) (Or.inl ⟨by rfl, ?_⟩) hHeld ?_; rotate_left; (focus (intro w hSw; (try dsimp only at hSw); go_simp; try with_reducible rfl)); (try simp only [Act.put, List.setIfInBounds_toArray, List.set_cons_zero, List.set_cons_succ, List.getElem_toArray, List.getElem_cons_zero, List.getElem_cons_succ])); (refine wpAnyH_take (i := 7) (v := ?_) rfl (by kernel_rfl) (by kernel_rfl) (by kernel_rfl) (fun _ _ _ h => h) (Or.inl ⟨by rfl, ?_⟩) hHeld ?_; rotate_left; (focus (intro w hSw; (try dsimp only at hSw); go_simp; try with_reducible rfl)); (try simp only [Act.put, List.setIfInBounds_toArray, List.set_cons_zero, List.set_cons_succ, List.getElem_toArray, List.getElem_cons_zero, List.getElem_cons_succ]))
        refine wpAnyH_done (by kernel_rfl) ?_ _
        clear hHeld hm1 hm2
        obtain ⟨g7, hg7⟩ : ∃ g, g = wM.heap.size := ⟨_, rfl⟩
        obtain ⟨g8, hg8⟩ : ∃ g, g = wA.heap.size := ⟨_, rfl⟩
        have H2 : Hid (IB g7 (List.replicate i 0) wN ∧ IB g8 (List.replicate i 0) wN ∧ g7 ≠ g8 ∧ w.heap.size ≤ g7 ∧ w.heap.size ≤ g8 ∧ Below w.heap.size w wN) := by
          obtain ⟨p1, p2, p3, p4, p5, p6⟩ := H1.out
          rw [hg7, hg8]
          exact ⟨p2, p1, fun e => p3 e.symm, p5, p4, p6⟩
        rw [← hg7, ← hg8]
        clear hg7 hg8 H1 HBM HBN
        have HBS : Hid ((bseS W).length = i ∧ (rstS W).length = i ∧ (bseS W).sum ≤ 256 ∧ left W < i) := by
          obtain ⟨q1, q2⟩ := base_sum HW.out.2.2.1
          have q3 := HW.out.2.1
          exact ⟨by rw [base_len]; exact q3, by rw [rest_len]; exact q3, q1, by omega⟩
        go_wp2_with fail
        go_loopw [9, 37] (fun y x wr => ∃ k : Nat, k ≤ i ∧ y = .int .i64 (256 - ((((bseS W).take k).sum : Nat) : Int)) ∧ x = .int .i64 k ∧ Hid (IB g7 (zil (uptoS (bseS W) k)) wr ∧ IB g8 (zil (uptoS (rstS W) k)) wr) ∧ Hid (Below w.heap.size w wr)) (fun _ x _ => i - (intOf x).toNat)
        case atStart =>
          have e0 : zil (List.replicate i 0) = List.replicate i 0 := by simp [zil]
          refine ⟨0, Nat.zero_le _, rfl, rfl, ?_, H2.out.2.2.2.2.2⟩
          rw [upto_zero, upto_zero, HBS.out.1, HBS.out.2.1, e0]
          exact ⟨H2.out.1, H2.out.2.1⟩
        case round =>
          obtain ⟨k, hk, rfl, rfl, HI, HBR⟩ := hrel
          rcases Nat.lt_or_ge k i with hlt | hge2
          · have g1 : (k : Int) < i := by omega
            obtain ⟨x, hx⟩ : ∃ x, l[k]? = some x := ⟨l[k]'(by have := HNN.out; omega), List.getElem?_eq_getElem _⟩
            obtain ⟨bb, oo, ha, _, hcell⟩ := (HV.out.later HBR.out).at hx
            have c0 := hcell 0 _ rfl
            have c1 := hcell 1 _ rfl
            simp only [Nat.add_zero] at c0
            subst ha
            have hwi := HWI.out k hlt
            rw [wyAt_get hx] at hwi
            obtain ⟨xp, xd⟩ := x
            simp only [nxc] at c0 c1
            have hwk : k < W.length := by have := HW.out.2.1; omega
            have hb := base_at hwk
            have hr := rest_at hwk
            rw [hwi, ← HSS.out] at hb hr
            have hs1 := sum_take (bseS W) k (by rw [base_len]; exact hwk)
            have hs2 := take_sum_le (bseS W) (k + 1)
            have hs3 := HBS.out.2.2.1
            have hwl := wt_le xd
            obtain ⟨s0, hs0⟩ : ∃ s, s = ((bseS W).take k).sum := ⟨_, rfl⟩
            rw [← hs0] at hs1 ⊢
            obtain ⟨bk, hbk⟩ : ∃ b, b = (bseS W).getD k 0 := ⟨_, rfl⟩
            obtain ⟨rk', hrk⟩ : ∃ b, b = (rstS W).getD k 0 := ⟨_, rfl⟩
            rw [← hbk] at hs1 hb
            rw [← hrk] at hr
            have HWT := Lib.hid (weightL xp xd)
            obtain ⟨wx, hwx⟩ : ∃ wx, wx = wt xd := ⟨_, rfl⟩
            rw [← hwx] at HWT hb hr hwl
            have HS1 := Lib.hid hs1
            have HBK := Lib.hid hbk
            have HRK := Lib.hid hrk
            have HQ : Hid (¬ S = 0 ∧ IntKind.i64.wrap ((256 * (wx : Int)).tdiv (S : Int)) = (bk : Int) ∧ (256 * (wx : Int)).tmod (S : Int) = (rk' : Int)) := by
              have e1 : (256 * (wx : Int)) = ((256 * wx : Nat) : Int) := by omega
              refine ⟨by omega, ?_, ?_⟩
              · rw [e1, ← Int.ofNat_tdiv, ← hb]
                exact IntWalk.i64_in _ ⟨by omega, by omega⟩
              · rw [hr, e1]
                exact (Int.ofNat_tmod _ _).symm
            obtain ⟨wA', hwA⟩ : ∃ wA, wA = wr.alloc (.cells #[.int .i64 xp, .int .i64 xd] 76) := ⟨_, rfl⟩
            have hbA : Below wr.heap.size wr wA' := by rw [hwA]; exact ba1 _ _
            have HBA := Lib.hid (HBR.out.trans (hbA.mono HBR.out.size))
            have HIA : Hid (IB g7 (zil (uptoS (bseS W) k)) wA' ∧ IB g8 (zil (uptoS (rstS W) k)) wA') := ⟨HI.out.1.later hbA, HI.out.2.later hbA⟩
            have HXA : Hid (BlkAt 76 wr.heap.size [.int .i64 xp, .int .i64 xd] wA') := by
              show BlkAt _ _ _ _
              rw [hwA]; exact BlkAt.new wr _
            have HWA := Lib.hid hwA
            have g4 : (s0 : Int) + bk ≤ 256 := by omega
            have g5 : (wx : Int) ≤ 65536 := by omega
            clear hcell hx hwi hs1 hs2 hs3 hs0 hwx hwA hbA hb hr hbk hrk hwl hwk
            go_wp2_with fail
            rw [← HWA.out]
            refine (HWT.out _).mono ?_
            rintro e w1 ⟨rfl, hb1⟩
            have HB1 := Lib.hid (below_of HBA.out hb1)
            have HI1 : Hid (IB g7 (zil (uptoS (bseS W) k)) w1 ∧ IB g8 (zil (uptoS (rstS W) k)) w1) := ⟨HIA.out.1.later hb1, HIA.out.2.later hb1⟩
            clear hb1 c0 c1
            go_wp2_with fail
            (refine wp_region_held_drew (S := (fun w' => Chg [g7, g8] w1 w')) (by kernel_rfl) ?_ (fun hHeld => ?_); (focus ((try dsimp only); (exact Chg.of_below _ (Below.refl _ _).drew))))
            obtain ⟨wD, hwD⟩ : ∃ wD, wD = w1.drew := ⟨_, rfl⟩
            rw [← hwD] at hHeld ⊢
            have hID : IB g7 (zil (uptoS (bseS W) k)) wD ∧ IB g8 (zil (uptoS (rstS W) k)) wD := by
              rw [hwD]
              exact ⟨HI1.out.1.later (Below.refl _ _).drew, HI1.out.2.later (Below.refl _ _).drew⟩
            have d7 := ib_at hID.1 (j := k) (by rw [upto_len (by rw [HBS.out.1]; omega), HBS.out.1]; exact hlt)
            have d8 := ib_at hID.2 (j := k) (by rw [upto_len (by rw [HBS.out.2.1]; omega), HBS.out.2.1]; exact hlt)
            have f7 : ∀ j, wD.frozen? ⟨g7, j, none⟩ = false := fun j => BlkAt.frozen hID.1 j
            have HID := Lib.hid hID
            have HWD : Hid (Below w.heap.size w wD) := by
              show Below _ _ _
              rw [hwD]; exact HB1.out.drew
            clear hID hwD
            (refine wpAnyH_take (i := 0) (v := ?_) rfl (by kernel_rfl) (by kernel_rfl) (by kernel_rfl) (fun _ _ _ h => h) (Or.inl ⟨by rfl, ?_⟩) hHeld ?_; rotate_left; (focus (intro w hSw; (try dsimp only at hSw); go_simp; try with_reducible rfl)); (try simp only [Act.put, List.setIfInBounds_toArray, List.set_cons_zero, List.set_cons_succ, List.getElem_toArray, List.getElem_cons_zero])); (refine wpAnyH_take (i := 1) (v := ?_) rfl (by kernel_rfl) (by kernel_rfl) (by kernel_rfl) (fun _ _ _ h => h) (Or.inl ⟨by rfl, ?_⟩) hHeld ?_; rotate_left; (focus (intro w hSw; (try dsimp only at hSw); go_simp; try with_reducible rfl)); (try simp only [Act.put, List.setIfInBounds_toArray, List.set_cons_zero, List.set_cons_succ, List.getElem_toArray, List.getElem_cons_zero, List.getElem_cons_succ])); (refine wpAnyH_take (i := 2) (v := ?_) rfl (by kernel_rfl) (by kernel_rfl) (by kernel_rfl) (fun _ _ _ h => h) (Or.inl ⟨by rfl, ?_⟩) hHeld ?_; rotate_left; (focus (intro w hSw; (try dsimp only at hSw); go_simp; try with_reducible rfl)); (try simp only [Act.put, List.setIfInBounds_toArray, List.set_cons_zero, List.set_cons_succ, List.getElem_toArray, List.getElem_cons_zero, List.getElem_cons_succ])); (refine wpAnyH_take (i := 3) (v := ?_) rfl (by kernel_rfl) (by kernel_rfl) (by kernel_rfl) (fun _ _ _ h => h) (Or.inl ⟨by rfl, ?_⟩) hHeld ?_; rotate_left; (focus (intro w hSw; (try dsimp only at hSw); go_simp; try with_reducible rfl)); (try simp only [Act.put, List.setIfInBounds_toArray, List.set_cons_zero, List.set_cons_succ, List.getElem_toArray, List.getElem_cons_zero, List.getElem_cons_succ])); (refine wpAnyH_take (i := 4) (v := ?_) rfl (by kernel_rfl) (by kernel_rfl) (by kernel_rfl) (fun _ _ _ h => h) (Or.inl ⟨by rfl, ?_⟩) hHeld ?_; rotate_left; (focus (intro w hSw; (try dsimp only at hSw); go_simp; try with_reducible rfl)); (try simp only [Act.put, List.setIfInBounds_toArray, List.set_cons_zero, List.set_cons_succ, List.getElem_toArray, List.getElem_cons_zero, List.getElem_cons_succ])); (refine wpAnyH_take (i := 5) (v := ?_) rfl (by kernel_rfl) (by kernel_rfl) (by kernel_rfl) (fun _ _ _ h => h) (Or.inl ⟨by rfl, ?_⟩) hHeld ?_; rotate_left; (focus (intro w hSw; (try dsimp only at hSw); go_simp; try with_reducible rfl)); (try simp only [Act.put, List.setIfInBounds_toArray, List.set_cons_zero, List.set_cons_succ, List.getElem_toArray, List.getElem_cons_zero, List.getElem_cons_succ])); (refine wpAnyH_take (i := 7) (v := ?_) rfl (by kernel_rfl) (by kernel_rfl) (by kernel_rfl) (fun _ _ _ h => h) (Or.inl ⟨by rfl, ?_⟩) hHeld ?_; rotate_left; (focus (intro w hSw; (try dsimp only at hSw); go_simp; try with_reducible rfl)); (try simp only [Act.put, List.setIfInBounds_toArray, List.set_cons_zero, List.set_cons_succ, List.getElem_toArray, List.getElem_cons_zero, List.getElem_cons_succ])); (refine wpAnyH_take (i := 8) (v := ?_) rfl (by kernel_rfl) (by kernel_rfl) (by kernel_rfl) (fun _ _ _ h => h) (Or.inl ⟨by rfl, ?_⟩) hHeld ?_; rotate_left; (focus (intro w hSw; (try dsimp only at hSw); go_simp; try with_reducible rfl)); (try simp only [Act.put, List.setIfInBounds_toArray, List.set_cons_zero, List.set_cons_succ, List.getElem_toArray, List.getElem_cons_zero, List.getElem_cons_succ]))
            (refine wpAnyH_take (i := 6) (v := ?_) rfl (by kernel_rfl) (by kernel_rfl) (by kernel_rfl) (fun _ _ _ h => h) (Or.inl ⟨by rfl, ?_⟩) hHeld ?_; rotate_left; (focus (intro w hSw; (try dsimp only at hSw); go_simp; (have h0 := HQ.out.1; have h1 := HQ.out.2.1; go_simp; try with_reducible rfl))); (try simp only [Act.put, List.setIfInBounds_toArray, List.set_cons_zero, List.set_cons_succ, List.getElem_toArray, List.getElem_cons_zero, List.getElem_cons_succ]))
            (refine wpAnyH_take (i := 9) (v := ?_) rfl (by kernel_rfl) (by kernel_rfl) (by kernel_rfl) (fun _ _ _ h => h) (Or.inl ⟨by rfl, ?_⟩) hHeld ?_; rotate_left; (focus (intro w hSw; (try dsimp only at hSw); go_simp; (have h0 := HQ.out.1; have h1 := HQ.out.2.2; go_simp; try with_reducible rfl))); (try simp only [Act.put, List.setIfInBounds_toArray, List.set_cons_zero, List.set_cons_succ, List.getElem_toArray, List.getElem_cons_zero, List.getElem_cons_succ]))
            (refine wpAnyH_take (i := 10) (v := ?_) rfl (by kernel_rfl) (by kernel_rfl) (by kernel_rfl) (fun _ _ _ h => h) (Or.inl ⟨by rfl, ?_⟩) hHeld ?_; rotate_left; (focus (intro w hSw; (try dsimp only at hSw); go_simp; try with_reducible rfl)); (try simp only [Act.put, List.setIfInBounds_toArray, List.set_cons_zero, List.set_cons_succ, List.getElem_toArray, List.getElem_cons_zero, List.getElem_cons_succ]))
            (refine wpAnyH_ready (rs := [11]) (by kernel_rfl) (by simp) ?_; refine AllReadyH.cons rfl (fun K hK => ?_) AllReadyH.nil; go_simp; skip; refine hK.out _ _ ?_ (fun hHeldN => ?_); (focus ((try dsimp only); (exact Chg.set hHeld (by simp) _ _))); clear hK K hHeld; have hHeld := hHeldN; clear hHeldN; (try simp only [Act.put, List.setIfInBounds_toArray, List.set_cons_zero, List.set_cons_succ, List.getElem_toArray, List.getElem_cons_zero, List.getElem_cons_succ]))
            (refine wpAnyH_take (i := 12) (v := ?_) rfl (by kernel_rfl) (by kernel_rfl) (by kernel_rfl) (fun _ _ _ h => h) (Or.inl ⟨by rfl, ?_⟩) hHeld ?_; rotate_left; (focus (intro w hSw; (try dsimp only at hSw); go_simp; try with_reducible rfl)); (try simp only [Act.put, List.setIfInBounds_toArray, List.set_cons_zero, List.set_cons_succ, List.getElem_toArray, List.getElem_cons_zero, List.getElem_cons_succ]))
            have d9 : (wD.setCell ⟨g7, k, none⟩ (.int .i64 (bk : Int))).cell? ⟨g8, k, none⟩ = some (.int .i64 (((uptoS (rstS W) k).getD k 0 : Nat) : Int)) := ib_at (BlkAt.other HID.out.2 (fun e => H2.out.2.2.1 e.symm) _ _) (j := k) (by rw [upto_len (by rw [HBS.out.2.1]; omega), HBS.out.2.1]; exact hlt)
            have f9 : ∀ j, (wD.setCell ⟨g7, k, none⟩ (.int .i64 (bk : Int))).frozen? ⟨g8, j, none⟩ = false := fun j => BlkAt.frozen (BlkAt.other HID.out.2 (fun e => H2.out.2.2.1 e.symm) _ _) j
            (refine wpAnyH_ready (rs := [13]) (by kernel_rfl) (by simp) ?_; refine AllReadyH.cons rfl (fun K hK => ?_) AllReadyH.nil; go_simp; skip; refine hK.out _ _ ?_ (fun hHeldN => ?_); (focus ((try dsimp only); (exact Chg.set hHeld (by simp) _ _))); clear hK K hHeld; have hHeld := hHeldN; clear hHeldN; (try simp only [Act.put, List.setIfInBounds_toArray, List.set_cons_zero, List.set_cons_succ, List.getElem_toArray, List.getElem_cons_zero, List.getElem_cons_succ]))
            refine wpAnyH_done (by kernel_rfl) ?_ _
            obtain ⟨wE, hwE⟩ : ∃ wE, wE = (wD.setCell ⟨g7, k, none⟩ (.int .i64 (bk : Int))).setCell ⟨g8, k, none⟩ (.int .i64 (rk' : Int)) := ⟨_, rfl⟩
            rw [← hwE]
            have hI7 : IB g7 (zil (uptoS (bseS W) (k + 1))) wE := by
              rw [hwE]
              have h1 := ib_set HID.out.1 k bk
              have h2 := upto_set (B := bseS W) (k := k) (by rw [HBS.out.1]; exact hlt)
              rw [← HBK.out] at h2
              rw [h2] at h1
              exact BlkAt.other h1 H2.out.2.2.1 _ _
            have hI8 : IB g8 (zil (uptoS (rstS W) (k + 1))) wE := by
              rw [hwE]
              have h1 := ib_set (BlkAt.other HID.out.2 (fun e => H2.out.2.2.1 e.symm) k (.int .i64 (bk : Int))) k rk'
              have h2 := upto_set (B := rstS W) (k := k) (by rw [HBS.out.2.1]; exact hlt)
              rw [← HRK.out] at h2
              rw [h2] at h1
              exact h1
            have HBE : Hid (Below w.heap.size w wE) := by
              show Below _ _ _
              rw [hwE]
              exact (HWD.out.setCell H2.out.2.2.2.1 _).setCell H2.out.2.2.2.2.1 _
            have e7 : wE.cell? ⟨g7, k, none⟩ = some (.int .i64 (bk : Int)) := by
              have h1 := ib_at hI7 (j := k) (by rw [upto_len (by rw [HBS.out.1]; omega), HBS.out.1]; exact hlt)
              rw [h1, upto_get (Nat.lt_succ_self k) (by rw [HBS.out.1]; omega), ← HBK.out]
            have HIE : Hid (IB g7 (zil (uptoS (bseS W) (k + 1))) wE ∧ IB g8 (zil (uptoS (rstS W) (k + 1))) wE) := ⟨hI7, hI8⟩
            clear hwE hI7 hI8 d7 d8 d9 f7 f9 hHeld
            go_wp2_with fail
            go_roundw
            case rel => exact ⟨k + 1, by omega, by rw [HS1.out]; go_num, by go_num, HIE.out, HBE.out⟩
            case measure => simp [intOf]; omega
          · obtain rfl : k = i := by omega
            have hsum : ((bseS W).take k) = bseS W := List.take_of_length_le (by rw [HBS.out.1]; exact Nat.le_refl _)
            have hrl : k = (rstS W).length := HBS.out.2.1.symm
            have HI7 : Hid (IB g7 (zil (bseS W)) wr) := by
              have h1 := HI.out.1
              have h2 := upto_all (bseS W)
              rw [HBS.out.1] at h2
              rw [h2] at h1
              exact h1
            have HI8 : Hid (IB g8 (zil (rstS W)) wr) := by
              have h1 := HI.out.2
              have h2 := upto_all (rstS W)
              rw [HBS.out.2.1] at h2
              rw [h2] at h1
              exact h1
            have HGT := Lib.hid (greatestL (w := wr) hrl (by have := HW.out; omega) (by omega) HI8.out)
            obtain ⟨L, hL⟩ : ∃ L, L = left W := ⟨_, rfl⟩
            have hL2 : (256 : Int) - (((bseS W).sum : Nat) : Int) = (L : Int) := by
              rw [hL]
              have := HBS.out.2.2.1
              unfold left
              omega
            have hL3 : (L : Int) ≤ k := by
              have := HBS.out.2.2.2
              rw [hL]; omega
            have HLL := Lib.hid hL
            rw [hsum, hL2]
            clear hsum hrl hL hL2
            go_wp2_with fail
            refine HGT.out.mono ?_
            rintro e w3 ⟨g2', P, rfl, hp0, hp1, hp2, hp3, hp4⟩
            have hgl : g7 < wr.heap.size := BlkAt.lt HI7.out
            have HP : Hid (P.Perm (List.range k) ∧ P.Pairwise (fun i j => Sp.lt (rstS W) i j = true) ∧ P.Nodup ∧ P.length = k) := ⟨hp1, hp2, hp1.nodup_iff.2 List.nodup_range, by rw [hp1.length_eq, List.length_range]⟩
            have H3 : Hid (IB g7 (zil (bseS W)) w3 ∧ IB g2' (zil P) w3 ∧ g7 ≠ g2' ∧ Below w.heap.size w w3) := ⟨HI7.out.later hp4, hp3, by omega, below_of HBR.out hp4⟩
            clear hp0 hp1 hp2 hp3 hp4 hgl HGT
            go_wp2_with fail
            go_loopw [69] (fun x wr => ∃ j : Nat, j ≤ L ∧ x = .int .i64 j ∧ Hid (IB g7 (zil (given W P j)) wr) ∧ Hid (Chg [g7] w3 wr)) (fun x _ => L - (intOf x).toNat)
            case atStart =>
              refine ⟨0, Nat.zero_le _, rfl, ?_, Chg.refl _ _⟩
              rw [given_zero]
              exact H3.out.1
            case round =>
              obtain ⟨j, hj, rfl, HIJ, HCJ⟩ := hrel
              rcases Nat.lt_or_ge j L with hlt | hge3
              · have g4 : (j : Int) < L := by omega
                obtain ⟨p, hp⟩ : ∃ p, P[j]? = some p := ⟨P[j]'(by have := HP.out.2.2.2; omega), List.getElem?_eq_getElem _⟩
                have hpk : p < k := List.mem_range.1 (HP.out.1.mem_iff.1 (List.mem_of_getElem? hp))
                have hpW : p < W.length := by have := HW.out.2.1; omega
                have hI2 := HCJ.out.blk H3.out.2.1 (by simp; exact fun e => H3.out.2.2.1 e.symm)
                have c0 : wr.cell? ⟨g2', j, none⟩ = some (.int .i64 (p : Int)) := by
                  refine BlkAt.cell hI2 (iv_at2 ?_)
                  unfold zil
                  rw [List.getElem?_map, hp]
                  rfl
                have c1 := ib_at HIJ.out (j := p) (by rw [given_len]; exact hpW)
                have f1 : ∀ j, wr.frozen? ⟨g7, j, none⟩ = false := fun j => BlkAt.frozen HIJ.out j
                obtain ⟨gv, hgv⟩ : ∃ gv, gv = (given W P j).getD p 0 := ⟨_, rfl⟩
                rw [← hgv] at c1
                have hgb : gv ≤ 257 := by
                  rw [hgv, given_at hpW]
                  have h1 := sum_le (V := bseS W) (i := p) (by rw [base_len]; exact hpW)
                  have h2 := HBS.out.2.2.1
                  split <;> omega
                have g5 : (p : Int) < k := by omega
                have g6 : (gv : Int) ≤ 257 := by omega
                have HS : Hid ((given W P j).set p (gv + 1) = given W P (j + 1)) := by
                  show _ = _
                  rw [hgv]
                  exact given_set HP.out.2.2.1 hp hpW
                clear hp hpk hpW hI2 hgv hgb
                go_wp2_with fail
                go_roundw
                case rel =>
                  refine ⟨j + 1, by omega, by go_num, ?_, HCJ.out.set (by simp) _ _⟩
                  have h1 := ib_set HIJ.out p (gv + 1)
                  rw [HS.out] at h1
                  exact h1
                case measure => simp [intOf]; omega
              · obtain rfl : j = L := by omega
                go_wp2_with fail
                go_ret2
                have h1 := HIJ.out
                rw [HLL.out, given_all (by rw [HBS.out.2.1]; exact HP.out.1) HP.out.2.1] at h1
                exact ⟨g7, rfl, H2.out.2.2.2.1, h1, H3.out.2.2.2.trans (HCJ.out.below H3.out.2.2.2.size (fun b hb => by simp at hb; rw [hb]; exact H2.out.2.2.2.1))⟩
end Go.Proofs.Ytdjhgahdiggahaa

namespace Go.Proofs.Ytdjhgahdiggahaa
open Go.RowKit
attribute [local go_sem ↓] Go.wp_at_zero Go.wp_at_succ
open Sp

set_option maxRecDepth 100000 in
theorem sameI {w : World} {g1 g2 n c1 c2 : Nat} {A : List Int} (h1 : IB g1 A w) (h2 : IB g2 A w) (hn : n = A.length) (hl : n ≤ 1000) :
    Calls Try.prog 38 #[.slice (some ⟨g1, 0, none⟩) n c1, .slice (some ⟨g2, 0, none⟩) n c2] w fun e w' => e = .returned (.bool true) ∧ Below w.heap.size w w' := by
  have HI : Hid (IB g1 A w ∧ IB g2 A w ∧ n = A.length) := ⟨h1, h2, hn⟩
  have g0 : (n : Int) ≤ 1000 := by omega
  clear h1 h2 hn hl
  go_enter Try.func38, Try.ntmps38
  go_wp2_with fail
  go_loopw [5] (fun x wr => ∃ i : Nat, i ≤ n ∧ x = .int .i64 i ∧ Hid (Below w.heap.size w wr)) (fun x _ => n - (intOf x).toNat)
  case atStart => exact ⟨0, Nat.zero_le _, rfl, Below.refl _ _⟩
  case round =>
    obtain ⟨i, hi, rfl, HB⟩ := hrel
    rcases Nat.lt_or_ge i n with hlt | hge
    · have g1' : (i : Int) < n := by omega
      have hx : A[i]? = some (A[i]'(by have := HI.out.2.2; omega)) := List.getElem?_eq_getElem _
      obtain ⟨x, hxx⟩ : ∃ x, x = A[i]'(by have := HI.out.2.2; omega) := ⟨_, rfl⟩
      rw [← hxx] at hx
      have c0 := (HI.out.1.later HB.out).cell (iv_at2 hx)
      have c1 := (HI.out.2.1.later HB.out).cell (iv_at2 hx)
      have t0 : (x != x) = false := by simp
      clear hx hxx
      go_wp2_with fail
      go_quiet (fail)
      have HB2 := Lib.hid (below_drewN HB.out nq)
      go_wp2_with fail
      go_roundw
      case rel => exact ⟨i + 1, by omega, by go_num, HB2.out⟩
      case measure => simp [intOf]; omega
    · obtain rfl : i = n := by omega
      have q0 : ¬ (i : Int) < i := by omega
      go_wp2_with fail
      go_ret
      exact ⟨rfl, HB.out⟩
set_option maxRecDepth 100000 in
theorem numL (e : Int) (w : World) : Calls Try.prog 37 #[.int .i64 e] w fun r w' => r = .returned (.int .i64 e) ∧ w = w' := by
  go_enter Try.func37, Try.ntmps37
  go_wp2_with fail
  go_ret
  exact ⟨rfl, rfl⟩
/-- The chapter's ways. -/
def kA : List WyN := [(0, 0), (1, 0), (2, 1)]
def kB : List WyN := [(3, 7)]
set_option maxRecDepth 100000 in
theorem kA_may : mayP kA := by decide
set_option maxRecDepth 100000 in
theorem kB_may : mayP kB := by decide
set_option maxRecDepth 100000 in
theorem kA_sh : shares (ws kA) = [103, 102, 51] := by decide
set_option maxRecDepth 100000 in
theorem kB_sh : shares (ws kB) = [256] := by decide
set_option maxRecDepth 100000 in
theorem nil_may : ¬ mayP [] := by decide
set_option maxRecDepth 100000 in
theorem nxs_blk {w : World} {g : Nat} {l : List WyN} {n : Nat} (h : BlkAt 76 g (l.flatMap nxc) w) (hn : n = l.length) (h0 : l ≠ []) : Nxs w (.slice (some ⟨g, 0, none⟩) n n) l := by
  refine .inr ⟨g, 0, n, by rw [hn], BlkAt.lt h, by omega, fun j x hx i u hu => ?_⟩
  rw [Nat.zero_add]
  refine h.cell ?_
  have hk : ∀ (l : List WyN) (j : Nat) (x : WyN), l[j]? = some x → ∀ i u, (nxc x)[i]? = some u → (l.flatMap nxc)[j * 2 + i]? = some u := by
    intro l
    induction l with
    | nil => intro j x hx; simp at hx
    | cons y l ih =>
      intro j x hx i u hu
      cases j with
      | zero =>
        simp at hx
        subst hx
        rw [List.flatMap_cons, Nat.zero_mul, Nat.zero_add, List.getElem?_append_left (List.getElem?_eq_some_iff.1 hu).1]
        exact hu
      | succ j =>
        have := ih j x (by simpa using hx) i u hu
        rw [List.flatMap_cons, List.getElem?_append_right (by show (nxc y).length ≤ _; simp [nxc]; omega)]
        rw [show (j + 1) * 2 + i - (nxc y).length = j * 2 + i by simp [nxc]; omega]
        exact this
  exact hk l j x hx i u hu
set_option maxRecDepth 100000 in
theorem nxs_nil (w : World) : Nxs w (.slice none 0 0) [] := .inl ⟨rfl, none, 0, rfl, fun _ => rfl⟩
set_option maxRecDepth 100000 in
theorem lits (L : List Int) (w : World) : IB w.heap.size L (w.alloc (.cells (iv L).toArray 3)) := BlkAt.new w _
set_option maxRecDepth 100000 in
theorem knownL (w : World) : Calls Try.prog 30 #[] w fun e w' => e = .returned (.bool true) ∧ Below w.heap.size w w' := by
  obtain ⟨w1, hw1⟩ : ∃ w1, w1 = w.alloc (.cells #[.int .i64 0, .int .i64 0, .int .i64 1, .int .i64 0, .int .i64 2, .int .i64 1] 76) := ⟨_, rfl⟩
  have hb1 : Below w.heap.size w w1 := by rw [hw1]; exact ba1 _ _
  have hX1 : BlkAt 76 w.heap.size (kA.flatMap nxc) w1 := by rw [hw1]; exact BlkAt.new w _
  have HS1 := Lib.hid (sharesYes (nxs_blk (n := 3) hX1 rfl (by decide)) (by intro n hn; simp [kA] at hn; rcases hn with rfl | rfl | rfl <;> exact ⟨by decide, by decide, by decide, by decide⟩) kA_may)
  rw [kA_sh] at HS1
  have HW1 := Lib.hid hw1
  have HB1 := Lib.hid hb1
  clear hw1 hb1 hX1
  go_enter Try.func30, Try.ntmps30
  go_wp2_with fail
  rw [← HW1.out]
  refine HS1.out.mono ?_
  rintro e w2 ⟨ga, rfl, _, ia2, b2⟩
  have hl3 : kA.length = 3 := rfl
  rw [hl3]
  have HB2 := Lib.hid (below_of HB1.out b2)
  have HA2 := Lib.hid ia2
  obtain ⟨w3, hw3⟩ : ∃ w3, w3 = w2.alloc (.cells #[.int .i64 3, .int .i64 7] 76) := ⟨_, rfl⟩
  have hb3 : Below w2.heap.size w2 w3 := by rw [hw3]; exact ba1 _ _
  have hX3 : BlkAt 76 w2.heap.size (kB.flatMap nxc) w3 := by rw [hw3]; exact BlkAt.new w2 _
  have HS3 := Lib.hid (sharesYes (nxs_blk (n := 1) hX3 rfl (by decide)) (by intro n hn; simp [kB] at hn; rcases hn with rfl; exact ⟨by decide, by decide, by decide, by decide⟩) kB_may)
  rw [kB_sh] at HS3
  have HW3 := Lib.hid hw3
  have HB3 := Lib.hid (below_of HB2.out hb3)
  have HA3 := Lib.hid (HA2.out.later hb3)
  clear hw3 hb3 hX3 ia2 b2 hl3
  go_wp2_with fail
  rw [← HW3.out]
  refine HS3.out.mono ?_
  rintro e w4 ⟨gb, rfl, _, ib4, b4⟩
  have hl1 : kB.length = 1 := rfl
  rw [hl1]
  have HB4 := Lib.hid (below_of HB3.out b4)
  have HA4 := Lib.hid (HA3.out.later b4)
  have HI4 := Lib.hid ib4
  obtain ⟨w5, hw5⟩ : ∃ w5, w5 = w4.alloc (.cells #[.int .i64 103, .int .i64 102, .int .i64 51] 3) := ⟨_, rfl⟩
  have hb5 : Below w4.heap.size w4 w5 := by rw [hw5]; exact ba1 _ _
  have hX5 : IB w4.heap.size [103, 102, 51] w5 := by rw [hw5]; exact lits [103, 102, 51] w4
  have HC5 := Lib.hid (sameI (c1 := 3) (c2 := 3) (n := 3) (HA4.out.later hb5) hX5 rfl (by decide))
  have HB5 := Lib.hid (below_of HB4.out hb5)
  have HI5 := Lib.hid (HI4.out.later hb5)
  have HW5 := Lib.hid hw5
  clear hw5 hb5 hX5 ib4 b4 hl1
  go_wp2_with fail
  rw [← HW5.out]
  refine HC5.out.mono ?_
  rintro e w6 ⟨rfl, b6⟩
  have HB6 := Lib.hid (below_of HB5.out b6)
  obtain ⟨w7, hw7⟩ : ∃ w7, w7 = w6.alloc (.cells #[.int .i64 256] 3) := ⟨_, rfl⟩
  have hb7 : Below w6.heap.size w6 w7 := by rw [hw7]; exact ba1 _ _
  have hX7 : IB w6.heap.size [256] w7 := by rw [hw7]; exact lits [256] w6
  have HC7 := Lib.hid (sameI (c1 := 1) (c2 := 1) (n := 1) ((HI5.out.later b6).later hb7) hX7 rfl (by decide))
  have HB7 := Lib.hid (below_of HB6.out hb7)
  have HW7 := Lib.hid hw7
  clear hw7 hb7 hX7 b6
  go_wp2_with fail
  rw [← HW7.out]
  refine HC7.out.mono ?_
  rintro e w8 ⟨rfl, b8⟩
  have HB8 := Lib.hid (below_of HB7.out b8)
  clear b8
  go_wp2_with fail
  refine (numL 0 w8).mono ?_
  rintro e w9 ⟨rfl, rfl⟩
  go_wp2_with fail
  refine (numL 0 w8).mono ?_
  rintro e w9 ⟨rfl, rfl⟩
  go_wp2_with fail
  refine (weightL 0 2 w8).mono ?_
  rintro e w9 ⟨rfl, b9⟩
  have hw2 : ((wt 2 : Nat) : Int) = 21845 := by decide
  rw [hw2]
  have HB9 := Lib.hid (below_of HB8.out b9)
  clear b9 hw2
  go_wp2_with fail
  have hmn := mayW (nxs_nil w9) (by decide) (fun n hn => by cases hn)
  rw [decide_eq_false nil_may] at hmn
  refine hmn.mono ?_
  rintro e w10 ⟨rfl, b10⟩
  have HB10 := Lib.hid (below_of HB9.out b10)
  clear b10
  go_wp2_with fail
  go_ret
  exact ⟨rfl, HB10.out⟩
end Go.Proofs.Ytdjhgahdiggahaa
