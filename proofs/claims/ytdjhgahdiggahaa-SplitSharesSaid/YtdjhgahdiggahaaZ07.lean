/- Shares of ways: the program's walk.
   Shares as they come about, plainly. -/
import Derived.Test.YtdjhgahdiggahaaZ01
import Derived.Test.YtdjhgahdiggahaaZ06

set_option linter.unusedSimpArgs false
set_option linter.unusedVariables false
namespace Go.Proofs.Ytdjhgahdiggahaa
namespace Sp
/-- So many of them, the rstS noughts. -/
def uptoS (B : List Nat) (k : Nat) : List Nat := B.take k ++ List.replicate (B.length - k) 0
theorem upto_zero (B : List Nat) : uptoS B 0 = List.replicate B.length 0 := by simp [uptoS]
theorem upto_all (B : List Nat) : uptoS B B.length = B := by simp [uptoS]
theorem upto_len {B : List Nat} {k : Nat} (h : k ≤ B.length) : (uptoS B k).length = B.length := by
  unfold uptoS
  rw [List.length_append, List.length_take, List.length_replicate]
  omega
theorem upto_set {B : List Nat} {k : Nat} (h : k < B.length) : (uptoS B k).set k (B.getD k 0) = uptoS B (k + 1) := by
  unfold uptoS
  obtain ⟨m, hm⟩ : ∃ m, B.length - k = m + 1 := ⟨B.length - k - 1, by omega⟩
  have hm2 : B.length - (k + 1) = m := by omega
  rw [hm, hm2, List.set_append_right _ _ (by rw [List.length_take]; omega)]
  have e1 : k - (B.take k).length = 0 := by rw [List.length_take]; omega
  rw [e1, List.replicate_succ, List.set_cons_zero, List.take_add_one, List.append_assoc]
  congr 1
  rw [List.getElem?_eq_getElem h]
  simp [h]
theorem upto_at {B : List Nat} {k : Nat} (h : k < B.length) : (uptoS B k).getD k 0 = 0 := by
  unfold uptoS
  have e1 : (B.take k).length = k := by rw [List.length_take]; omega
  rw [List.getD_eq_getElem?_getD, List.getElem?_append_right (by omega), e1, Nat.sub_self, List.getElem?_replicate]
  split <;> rfl
theorem upto_get {B : List Nat} {k j : Nat} (h : j < k) (hk : k ≤ B.length) : (uptoS B k).getD j 0 = B.getD j 0 := by
  unfold uptoS
  rw [List.getD_eq_getElem?_getD, List.getElem?_append_left (by rw [List.length_take]; omega), List.getElem?_take, if_pos h, List.getD_eq_getElem?_getD]
/-- What is given out so far. -/
def given (W P : List Nat) (k : Nat) : List Nat := (List.range W.length).map fun i => (bseS W).getD i 0 + if i ∈ P.take k then 1 else 0
theorem given_len (W P : List Nat) (k : Nat) : (given W P k).length = W.length := by simp [given]
theorem given_zero (W P : List Nat) : given W P 0 = bseS W := by
  unfold given
  simp only [List.take_zero, List.not_mem_nil, if_false, Nat.add_zero]
  have := map_getD (bseS W)
  rw [base_len] at this
  exact this
theorem given_at {W P : List Nat} {k i : Nat} (h : i < W.length) : (given W P k).getD i 0 = (bseS W).getD i 0 + if i ∈ P.take k then 1 else 0 := by
  unfold given
  simp [h]
theorem given_set {W P : List Nat} (hn : P.Nodup) {k p : Nat} (hk : P[k]? = some p) (hp : p < W.length) : (given W P k).set p ((given W P k).getD p 0 + 1) = given W P (k + 1) := by
  obtain ⟨hkl, hke⟩ := List.getElem?_eq_some_iff.1 hk
  have hnot : p ∉ P.take k := by
    intro hm
    obtain ⟨j, hj⟩ := List.getElem?_of_mem hm
    rw [List.getElem?_take] at hj
    split at hj
    · obtain ⟨h1, h2⟩ := List.getElem?_eq_some_iff.1 hj
      have := (List.getElem_inj hn).1 (h2.trans hke.symm)
      omega
    · cases hj
  have hmem : ∀ i, i ∈ P.take (k + 1) ↔ i ∈ P.take k ∨ i = p := fun i => by
    rw [List.take_add_one, hk]
    simp
  rw [given_at hp, if_neg hnot]
  apply List.ext_getElem
  · rw [List.length_set, given_len, given_len]
  · intro i h1 h2
    rw [List.length_set, given_len] at h1
    rw [List.getElem_set]
    by_cases hi : p = i
    · subst hi
      rw [if_pos rfl]
      unfold given
      simp [hmem]
    · rw [if_neg hi]
      unfold given
      have : i ≠ p := fun e => hi e.symm
      simp [hmem, this]
theorem given_all {W P : List Nat} (hp : P.Perm (List.range (rstS W).length)) (hs : P.Pairwise fun i j => lt (rstS W) i j = true) : given W P (left W) = shares W := by
  unfold given shares
  refine List.map_congr_left fun i hi => ?_
  have hi2 : i < (rstS W).length := by rw [rest_len]; exact List.mem_range.1 hi
  have := srt_mem hp hs hi2 (left W)
  congr 1
  by_cases h : rk (rstS W) i < left W
  · rw [if_pos h, if_pos (this.2 h)]
  · rw [if_neg h, if_neg (fun hm => h (this.1 hm))]
theorem base_at {W : List Nat} {i : Nat} (hi : i < W.length) : (bseS W).getD i 0 = 256 * W.getD i 0 / W.sum := by
  unfold bseS
  simp [hi]
end Sp
end Go.Proofs.Ytdjhgahdiggahaa

namespace Go.Proofs.Ytdjhgahdiggahaa
open Go.RowKit
attribute [local go_sem ↓] Go.wp_at_zero Go.wp_at_succ
open Sp

set_option maxRecDepth 100000 in
theorem ib_at {g : Nat} {L : List Nat} {w : World} (h : IB g (zil L) w) {j : Nat} (hj : j < L.length) : w.cell? ⟨g, j, none⟩ = some (.int .i64 ((L.getD j 0 : Nat) : Int)) := h.cell (iv_at2 (zil_at hj))
set_option maxRecDepth 100000 in
theorem zil_set (L : List Nat) (j x : Nat) : (zil L).set j (x : Int) = zil (L.set j x) := by
  unfold zil
  rw [List.map_set]
set_option maxRecDepth 100000 in
theorem ib_set {g : Nat} {L : List Nat} {w : World} (h : IB g (zil L) w) (j x : Nat) : IB g (zil (L.set j x)) (w.setCell ⟨g, j, none⟩ (.int .i64 (x : Int))) := by
  have := IB.set h j (x : Int)
  rw [zil_set] at this
  exact this
set_option maxRecDepth 100000 in
theorem sharesNo {w : World} {v : Value} {l : List WyN} (hv : Nxs w v l) (hl : l.length ≤ 1000000) (ho : ∀ n ∈ l, NxOk n) (hm : ¬ mayP l) :
    Calls Try.prog 33 #[v] w fun e w' => e = .returned (.tuple #[.slice none 0 0, .int .i64 2]) ∧ Below w.heap.size w w' := by
  have HM := Lib.hid (mayW hv hl ho)
  rw [decide_eq_false hm] at HM
  obtain ⟨a, c, rfl⟩ := hv.form
  clear hv ho hm hl
  go_enter Try.func33, Try.ntmps33
  go_wp2_with fail
  refine HM.out.mono ?_
  rintro e w1 ⟨rfl, hb⟩
  have HB := Lib.hid hb
  clear hb
  go_wp2_with fail
  go_ret2
  exact ⟨rfl, HB.out⟩
set_option maxHeartbeats 8000000 in
theorem sharesYes {w : World} {v : Value} {l : List WyN} (hv : Nxs w v l) (ho : ∀ n ∈ l, NxOk n) (hm : mayP l) :
    Calls Try.prog 33 #[v] w fun e w' => ∃ g, e = .returned (.tuple #[.slice (some ⟨g, 0, none⟩) l.length l.length, .int .i64 0]) ∧ w.heap.size ≤ g ∧ IB g (zil (shares (ws l))) w' ∧ Below w.heap.size w w' := by
  obtain ⟨hn1, hn8⟩ := mayP_len hm
  have HM := Lib.hid (mayW hv (by omega) ho)
  rw [decide_eq_true hm] at HM
  have HV := Lib.hid hv
  obtain ⟨a, c, rfl⟩ := hv.form
  obtain ⟨n, hn⟩ : ∃ n, n = l.length := ⟨_, rfl⟩
  rw [← hn] at HV HM hn1 hn8 ⊢
  have HNN := Lib.hid hn
  obtain ⟨W, hW⟩ : ∃ W, W = ws l := ⟨_, rfl⟩
  have hWn : W.length = n := by rw [hW, ws_len, hn]
  have hWs : 0 < W.sum := by rw [hW]; exact ws_pos hm
  have hW8 : W.sum ≤ 8 * 65536 := by
    have := ws_sum_le l
    rw [← hW] at this
    exact Nat.le_trans this (Nat.mul_le_mul_right 65536 (by omega))
  have HW : Hid (W = ws l ∧ W.length = n ∧ 0 < W.sum ∧ W.sum ≤ 8 * 65536 ∧ 1 ≤ n ∧ n ≤ 8) := ⟨hW, hWn, hWs, hW8, hn1, hn8⟩
  have HWI : Hid (∀ i, i < n → W.getD i 0 = wt (wyAt l i).2) := by
    have : ∀ i, i < n → W.getD i 0 = wt (wyAt l i).2 := fun i hi => by rw [hW]; exact ws_at (by omega)
    exact this
  rw [← hW]
  have g0 : (n : Int) ≤ 8 := by omega
  clear hv ho hm hn hW hWn hWs hW8 hn1 hn8
  go_enter Try.func33, Try.ntmps33
  go_wp2_with fail
  refine HM.out.mono ?_
  rintro e w1 ⟨rfl, hb⟩
  have HB1 := Lib.hid hb
  clear hb HM
  go_wp2_with fail
  go_loopw [4, 20] (fun y x wr => ∃ i : Nat, i ≤ n ∧ y = .int .i64 (((W.take i).sum : Nat) : Int) ∧ x = .int .i64 i ∧ Hid (Below w.heap.size w wr)) (fun _ x _ => n - (intOf x).toNat)
  case atStart => exact ⟨0, Nat.zero_le _, rfl, rfl, HB1.out⟩
  case round =>
    obtain ⟨i, hi, rfl, rfl, HB⟩ := hrel
    rcases Nat.lt_or_ge i n with hlt | hge
    · have g1 : (i : Int) < n := by omega
      obtain ⟨x, hx⟩ : ∃ x, l[i]? = some x := ⟨l[i]'(by have := HNN.out; omega), List.getElem?_eq_getElem _⟩
      obtain ⟨bb, oo, ha, _, hcell⟩ := (HV.out.later HB.out).at hx
      have c0 := hcell 0 _ rfl
      have c1 := hcell 1 _ rfl
      simp only [Nat.add_zero] at c0
      subst ha
      have hwi := HWI.out i hlt
      rw [wyAt_get hx] at hwi
      obtain ⟨xp, xd⟩ := x
      simp only [nxc] at c0 c1
      have hs1 : (W.take (i + 1)).sum = (W.take i).sum + wt xd := by
        rw [sum_take W i (by have := HW.out.2.1; omega), hwi]
      have hs2 := take_sum_le W (i + 1)
      obtain ⟨s0, hs0⟩ : ∃ s, s = (W.take i).sum := ⟨_, rfl⟩
      rw [← hs0] at hs1 ⊢
      have hs3 : s0 + wt xd ≤ 8 * 65536 := by have := HW.out.2.2.2.1; omega
      have HWT := Lib.hid (weightL xp xd)
      obtain ⟨wx, hwx⟩ : ∃ wx, wx = wt xd := ⟨_, rfl⟩
      rw [← hwx] at HWT hs3 hs1
      have HS1 := Lib.hid hs1
      obtain ⟨wA, hwA⟩ : ∃ wA, wA = wr.alloc (.cells #[.int .i64 xp, .int .i64 xd] 76) := ⟨_, rfl⟩
      have hbA : Below wr.heap.size wr wA := by rw [hwA]; exact ba1 _ _
      have HBA := Lib.hid (HB.out.trans (hbA.mono HB.out.size))
      have HWA := Lib.hid hwA
      have g3 : (s0 : Int) + wx ≤ 524288 := by omega
      clear hcell hx hwi hs1 hs2 hs0 hs3 hwx hwA hbA
      go_wp2_with fail
      rw [← HWA.out]
      refine (HWT.out _).mono ?_
      rintro e w1 ⟨rfl, hb1⟩
      have HB1 := Lib.hid (below_of HBA.out hb1)
      clear hb1 c0 c1
      go_wp2_with fail
      go_roundw
      case rel => exact ⟨i + 1, by omega, by rw [HS1.out]; go_num, by go_num, HB1.out⟩
      case measure => simp [intOf]; omega
    · obtain rfl : i = n := by omega
      have HTK : Hid ((W.take i).sum = W.sum) := by
        have := HW.out.2.1
        show _ = _
        rw [List.take_of_length_le (by omega)]
      rw [HTK.out]
      obtain ⟨S, hS⟩ : ∃ S, S = W.sum := ⟨_, rfl⟩
      have HSS := Lib.hid hS
      rw [← hS]
      have g2 : (S : Int) ≤ 524288 := by have := HW.out.2.2.2.1; omega
      have g3 : 0 < (S : Int) := by have := HW.out.2.2.1; omega
      clear hS
      go_wp2_with fail
      (refine wp_region_held_drew (S := (fun w' => Below w.heap.size w w')) (by kernel_rfl) ?_ (fun hHeld => ?_); (focus ((try dsimp only); (exact HB.out.drew))))
      obtain ⟨wA, hwA⟩ : ∃ wA, wA = wr.drew := ⟨_, rfl⟩
      rw [← hwA] at hHeld ⊢
      obtain ⟨wM, hm1, hI1, hb1⟩ := make_ints i wA (by omega)
      obtain ⟨wN, hm2, hI2, hb2⟩ := make_ints i wM (by omega)
      have hbM := below_of hHeld hb1
      have hbN := below_of hbM hb2
      have H1 : Hid (IB wA.heap.size (List.replicate i 0) wN ∧ IB wM.heap.size (List.replicate i 0) wN ∧ wA.heap.size ≠ wM.heap.size ∧ w.heap.size ≤ wA.heap.size ∧ w.heap.size ≤ wM.heap.size ∧ Below w.heap.size w wN) :=
        ⟨hI1.later hb2, hI2, by have := BlkAt.lt hI1; omega, hHeld.size, hbM.size, hbN⟩
      have HBM := Lib.hid hbM
      have HBN := Lib.hid hbN
      clear hwA hI1 hI2 hb1 hb2 hbM hbN
      (refine wpAnyH_take (i := 0) (v := ?_) rfl (by kernel_rfl) (by kernel_rfl) (by kernel_rfl) (fun _ _ _ h => h) (Or.inl ⟨by rfl, ?_⟩) hHeld ?_; rotate_left; (focus (intro w hSw; (try dsimp only at hSw); go_simp; try with_reducible rfl)); (try simp only [Act.put, List.setIfInBounds_toArray, List.set_cons_zero, List.set_cons_succ, List.getElem_toArray, List.getElem_cons_zero])); (refine wpAnyH_take (i := 1) (v := ?_) rfl (by kernel_rfl) (by kernel_rfl) (by kernel_rfl) (fun _ _ _ h => h) (Or.inl ⟨by rfl, ?_⟩) hHeld ?_; rotate_left; (focus (intro w hSw; (try dsimp only at hSw); go_simp; try with_reducible rfl)); (try simp only [Act.put, List.setIfInBounds_toArray, List.set_cons_zero, List.set_cons_succ, List.getElem_toArray, List.getElem_cons_zero, List.getElem_cons_succ])); (refine wpAnyH_take (i := 3) (v := ?_) rfl (by kernel_rfl) (by kernel_rfl) (by kernel_rfl) (fun _ _ _ h => h) (Or.inl ⟨by rfl, ?_⟩) hHeld ?_; rotate_left; (focus (intro w hSw; (try dsimp only at hSw); go_simp; try with_reducible rfl)); (try simp only [Act.put, List.setIfInBounds_toArray, List.set_cons_zero, List.set_cons_succ, List.getElem_toArray, List.getElem_cons_zero, List.getElem_cons_succ])); (refine wpAnyH_take (i := 4) (v := ?_) rfl (by kernel_rfl) (by kernel_rfl) (by kernel_rfl) (fun _ _ _ h => h) (Or.inl ⟨by rfl, ?_⟩) hHeld ?_; rotate_left; (focus (intro w hSw; (try dsimp only at hSw); go_simp; try with_reducible rfl)); (try simp only [Act.put, List.setIfInBounds_toArray, List.set_cons_zero, List.set_cons_succ, List.getElem_toArray, List.getElem_cons_zero, List.getElem_cons_succ]))
      refine wpAnyH_ready (rs := [2, 5]) (by kernel_rfl) (by simp) ?_
      refine AllReadyH.cons rfl (fun K hK => ?_) (AllReadyH.cons rfl (fun K hK => ?_) AllReadyH.nil)
      · go_simp
        refine hK.out _ _ ?_ (fun hHeldN => ?_)
        (focus ((try dsimp only); exact HBM.out))
        clear hK K hHeld
        have hHeld := hHeldN
        clear hHeldN
        (try simp only [Act.put, List.setIfInBounds_toArray, List.set_cons_zero, List.set_cons_succ, List.getElem_toArray, List.getElem_cons_zero, List.getElem_cons_succ])
        (refine wpAnyH_take (i := 6) (v := ?_) rfl (by kernel_rfl) (by kernel_rfl) (by kernel_rfl) (fun _ _ _ h => h) (Or.inl ⟨by rfl, ?_⟩) hHeld ?_; rotate_left; (focus (intro w hSw; (try dsimp only at hSw); go_simp; try with_reducible rfl)); (try simp only [Act.put, List.setIfInBounds_toArray, List.set_cons_zero, List.set_cons_succ, List.getElem_toArray, List.getElem_cons_zero, List.getElem_cons_succ]))
        (refine wpAnyH_ready (rs := [5]) (by kernel_rfl) (by simp) ?_; refine AllReadyH.cons rfl (fun K hK => ?_) AllReadyH.nil; go_simp; skip; refine hK.out _ _ ?_ (fun hHeldN => ?_); (focus ((try dsimp only); (exact HBN.out))); clear hK K hHeld; have hHeld := hHeldN; clear hHeldN; (try simp only [Act.put, List.setIfInBounds_toArray, List.set_cons_zero, List.set_cons_succ, List.getElem_toArray, List.getElem_cons_zero, List.getElem_cons_succ]))
        (refine wpAnyH_take (i := 7) (v := ?_) rfl (by kernel_rfl) (by kernel_rfl) (by kernel_rfl) (fun _ _ _ h => h) (Or.inl ⟨by rfl, ?_⟩) hHeld ?_; rotate_left; (focus (intro w hSw; (try dsimp only at hSw); go_simp; try with_reducible rfl)); (try simp only [Act.put, List.setIfInBounds_toArray, List.set_cons_zero, List.set_cons_succ, List.getElem_toArray, List.getElem_cons_zero, List.getElem_cons_succ]))
        refine wpAnyH_done (by kernel_rfl) ?_ _
        clear hHeld hm1 hm2
        obtain ⟨g7, hg7⟩ : ∃ g, g = wA.heap.size := ⟨_, rfl⟩
        obtain ⟨g8, hg8⟩ : ∃ g, g = wM.heap.size := ⟨_, rfl⟩
        have H2 : Hid (IB g7 (List.replicate i 0) wN ∧ IB g8 (List.replicate i 0) wN ∧ g7 ≠ g8 ∧ w.heap.size ≤ g7 ∧ w.heap.size ≤ g8 ∧ Below w.heap.size w wN) := by
          obtain ⟨p1, p2, p3, p4, p5, p6⟩ := H1.out
          rw [hg7, hg8]
          exact ⟨p1, p2, p3, p4, p5, p6⟩
        rw [← hg7, ← hg8]
        clear hg7 hg8 H1 HBM HBN
        have HBS : Hid ((bseS W).length = i ∧ (rstS W).length = i ∧ (bseS W).sum ≤ 256 ∧ left W < i) := by
          obtain ⟨q1, q2⟩ := base_sum HW.out.2.2.1
          have q3 := HW.out.2.1
          exact ⟨by rw [base_len]; exact q3, by rw [rest_len]; exact q3, q1, by omega⟩
        go_wp2_with fail
        go_loopw [9, 37] (fun y x wr => ∃ k : Nat, k ≤ i ∧ y = .int .i64 (256 - ((((bseS W).take k).sum : Nat) : Int)) ∧ x = .int .i64 k ∧ Hid (IB g7 (zil (uptoS (bseS W) k)) wr ∧ IB g8 (zil (uptoS (rstS W) k)) wr) ∧ Hid (Below w.heap.size w wr)) (fun _ x _ => i - (intOf x).toNat)
        case atStart =>
          have e0 : zil (List.replicate i 0) = List.replicate i 0 := by simp [zil]
          refine ⟨0, Nat.zero_le _, rfl, rfl, ?_, H2.out.2.2.2.2.2⟩
          rw [upto_zero, upto_zero, HBS.out.1, HBS.out.2.1, e0]
          exact ⟨H2.out.1, H2.out.2.1⟩
        case round =>
          obtain ⟨k, hk, rfl, rfl, HI, HBR⟩ := hrel
          rcases Nat.lt_or_ge k i with hlt | hge2
          · have g1 : (k : Int) < i := by omega
            obtain ⟨x, hx⟩ : ∃ x, l[k]? = some x := ⟨l[k]'(by have := HNN.out; omega), List.getElem?_eq_getElem _⟩
            obtain ⟨bb, oo, ha, _, hcell⟩ := (HV.out.later HBR.out).at hx
            have c0 := hcell 0 _ rfl
            have c1 := hcell 1 _ rfl
            simp only [Nat.add_zero] at c0
            subst ha
            have hwi := HWI.out k hlt
            rw [wyAt_get hx] at hwi
            obtain ⟨xp, xd⟩ := x
            simp only [nxc] at c0 c1
            have hwk : k < W.length := by have := HW.out.2.1; omega
            have hb := base_at hwk
            have hr := rest_at hwk
            rw [hwi, ← HSS.out] at hb hr
            have hs1 := sum_take (bseS W) k (by rw [base_len]; exact hwk)
            have hs2 := take_sum_le (bseS W) (k + 1)
            have hs3 := HBS.out.2.2.1
            have hwl := wt_le xd
            obtain ⟨s0, hs0⟩ : ∃ s, s = ((bseS W).take k).sum := ⟨_, rfl⟩
            rw [← hs0] at hs1 ⊢
            obtain ⟨bk, hbk⟩ : ∃ b, b = (bseS W).getD k 0 := ⟨_, rfl⟩
            obtain ⟨rk', hrk⟩ : ∃ b, b = (rstS W).getD k 0 := ⟨_, rfl⟩
            rw [← hbk] at hs1 hb
            rw [← hrk] at hr
            have HWT := Lib.hid (weightL xp xd)
            obtain ⟨wx, hwx⟩ : ∃ wx, wx = wt xd := ⟨_, rfl⟩
            rw [← hwx] at HWT hb hr hwl
            have HS1 := Lib.hid hs1
            have HBK := Lib.hid hbk
            have HRK := Lib.hid hrk
            have HQ : Hid (¬ S = 0 ∧ IntKind.i64.wrap ((256 * (wx : Int)).tdiv (S : Int)) = (bk : Int) ∧ (256 * (wx : Int)).tmod (S : Int) = (rk' : Int)) := by
              have e1 : (256 * (wx : Int)) = ((256 * wx : Nat) : Int) := by omega
              refine ⟨by omega, ?_, ?_⟩
              · rw [e1, ← Int.ofNat_tdiv, ← hb]
                exact IntWalk.i64_in _ ⟨by omega, by omega⟩
              · rw [hr, e1]
                exact (Int.ofNat_tmod _ _).symm
            obtain ⟨wA', hwA⟩ : ∃ wA, wA = wr.alloc (.cells #[.int .i64 xp, .int .i64 xd] 76) := ⟨_, rfl⟩
            have hbA : Below wr.heap.size wr wA' := by rw [hwA]; exact ba1 _ _
            have HBA := Lib.hid (HBR.out.trans (hbA.mono HBR.out.size))
            have HIA : Hid (IB g7 (zil (uptoS (bseS W) k)) wA' ∧ IB g8 (zil (uptoS (rstS W) k)) wA') := ⟨HI.out.1.later hbA, HI.out.2.later hbA⟩
            have HXA : Hid (BlkAt 76 wr.heap.size [.int .i64 xp, .int .i64 xd] wA') := by
              show BlkAt _ _ _ _
              rw [hwA]; exact BlkAt.new wr _
            have HWA := Lib.hid hwA
            have g4 : (s0 : Int) + bk ≤ 256 := by omega
            have g5 : (wx : Int) ≤ 65536 := by omega
            clear hcell hx hwi hs1 hs2 hs3 hs0 hwx hwA hbA hb hr hbk hrk hwl hwk
            go_wp2_with fail
            rw [← HWA.out]
            refine (HWT.out _).mono ?_
            rintro e w1 ⟨rfl, hb1⟩
            have HB1 := Lib.hid (below_of HBA.out hb1)
            have HI1 : Hid (IB g7 (zil (uptoS (bseS W) k)) w1 ∧ IB g8 (zil (uptoS (rstS W) k)) w1) := ⟨HIA.out.1.later hb1, HIA.out.2.later hb1⟩
            clear hb1 c0 c1
            go_wp2_with fail
            (refine wp_region_held_drew (S := (fun w' => Chg [g7, g8] w1 w')) (by kernel_rfl) ?_ (fun hHeld => ?_); (focus ((try dsimp only); (exact Chg.of_below _ (Below.refl _ _).drew))))
            obtain ⟨wD, hwD⟩ : ∃ wD, wD = w1.drew := ⟨_, rfl⟩
            rw [← hwD] at hHeld ⊢
            have hID : IB g7 (zil (uptoS (bseS W) k)) wD ∧ IB g8 (zil (uptoS (rstS W) k)) wD := by
              rw [hwD]
              exact ⟨HI1.out.1.later (Below.refl _ _).drew, HI1.out.2.later (Below.refl _ _).drew⟩
            have d7 := ib_at hID.1 (j := k) (by rw [upto_len (by rw [HBS.out.1]; omega), HBS.out.1]; exact hlt)
            have d8 := ib_at hID.2 (j := k) (by rw [upto_len (by rw [HBS.out.2.1]; omega), HBS.out.2.1]; exact hlt)
            have f7 : ∀ j, wD.frozen? ⟨g7, j, none⟩ = false := fun j => BlkAt.frozen hID.1 j
            have HID := Lib.hid hID
            have HWD : Hid (Below w.heap.size w wD) := by
              show Below _ _ _
              rw [hwD]; exact HB1.out.drew
            clear hID hwD
            (refine wpAnyH_take (i := 0) (v := ?_) rfl (by kernel_rfl) (by kernel_rfl) (by kernel_rfl) (fun _ _ _ h => h) (Or.inl ⟨by rfl, ?_⟩) hHeld ?_; rotate_left; (focus (intro w hSw; (try dsimp only at hSw); go_simp; try with_reducible rfl)); (try simp only [Act.put, List.setIfInBounds_toArray, List.set_cons_zero, List.set_cons_succ, List.getElem_toArray, List.getElem_cons_zero])); (refine wpAnyH_take (i := 1) (v := ?_) rfl (by kernel_rfl) (by kernel_rfl) (by kernel_rfl) (fun _ _ _ h => h) (Or.inl ⟨by rfl, ?_⟩) hHeld ?_; rotate_left; (focus (intro w hSw; (try dsimp only at hSw); go_simp; try with_reducible rfl)); (try simp only [Act.put, List.setIfInBounds_toArray, List.set_cons_zero, List.set_cons_succ, List.getElem_toArray, List.getElem_cons_zero, List.getElem_cons_succ])); (refine wpAnyH_take (i := 2) (v := ?_) rfl (by kernel_rfl) (by kernel_rfl) (by kernel_rfl) (fun _ _ _ h => h) (Or.inl ⟨by rfl, ?_⟩) hHeld ?_; rotate_left; (focus (intro w hSw; (try dsimp only at hSw); go_simp; try with_reducible rfl)); (try simp only [Act.put, List.setIfInBounds_toArray, List.set_cons_zero, List.set_cons_succ, List.getElem_toArray, List.getElem_cons_zero, List.getElem_cons_succ])); (refine wpAnyH_take (i := 3) (v := ?_) rfl (by kernel_rfl) (by kernel_rfl) (by kernel_rfl) (fun _ _ _ h => h) (Or.inl ⟨by rfl, ?_⟩) hHeld ?_; rotate_left; (focus (intro w hSw; (try dsimp only at hSw); go_simp; try with_reducible rfl)); (try simp only [Act.put, List.setIfInBounds_toArray, List.set_cons_zero, List.set_cons_succ, List.getElem_toArray, List.getElem_cons_zero, List.getElem_cons_succ])); (refine wpAnyH_take (i := 4) (v := ?_) rfl (by kernel_rfl) (by kernel_rfl) (by kernel_rfl) (fun _ _ _ h => h) (Or.inl ⟨by rfl, ?_⟩) hHeld ?_; rotate_left; (focus (intro w hSw; (try dsimp only at hSw); go_simp; try with_reducible rfl)); (try simp only [Act.put, List.setIfInBounds_toArray, List.set_cons_zero, List.set_cons_succ, List.getElem_toArray, List.getElem_cons_zero, List.getElem_cons_succ])); (refine wpAnyH_take (i := 5) (v := ?_) rfl (by kernel_rfl) (by kernel_rfl) (by kernel_rfl) (fun _ _ _ h => h) (Or.inl ⟨by rfl, ?_⟩) hHeld ?_; rotate_left; (focus (intro w hSw; (try dsimp only at hSw); go_simp; try with_reducible rfl)); (try simp only [Act.put, List.setIfInBounds_toArray, List.set_cons_zero, List.set_cons_succ, List.getElem_toArray, List.getElem_cons_zero, List.getElem_cons_succ])); (refine wpAnyH_take (i := 7) (v := ?_) rfl (by kernel_rfl) (by kernel_rfl) (by kernel_rfl) (fun _ _ _ h => h) (Or.inl ⟨by rfl, ?_⟩) hHeld ?_; rotate_left; (focus (intro w hSw; (try dsimp only at hSw); go_simp; try with_reducible rfl)); (try simp only [Act.put, List.setIfInBounds_toArray, List.set_cons_zero, List.set_cons_succ, List.getElem_toArray, List.getElem_cons_zero, List.getElem_cons_succ])); (refine wpAnyH_take (i := 8) (v := ?_) rfl (by kernel_rfl) (by kernel_rfl) (by kernel_rfl) (fun _ _ _ h => h) (Or.inl ⟨by rfl, ?_⟩) hHeld ?_; rotate_left; (focus (intro w hSw; (try dsimp only at hSw); go_simp; try with_reducible rfl)); (try simp only [Act.put, List.setIfInBounds_toArray, List.set_cons_zero, List.set_cons_succ, List.getElem_toArray, List.getElem_cons_zero, List.getElem_cons_succ]))
            (refine wpAnyH_take (i := 6) (v := ?_) rfl (by kernel_rfl) (by kernel_rfl) (by kernel_rfl) (fun _ _ _ h => h) (Or.inl ⟨by rfl, ?_⟩) hHeld ?_; rotate_left; (focus (intro w hSw; (try dsimp only at hSw); go_simp; (have h0 := HQ.out.1; have h1 := HQ.out.2.1; go_simp; try with_reducible rfl))); (try simp only [Act.put, List.setIfInBounds_toArray, List.set_cons_zero, List.set_cons_succ, List.getElem_toArray, List.getElem_cons_zero, List.getElem_cons_succ]))
            (refine wpAnyH_take (i := 9) (v := ?_) rfl (by kernel_rfl) (by kernel_rfl) (by kernel_rfl) (fun _ _ _ h => h) (Or.inl ⟨by rfl, ?_⟩) hHeld ?_; rotate_left; (focus (intro w hSw; (try dsimp only at hSw); go_simp; (have h0 := HQ.out.1; have h1 := HQ.out.2.2; go_simp; try with_reducible rfl))); (try simp only [Act.put, List.setIfInBounds_toArray, List.set_cons_zero, List.set_cons_succ, List.getElem_toArray, List.getElem_cons_zero, List.getElem_cons_succ]))
            (refine wpAnyH_take (i := 10) (v := ?_) rfl (by kernel_rfl) (by kernel_rfl) (by kernel_rfl) (fun _ _ _ h => h) (Or.inl ⟨by rfl, ?_⟩) hHeld ?_; rotate_left; (focus (intro w hSw; (try dsimp only at hSw); go_simp; try with_reducible rfl)); (try simp only [Act.put, List.setIfInBounds_toArray, List.set_cons_zero, List.set_cons_succ, List.getElem_toArray, List.getElem_cons_zero, List.getElem_cons_succ]))
            (refine wpAnyH_ready (rs := [11]) (by kernel_rfl) (by simp) ?_; refine AllReadyH.cons rfl (fun K hK => ?_) AllReadyH.nil; go_simp; skip; refine hK.out _ _ ?_ (fun hHeldN => ?_); (focus ((try dsimp only); (exact Chg.set hHeld (by simp) _ _))); clear hK K hHeld; have hHeld := hHeldN; clear hHeldN; (try simp only [Act.put, List.setIfInBounds_toArray, List.set_cons_zero, List.set_cons_succ, List.getElem_toArray, List.getElem_cons_zero, List.getElem_cons_succ]))
            (refine wpAnyH_take (i := 12) (v := ?_) rfl (by kernel_rfl) (by kernel_rfl) (by kernel_rfl) (fun _ _ _ h => h) (Or.inl ⟨by rfl, ?_⟩) hHeld ?_; rotate_left; (focus (intro w hSw; (try dsimp only at hSw); go_simp; try with_reducible rfl)); (try simp only [Act.put, List.setIfInBounds_toArray, List.set_cons_zero, List.set_cons_succ, List.getElem_toArray, List.getElem_cons_zero, List.getElem_cons_succ]))
            have d9 : (wD.setCell ⟨g7, k, none⟩ (.int .i64 (bk : Int))).cell? ⟨g8, k, none⟩ = some (.int .i64 (((uptoS (rstS W) k).getD k 0 : Nat) : Int)) := ib_at (BlkAt.other HID.out.2 (fun e => H2.out.2.2.1 e.symm) _ _) (j := k) (by rw [upto_len (by rw [HBS.out.2.1]; omega), HBS.out.2.1]; exact hlt)
            have f9 : ∀ j, (wD.setCell ⟨g7, k, none⟩ (.int .i64 (bk : Int))).frozen? ⟨g8, j, none⟩ = false := fun j => BlkAt.frozen (BlkAt.other HID.out.2 (fun e => H2.out.2.2.1 e.symm) _ _) j
            (refine wpAnyH_ready (rs := [13]) (by kernel_rfl) (by simp) ?_; refine AllReadyH.cons rfl (fun K hK => ?_) AllReadyH.nil; go_simp; skip; refine hK.out _ _ ?_ (fun hHeldN => ?_); (focus ((try dsimp only); (exact Chg.set hHeld (by simp) _ _))); clear hK K hHeld; have hHeld := hHeldN; clear hHeldN; (try simp only [Act.put, List.setIfInBounds_toArray, List.set_cons_zero, List.set_cons_succ, List.getElem_toArray, List.getElem_cons_zero, List.getElem_cons_succ]))
            refine wpAnyH_done (by kernel_rfl) ?_ _
            obtain ⟨wE, hwE⟩ : ∃ wE, wE = (wD.setCell ⟨g7, k, none⟩ (.int .i64 (bk : Int))).setCell ⟨g8, k, none⟩ (.int .i64 (rk' : Int)) := ⟨_, rfl⟩
            rw [← hwE]
            have hI7 : IB g7 (zil (uptoS (bseS W) (k + 1))) wE := by
              rw [hwE]
              have h1 := ib_set HID.out.1 k bk
              have h2 := upto_set (B := bseS W) (k := k) (by rw [HBS.out.1]; exact hlt)
              rw [← HBK.out] at h2
              rw [h2] at h1
              exact BlkAt.other h1 H2.out.2.2.1 _ _
            have hI8 : IB g8 (zil (uptoS (rstS W) (k + 1))) wE := by
              rw [hwE]
              have h1 := ib_set (BlkAt.other HID.out.2 (fun e => H2.out.2.2.1 e.symm) k (.int .i64 (bk : Int))) k rk'
              have h2 := upto_set (B := rstS W) (k := k) (by rw [HBS.out.2.1]; exact hlt)
              rw [← HRK.out] at h2
              rw [h2] at h1
              exact h1
            have HBE : Hid (Below w.heap.size w wE) := by
              show Below _ _ _
              rw [hwE]
              exact (HWD.out.setCell H2.out.2.2.2.1 _).setCell H2.out.2.2.2.2.1 _
            have e7 : wE.cell? ⟨g7, k, none⟩ = some (.int .i64 (bk : Int)) := by
              have h1 := ib_at hI7 (j := k) (by rw [upto_len (by rw [HBS.out.1]; omega), HBS.out.1]; exact hlt)
              rw [h1, upto_get (Nat.lt_succ_self k) (by rw [HBS.out.1]; omega), ← HBK.out]
            have HIE : Hid (IB g7 (zil (uptoS (bseS W) (k + 1))) wE ∧ IB g8 (zil (uptoS (rstS W) (k + 1))) wE) := ⟨hI7, hI8⟩
            clear hwE hI7 hI8 d7 d8 d9 f7 f9 hHeld
            go_wp2_with fail
            go_roundw
            case rel => exact ⟨k + 1, by omega, by rw [HS1.out]; go_num, by go_num, HIE.out, HBE.out⟩
            case measure => simp [intOf]; omega
          · obtain rfl : k = i := by omega
            have hsum : ((bseS W).take k) = bseS W := List.take_of_length_le (by rw [HBS.out.1]; exact Nat.le_refl _)
            have hrl : k = (rstS W).length := HBS.out.2.1.symm
            have HI7 : Hid (IB g7 (zil (bseS W)) wr) := by
              have h1 := HI.out.1
              have h2 := upto_all (bseS W)
              rw [HBS.out.1] at h2
              rw [h2] at h1
              exact h1
            have HI8 : Hid (IB g8 (zil (rstS W)) wr) := by
              have h1 := HI.out.2
              have h2 := upto_all (rstS W)
              rw [HBS.out.2.1] at h2
              rw [h2] at h1
              exact h1
            have HGT := Lib.hid (greatestL (w := wr) hrl (by have := HW.out; omega) (by omega) HI8.out)
            obtain ⟨L, hL⟩ : ∃ L, L = left W := ⟨_, rfl⟩
            have hL2 : (256 : Int) - (((bseS W).sum : Nat) : Int) = (L : Int) := by
              rw [hL]
              have := HBS.out.2.2.1
              unfold left
              omega
            have hL3 : (L : Int) ≤ k := by
              have := HBS.out.2.2.2
              rw [hL]; omega
            have HLL := Lib.hid hL
            rw [hsum, hL2]
            clear hsum hrl hL hL2
            go_wp2_with fail
            refine HGT.out.mono ?_
            rintro e w3 ⟨g2', P, rfl, hp0, hp1, hp2, hp3, hp4⟩
            have hgl : g7 < wr.heap.size := BlkAt.lt HI7.out
            have HP : Hid (P.Perm (List.range k) ∧ P.Pairwise (fun i j => Sp.lt (rstS W) i j = true) ∧ P.Nodup ∧ P.length = k) := ⟨hp1, hp2, hp1.nodup_iff.2 List.nodup_range, by rw [hp1.length_eq, List.length_range]⟩
            have H3 : Hid (IB g7 (zil (bseS W)) w3 ∧ IB g2' (zil P) w3 ∧ g7 ≠ g2' ∧ Below w.heap.size w w3) := ⟨HI7.out.later hp4, hp3, by omega, below_of HBR.out hp4⟩
            clear hp0 hp1 hp2 hp3 hp4 hgl HGT
            go_wp2_with fail
            go_loopw [69] (fun x wr => ∃ j : Nat, j ≤ L ∧ x = .int .i64 j ∧ Hid (IB g7 (zil (given W P j)) wr) ∧ Hid (Chg [g7] w3 wr)) (fun x _ => L - (intOf x).toNat)
            case atStart =>
              refine ⟨0, Nat.zero_le _, rfl, ?_, Chg.refl _ _⟩
              rw [given_zero]
              exact H3.out.1
            case round =>
              obtain ⟨j, hj, rfl, HIJ, HCJ⟩ := hrel
              rcases Nat.lt_or_ge j L with hlt | hge3
              · have g4 : (j : Int) < L := by omega
                obtain ⟨p, hp⟩ : ∃ p, P[j]? = some p := ⟨P[j]'(by have := HP.out.2.2.2; omega), List.getElem?_eq_getElem _⟩
                have hpk : p < k := List.mem_range.1 (HP.out.1.mem_iff.1 (List.mem_of_getElem? hp))
                have hpW : p < W.length := by have := HW.out.2.1; omega
                have hI2 := HCJ.out.blk H3.out.2.1 (by simp; exact fun e => H3.out.2.2.1 e.symm)
                have c0 : wr.cell? ⟨g2', j, none⟩ = some (.int .i64 (p : Int)) := by
                  refine BlkAt.cell hI2 (iv_at2 ?_)
                  unfold zil
                  rw [List.getElem?_map, hp]
                  rfl
                have c1 := ib_at HIJ.out (j := p) (by rw [given_len]; exact hpW)
                have f1 : ∀ j, wr.frozen? ⟨g7, j, none⟩ = false := fun j => BlkAt.frozen HIJ.out j
                obtain ⟨gv, hgv⟩ : ∃ gv, gv = (given W P j).getD p 0 := ⟨_, rfl⟩
                rw [← hgv] at c1
                have hgb : gv ≤ 257 := by
                  rw [hgv, given_at hpW]
                  have h1 := sum_le (V := bseS W) (i := p) (by rw [base_len]; exact hpW)
                  have h2 := HBS.out.2.2.1
                  split <;> omega
                have g5 : (p : Int) < k := by omega
                have g6 : (gv : Int) ≤ 257 := by omega
                have HS : Hid ((given W P j).set p (gv + 1) = given W P (j + 1)) := by
                  show _ = _
                  rw [hgv]
                  exact given_set HP.out.2.2.1 hp hpW
                clear hp hpk hpW hI2 hgv hgb
                go_wp2_with fail
                go_roundw
                case rel =>
                  refine ⟨j + 1, by omega, by go_num, ?_, HCJ.out.set (by simp) _ _⟩
                  have h1 := ib_set HIJ.out p (gv + 1)
                  rw [HS.out] at h1
                  exact h1
                case measure => simp [intOf]; omega
              · obtain rfl : j = L := by omega
                go_wp2_with fail
                go_ret2
                have h1 := HIJ.out
                rw [HLL.out, given_all (by rw [HBS.out.2.1]; exact HP.out.1) HP.out.2.1] at h1
                exact ⟨g7, rfl, H2.out.2.2.2.1, h1, H3.out.2.2.2.trans (HCJ.out.below H3.out.2.2.2.size (fun b hb => by simp at hb; rw [hb]; exact H2.out.2.2.2.1))⟩
      · go_simp
        refine hK.out _ _ ?_ (fun hHeldN => ?_)
        (focus ((try dsimp only); exact HBM.out))
        clear hK K hHeld
        have hHeld := hHeldN
        clear hHeldN
        (try simp only [Act.put, List.setIfInBounds_toArray, List.set_cons_zero, List.set_cons_succ, List.getElem_toArray, List.getElem_cons_zero, List.getElem_cons_succ])
        (refine wpAnyH_ready (rs := [2]) (by kernel_rfl) (by simp) ?_; refine AllReadyH.cons rfl (fun K hK => ?_) AllReadyH.nil; go_simp; skip; refine hK.out _ _ ?_ (fun hHeldN => ?_); (focus ((try dsimp only); (exact HBN.out))); clear hK K hHeld; have hHeld := hHeldN; clear hHeldN; (try simp only [Act.put, List.setIfInBounds_toArray, List.set_cons_zero, List.set_cons_succ, List.getElem_toArray, List.getElem_cons_zero, List.getElem_cons_succ]))
        (refine wpAnyH_take (i := 6) (v := ?_) rfl (by kernel_rfl) (by kernel_rfl) (by kernel_rfl) (fun _ _ _ h => h) (Or.inl ⟨by rfl, ?_⟩) hHeld ?_; rotate_left; (focus (intro w hSw; (try dsimp only at hSw); go_simp; try with_reducible rfl)); (try simp only [Act.put, List.setIfInBounds_toArray, List.set_cons_zero, List.set_cons_succ, List.getElem_toArray, List.getElem_cons_zero, List.getElem_cons_succ])); (refine wpAnyH_take (i := 7) (v := ?_) rfl (by kernel_rfl) (by kernel_rfl) (by kernel_rfl) (fun _ _ _ h => h) (Or.inl ⟨by rfl, ?_⟩) hHeld ?_; rotate_left; (focus (intro w hSw; (try dsimp only at hSw); go_simp; try with_reducible rfl)); (try simp only [Act.put, List.setIfInBounds_toArray, List.set_cons_zero, List.set_cons_succ, List.getElem_toArray, List.getElem_cons_zero, List.getElem_cons_succ]))
        refine wpAnyH_done (by kernel_rfl) ?_ _
        clear hHeld hm1 hm2
        obtain ⟨g7, hg7⟩ : ∃ g, g = wM.heap.size := ⟨_, rfl⟩
        obtain ⟨g8, hg8⟩ : ∃ g, g = wA.heap.size := ⟨_, rfl⟩
        have H2 : Hid (IB g7 (List.replicate i 0) wN ∧ IB g8 (List.replicate i 0) wN ∧ g7 ≠ g8 ∧ w.heap.size ≤ g7 ∧ w.heap.size ≤ g8 ∧ Below w.heap.size w wN) := by
          obtain ⟨p1, p2, p3, p4, p5, p6⟩ := H1.out
          rw [hg7, hg8]
          exact ⟨p2, p1, fun e => p3 e.symm, p5, p4, p6⟩
        rw [← hg7, ← hg8]
        clear hg7 hg8 H1 HBM HBN
        have HBS : Hid ((bseS W).length = i ∧ (rstS W).length = i ∧ (bseS W).sum ≤ 256 ∧ left W < i) := by
          obtain ⟨q1, q2⟩ := base_sum HW.out.2.2.1
          have q3 := HW.out.2.1
          exact ⟨by rw [base_len]; exact q3, by rw [rest_len]; exact q3, q1, by omega⟩
        go_wp2_with fail
        go_loopw [9, 37] (fun y x wr => ∃ k : Nat, k ≤ i ∧ y = .int .i64 (256 - ((((bseS W).take k).sum : Nat) : Int)) ∧ x = .int .i64 k ∧ Hid (IB g7 (zil (uptoS (bseS W) k)) wr ∧ IB g8 (zil (uptoS (rstS W) k)) wr) ∧ Hid (Below w.heap.size w wr)) (fun _ x _ => i - (intOf x).toNat)
        case atStart =>
          have e0 : zil (List.replicate i 0) = List.replicate i 0 := by simp [zil]
          refine ⟨0, Nat.zero_le _, rfl, rfl, ?_, H2.out.2.2.2.2.2⟩
          rw [upto_zero, upto_zero, HBS.out.1, HBS.out.2.1, e0]
          exact ⟨H2.out.1, H2.out.2.1⟩
        case round =>
          obtain ⟨k, hk, rfl, rfl, HI, HBR⟩ := hrel
          rcases Nat.lt_or_ge k i with hlt | hge2
          · have g1 : (k : Int) < i := by omega
            obtain ⟨x, hx⟩ : ∃ x, l[k]? = some x := ⟨l[k]'(by have := HNN.out; omega), List.getElem?_eq_getElem _⟩
            obtain ⟨bb, oo, ha, _, hcell⟩ := (HV.out.later HBR.out).at hx
            have c0 := hcell 0 _ rfl
            have c1 := hcell 1 _ rfl
            simp only [Nat.add_zero] at c0
            subst ha
            have hwi := HWI.out k hlt
            rw [wyAt_get hx] at hwi
            obtain ⟨xp, xd⟩ := x
            simp only [nxc] at c0 c1
            have hwk : k < W.length := by have := HW.out.2.1; omega
            have hb := base_at hwk
            have hr := rest_at hwk
            rw [hwi, ← HSS.out] at hb hr
            have hs1 := sum_take (bseS W) k (by rw [base_len]; exact hwk)
            have hs2 := take_sum_le (bseS W) (k + 1)
            have hs3 := HBS.out.2.2.1
            have hwl := wt_le xd
            obtain ⟨s0, hs0⟩ : ∃ s, s = ((bseS W).take k).sum := ⟨_, rfl⟩
            rw [← hs0] at hs1 ⊢
            obtain ⟨bk, hbk⟩ : ∃ b, b = (bseS W).getD k 0 := ⟨_, rfl⟩
            obtain ⟨rk', hrk⟩ : ∃ b, b = (rstS W).getD k 0 := ⟨_, rfl⟩
            rw [← hbk] at hs1 hb
            rw [← hrk] at hr
            have HWT := Lib.hid (weightL xp xd)
            obtain ⟨wx, hwx⟩ : ∃ wx, wx = wt xd := ⟨_, rfl⟩
            rw [← hwx] at HWT hb hr hwl
            have HS1 := Lib.hid hs1
            have HBK := Lib.hid hbk
            have HRK := Lib.hid hrk
            have HQ : Hid (¬ S = 0 ∧ IntKind.i64.wrap ((256 * (wx : Int)).tdiv (S : Int)) = (bk : Int) ∧ (256 * (wx : Int)).tmod (S : Int) = (rk' : Int)) := by
              have e1 : (256 * (wx : Int)) = ((256 * wx : Nat) : Int) := by omega
              refine ⟨by omega, ?_, ?_⟩
              · rw [e1, ← Int.ofNat_tdiv, ← hb]
                exact IntWalk.i64_in _ ⟨by omega, by omega⟩
              · rw [hr, e1]
                exact (Int.ofNat_tmod _ _).symm
            obtain ⟨wA', hwA⟩ : ∃ wA, wA = wr.alloc (.cells #[.int .i64 xp, .int .i64 xd] 76) := ⟨_, rfl⟩
            have hbA : Below wr.heap.size wr wA' := by rw [hwA]; exact ba1 _ _
            have HBA := Lib.hid (HBR.out.trans (hbA.mono HBR.out.size))
            have HIA : Hid (IB g7 (zil (uptoS (bseS W) k)) wA' ∧ IB g8 (zil (uptoS (rstS W) k)) wA') := ⟨HI.out.1.later hbA, HI.out.2.later hbA⟩
            have HXA : Hid (BlkAt 76 wr.heap.size [.int .i64 xp, .int .i64 xd] wA') := by
              show BlkAt _ _ _ _
              rw [hwA]; exact BlkAt.new wr _
            have HWA := Lib.hid hwA
            have g4 : (s0 : Int) + bk ≤ 256 := by omega
            have g5 : (wx : Int) ≤ 65536 := by omega
            clear hcell hx hwi hs1 hs2 hs3 hs0 hwx hwA hbA hb hr hbk hrk hwl hwk
            go_wp2_with fail
            rw [← HWA.out]
            refine (HWT.out _).mono ?_
            rintro e w1 ⟨rfl, hb1⟩
            have HB1 := Lib.hid (below_of HBA.out hb1)
            have HI1 : Hid (IB g7 (zil (uptoS (bseS W) k)) w1 ∧ IB g8 (zil (uptoS (rstS W) k)) w1) := ⟨HIA.out.1.later hb1, HIA.out.2.later hb1⟩
            clear hb1 c0 c1
            go_wp2_with fail
            (refine wp_region_held_drew (S := (fun w' => Chg [g7, g8] w1 w')) (by kernel_rfl) ?_ (fun hHeld => ?_); (focus ((try dsimp only); (exact Chg.of_below _ (Below.refl _ _).drew))))
            obtain ⟨wD, hwD⟩ : ∃ wD, wD = w1.drew := ⟨_, rfl⟩
            rw [← hwD] at hHeld ⊢
            have hID : IB g7 (zil (uptoS (bseS W) k)) wD ∧ IB g8 (zil (uptoS (rstS W) k)) wD := by
              rw [hwD]
              exact ⟨HI1.out.1.later (Below.refl _ _).drew, HI1.out.2.later (Below.refl _ _).drew⟩
            have d7 := ib_at hID.1 (j := k) (by rw [upto_len (by rw [HBS.out.1]; omega), HBS.out.1]; exact hlt)
            have d8 := ib_at hID.2 (j := k) (by rw [upto_len (by rw [HBS.out.2.1]; omega), HBS.out.2.1]; exact hlt)
            have f7 : ∀ j, wD.frozen? ⟨g7, j, none⟩ = false := fun j => BlkAt.frozen hID.1 j
            have HID := Lib.hid hID
            have HWD : Hid (Below w.heap.size w wD) := by
              show Below _ _ _
              rw [hwD]; exact HB1.out.drew
            clear hID hwD
            (refine wpAnyH_take (i := 0) (v := ?_) rfl (by kernel_rfl) (by kernel_rfl) (by kernel_rfl) (fun _ _ _ h => h) (Or.inl ⟨by rfl, ?_⟩) hHeld ?_; rotate_left; (focus (intro w hSw; (try dsimp only at hSw); go_simp; try with_reducible rfl)); (try simp only [Act.put, List.setIfInBounds_toArray, List.set_cons_zero, List.set_cons_succ, List.getElem_toArray, List.getElem_cons_zero])); (refine wpAnyH_take (i := 1) (v := ?_) rfl (by kernel_rfl) (by kernel_rfl) (by kernel_rfl) (fun _ _ _ h => h) (Or.inl ⟨by rfl, ?_⟩) hHeld ?_; rotate_left; (focus (intro w hSw; (try dsimp only at hSw); go_simp; try with_reducible rfl)); (try simp only [Act.put, List.setIfInBounds_toArray, List.set_cons_zero, List.set_cons_succ, List.getElem_toArray, List.getElem_cons_zero, List.getElem_cons_succ])); (refine wpAnyH_take (i := 2) (v := ?_) rfl (by kernel_rfl) (by kernel_rfl) (by kernel_rfl) (fun _ _ _ h => h) (Or.inl ⟨by rfl, ?_⟩) hHeld ?_; rotate_left; (focus (intro w hSw; (try dsimp only at hSw); go_simp; try with_reducible rfl)); (try simp only [Act.put, List.setIfInBounds_toArray, List.set_cons_zero, List.set_cons_succ, List.getElem_toArray, List.getElem_cons_zero, List.getElem_cons_succ])); (refine wpAnyH_take (i := 3) (v := ?_) rfl (by kernel_rfl) (by kernel_rfl) (by kernel_rfl) (fun _ _ _ h => h) (Or.inl ⟨by rfl, ?_⟩) hHeld ?_; rotate_left; (focus (intro w hSw; (try dsimp only at hSw); go_simp; try with_reducible rfl)); (try simp only [Act.put, List.setIfInBounds_toArray, List.set_cons_zero, List.set_cons_succ, List.getElem_toArray, List.getElem_cons_zero, List.getElem_cons_succ])); (refine wpAnyH_take (i := 4) (v := ?_) rfl (by kernel_rfl) (by kernel_rfl) (by kernel_rfl) (fun _ _ _ h => h) (Or.inl ⟨by rfl, ?_⟩) hHeld ?_; rotate_left; (focus (intro w hSw; (try dsimp only at hSw); go_simp; try with_reducible rfl)); (try simp only [Act.put, List.setIfInBounds_toArray, List.set_cons_zero, List.set_cons_succ, List.getElem_toArray, List.getElem_cons_zero, List.getElem_cons_succ])); (refine wpAnyH_take (i := 5) (v := ?_) rfl (by kernel_rfl) (by kernel_rfl) (by kernel_rfl) (fun _ _ _ h => h) (Or.inl ⟨by rfl, ?_⟩) hHeld ?_; rotate_left; (focus (intro w hSw; (try dsimp only at hSw); go_simp; try with_reducible rfl)); (try simp only [Act.put, List.setIfInBounds_toArray, List.set_cons_zero, List.set_cons_succ, List.getElem_toArray, List.getElem_cons_zero, List.getElem_cons_succ])); (refine wpAnyH_take (i := 7) (v := ?_) rfl (by kernel_rfl) (by kernel_rfl) (by kernel_rfl) (fun _ _ _ h => h) (Or.inl ⟨by rfl, ?_⟩) hHeld ?_; rotate_left; (focus (intro w hSw; (try dsimp only at hSw); go_simp; try with_reducible rfl)); (try simp only [Act.put, List.setIfInBounds_toArray, List.set_cons_zero, List.set_cons_succ, List.getElem_toArray, List.getElem_cons_zero, List.getElem_cons_succ])); (refine wpAnyH_take (i := 8) (v := ?_) rfl (by kernel_rfl) (by kernel_rfl) (by kernel_rfl) (fun _ _ _ h => h) (Or.inl ⟨by rfl, ?_⟩) hHeld ?_; rotate_left; (focus (intro w hSw; (try dsimp only at hSw); go_simp; try with_reducible rfl)); (try simp only [Act.put, List.setIfInBounds_toArray, List.set_cons_zero, List.set_cons_succ, List.getElem_toArray, List.getElem_cons_zero, List.getElem_cons_succ]))
            (refine wpAnyH_take (i := 6) (v := ?_) rfl (by kernel_rfl) (by kernel_rfl) (by kernel_rfl) (fun _ _ _ h => h) (Or.inl ⟨by rfl, ?_⟩) hHeld ?_; rotate_left; (focus (intro w hSw; (try dsimp only at hSw); go_simp; (have h0 := HQ.out.1; have h1 := HQ.out.2.1; go_simp; try with_reducible rfl))); (try simp only [Act.put, List.setIfInBounds_toArray, List.set_cons_zero, List.set_cons_succ, List.getElem_toArray, List.getElem_cons_zero, List.getElem_cons_succ]))
            (refine wpAnyH_take (i := 9) (v := ?_) rfl (by kernel_rfl) (by kernel_rfl) (by kernel_rfl) (fun _ _ _ h => h) (Or.inl ⟨by rfl, ?_⟩) hHeld ?_; rotate_left; (focus (intro w hSw; (try dsimp only at hSw); go_simp; (have h0 := HQ.out.1; have h1 := HQ.out.2.2; go_simp; try with_reducible rfl))); (try simp only [Act.put, List.setIfInBounds_toArray, List.set_cons_zero, List.set_cons_succ, List.getElem_toArray, List.getElem_cons_zero, List.getElem_cons_succ]))
            (refine wpAnyH_take (i := 10) (v := ?_) rfl (by kernel_rfl) (by kernel_rfl) (by kernel_rfl) (fun _ _ _ h => h) (Or.inl ⟨by rfl, ?_⟩) hHeld ?_; rotate_left; (focus (intro w hSw; (try dsimp only at hSw); go_simp; try with_reducible rfl)); (try simp only [Act.put, List.setIfInBounds_toArray, List.set_cons_zero, List.set_cons_succ, List.getElem_toArray, List.getElem_cons_zero, List.getElem_cons_succ]))
            (refine wpAnyH_ready (rs := [11]) (by kernel_rfl) (by simp) ?_; refine AllReadyH.cons rfl (fun K hK => ?_) AllReadyH.nil; go_simp; skip; refine hK.out _ _ ?_ (fun hHeldN => ?_); (focus ((try dsimp only); (exact Chg.set hHeld (by simp) _ _))); clear hK K hHeld; have hHeld := hHeldN; clear hHeldN; (try simp only [Act.put, List.setIfInBounds_toArray, List.set_cons_zero, List.set_cons_succ, List.getElem_toArray, List.getElem_cons_zero, List.getElem_cons_succ]))
            (refine wpAnyH_take (i := 12) (v := ?_) rfl (by kernel_rfl) (by kernel_rfl) (by kernel_rfl) (fun _ _ _ h => h) (Or.inl ⟨by rfl, ?_⟩) hHeld ?_; rotate_left; (focus (intro w hSw; (try dsimp only at hSw); go_simp; try with_reducible rfl)); (try simp only [Act.put, List.setIfInBounds_toArray, List.set_cons_zero, List.set_cons_succ, List.getElem_toArray, List.getElem_cons_zero, List.getElem_cons_succ]))
            have d9 : (wD.setCell ⟨g7, k, none⟩ (.int .i64 (bk : Int))).cell? ⟨g8, k, none⟩ = some (.int .i64 (((uptoS (rstS W) k).getD k 0 : Nat) : Int)) := ib_at (BlkAt.other HID.out.2 (fun e => H2.out.2.2.1 e.symm) _ _) (j := k) (by rw [upto_len (by rw [HBS.out.2.1]; omega), HBS.out.2.1]; exact hlt)
            have f9 : ∀ j, (wD.setCell ⟨g7, k, none⟩ (.int .i64 (bk : Int))).frozen? ⟨g8, j, none⟩ = false := fun j => BlkAt.frozen (BlkAt.other HID.out.2 (fun e => H2.out.2.2.1 e.symm) _ _) j
            (refine wpAnyH_ready (rs := [13]) (by kernel_rfl) (by simp) ?_; refine AllReadyH.cons rfl (fun K hK => ?_) AllReadyH.nil; go_simp; skip; refine hK.out _ _ ?_ (fun hHeldN => ?_); (focus ((try dsimp only); (exact Chg.set hHeld (by simp) _ _))); clear hK K hHeld; have hHeld := hHeldN; clear hHeldN; (try simp only [Act.put, List.setIfInBounds_toArray, List.set_cons_zero, List.set_cons_succ, List.getElem_toArray, List.getElem_cons_zero, List.getElem_cons_succ]))
            refine wpAnyH_done (by kernel_rfl) ?_ _
            obtain ⟨wE, hwE⟩ : ∃ wE, wE = (wD.setCell ⟨g7, k, none⟩ (.int .i64 (bk : Int))).setCell ⟨g8, k, none⟩ (.int .i64 (rk' : Int)) := ⟨_, rfl⟩
            rw [← hwE]
            have hI7 : IB g7 (zil (uptoS (bseS W) (k + 1))) wE := by
              rw [hwE]
              have h1 := ib_set HID.out.1 k bk
              have h2 := upto_set (B := bseS W) (k := k) (by rw [HBS.out.1]; exact hlt)
              rw [← HBK.out] at h2
              rw [h2] at h1
              exact BlkAt.other h1 H2.out.2.2.1 _ _
            have hI8 : IB g8 (zil (uptoS (rstS W) (k + 1))) wE := by
              rw [hwE]
              have h1 := ib_set (BlkAt.other HID.out.2 (fun e => H2.out.2.2.1 e.symm) k (.int .i64 (bk : Int))) k rk'
              have h2 := upto_set (B := rstS W) (k := k) (by rw [HBS.out.2.1]; exact hlt)
              rw [← HRK.out] at h2
              rw [h2] at h1
              exact h1
            have HBE : Hid (Below w.heap.size w wE) := by
              show Below _ _ _
              rw [hwE]
              exact (HWD.out.setCell H2.out.2.2.2.1 _).setCell H2.out.2.2.2.2.1 _
            have e7 : wE.cell? ⟨g7, k, none⟩ = some (.int .i64 (bk : Int)) := by
              have h1 := ib_at hI7 (j := k) (by rw [upto_len (by rw [HBS.out.1]; omega), HBS.out.1]; exact hlt)
              rw [h1, upto_get (Nat.lt_succ_self k) (by rw [HBS.out.1]; omega), ← HBK.out]
            have HIE : Hid (IB g7 (zil (uptoS (bseS W) (k + 1))) wE ∧ IB g8 (zil (uptoS (rstS W) (k + 1))) wE) := ⟨hI7, hI8⟩
            clear hwE hI7 hI8 d7 d8 d9 f7 f9 hHeld
            go_wp2_with fail
            go_roundw
            case rel => exact ⟨k + 1, by omega, by rw [HS1.out]; go_num, by go_num, HIE.out, HBE.out⟩
            case measure => simp [intOf]; omega
          · obtain rfl : k = i := by omega
            have hsum : ((bseS W).take k) = bseS W := List.take_of_length_le (by rw [HBS.out.1]; exact Nat.le_refl _)
            have hrl : k = (rstS W).length := HBS.out.2.1.symm
            have HI7 : Hid (IB g7 (zil (bseS W)) wr) := by
              have h1 := HI.out.1
              have h2 := upto_all (bseS W)
              rw [HBS.out.1] at h2
              rw [h2] at h1
              exact h1
            have HI8 : Hid (IB g8 (zil (rstS W)) wr) := by
              have h1 := HI.out.2
              have h2 := upto_all (rstS W)
              rw [HBS.out.2.1] at h2
              rw [h2] at h1
              exact h1
            have HGT := Lib.hid (greatestL (w := wr) hrl (by have := HW.out; omega) (by omega) HI8.out)
            obtain ⟨L, hL⟩ : ∃ L, L = left W := ⟨_, rfl⟩
            have hL2 : (256 : Int) - (((bseS W).sum : Nat) : Int) = (L : Int) := by
              rw [hL]
              have := HBS.out.2.2.1
              unfold left
              omega
            have hL3 : (L : Int) ≤ k := by
              have := HBS.out.2.2.2
              rw [hL]; omega
            have HLL := Lib.hid hL
            rw [hsum, hL2]
            clear hsum hrl hL hL2
            go_wp2_with fail
            refine HGT.out.mono ?_
            rintro e w3 ⟨g2', P, rfl, hp0, hp1, hp2, hp3, hp4⟩
            have hgl : g7 < wr.heap.size := BlkAt.lt HI7.out
            have HP : Hid (P.Perm (List.range k) ∧ P.Pairwise (fun i j => Sp.lt (rstS W) i j = true) ∧ P.Nodup ∧ P.length = k) := ⟨hp1, hp2, hp1.nodup_iff.2 List.nodup_range, by rw [hp1.length_eq, List.length_range]⟩
            have H3 : Hid (IB g7 (zil (bseS W)) w3 ∧ IB g2' (zil P) w3 ∧ g7 ≠ g2' ∧ Below w.heap.size w w3) := ⟨HI7.out.later hp4, hp3, by omega, below_of HBR.out hp4⟩
            clear hp0 hp1 hp2 hp3 hp4 hgl HGT
            go_wp2_with fail
            go_loopw [69] (fun x wr => ∃ j : Nat, j ≤ L ∧ x = .int .i64 j ∧ Hid (IB g7 (zil (given W P j)) wr) ∧ Hid (Chg [g7] w3 wr)) (fun x _ => L - (intOf x).toNat)
            case atStart =>
              refine ⟨0, Nat.zero_le _, rfl, ?_, Chg.refl _ _⟩
              rw [given_zero]
              exact H3.out.1
            case round =>
              obtain ⟨j, hj, rfl, HIJ, HCJ⟩ := hrel
              rcases Nat.lt_or_ge j L with hlt | hge3
              · have g4 : (j : Int) < L := by omega
                obtain ⟨p, hp⟩ : ∃ p, P[j]? = some p := ⟨P[j]'(by have := HP.out.2.2.2; omega), List.getElem?_eq_getElem _⟩
                have hpk : p < k := List.mem_range.1 (HP.out.1.mem_iff.1 (List.mem_of_getElem? hp))
                have hpW : p < W.length := by have := HW.out.2.1; omega
                have hI2 := HCJ.out.blk H3.out.2.1 (by simp; exact fun e => H3.out.2.2.1 e.symm)
                have c0 : wr.cell? ⟨g2', j, none⟩ = some (.int .i64 (p : Int)) := by
                  refine BlkAt.cell hI2 (iv_at2 ?_)
                  unfold zil
                  rw [List.getElem?_map, hp]
                  rfl
                have c1 := ib_at HIJ.out (j := p) (by rw [given_len]; exact hpW)
                have f1 : ∀ j, wr.frozen? ⟨g7, j, none⟩ = false := fun j => BlkAt.frozen HIJ.out j
                obtain ⟨gv, hgv⟩ : ∃ gv, gv = (given W P j).getD p 0 := ⟨_, rfl⟩
                rw [← hgv] at c1
                have hgb : gv ≤ 257 := by
                  rw [hgv, given_at hpW]
                  have h1 := sum_le (V := bseS W) (i := p) (by rw [base_len]; exact hpW)
                  have h2 := HBS.out.2.2.1
                  split <;> omega
                have g5 : (p : Int) < k := by omega
                have g6 : (gv : Int) ≤ 257 := by omega
                have HS : Hid ((given W P j).set p (gv + 1) = given W P (j + 1)) := by
                  show _ = _
                  rw [hgv]
                  exact given_set HP.out.2.2.1 hp hpW
                clear hp hpk hpW hI2 hgv hgb
                go_wp2_with fail
                go_roundw
                case rel =>
                  refine ⟨j + 1, by omega, by go_num, ?_, HCJ.out.set (by simp) _ _⟩
                  have h1 := ib_set HIJ.out p (gv + 1)
                  rw [HS.out] at h1
                  exact h1
                case measure => simp [intOf]; omega
              · obtain rfl : j = L := by omega
                go_wp2_with fail
                go_ret2
                have h1 := HIJ.out
                rw [HLL.out, given_all (by rw [HBS.out.2.1]; exact HP.out.1) HP.out.2.1] at h1
                exact ⟨g7, rfl, H2.out.2.2.2.1, h1, H3.out.2.2.2.trans (HCJ.out.below H3.out.2.2.2.size (fun b hb => by simp at hb; rw [hb]; exact H2.out.2.2.2.1))⟩
end Go.Proofs.Ytdjhgahdiggahaa
