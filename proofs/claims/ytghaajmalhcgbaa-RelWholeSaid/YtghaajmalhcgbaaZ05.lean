/- Two ends, plainly: four hundred rounds are enough.
   Two ends, plainly: where all that is told comes, round by round, all is taken and acknowledged.
   Two ends, and what flies between them, plainly: what holds behind each act.
   What goes out, plainly: numbers one behind the other, within the window.
   The walks of Tick and Due. -/
import Derived.Test.YtghaajmalhcgbaaZ01
import Derived.Test.YtghaajmalhcgbaaZ04

set_option linter.unusedSimpArgs false
set_option linter.unusedVariables false
namespace Go.Proofs.Ytghaajmalhcgbaa
open Go.RowKit
attribute [local go_sem ↓] Go.wp_at_zero Go.wp_at_succ

theorem TlA.nil {p g : Nat} {X : List Nat} {s : Sm} {w w' : World} (h : PSm p g X s w') (hc : Chg [p] w w') : TlA p g X s [] w (.returned (.slice none 0 0)) w' := ⟨_, [], rfl, rfl, OwnS.nil _ _, fun x hx => by simp at hx, h, hc⟩
set_option maxHeartbeats 4000000 in
set_option maxRecDepth 100000 in
theorem tickC {p g : Nat} {X : List Nat} {s : Sm} {w : World} {N : Nat} (h : PSm p g X s w) (ok : s.Ok N) (hX : ∀ k ∈ X, k < w.heap.size) :
    Calls Try.prog 32 #[.pointer (some ⟨p, 0, none⟩)] w (TlA p g X (tickM s) (tickL s) w) := by
  have HNO := Lib.hid (noneM (h.smB ok.ag1))
  have HP := Lib.hid h
  obtain ⟨v, hb, hln⟩ := h
  obtain ⟨T, hT⟩ : ∃ T : Int, T = s.told := ⟨_, rfl⟩
  obtain ⟨I, hI⟩ : ∃ I : Int, I = s.ti := ⟨_, rfl⟩
  obtain ⟨G, hG⟩ : ∃ G : Int, G = s.ag := ⟨_, rfl⟩
  have c2 : w.cell? ⟨p, 2, none⟩ = some (.int .i64 T) := by rw [hT]; exact BlkAt.cell hb (j := 2) rfl
  have c3 : w.cell? ⟨p, 3, none⟩ = some (.int .i64 I) := by rw [hI]; exact BlkAt.cell hb (j := 3) rfl
  have hfz : ∀ j, w.frozen? ⟨p, j, none⟩ = false := fun j => hb.frozen j
  have hti := ok.ti1
  have hti2 := ok.ti2
  have e1 : wrap64 (I + 1) = I + 1 := IntWalk.wrap64_in _ ⟨by omega, by omega⟩
  have HTL := Lib.hid ok.tl
  have HX := Lib.hid hX
  by_cases h0 : s.told = 0
  · have k0 : (T == 0) = true := by rw [beq_iff_eq]; omega
    have e9 : tickM s = s ∧ tickL s = [] := ⟨by unfold tickM; rw [if_pos h0], by unfold tickL; rw [if_pos h0]⟩
    rw [e9.1, e9.2]
    clear e9 h0 hb hln hT hI hG hti hti2 ok hX c3
    go_enter Try.func32, Try.ntmps32
    go_wp2_with fail
    refine HNO.out.mono ?_
    rintro e w1 ⟨rfl, rfl⟩
    go_wp2_with fail
    go_ret
    exact TlA.nil HP.out (Chg.refl _ _)
  · have k0 : (T == 0) = false := by rw [beq_eq_false_iff_ne]; omega
    obtain ⟨w2, hw2⟩ : ∃ w2, w2 = w.setCell ⟨p, 3, none⟩ (.int .i64 (I + 1)) := ⟨_, rfl⟩
    have hq : Chg [p] w w2 := by rw [hw2]; exact (Chg.refl _ _).set (by simp) _ _
    have hb2 : BlkAt 137 p (pcs v { s with ti := s.ti + 1 }) w2 := by rw [hw2, hI]; exact BlkAt.set hb 3 _
    have hnb := noB_blk hb (by decide)
    have HP2 : Hid (PSm p g X { s with ti := s.ti + 1 } w2) := ⟨v, hb2, hln.chg hq (fun h => by simpa using h) (fun j hj => by simp at hj; subst hj; exact .inl hnb)⟩
    have HCE : Hid (∀ W, Below w2.heap.size w2 W → W.cell? ⟨p, 3, none⟩ = some (.int .i64 (I + 1)) ∧ W.cell? ⟨p, 0, none⟩ = some (.int .i64 G)) := by
      have : ∀ W, Below w2.heap.size w2 W → W.cell? ⟨p, 3, none⟩ = some (.int .i64 (I + 1)) ∧ W.cell? ⟨p, 0, none⟩ = some (.int .i64 G) := fun W hW => by
        rw [hI, hG]; exact ⟨BlkAt.cell (hb2.later hW) (j := 3) rfl, BlkAt.cell (hb2.later hW) (j := 0) rfl⟩
      exact this
    have HC2 := Lib.hid hq
    have HW2 := Lib.hid hw2
    by_cases h1 : s.ti + 1 < s.ag
    · have k1 : decide (I + 1 < G) = true := by simp; omega
      have e9 : tickM s = { s with ti := s.ti + 1 } ∧ tickL s = [] := ⟨by unfold tickM; rw [if_neg h0, if_pos h1], by unfold tickL; rw [if_neg h0, if_pos h1]⟩
      rw [e9.1, e9.2]
      clear e9 h0 h1 hb hln hT hI hG hti hti2 ok hX hw2 hq hb2 hnb
      go_enter Try.func32, Try.ntmps32
      go_wp2_with fail
      refine HNO.out.mono ?_
      rintro e w1 ⟨rfl, rfl⟩
      go_wp2_with fail
      rw [← HW2.out]
      clear c2 c3 hfz e1
      (refine wp_region_held_drew (S := (fun w' => Below w2.heap.size w2 w')) (by kernel_rfl) ?_ (fun hHeld => ?_); (focus ((try dsimp only); (exact (Below.refl _ _).drew))))
      (try dsimp only at hHeld)
      (refine wpAnyH_take (i := 0) (v := ?_) rfl (by kernel_rfl) (by kernel_rfl) (by kernel_rfl) (fun _ _ _ h => h) (Or.inl ⟨by rfl, ?_⟩) hHeld ?_; rotate_left; (focus (intro w hSw; (try dsimp only at hSw); go_simp; try with_reducible rfl)); (try simp only [Act.put, List.setIfInBounds_toArray, List.set_cons_zero, List.set_cons_succ, List.getElem_toArray, List.getElem_cons_zero])); (refine wpAnyH_take (i := 1) (v := ?_) rfl (by kernel_rfl) (by kernel_rfl) (by kernel_rfl) (fun _ _ _ h => h) (Or.inl ⟨by rfl, ?_⟩) hHeld ?_; rotate_left; (focus (intro w hSw; (try dsimp only at hSw); go_simp; try with_reducible rfl)); (try simp only [Act.put, List.setIfInBounds_toArray, List.set_cons_zero, List.set_cons_succ, List.getElem_toArray, List.getElem_cons_zero, List.getElem_cons_succ])); (refine wpAnyH_take (i := 2) (v := ?_) rfl (by kernel_rfl) (by kernel_rfl) (by kernel_rfl) (fun _ _ _ h => h) (Or.inl ⟨by rfl, ?_⟩) hHeld ?_; rotate_left; (focus (intro w hSw; (try dsimp only at hSw); go_simp; try with_reducible rfl)); (try simp only [Act.put, List.setIfInBounds_toArray, List.set_cons_zero, List.set_cons_succ, List.getElem_toArray, List.getElem_cons_zero, List.getElem_cons_succ]))
      (refine wpAnyH_take (i := 3) (v := ?_) rfl (by kernel_rfl) (by kernel_rfl) (by kernel_rfl) (fun _ _ _ h => h) (Or.inl ⟨by rfl, ?_⟩) hHeld ?_; rotate_left; (focus (intro w hSw; (try dsimp only at hSw); go_simp; (have c0 := (HCE.out _ hSw).1; go_simp; try with_reducible rfl))); (try simp only [Act.put, List.setIfInBounds_toArray, List.set_cons_zero, List.set_cons_succ, List.getElem_toArray, List.getElem_cons_zero, List.getElem_cons_succ]))
      (refine wpAnyH_take (i := 4) (v := ?_) rfl (by kernel_rfl) (by kernel_rfl) (by kernel_rfl) (fun _ _ _ h => h) (Or.inl ⟨by rfl, ?_⟩) hHeld ?_; rotate_left; (focus (intro w hSw; (try dsimp only at hSw); go_simp; try with_reducible rfl)); (try simp only [Act.put, List.setIfInBounds_toArray, List.set_cons_zero, List.set_cons_succ, List.getElem_toArray, List.getElem_cons_zero, List.getElem_cons_succ])); (refine wpAnyH_take (i := 5) (v := ?_) rfl (by kernel_rfl) (by kernel_rfl) (by kernel_rfl) (fun _ _ _ h => h) (Or.inl ⟨by rfl, ?_⟩) hHeld ?_; rotate_left; (focus (intro w hSw; (try dsimp only at hSw); go_simp; try with_reducible rfl)); (try simp only [Act.put, List.setIfInBounds_toArray, List.set_cons_zero, List.set_cons_succ, List.getElem_toArray, List.getElem_cons_zero, List.getElem_cons_succ])); (refine wpAnyH_take (i := 6) (v := ?_) rfl (by kernel_rfl) (by kernel_rfl) (by kernel_rfl) (fun _ _ _ h => h) (Or.inl ⟨by rfl, ?_⟩) hHeld ?_; rotate_left; (focus (intro w hSw; (try dsimp only at hSw); go_simp; try with_reducible rfl)); (try simp only [Act.put, List.setIfInBounds_toArray, List.set_cons_zero, List.set_cons_succ, List.getElem_toArray, List.getElem_cons_zero, List.getElem_cons_succ]))
      (refine wpAnyH_take (i := 7) (v := ?_) rfl (by kernel_rfl) (by kernel_rfl) (by kernel_rfl) (fun _ _ _ h => h) (Or.inl ⟨by rfl, ?_⟩) hHeld ?_; rotate_left; (focus (intro w hSw; (try dsimp only at hSw); go_simp; (have c0 := (HCE.out _ hSw).2; go_simp; try with_reducible rfl))); (try simp only [Act.put, List.setIfInBounds_toArray, List.set_cons_zero, List.set_cons_succ, List.getElem_toArray, List.getElem_cons_zero, List.getElem_cons_succ]))
      (refine wpAnyH_take (i := 8) (v := ?_) rfl (by kernel_rfl) (by kernel_rfl) (by kernel_rfl) (fun _ _ _ h => h) (Or.inl ⟨by rfl, ?_⟩) hHeld ?_; rotate_left; (focus (intro w hSw; (try dsimp only at hSw); go_simp; try with_reducible rfl)); (try simp only [Act.put, List.setIfInBounds_toArray, List.set_cons_zero, List.set_cons_succ, List.getElem_toArray, List.getElem_cons_zero, List.getElem_cons_succ]))
      refine wpAnyH_done (by kernel_rfl) ?_ _
      go_wp2_with fail
      go_ret
      exact TlA.nil (HP2.out.later hHeld) (HC2.out.trans (Chg.of_below _ hHeld))
    · have k1 : decide (I + 1 < G) = false := by simp; omega
      have e9 : tickM s = tellM s ∧ tickL s = segL s.ac s.tk (s.line.take s.told) := ⟨by unfold tickM; rw [if_neg h0, if_neg h1], by unfold tickL; rw [if_neg h0, if_neg h1]⟩
      rw [e9.1, e9.2]
      clear e9 h0 h1 hb hln hT hI hG hti hti2 ok hX hw2 hq hb2 hnb
      go_enter Try.func32, Try.ntmps32
      go_wp2_with fail
      refine HNO.out.mono ?_
      rintro e w1 ⟨rfl, rfl⟩
      go_wp2_with fail
      rw [← HW2.out]
      clear c2 c3 hfz e1
      (refine wp_region_held_drew (S := (fun w' => Below w2.heap.size w2 w')) (by kernel_rfl) ?_ (fun hHeld => ?_); (focus ((try dsimp only); (exact (Below.refl _ _).drew))))
      (try dsimp only at hHeld)
      (refine wpAnyH_take (i := 0) (v := ?_) rfl (by kernel_rfl) (by kernel_rfl) (by kernel_rfl) (fun _ _ _ h => h) (Or.inl ⟨by rfl, ?_⟩) hHeld ?_; rotate_left; (focus (intro w hSw; (try dsimp only at hSw); go_simp; try with_reducible rfl)); (try simp only [Act.put, List.setIfInBounds_toArray, List.set_cons_zero, List.set_cons_succ, List.getElem_toArray, List.getElem_cons_zero])); (refine wpAnyH_take (i := 1) (v := ?_) rfl (by kernel_rfl) (by kernel_rfl) (by kernel_rfl) (fun _ _ _ h => h) (Or.inl ⟨by rfl, ?_⟩) hHeld ?_; rotate_left; (focus (intro w hSw; (try dsimp only at hSw); go_simp; try with_reducible rfl)); (try simp only [Act.put, List.setIfInBounds_toArray, List.set_cons_zero, List.set_cons_succ, List.getElem_toArray, List.getElem_cons_zero, List.getElem_cons_succ])); (refine wpAnyH_take (i := 2) (v := ?_) rfl (by kernel_rfl) (by kernel_rfl) (by kernel_rfl) (fun _ _ _ h => h) (Or.inl ⟨by rfl, ?_⟩) hHeld ?_; rotate_left; (focus (intro w hSw; (try dsimp only at hSw); go_simp; try with_reducible rfl)); (try simp only [Act.put, List.setIfInBounds_toArray, List.set_cons_zero, List.set_cons_succ, List.getElem_toArray, List.getElem_cons_zero, List.getElem_cons_succ]))
      (refine wpAnyH_take (i := 3) (v := ?_) rfl (by kernel_rfl) (by kernel_rfl) (by kernel_rfl) (fun _ _ _ h => h) (Or.inl ⟨by rfl, ?_⟩) hHeld ?_; rotate_left; (focus (intro w hSw; (try dsimp only at hSw); go_simp; (have c0 := (HCE.out _ hSw).1; go_simp; try with_reducible rfl))); (try simp only [Act.put, List.setIfInBounds_toArray, List.set_cons_zero, List.set_cons_succ, List.getElem_toArray, List.getElem_cons_zero, List.getElem_cons_succ]))
      (refine wpAnyH_take (i := 4) (v := ?_) rfl (by kernel_rfl) (by kernel_rfl) (by kernel_rfl) (fun _ _ _ h => h) (Or.inl ⟨by rfl, ?_⟩) hHeld ?_; rotate_left; (focus (intro w hSw; (try dsimp only at hSw); go_simp; try with_reducible rfl)); (try simp only [Act.put, List.setIfInBounds_toArray, List.set_cons_zero, List.set_cons_succ, List.getElem_toArray, List.getElem_cons_zero, List.getElem_cons_succ])); (refine wpAnyH_take (i := 5) (v := ?_) rfl (by kernel_rfl) (by kernel_rfl) (by kernel_rfl) (fun _ _ _ h => h) (Or.inl ⟨by rfl, ?_⟩) hHeld ?_; rotate_left; (focus (intro w hSw; (try dsimp only at hSw); go_simp; try with_reducible rfl)); (try simp only [Act.put, List.setIfInBounds_toArray, List.set_cons_zero, List.set_cons_succ, List.getElem_toArray, List.getElem_cons_zero, List.getElem_cons_succ])); (refine wpAnyH_take (i := 6) (v := ?_) rfl (by kernel_rfl) (by kernel_rfl) (by kernel_rfl) (fun _ _ _ h => h) (Or.inl ⟨by rfl, ?_⟩) hHeld ?_; rotate_left; (focus (intro w hSw; (try dsimp only at hSw); go_simp; try with_reducible rfl)); (try simp only [Act.put, List.setIfInBounds_toArray, List.set_cons_zero, List.set_cons_succ, List.getElem_toArray, List.getElem_cons_zero, List.getElem_cons_succ]))
      (refine wpAnyH_take (i := 7) (v := ?_) rfl (by kernel_rfl) (by kernel_rfl) (by kernel_rfl) (fun _ _ _ h => h) (Or.inl ⟨by rfl, ?_⟩) hHeld ?_; rotate_left; (focus (intro w hSw; (try dsimp only at hSw); go_simp; (have c0 := (HCE.out _ hSw).2; go_simp; try with_reducible rfl))); (try simp only [Act.put, List.setIfInBounds_toArray, List.set_cons_zero, List.set_cons_succ, List.getElem_toArray, List.getElem_cons_zero, List.getElem_cons_succ]))
      (refine wpAnyH_take (i := 8) (v := ?_) rfl (by kernel_rfl) (by kernel_rfl) (by kernel_rfl) (fun _ _ _ h => h) (Or.inl ⟨by rfl, ?_⟩) hHeld ?_; rotate_left; (focus (intro w hSw; (try dsimp only at hSw); go_simp; try with_reducible rfl)); (try simp only [Act.put, List.setIfInBounds_toArray, List.set_cons_zero, List.set_cons_succ, List.getElem_toArray, List.getElem_cons_zero, List.getElem_cons_succ]))
      refine wpAnyH_done (by kernel_rfl) ?_ _
      have HC3 : Hid (Chg [p] w w2.drew) := HC2.out.trans (Chg.of_below _ hHeld)
      have HTE := Lib.hid (tellC (s := { s with ti := s.ti + 1 }) (HP2.out.later hHeld) ⟨HTL.out.t1, HTL.out.t8, HTL.out.few, HTL.out.tkN, HTL.out.len⟩ (fun k hk => Nat.lt_of_lt_of_le (HX.out k hk) HC3.out.size) 0 (Nat.zero_le _))
      clear hHeld
      go_wp2_with fail
      refine HTE.out.mono ?_
      rintro e w3 ⟨u, M, rfl, h1, h2, h3, h4, h5⟩
      have HR : Hid (TlA p g X (tellM s) (segL s.ac s.tk (s.line.take s.told)) w (.returned u) w3) := ⟨u, M, rfl, h1, h2.weak HC3.out.size, h3, h4, HC3.out.trans h5⟩
      clear h1 h2 h3 h4 h5
      go_wp2_with fail
      go_ret
      exact HR.out
set_option maxHeartbeats 4000000 in
set_option maxRecDepth 100000 in
theorem dueC {p g : Nat} {X : List Nat} {s : Sm} {w : World} {N : Nat} (h : PSm p g X s w) (ok : s.Ok N) (hX : ∀ k ∈ X, k < w.heap.size) :
    Calls Try.prog 30 #[.pointer (some ⟨p, 0, none⟩)] w (TlA p g X (dueM s) (dueL s) w) := by
  have HNO := Lib.hid (noneM (h.smB ok.ag1))
  have HOK := Lib.hid ok
  obtain ⟨v, hb, hln⟩ := h
  obtain ⟨va, vc, rfl⟩ := hln.form
  obtain ⟨f, hf⟩ : ∃ f, f = s.told := ⟨_, rfl⟩
  obtain ⟨u, hu⟩ : ∃ u, u = upM s := ⟨_, rfl⟩
  obtain ⟨n, hn⟩ : ∃ n, n = s.line.length := ⟨_, rfl⟩
  have hup := up_told ok
  have hn2 := ok.few
  have hn3 := ok.NN
  have hmin : (if (8 : Int) < (n : Int) then (8 : Int) else (n : Int)) = u := by rw [hu, hn]; unfold upM; split <;> omega
  have hul : u ≤ n ∧ u ≤ 8 := by rw [hu, hn]; unfold upM; omega
  have hq : Chg [p] w (w.setCell ⟨p, 2, none⟩ (.int .i64 (u : Int))) := (Chg.refl _ _).set (by simp) _ _
  have hnb := noB_blk hb (by decide)
  obtain ⟨s1, hs1⟩ : ∃ s1 : Sm, s1 = { s with told := u } := ⟨_, rfl⟩
  have hP1 : PSm p g X s1 (w.setCell ⟨p, 2, none⟩ (.int .i64 (u : Int))) := by
    rw [hs1]; exact ⟨_, hb.set 2 _, hln.chg hq (fun h => by simpa using h) (fun j hj => by simp at hj; subst hj; exact .inl hnb)⟩
  have c1 := BlkAt.cell hb (j := 1) rfl
  have c2 : w.cell? ⟨p, 2, none⟩ = some (.int .i64 (f : Int)) := by rw [hf]; exact BlkAt.cell hb (j := 2) rfl
  have c6 := BlkAt.cell hb (j := 6) rfl
  rw [← hn] at c1
  have hfz : ∀ j, w.frozen? ⟨p, j, none⟩ = false := fun j => hb.frozen j
  have HX : Hid (∀ k ∈ X, k < (w.setCell ⟨p, 2, none⟩ (.int .i64 (u : Int))).heap.size) := fun k hk => by simpa using hX k hk
  have HC1 := Lib.hid hq
  have HP1 := Lib.hid hP1
  by_cases h0 : f < u
  · have e9 : dueM s = tellM s1 ∧ dueL s = segL (s1.ac + f) s1.tk ((s1.line.take s1.told).drop f) := by
      have : s.told < upM s := by omega
      constructor
      · unfold dueM; rw [if_pos this, hs1, hu]
      · unfold dueL; rw [if_pos this, hs1, hu, hf]
    have HTE := Lib.hid (tellC hP1 (by rw [hs1]; exact ⟨by simp; omega, by simp; omega, by simp; omega, by have := ok.tkN; simp; omega, ok.len⟩) HX.out f (by rw [hs1]; simp; omega))
    rw [e9.1, e9.2]
    have k1 : decide (f < u) = true := by simp; omega
    clear e9 hb hln hf hu hn hup hn2 hn3 hul hq hnb hP1 hs1 ok hX h0 c6
    go_enter Try.func30, Try.ntmps30
    go_wp2_with fail
    refine HNO.out.mono ?_
    rintro e w1 ⟨rfl, rfl⟩
    go_wp2_with fail
    refine HTE.out.mono ?_
    rintro e w3 ⟨u, M, rfl, h1, h2, h3, h4, h5⟩
    have HR : Hid (TlA p g X (tellM s1) (segL (s1.ac + f) s1.tk ((s1.line.take s1.told).drop f)) w (.returned u) w3) := ⟨u, M, rfl, h1, h2.weak HC1.out.size, h3, h4, HC1.out.trans h5⟩
    clear h1 h2 h3 h4 h5
    go_wp2_with fail
    go_ret
    exact HR.out
  · have hfu : f = u := by omega
    have es : s1 = s := by rw [hs1, ← hfu, hf]
    rw [es] at hP1 HP1
    have k1 : decide (f < u) = false := by simp; omega
    have hno : ¬ s.told < upM s := by omega
    have e1 : dueM s = offM s := by unfold dueM offM; rw [if_neg hno]
    cases how : s.ow with
    | false =>
      have e9 : dueM s = s ∧ dueL s = [] := ⟨by rw [e1]; unfold offM; rw [← how], by unfold dueL; rw [if_neg hno, how]; simp⟩
      rw [e9.1, e9.2]
      have c7 : w.cell? ⟨p, 6, none⟩ = some (.bool false) := by rw [← how]; exact c6
      clear c6
      have hnn := k1
      clear e9 e1 hb hln hf hu hn hup hn2 hn3 hul hq hnb hP1 hs1 ok hX h0 es how hno hfu
      go_enter Try.func30, Try.ntmps30
      go_wp2_with fail
      refine HNO.out.mono ?_
      rintro e w1 ⟨rfl, rfl⟩
      go_wp2_with fail
      go_ret
      exact TlA.nil HP1.out HC1.out
    | true =>
      have e9 : dueL s = [⟨0, s.tk, []⟩] := by unfold dueL; rw [if_neg hno, how]; simp
      have HTE := Lib.hid (tellerM hP1)
      rw [e9, e1]
      have c7 : w.cell? ⟨p, 6, none⟩ = some (.bool true) := by rw [← how]; exact c6
      clear c6
      clear e9 e1 hb hln hf hu hn hup hn2 hn3 hul hq hnb hP1 hs1 ok hX h0 es how hno hfu
      go_enter Try.func30, Try.ntmps30
      go_wp2_with fail
      refine HNO.out.mono ?_
      rintro e w1 ⟨rfl, rfl⟩
      go_wp2_with fail
      refine HTE.out.mono ?_
      rintro e w2 ⟨k, rfl, hk, hkb, hP, hC⟩
      have HP2 : Hid (PSm p g X (offM s) w2) := hP
      have HC2 : Hid (Chg [p] w w2) := HC1.out.trans hC
      have HF := Lib.hid (tellF (q := 0) (u := .slice none 0 0) (l := []) hkb (Bytes.nil _ none 0 (fun _ => rfl)) (by simp))
      clear hP hC hk hkb c1 c2 c7 hfz k1 hmin
      go_wp2_with fail
      refine HF.out.mono ?_
      rintro e w3 ⟨y, rfl, ho, hs⟩
      obtain ⟨ya, yc, rfl⟩ := OwnB.form ho
      have HBY : Hid (Bod w3 X (.slice ya 0 yc) []) := Bod.own ho (fun j hj => by have h1 := HX.out j hj; have h2 := HC2.out.size; simp at h1; omega)
      have HP3 := Lib.hid (HP2.out.later hs)
      have HC3 : Hid (Chg [p] w w3) := HC2.out.trans (Chg.of_below _ hs)
      clear ho hs
      go_wp2_with fail
      go_ret
      refine ⟨_, [(⟨0, s.tk, []⟩, .slice ya 0 yc)], rfl, rfl, World.ownsRow_lit w3 _ 1 HC3.out.size (by decide) rfl, fun x hx => ?_, HP3.out.later (ba1 _ _), HC3.out.alloc _⟩
      simp at hx; subst hx
      exact HBY.out.later (ba1 _ _)
end Go.Proofs.Ytghaajmalhcgbaa

namespace Go.Proofs.Ytghaajmalhcgbaa

/-- The greatest number that went out, behind some segments more. -/
def msF : Nat → List Sg → Nat
  | ms, [] => ms
  | ms, x :: r => msF (if ms < x.q then x.q else ms) r
theorem msF_snoc (x : Sg) : ∀ (L : List Sg) (ms : Nat), msF ms (L ++ [x]) = if msF ms L < x.q then x.q else msF ms L
  | [], _ => rfl
  | y :: r, ms => by simp only [List.cons_append, msF]; exact msF_snoc x r _
theorem msF_seg (a : Nat) : ∀ (P : List (List UInt8)) (n ms : Nat), n ≤ ms → msF ms (segL n a P) = max ms (n + P.length)
  | [], n, ms, h => by simp [segL, msF]; omega
  | b :: r, n, ms, h => by
    simp only [segL, msF]
    rw [msF_seg a r (n + 1) _ (by split <;> omega)]
    simp only [List.length_cons]
    split <;> omega
theorem segL_take (a : Nat) : ∀ (P : List (List UInt8)) (n j : Nat), (segL n a P).take j = segL n a (P.take j)
  | [], _, _ => by simp [segL]
  | _ :: _, _, 0 => by simp [segL]
  | b :: r, n, j + 1 => by simp [segL, segL_take a r (n + 1) j]
theorem segL_inv (a : Nat) (P : List (List UInt8)) (n j : Nat) (x : Sg) (h : (segL n a P)[j]? = some x) : ∃ b, P[j]? = some b ∧ x = ⟨n + j + 1, a, b⟩ := by
  have hj := (List.getElem?_eq_some_iff.1 h).1
  rw [segL_len] at hj
  have := segL_get a P n j _ (List.getElem?_eq_getElem hj)
  rw [h] at this
  exact ⟨_, List.getElem?_eq_getElem hj, Option.some.inj this⟩
/-- What may go out. -/
def OutOk (s : Sm) (L : List Sg) (ms : Nat) : Prop :=
  (∃ a, L = [⟨0, a, []⟩] ∧ ms = s.ac + s.told) ∨ ∃ n P, L = segL n s.tk P ∧ s.ac ≤ n ∧ n + P.length ≤ s.ac + 8 ∧ n ≤ ms ∧ max ms (n + P.length) = s.ac + s.told
theorem out_end {s : Sm} {L : List Sg} {ms : Nat} (h : OutOk s L ms) : msF ms L = s.ac + s.told := by
  rcases h with ⟨a, rfl, h⟩ | ⟨n, P, rfl, h1, h2, h3, h4⟩
  · simp [msF, h]
  · rw [msF_seg _ _ _ _ h3, h4]
theorem out_at {s : Sm} {L : List Sg} {ms : Nat} (h : OutOk s L ms) {j : Nat} {x : Sg} (hj : L[j]? = some x) :
    (x.q = 0 → L.length = 1) ∧ (x.q ≠ 0 → s.ac < x.q ∧ x.q ≤ s.ac + 8 ∧ x.q ≤ msF ms (L.take j) + 1 ∧ x.a = s.tk ∧ ∀ y, 0 < j → L[j - 1]? = some y → x.q = y.q + 1) := by
  rcases h with ⟨a, rfl, h⟩ | ⟨n, P, rfl, h1, h2, h3, h4⟩
  · have hj0 := (List.getElem?_eq_some_iff.1 hj).1
    simp at hj0; subst hj0
    simp at hj; subst hj
    simp
  · obtain ⟨b, hb, rfl⟩ := segL_inv _ _ _ _ _ hj
    have hl := (List.getElem?_eq_some_iff.1 hb).1
    refine ⟨by simp, fun _ => ⟨by simp; omega, by simp; omega, ?_, rfl, fun y h0 hy => ?_⟩⟩
    · rw [segL_take, msF_seg _ _ _ _ h3]; simp; omega
    · obtain ⟨b', _, rfl⟩ := segL_inv _ _ _ _ _ hy
      simp; omega
theorem out_nil (s : Sm) (h8 : 0 ≤ s.told) : OutOk s [] (s.ac + s.told) := .inr ⟨s.ac, [], rfl, Nat.le_refl _, by simp, by omega, by simp⟩
theorem out_tick {s : Sm} {N : Nat} (ok : s.Ok N) : OutOk (tickM s) (tickL s) (s.ac + s.told) := by
  have h1 := ok.t1
  have h8 := ok.t8
  unfold tickM tickL
  split
  · exact out_nil s (Nat.zero_le _)
  · split
    · exact out_nil { s with ti := s.ti + 1 } (Nat.zero_le _)
    · exact .inr ⟨s.ac, _, rfl, Nat.le_refl _, by simp [tellM]; omega, by omega, by simp [tellM]; omega⟩
theorem out_due {s : Sm} {N : Nat} (ok : s.Ok N) : OutOk (dueM s) (dueL s) (s.ac + s.told) := by
  have h1 := ok.t1
  have h8 := ok.t8
  unfold dueM dueL
  split
  · rename_i hlt
    refine .inr ⟨s.ac + s.told, _, rfl, by simp [tellM], ?_, Nat.le_refl _, ?_⟩
    · unfold upM at hlt ⊢; simp [tellM]; omega
    · unfold upM at hlt ⊢; simp [tellM]; omega
  · split
    · exact .inl ⟨_, rfl, rfl⟩
    · exact out_nil { s with ow := false } (Nat.zero_le _)
theorem take_top {s : Sm} (q a : Nat) : (takeM s q a).ac + (takeM s q a).told = s.ac + s.told := by
  show (ackM s a).ac + (ackM s a).told = _
  unfold ackM
  split <;> simp <;> omega
end Go.Proofs.Ytghaajmalhcgbaa

namespace Go.Proofs.Ytghaajmalhcgbaa

/-- Both ends: their streams, what goes from each, what each sent, what each took. -/
structure Wn where
  s : Bool → Sm
  f : Bool → List Sg
  x : Bool → List UInt8
  y : Bool → List UInt8
def upB {α : Type} (h : Bool → α) (d : Bool) (v : α) : Bool → α := fun b => if b = d then v else h b
theorem upB_self {α : Type} (h : Bool → α) (d : Bool) (v : α) : upB h d v d = v := by simp [upB]
theorem upB_not {α : Type} (h : Bool → α) (d : Bool) (v : α) : upB h d v (!d) = h (!d) := by cases d <;> simp [upB]
theorem upB_not' {α : Type} (h : Bool → α) (d : Bool) (v : α) : upB h (!d) v d = h d := by cases d <;> simp [upB]
/-- The greatest number that was told. -/
def top (A : Sm) : Nat := A.ac + A.told
/-- A segment that an end may have told. -/
structure Ad (A : Sm) (X : List UInt8) (g : Sg) : Prop where
  q : g.q ≠ 0 → g.q ≤ top A ∧ ∃ c, X[g.q - 1]? = some c ∧ g.b = [c]
  b : g.b.length ≤ 1
  a : g.a ≤ A.tk
/-- From one end to the other. -/
structure Dr (A B : Sm) (X Y : List UInt8) : Prop where
  line : A.line = (X.drop A.ac).map fun c => [c]
  acx : A.ac ≤ X.length
  y : Y = X.take B.tk
  tk : B.tk ≤ top A
  ack : A.ac ≤ B.tk
structure WInv (σ : Wn) (N : Nat) : Prop where
  d : ∀ d, Dr (σ.s d) (σ.s (!d)) (σ.x d) (σ.y (!d))
  a : ∀ d, ∀ g ∈ σ.f d, Ad (σ.s d) (σ.x d) g
  o : ∀ d, (σ.s d).Ok N
  xl : ∀ d, (σ.x d).length ≤ N
theorem Dr.len {A B : Sm} {X Y : List UInt8} (h : Dr A B X Y) : A.ac + A.line.length = X.length := by
  have := h.acx
  rw [h.line]; simp; omega
theorem Dr.top_le {A B : Sm} {X Y : List UInt8} {N : Nat} (h : Dr A B X Y) (ok : A.Ok N) : top A ≤ X.length := by
  have := h.len; have := ok.t1; unfold top; omega
theorem takeM_ok' {s : Sm} {N : Nat} (h : s.Ok N) (q a : Nat) (hq : q = s.tk + 1 → s.tk + 1 ≤ N) : (takeM s q a).Ok N := by
  have h1 := ackM_ok h a
  refine ⟨h1.ag1, h1.ag2, h1.t1, h1.t8, h1.ti0, h1.ti1, h1.ti2, h1.few, ?_, h1.NN, h1.len⟩
  show (if q = s.tk + 1 then s.tk + 1 else s.tk) ≤ _
  split
  · rename_i e; exact hq e
  · exact h.tkN
theorem top_take (s : Sm) (q a : Nat) : top (takeM s q a) = top s := take_top q a
theorem take_tk (s : Sm) (q a : Nat) : (takeM s q a).tk = if q = s.tk + 1 then s.tk + 1 else s.tk := rfl
theorem tk_le (s : Sm) (q a : Nat) : s.tk ≤ (takeM s q a).tk := by rw [take_tk]; split <;> omega
theorem Ad.mono {A A' : Sm} {X : List UInt8} {g : Sg} (h : Ad A X g) (h1 : top A ≤ top A') (h2 : A.tk ≤ A'.tk) : Ad A' X g :=
  ⟨fun hq => ⟨Nat.le_trans (h.q hq).1 h1, (h.q hq).2⟩, h.b, Nat.le_trans h.a h2⟩
theorem Dr.take1 {A B : Sm} {X Y : List UInt8} (h : Dr A B X Y) {g : Sg} (hg : Ad A X g) : Dr A (takeM B g.q g.a) X (if g.q = B.tk + 1 then Y ++ g.b else Y) := by
  refine ⟨h.line, h.acx, ?_, ?_, Nat.le_trans h.ack (tk_le _ _ _)⟩
  · rw [take_tk]
    split
    · rename_i e
      obtain ⟨c, hc, hb⟩ := (hg.q (by omega)).2
      rw [e] at hc
      simp only [Nat.add_sub_cancel] at hc
      have hl := (List.getElem?_eq_some_iff.1 hc)
      obtain ⟨hl1, hl2⟩ := hl
      rw [hb, List.take_succ_eq_append_getElem hl1, hl2, h.y]
    · exact h.y
  · rw [take_tk]
    split
    · rename_i e; have := (hg.q (by omega)).1; omega
    · exact h.tk
theorem Dr.take2 {A B : Sm} {X Y : List UInt8} {N : Nat} (h : Dr B A X Y) (ok : B.Ok N) {q a : Nat} (ha : a ≤ A.tk) : Dr (takeM B q a) A X Y := by
  have hlen := h.len
  have ht := ok.t1
  have e1 : (takeM B q a).line = (ackM B a).line := rfl
  have e2 : (takeM B q a).ac = (ackM B a).ac := rfl
  refine ⟨?_, ?_, h.y, by rw [top_take]; exact h.tk, ?_⟩
  · rw [e1, e2]
    unfold ackM
    split
    · simp only
      rw [h.line, ← List.map_drop, List.drop_drop]
      congr 2; omega
    · exact h.line
  · rw [e2]
    unfold ackM
    split
    · simp only; omega
    · exact h.acx
  · rw [e2]
    unfold ackM
    split
    · exact ha
    · exact h.ack
def takeW (σ : Wn) (d : Bool) (g : Sg) : Wn := ⟨upB σ.s (!d) (takeM (σ.s (!d)) g.q g.a), σ.f, σ.x, upB σ.y (!d) (if g.q = (σ.s (!d)).tk + 1 then σ.y (!d) ++ g.b else σ.y (!d))⟩
theorem takeW_inv {σ : Wn} {N : Nat} (h : WInv σ N) (d : Bool) {g : Sg} (hg : Ad (σ.s d) (σ.x d) g) : WInv (takeW σ d g) N := by
  have h1 := (h.d d).take1 hg
  have h2 := (h.d (!d))
  rw [Bool.not_not] at h2
  have h3 := h2.take2 (q := g.q) (h.o (!d)) hg.a
  have key : ∀ b, b = d ∨ b = !d := by intro b; cases b <;> cases d <;> simp
  refine ⟨fun b => ?_, fun b g' hg' => ?_, fun b => ?_, h.xl⟩
  · rcases key b with rfl | rfl
    · simp only [takeW, upB_self, upB_not']; exact h1
    · simp only [takeW, upB_self, Bool.not_not, upB_not']; exact h3
  · rcases key b with rfl | rfl
    · simp only [takeW, upB_not']; exact h.a _ g' hg'
    · simp only [takeW, upB_self]
      exact (h.a _ g' hg').mono (by rw [top_take]; exact Nat.le_refl _) (tk_le _ _ _)
  · rcases key b with rfl | rfl
    · simp only [takeW, upB_not']; exact h.o _
    · simp only [takeW, upB_self]
      refine takeM_ok' (h.o _) _ _ (fun e => ?_)
      have := (hg.q (by omega)).1
      have := (h.d d).top_le (h.o d)
      have := h.xl d
      omega
def sendW (σ : Wn) (d : Bool) (c : UInt8) : Wn := ⟨upB σ.s d (sendM (σ.s d) [c]), σ.f, upB σ.x d (σ.x d ++ [c]), σ.y⟩
theorem sendW_inv {σ : Wn} {N : Nat} (h : WInv σ N) (hN : N + 1 ≤ 1000000) (d : Bool) (c : UInt8) : WInv (sendW σ d c) (N + 1) := by
  have key : ∀ b, b = d ∨ b = !d := by intro b; cases b <;> cases d <;> simp
  refine ⟨fun b => ?_, fun b g' hg' => ?_, fun b => ?_, fun b => ?_⟩
  · rcases key b with rfl | rfl
    · simp only [sendW, upB_self, upB_not]
      have h1 := h.d b
      have ha := h1.acx
      have ht := h1.top_le (h.o b)
      have htk := h1.tk
      refine ⟨?_, by simp [sendM]; omega, ?_, h1.tk, h1.ack⟩
      · show (σ.s b).line ++ [[c]] = _
        rw [h1.line]
        show _ = ((σ.x b ++ [c]).drop (σ.s b).ac).map _
        rw [List.drop_append_of_le_length ha, List.map_append]; rfl
      · rw [List.take_append_of_le_length (by omega)]; exact h1.y
    · simp only [sendW, upB_not, Bool.not_not, upB_self]
      have h1 := h.d (!d)
      rw [Bool.not_not] at h1
      exact ⟨h1.line, h1.acx, h1.y, h1.tk, h1.ack⟩
  · rcases key b with rfl | rfl
    · simp only [sendW, upB_self]
      have h1 := h.a b g' hg'
      refine ⟨fun hq => ⟨(h1.q hq).1, ?_⟩, h1.b, h1.a⟩
      obtain ⟨c', hc, hb⟩ := (h1.q hq).2
      exact ⟨c', by rw [List.getElem?_append_left (List.getElem?_eq_some_iff.1 hc).1]; exact hc, hb⟩
    · simp only [sendW, upB_not]; exact h.a _ g' hg'
  · rcases key b with rfl | rfl
    · simp only [sendW, upB_self]; exact sendM_ok (h.o b) hN [c] (by simp)
    · simp only [sendW, upB_not]; exact (h.o (!d)).more (by omega) hN
  · rcases key b with rfl | rfl
    · simp only [sendW, upB_self]; have := h.xl b; simp; omega
    · simp only [sendW, upB_not]; have := h.xl (!d); omega
/-- What an end tells by its own, the other's part as it was. -/
def outW (σ : Wn) (d : Bool) (A : Sm) (F : List Sg) : Wn := ⟨upB σ.s d A, upB σ.f d F, σ.x, σ.y⟩
structure Tells (A A' : Sm) (X : List UInt8) (L : List Sg) : Prop where
  line : A'.line = A.line
  ac : A'.ac = A.ac
  tk : A'.tk = A.tk
  top : top A ≤ top A'
  ad : ∀ g ∈ L, Ad A' X g
theorem outW_inv {σ : Wn} {N : Nat} (h : WInv σ N) (d : Bool) {A : Sm} {L F : List Sg} (ht : Tells (σ.s d) A (σ.x d) L) (ok : A.Ok N) (hF : ∀ g ∈ F, g ∈ σ.f d ∨ g ∈ L) : WInv (outW σ d A F) N := by
  have key : ∀ b, b = d ∨ b = !d := by intro b; cases b <;> cases d <;> simp
  have h1 := h.d d
  have h2 := h.d (!d)
  rw [Bool.not_not] at h2
  refine ⟨fun b => ?_, fun b g' hg' => ?_, fun b => ?_, h.xl⟩
  · rcases key b with rfl | rfl
    · simp only [outW, upB_self, upB_not]
      exact ⟨by rw [ht.line, ht.ac]; exact h1.line, by rw [ht.ac]; exact h1.acx, h1.y, Nat.le_trans h1.tk ht.top, by rw [ht.ac]; exact h1.ack⟩
    · simp only [outW, upB_not, Bool.not_not, upB_self]
      exact ⟨h2.line, h2.acx, by rw [ht.tk]; exact h2.y, by rw [ht.tk]; exact h2.tk, by rw [ht.tk]; exact h2.ack⟩
  · rcases key b with rfl | rfl
    · simp only [outW, upB_self] at hg' ⊢
      rcases hF g' hg' with e | e
      · exact (h.a b g' e).mono ht.top (by rw [ht.tk]; exact Nat.le_refl _)
      · exact ht.ad g' e
    · simp only [outW, upB_not] at hg' ⊢; exact h.a _ g' hg'
  · rcases key b with rfl | rfl
    · simp only [outW, upB_self]; exact ok
    · simp only [outW, upB_not]; exact h.o _
theorem ad_seg {A A' B : Sm} {X Y : List UInt8} (h : Dr A B X Y) (f T : Nat) (hT : T ≤ A'.told) (hac : A'.ac = A.ac) (htk : A'.tk = A.tk) : ∀ g ∈ segL (A.ac + f) A.tk ((A.line.take T).drop f), Ad A' X g := by
  intro g hg
  obtain ⟨j, hj, e⟩ := List.getElem_of_mem hg
  have hj2 : (segL (A.ac + f) A.tk ((A.line.take T).drop f))[j]? = some g := by rw [List.getElem?_eq_getElem hj, e]
  obtain ⟨b, hb, rfl⟩ := segL_inv _ _ _ _ _ hj2
  rw [List.getElem?_drop, List.getElem?_take] at hb
  split at hb
  · rename_i hlt
    rw [h.line, List.getElem?_map, Option.map_eq_some_iff] at hb
    obtain ⟨c, hc, rfl⟩ := hb
    rw [List.getElem?_drop] at hc
    refine ⟨fun _ => ⟨by unfold top; simp only; omega, c, ?_, rfl⟩, by simp, by simp only; omega⟩
    simp only
    rw [← hc]; congr 1; omega
  · cases hb
theorem tells_tick {A B : Sm} {X Y : List UInt8} (h : Dr A B X Y) : Tells A (tickM A) X (tickL A) := by
  unfold tickM tickL
  split
  · exact ⟨rfl, rfl, rfl, Nat.le_refl _, by simp⟩
  · split
    · exact ⟨rfl, rfl, rfl, Nat.le_refl _, by simp⟩
    · exact ⟨rfl, rfl, rfl, Nat.le_refl _, by
        have := ad_seg (A' := tellM A) h 0 A.told (Nat.le_refl _) rfl rfl
        simpa using this⟩
theorem tells_due {A B : Sm} {X Y : List UInt8} (h : Dr A B X Y) : Tells A (dueM A) X (dueL A) := by
  unfold dueM dueL
  split
  · rename_i hlt
    exact ⟨rfl, rfl, rfl, by unfold top; simp [tellM]; omega, ad_seg (A' := tellM { A with told := upM A }) h A.told (upM A) (Nat.le_refl _) rfl rfl⟩
  · refine ⟨rfl, rfl, rfl, Nat.le_refl _, ?_⟩
    split
    · intro g hg
      simp at hg; subst hg
      exact ⟨by simp, by simp, Nat.le_refl _⟩
    · simp
end Go.Proofs.Ytghaajmalhcgbaa

namespace Go.Proofs.Ytghaajmalhcgbaa

/-- One end takes these. -/
def tks (B : Sm) (L : List Sg) : Sm := L.foldl (fun B g => takeM B g.q g.a) B
/-- What an end sends with. -/
structure Snd (s t : Sm) : Prop where
  ag : s.ag = t.ag
  line : s.line = t.line
  told : s.told = t.told
  ti : s.ti = t.ti
  ac : s.ac = t.ac
theorem Snd.refl (s : Sm) : Snd s s := ⟨rfl, rfl, rfl, rfl, rfl⟩
theorem Snd.trans {s t u : Sm} (h : Snd s t) (h' : Snd t u) : Snd s u := ⟨h.ag.trans h'.ag, h.line.trans h'.line, h.told.trans h'.told, h.ti.trans h'.ti, h.ac.trans h'.ac⟩
theorem snd_take (s : Sm) (q a : Nat) : Snd (takeM s q a) (ackM s a) := ⟨rfl, rfl, rfl, rfl, rfl⟩
theorem snd_ack {s t : Sm} (h : Snd s t) (a : Nat) : Snd (ackM s a) (ackM t a) := by
  unfold ackM
  rw [h.ac, h.told]
  split
  · exact ⟨h.ag, by simp only; rw [h.line], rfl, rfl, rfl⟩
  · exact h
theorem ack_ack {s : Sm} {a : Nat} (h1 : s.ac ≤ a) (h2 : a ≤ top s) : ackM (ackM s a) a = ackM s a := by
  have e : (ackM s a).ac = a := by
    unfold top at h2
    unfold ackM
    split
    · rfl
    · omega
  generalize ackM s a = u at e
  unfold ackM
  rw [if_neg (by omega)]
theorem tks_snd {a : Nat} : ∀ (L : List Sg) (B : Sm), L ≠ [] → (∀ g ∈ L, g.a = a) → B.ac ≤ a → a ≤ top B → Snd (tks B L) (ackM B a)
  | [], _, h, _, _, _ => absurd rfl h
  | [g], B, _, ha, h1, h2 => by
    have := ha g (by simp)
    show Snd (takeM B g.q g.a) _
    rw [this]; exact snd_take _ _ _
  | g :: g' :: r, B, _, ha, h1, h2 => by
    have e := ha g (by simp)
    have hs : Snd (takeM B g.q g.a) (ackM B a) := by rw [e]; exact snd_take _ _ _
    have eac : (ackM B a).ac = a := by
      unfold top at h2
      unfold ackM
      split
      · rfl
      · omega
    have etop : top (ackM B a) = top B := by
      have := top_take B g.q a
      exact this
    have h3 := tks_snd (g' :: r) (takeM B g.q g.a) (by simp) (fun x hx => ha x (by simp at hx ⊢; right; exact hx)) (by rw [hs.ac, eac]; exact Nat.le_refl _) (by rw [top_take]; exact h2)
    refine (show Snd (tks B (g :: g' :: r)) _ from h3).trans ((snd_ack hs a).trans ?_)
    rw [ack_ack h1 h2]; exact Snd.refl _
theorem tks_tk0 : ∀ (L : List Sg) (B : Sm), (∀ g ∈ L, g.q = 0) → (tks B L).tk = B.tk ∧ (tks B L).ow = B.ow
  | [], _, _ => ⟨rfl, rfl⟩
  | g :: r, B, h => by
    have e := h g (by simp)
    have h1 := tks_tk0 r (takeM B g.q g.a) (fun x hx => h x (by simp [hx]))
    refine ⟨h1.1.trans ?_, h1.2.trans ?_⟩
    · rw [take_tk, if_neg (by omega)]
    · show (B.ow || decide (g.q ≠ 0)) = _
      rw [e]; simp
theorem tks_seg (a : Nat) : ∀ (P : List (List UInt8)) (n : Nat) (B : Sm), (tks B (segL n a P)).tk = (if n ≤ B.tk then max B.tk (n + P.length) else B.tk) ∧ (tks B (segL n a P)).ow = (B.ow || decide (0 < P.length))
  | [], n, B => by
    simp only [segL, tks, List.foldl_nil, List.length_nil]
    refine ⟨?_, by simp⟩
    split <;> omega
  | b :: r, n, B => by
    obtain ⟨h1, h2⟩ := tks_seg a r (n + 1) (takeM B (n + 1) a)
    refine ⟨(show _ = _ from h1).trans ?_, (show _ = _ from h2).trans ?_⟩
    · rw [take_tk]
      simp only [List.length_cons]
      by_cases e : n = B.tk
      · rw [if_pos (show n + 1 = B.tk + 1 by omega), if_pos (show n + 1 ≤ B.tk + 1 by omega), if_pos (show n ≤ B.tk by omega)]; omega
      · rw [if_neg (show ¬ n + 1 = B.tk + 1 by omega)]
        by_cases e2 : n ≤ B.tk
        · rw [if_pos (show n + 1 ≤ B.tk by omega), if_pos e2]; omega
        · rw [if_neg (show ¬ n + 1 ≤ B.tk by omega), if_neg e2]
    · show ((B.ow || decide (n + 1 ≠ 0)) || _) = _
      simp
/-- What goes out in one step. -/
def stL (A : Sm) : List Sg := tickL A ++ dueL (tickM A)
def stM (A : Sm) : Sm := dueM (tickM A)
theorem tick_tk (A : Sm) : (tickM A).tk = A.tk := by unfold tickM; split; rfl; split <;> rfl
theorem stM_tk (A : Sm) : (stM A).tk = A.tk := by
  unfold stM dueM
  split
  · exact tick_tk A
  · exact tick_tk A
theorem segL_a (a : Nat) (P : List (List UInt8)) (n : Nat) : ∀ g ∈ segL n a P, g.a = a := by
  intro g hg
  obtain ⟨j, hj, e⟩ := List.getElem_of_mem hg
  obtain ⟨b, hb, rfl⟩ := segL_inv a P n j g (by rw [List.getElem?_eq_getElem hj, e])
  rfl
theorem stL_a (A : Sm) : ∀ g ∈ stL A, g.a = A.tk := by
  intro g hg
  rcases List.mem_append.1 hg with h | h
  · unfold tickL at h
    split at h
    · simp at h
    · split at h
      · simp at h
      · exact segL_a _ _ _ g h
  · rw [← tick_tk A]
    unfold dueL at h
    split at h
    · exact segL_a _ _ _ g h
    · split at h
      · simp at h; subst h; rfl
      · simp at h
/-- One that owes sends something. -/
theorem stL_owes {A : Sm} (h : A.ow = true) (ht : A.told ≤ A.line.length) : stL A ≠ [] := by
  unfold stL
  by_cases h0 : tickL A = []
  · rw [h0, List.nil_append]
    have e : (tickM A).ow = true := by
      unfold tickL at h0
      unfold tickM
      split
      · exact h
      · rename_i hn
        rw [if_neg hn] at h0
        split
        · exact h
        · rename_i hf
          rw [if_neg hf] at h0
          have := congrArg List.length h0
          rw [segL_len, List.length_take, List.length_nil] at this
          omega
    have e9 := e
    unfold dueL
    split
    · rename_i hlt
      intro h9
      have := congrArg List.length h9
      rw [segL_len] at this
      simp at this
      unfold upM at hlt this
      omega
    · simp [e9]
  · simp [h0]
theorem stM_top {A : Sm} {N : Nat} (ok : A.Ok N) : (stM A).ac = A.ac ∧ (stM A).line = A.line ∧ (stM A).told = upM A ∧ (stM A).ag = A.ag := by
  have h1 : (tickM A).ac = A.ac ∧ (tickM A).line = A.line ∧ (tickM A).told = A.told ∧ (tickM A).ag = A.ag := by
    unfold tickM; split
    · exact ⟨rfl, rfl, rfl, rfl⟩
    · split <;> exact ⟨rfl, rfl, rfl, rfl⟩
  have hu : upM (tickM A) = upM A := by unfold upM; rw [h1.2.1]
  have hup := up_told ok
  unfold stM dueM
  split
  · exact ⟨h1.1, h1.2.1, hu, h1.2.2.2⟩
  · rename_i hn
    rw [hu, h1.2.2.1] at hn
    exact ⟨h1.1, h1.2.1, by show (tickM A).told = _; rw [h1.2.2.1]; omega, h1.2.2.2⟩
/-- How far an end is from rest. -/
def phi (A B : Sm) : Nat := (if B.tk = A.ac then 0 else 8) + (if A.told < upM A then 4 else 0) + (A.ag - A.ti).toNat
def psi (A B : Sm) : Nat := if A.told = 0 then A.line.length else A.line.length + 1 + phi A B
theorem psi_snd {A A' B : Sm} (h : Snd A A') : psi A B = psi A' B := by
  unfold psi phi upM
  rw [h.ag, h.line, h.told, h.ti, h.ac]
/-- There and back: one end's step, then the other's. -/
theorem two_steps {A B : Sm} {X Y X2 Y2 : List UInt8} {N : Nat} (h : Dr A B X Y) (okA : A.Ok N) (okB : B.Ok N) (h2 : Dr B A X2 Y2) (hag : A.ag ≤ 3) {A1 B1 A2 : Sm} (hA1 : A1 = stM A) (hB1 : B1 = tks B (stL A)) (hA2 : A2 = tks A1 (stL B1)) :
    (A.line = [] → A2.line = []) ∧ (A.line ≠ [] → psi A2 (stM B1) < psi A B) := by
  have hup := up_told okA
  have b1 := okA.t1
  have b2 := okA.t8
  have hupn : upM A ≤ A.line.length ∧ upM A ≤ 8 ∧ (A.line ≠ [] → 0 < upM A) := by
    refine ⟨by unfold upM; omega, by unfold upM; omega, fun hl => ?_⟩
    have := List.length_pos_iff.2 hl
    unfold upM; omega
  obtain ⟨m1, m2, m3, m4⟩ := stM_top okA
  rw [← hA1] at m1 m2 m3 m4
  have htop1 : top A1 = A.ac + upM A := by unfold top; rw [m1, m3]
  have htk1 := h.tk
  have htk2 := h.ack
  -- what the other end took
  have hB1ok : B1.told ≤ B1.line.length := by
    rw [hB1]
    have : ∀ (L : List Sg) (s : Sm), s.told ≤ s.line.length → (tks s L).told ≤ (tks s L).line.length := by
      intro L
      induction L with
      | nil => intro s hs; exact hs
      | cons g r ih =>
        intro s hs
        refine ih _ ?_
        show (ackM s g.a).told ≤ (ackM s g.a).line.length
        unfold ackM
        split
        · simp; omega
        · exact hs
    exact this _ _ okB.t1
  -- where the second step brings an acknowledgement
  have hback : A.ac ≤ B1.tk → B1.tk ≤ A.ac + upM A → (stL B1 ≠ [] → Snd A2 (ackM A1 B1.tk)) ∧ (stL B1 = [] → A2 = A1) := fun h3 h4 =>
    ⟨fun hne => by rw [hA2]; exact tks_snd _ _ hne (stL_a B1) (by rw [m1]; exact h3) (by rw [htop1]; exact h4), fun he => by rw [hA2, he]; rfl⟩
  have hackF : ∀ k, A.ac < k → k ≤ A.ac + upM A → ackM A1 k = { A1 with line := A.line.drop (k - A.ac), told := upM A - (k - A.ac), ac := k, ti := 0 } := by
    intro k hk1 hk2
    unfold ackM
    rw [m1, m2, m3, if_pos ⟨hk1, hk2⟩]
  have hackN : ackM A1 A.ac = A1 := by unfold ackM; rw [if_neg (by omega)]
  -- all came, and is acknowledged
  have hall : B1.tk = A.ac + upM A → B1.ow = true → (A.line = [] → A2.line = []) ∧ (A.line ≠ [] → psi A2 (stM B1) < psi A B) := by
    intro e1 e2
    have hs := (hback (by omega) (by omega)).1 (stL_owes e2 hB1ok)
    refine ⟨fun hl => ?_, fun hl => ?_⟩
    · have hu0 : upM A = 0 := by unfold upM; rw [hl]; simp
      rw [e1, hu0, Nat.add_zero, hackN] at hs
      rw [hs.line, m2, hl]
    · have hu := hupn.2.2 hl
      rw [e1, hackF _ (by omega) (Nat.le_refl _)] at hs
      have ht : A2.told = 0 := by rw [hs.told]; simp only; omega
      have hln : A2.line.length = A.line.length - upM A := by rw [hs.line]; simp
      have e9 : psi A2 (stM B1) = A2.line.length := by unfold psi; rw [if_pos ht]
      rw [e9, hln]
      unfold psi
      split <;> omega
  by_cases h0 : A.told = 0
  · -- nothing is under way
    have eT : tickM A = A ∧ tickL A = [] := ⟨by unfold tickM; rw [if_pos h0], by unfold tickL; rw [if_pos h0]⟩
    have eL : stL A = dueL A := by unfold stL; rw [eT.1, eT.2]; rfl
    have ebt : B.tk = A.ac := by unfold top at htk1; omega
    by_cases hu : upM A = 0
    · have hl : A.line = [] := by
        have : A.line.length = 0 := by unfold upM at hu; omega
        exact List.length_eq_zero_iff.1 this
      refine ⟨fun _ => ?_, fun hn => absurd hl hn⟩
      have hq : ∀ g ∈ stL A, g.q = 0 := by
        rw [eL]; unfold dueL
        rw [if_neg (by omega)]
        split
        · intro g hg; simp at hg; subst hg; rfl
        · simp
      have hk := (tks_tk0 (stL A) B hq).1
      rw [← hB1] at hk
      obtain ⟨f1, f2⟩ := hback (by omega) (by omega)
      by_cases hne : stL B1 = []
      · rw [f2 hne, m2, hl]
      · have hs := f1 hne
        rw [hk, ebt, hackN] at hs
        rw [hs.line, m2, hl]
    · have eD : stL A = segL A.ac A.tk (A.line.take (upM A)) := by
        rw [eL]; unfold dueL
        rw [if_pos (by omega), h0]; simp
      obtain ⟨s1, s2⟩ := tks_seg A.tk (A.line.take (upM A)) A.ac B
      rw [← eD, ← hB1] at s1 s2
      have hlen : (A.line.take (upM A)).length = upM A := by simp; omega
      rw [hlen] at s1 s2
      exact hall (by rw [s1, if_pos (by omega)]; omega) (by rw [s2]; simp; omega)
  · by_cases hf : A.ti + 1 < A.ag
    · have eT : tickM A = { A with ti := A.ti + 1 } ∧ tickL A = [] := ⟨by unfold tickM; rw [if_neg h0, if_pos hf], by unfold tickL; rw [if_neg h0, if_pos hf]⟩
      have eL : stL A = dueL { A with ti := A.ti + 1 } := by unfold stL; rw [eT.1, eT.2]; rfl
      have hti := okA.ti1
      have hln0 : A.line ≠ [] := by intro e; rw [e] at b1; simp at b1; omega
      refine ⟨fun e => absurd e hln0, fun _ => ?_⟩
      have hupA : upM { A with ti := A.ti + 1 } = upM A := rfl
      by_cases hu : A.told < upM A
      · have eD : stL A = segL (A.ac + A.told) A.tk ((A.line.take (upM A)).drop A.told) := by
          rw [eL]; unfold dueL
          rw [if_pos (by rw [hupA]; exact hu), hupA]
        have eM : A1 = tellM { A with ti := A.ti + 1, told := upM A } := by
          rw [hA1]; unfold stM dueM
          rw [eT.1, if_pos (by rw [hupA]; exact hu)]; rfl
        obtain ⟨s1, s2⟩ := tks_seg A.tk ((A.line.take (upM A)).drop A.told) (A.ac + A.told) B
        rw [← eD, ← hB1] at s1 s2
        have hlen : ((A.line.take (upM A)).drop A.told).length = upM A - A.told := by simp; omega
        rw [hlen] at s1 s2
        have how : B1.ow = true := by rw [s2]; simp; omega
        by_cases hk : A.ac + A.told ≤ B.tk
        · exact (hall (by rw [s1, if_pos hk]; unfold top at htk1; omega) how).2 hln0
        · rw [if_neg hk] at s1
          have hs := (hback (by omega) (by omega)).1 (stL_owes how hB1ok)
          rw [s1] at hs
          have hti1 : A1.ti = 0 := by rw [eM]; rfl
          have eps : psi A B = A.line.length + 1 + phi A B := by unfold psi; rw [if_neg h0]
          have hstk : (stM B1).tk = B.tk := by rw [stM_tk, s1]
          by_cases hk2 : B.tk = A.ac
          · rw [hk2, hackN] at hs
            rw [psi_snd hs, eps]
            unfold psi
            rw [m3, if_neg (by omega), m2]
            unfold phi
            rw [hstk, m1, m3, m4, hti1, if_pos hk2, if_pos hu, if_neg (by unfold upM; rw [m2]; omega)]
            omega
          · rw [hackF _ (by omega) (by omega)] at hs
            rw [psi_snd hs, eps]
            unfold psi phi
            simp only
            rw [hstk, if_neg hk2, m4, if_neg (show ¬ upM A - (B.tk - A.ac) = 0 by omega)]
            simp only [List.length_drop, if_true]
            split <;> omega
      · -- nothing new
        have hue : upM A = A.told := by omega
        have hq : ∀ g ∈ stL A, g.q = 0 := by
          rw [eL]; unfold dueL
          rw [if_neg (by rw [hupA]; exact hu)]
          split
          · intro g hg; simp at hg; subst hg; rfl
          · simp
        have eM : A1.ti = A.ti + 1 := by
          rw [hA1]; unfold stM dueM
          rw [eT.1, if_neg (by rw [hupA]; exact hu)]
        have s1 := (tks_tk0 (stL A) B hq).1
        rw [← hB1] at s1
        obtain ⟨f1, f2⟩ := hback (by omega) (by unfold top at htk1; omega)
        have hstk : (stM B1).tk = B.tk := by rw [stM_tk, s1]
        have eps : psi A B = A.line.length + 1 + phi A B := by unfold psi; rw [if_neg h0]
        have same : psi A1 (stM B1) < psi A B := by
          rw [eps]
          unfold psi
          rw [m3, hue, if_neg h0, m2]
          have p1 : ¬ A1.told < upM A1 := by unfold upM at hue ⊢; rw [m2, m3]; unfold upM; omega
          unfold phi
          rw [hstk, m1, if_neg p1, if_neg hu, m4, eM]
          omega
        by_cases hne : stL B1 = []
        · rw [f2 hne]; exact same
        · have hs := f1 hne
          rw [s1] at hs
          by_cases hk2 : B.tk = A.ac
          · rw [hk2, hackN] at hs
            rw [psi_snd hs]; exact same
          · rw [hackF _ (by omega) (by unfold top at htk1; omega)] at hs
            rw [psi_snd hs, eps]
            unfold psi phi
            simp only
            rw [hstk, if_neg hk2, m4]
            simp only [List.length_drop, if_true]
            split
            · omega
            · split <;> omega
    · -- all once more
      have eT : tickM A = tellM A ∧ tickL A = segL A.ac A.tk (A.line.take A.told) := ⟨by unfold tickM; rw [if_neg h0, if_neg hf], by unfold tickL; rw [if_neg h0, if_neg hf]⟩
      have hupA : upM (tellM A) = upM A := rfl
      have key : B1.tk = A.ac + upM A ∧ B1.ow = true := by
        have e3 : stL A = segL A.ac A.tk (A.line.take A.told) ++ dueL (tellM A) := by unfold stL; rw [eT.1, eT.2]
        have hl1 : (A.line.take A.told).length = A.told := by simp; omega
        obtain ⟨s1, s2⟩ := tks_seg A.tk (A.line.take A.told) A.ac B
        rw [hl1] at s1 s2
        rw [if_pos (by omega)] at s1
        have e4 : B1 = tks (tks B (segL A.ac A.tk (A.line.take A.told))) (dueL (tellM A)) := by rw [hB1, e3]; unfold tks; rw [List.foldl_append]
        by_cases hu : A.told < upM A
        · have eD : dueL (tellM A) = segL (A.ac + A.told) A.tk ((A.line.take (upM A)).drop A.told) := by
            unfold dueL
            rw [if_pos (by rw [hupA]; exact hu), hupA]; rfl
          obtain ⟨t1, t2⟩ := tks_seg A.tk ((A.line.take (upM A)).drop A.told) (A.ac + A.told) (tks B (segL A.ac A.tk (A.line.take A.told)))
          rw [← eD, ← e4] at t1 t2
          have hlen : ((A.line.take (upM A)).drop A.told).length = upM A - A.told := by simp; omega
          rw [hlen] at t1 t2
          rw [s1] at t1
          unfold top at htk1
          exact ⟨by rw [t1, if_pos (by omega)]; omega, by rw [t2]; simp; right; omega⟩
        · have eD : dueL (tellM A) = [] := by
            unfold dueL
            rw [if_neg (by rw [hupA]; exact hu)]
            rfl
          rw [eD] at e4
          have e5 : B1 = tks B (segL A.ac A.tk (A.line.take A.told)) := e4
          rw [← e5] at s1 s2
          unfold top at htk1
          exact ⟨by rw [s1]; omega, by rw [s2]; simp; omega⟩
      exact hall key.1 key.2
end Go.Proofs.Ytghaajmalhcgbaa

namespace Go.Proofs.Ytghaajmalhcgbaa

/-- All that flies, and all that is told, comes. -/
def stepW (σ : Wn) (d : Bool) : Wn := (σ.f d ++ stL (σ.s d)).foldl (fun τ g => takeW τ d g) (outW σ d (stM (σ.s d)) [])
theorem Tells.trans {A A' A'' : Sm} {X : List UInt8} {L M : List Sg} (h : Tells A A' X L) (h' : Tells A' A'' X M) : Tells A A'' X (L ++ M) :=
  ⟨h'.line.trans h.line, h'.ac.trans h.ac, h'.tk.trans h.tk, Nat.le_trans h.top h'.top, fun g hg => by
    rcases List.mem_append.1 hg with e | e
    · exact (h.ad g e).mono h'.top (by rw [h'.tk]; exact Nat.le_refl _)
    · exact h'.ad g e⟩
theorem Tells.dr {A A' B : Sm} {X Y : List UInt8} {L : List Sg} (h : Tells A A' X L) (hd : Dr A B X Y) : Dr A' B X Y :=
  ⟨by rw [h.line, h.ac]; exact hd.line, by rw [h.ac]; exact hd.acx, hd.y, Nat.le_trans hd.tk h.top, by rw [h.ac]; exact hd.ack⟩
theorem tells_st {A B : Sm} {X Y : List UInt8} (h : Dr A B X Y) : Tells A (stM A) X (stL A) := (tells_tick h).trans (tells_due ((tells_tick h).dr h))
theorem fold_takeW (d : Bool) : ∀ (L : List Sg) (σ : Wn), (L.foldl (fun τ g => takeW τ d g) σ).s d = σ.s d ∧ (L.foldl (fun τ g => takeW τ d g) σ).s (!d) = tks (σ.s (!d)) L ∧ (L.foldl (fun τ g => takeW τ d g) σ).f = σ.f ∧ (L.foldl (fun τ g => takeW τ d g) σ).x = σ.x
  | [], σ => ⟨rfl, rfl, rfl, rfl⟩
  | g :: r, σ => by
    obtain ⟨h1, h2, h3, h4⟩ := fold_takeW d r (takeW σ d g)
    refine ⟨h1.trans (by simp [takeW, upB_not']), h2.trans ?_, h3, h4⟩
    simp only [takeW, upB_self]; rfl
theorem fold_inv {N : Nat} (d : Bool) : ∀ (L : List Sg) (σ : Wn), WInv σ N → (∀ g ∈ L, Ad (σ.s d) (σ.x d) g) → WInv (L.foldl (fun τ g => takeW τ d g) σ) N
  | [], _, h, _ => h
  | g :: r, σ, h, hL => by
    refine fold_inv d r (takeW σ d g) (takeW_inv h d (hL g (by simp))) (fun x hx => ?_)
    have := hL x (by simp [hx])
    simp only [takeW, upB_not']
    exact this
theorem outW_ads {σ : Wn} {N : Nat} (h : WInv σ N) (d : Bool) : ∀ g ∈ σ.f d ++ stL (σ.s d), Ad ((outW σ d (stM (σ.s d)) []).s d) ((outW σ d (stM (σ.s d)) []).x d) g := by
  intro g hg
  have ht := tells_st (h.d d)
  simp only [outW, upB_self]
  rcases List.mem_append.1 hg with e | e
  · exact (h.a d g e).mono ht.top (by rw [ht.tk]; exact Nat.le_refl _)
  · exact ht.ad g e
theorem outW_st {σ : Wn} {N : Nat} (h : WInv σ N) (d : Bool) : WInv (outW σ d (stM (σ.s d)) []) N := outW_inv h d (tells_st (h.d d)) (dueM_ok (tickM_ok (h.o d))) (by simp)
theorem stepW_inv {σ : Wn} {N : Nat} (h : WInv σ N) (d : Bool) : WInv (stepW σ d) N := fold_inv d _ _ (outW_st h d) (outW_ads h d)
theorem stepW_eq (σ : Wn) (d : Bool) : (stepW σ d).s d = stM (σ.s d) ∧ (stepW σ d).s (!d) = tks (σ.s (!d)) (σ.f d ++ stL (σ.s d)) ∧ (stepW σ d).f d = [] ∧ (stepW σ d).f (!d) = σ.f (!d) ∧ (stepW σ d).x = σ.x := by
  obtain ⟨h1, h2, h3, h4⟩ := fold_takeW d (σ.f d ++ stL (σ.s d)) (outW σ d (stM (σ.s d)) [])
  refine ⟨h1.trans (by simp [outW, upB_self]), h2.trans (by simp [outW, upB_not]), (congrFun h3 d).trans (by simp [outW, upB_self]), (congrFun h3 (!d)).trans (by simp [outW, upB_not]), h4⟩
def AgW (σ : Wn) : Prop := ∀ d, (σ.s d).ag ≤ 3
theorem tks_ag : ∀ (L : List Sg) (B : Sm), (tks B L).ag = B.ag
  | [], _ => rfl
  | g :: r, B => by
    refine (tks_ag r (takeM B g.q g.a)).trans ?_
    show (ackM B g.a).ag = _
    unfold ackM
    split <;> rfl
theorem stepW_ag {σ : Wn} {N : Nat} (h : AgW σ) (hi : WInv σ N) (d : Bool) : AgW (stepW σ d) := by
  obtain ⟨h1, h2, _⟩ := stepW_eq σ d
  have key : ∀ b, b = d ∨ b = !d := by intro b; cases b <;> cases d <;> simp
  intro b
  rcases key b with rfl | rfl
  · rw [h1, (stM_top (hi.o b)).2.2.2]; exact h b
  · rw [h2, tks_ag]; exact h _
def twoW (d : Bool) (σ : Wn) : Wn := stepW (stepW σ d) (!d)
theorem twoW_f (d : Bool) (σ : Wn) : (twoW d σ).f d = [] ∧ (twoW d σ).f (!d) = [] := by
  obtain ⟨_, _, a1, a2, _⟩ := stepW_eq σ d
  obtain ⟨_, _, b1, b2, _⟩ := stepW_eq (stepW σ d) (!d)
  rw [Bool.not_not] at b2
  exact ⟨b2.trans a1, b1⟩
theorem twoW_step {σ : Wn} {N : Nat} (h : WInv σ N) (ha : AgW σ) (d : Bool) (f1 : σ.f d = []) (f2 : σ.f (!d) = []) :
    ((σ.s d).line = [] → ((twoW d σ).s d).line = []) ∧ ((σ.s d).line ≠ [] → psi ((twoW d σ).s d) ((twoW d σ).s (!d)) < psi (σ.s d) (σ.s (!d))) := by
  obtain ⟨a1, a2, a3, a4, _⟩ := stepW_eq σ d
  obtain ⟨b1, b2, _⟩ := stepW_eq (stepW σ d) (!d)
  rw [Bool.not_not] at b2
  rw [a2, f1, List.nil_append] at b1
  rw [a1, a4, f2, List.nil_append, a2, f1, List.nil_append] at b2
  have hd2 := h.d (!d)
  rw [Bool.not_not] at hd2
  have := two_steps (h.d d) (h.o d) (h.o (!d)) hd2 (ha d) rfl rfl rfl
  show ((σ.s d).line = [] → ((stepW (stepW σ d) (!d)).s d).line = []) ∧ _
  unfold twoW
  rw [b1, b2]
  exact this
theorem twoW_inv {σ : Wn} {N : Nat} (h : WInv σ N) (d : Bool) : WInv (twoW d σ) N := stepW_inv (stepW_inv h d) (!d)
theorem twoW_ag {σ : Wn} {N : Nat} (ha : AgW σ) (h : WInv σ N) (d : Bool) : AgW (twoW d σ) := stepW_ag (stepW_ag ha h d) (stepW_inv h d) (!d)
def itr (d : Bool) : Nat → Wn → Wn
  | 0, σ => σ
  | n + 1, σ => itr d n (twoW d σ)
theorem itr_succ (d : Bool) : ∀ (n : Nat) (σ : Wn), itr d (n + 1) σ = twoW d (itr d n σ)
  | 0, _ => rfl
  | n + 1, σ => itr_succ d n (twoW d σ)
theorem itr_inv {N : Nat} (d : Bool) : ∀ (n : Nat) (σ : Wn), WInv σ N → WInv (itr d n σ) N
  | 0, _, h => h
  | n + 1, σ, h => itr_inv d n _ (twoW_inv h d)
theorem itr_other : ∀ (n : Nat) (σ : Wn), itr false (n + 1) σ = stepW (itr true n (stepW σ false)) true
  | 0, _ => rfl
  | n + 1, σ => itr_other n (twoW false σ)
theorem psi_zero {A B : Sm} {N : Nat} (ok : A.Ok N) (h : A.line = []) : psi A B = 0 := by
  have := ok.t1
  rw [h] at this
  simp at this
  unfold psi
  rw [if_pos this, h]; rfl
theorem conv {N : Nat} (d : Bool) : ∀ (n : Nat) (σ : Wn), WInv σ N → AgW σ → σ.f d = [] → σ.f (!d) = [] → psi (σ.s d) (σ.s (!d)) ≤ n → ((itr d n σ).s d).line = []
  | 0, σ, h, ha, f1, f2, hp => by
    show (σ.s d).line = []
    have ht := (h.o d).t1
    unfold psi at hp
    split at hp
    · exact List.length_eq_zero_iff.1 (by omega)
    · omega
  | n + 1, σ, h, ha, f1, f2, hp => by
    obtain ⟨t1, t2⟩ := twoW_step h ha d f1 f2
    obtain ⟨g1, g2⟩ := twoW_f d σ
    refine conv d n (twoW d σ) (twoW_inv h d) (twoW_ag ha h d) g1 g2 ?_
    by_cases hl : (σ.s d).line = []
    · rw [psi_zero ((twoW_inv h d).o d) (t1 hl)]; exact Nat.zero_le _
    · have := t2 hl; omega
theorem psi_le {A B : Sm} {N : Nat} (ok : A.Ok N) (hag : A.ag ≤ 3) : psi A B ≤ A.line.length + 16 := by
  have := ok.ti1
  unfold psi phi
  split
  · omega
  · split <;> split <;> omega
/-- All is taken, and acknowledged. -/
theorem whole {σ : Wn} {N : Nat} (h : WInv σ N) (ha : AgW σ) (hN : N ≤ 300) (n : Nat) (hn : 316 ≤ n) : ∀ d, ((itr false (n + 2) σ).s d).line = [] := by
  have len : ∀ {τ : Wn} (d : Bool), WInv τ N → (τ.s d).line.length ≤ 300 := by
    intro τ d hi
    have := (hi.o d).few; omega
  intro d
  cases d with
  | false =>
    have h1 := twoW_inv h false
    obtain ⟨f1, f2⟩ := twoW_f false σ
    have hp := psi_le (B := (twoW false σ).s (!false)) (h1.o false) (twoW_ag ha h false false)
    have hl := len false h1
    exact conv false (n + 1) (twoW false σ) h1 (twoW_ag ha h false) f1 f2 (by omega)
  | true =>
    have e : itr false (n + 2) σ = stepW (itr true (n + 1) (stepW σ false)) true := itr_other (n + 1) σ
    have hs := stepW_inv h false
    have hsa := stepW_ag ha h false
    have h1 := twoW_inv hs true
    obtain ⟨f1, f2⟩ := twoW_f true (stepW σ false)
    have hp := psi_le (B := (twoW true (stepW σ false)).s (!true)) (h1.o true) (twoW_ag hsa hs true true)
    have hl := len true h1
    have h2 := conv true n (twoW true (stepW σ false)) h1 (twoW_ag hsa hs true) f1 f2 (by omega)
    have h3 : ((itr true (n + 1) (stepW σ false)).s true).line = [] := h2
    rw [e, (stepW_eq _ true).1, (stM_top ((itr_inv true (n + 1) _ hs).o true)).2.1]
    exact h3
theorem whole_y {σ : Wn} {N : Nat} (h : WInv σ N) (hl : ∀ d, (σ.s d).line = []) (d : Bool) : σ.y (!d) = σ.x d := by
  have h1 := h.d d
  have h2 := h1.len
  rw [hl d] at h2
  simp at h2
  rw [h1.y, List.take_of_length_le (by have := h1.ack; omega)]
end Go.Proofs.Ytghaajmalhcgbaa
