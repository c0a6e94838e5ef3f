/- The reference's stream in memory; the walks of its Send and Take.
   The walk of Copy.
   Slices of segments, of acts, of ways, opened.
   Bytes among a struct's cells, opened.
   A slice that reads as a list of things of k cells each.
   Arguments that are bytes, and lists of bytes, opened.
   The chapter's rows: known.
   The walks of Tick and Due. -/
import Derived.ProofKit
import Derived.OpenShut
import Derived.Deep.Matrix
import Derived.Deep.Slices
import Derived.Lib.SmallJoins
import Derived.Deep.AppendLies
import Derived.Test.YtadcpmfphcapfaaZ01
import Derived.Test.YtadcpmfphcapfaaZ02
import Derived.Test.YtadcpmfphcapfaaZ04

set_option linter.unusedSimpArgs false
set_option linter.unusedVariables false
namespace Go.Proofs.Ytadcpmfphcapfaa
open Go.RowKit
attribute [local go_sem ↓] Go.wp_at_zero Go.wp_at_succ

theorem TlA.nil {p g : Nat} {X : List Nat} {s : Sm} {w w' : World} (h : PSm p g X s w') (hc : Chg [p] w w') : TlA p g X s [] w (.returned (.slice none 0 0)) w' := ⟨_, [], rfl, rfl, OwnS.nil _ _, fun x hx => by simp at hx, h, hc⟩
set_option maxHeartbeats 4000000 in
set_option maxRecDepth 100000 in
theorem tickC {p g : Nat} {X : List Nat} {s : Sm} {w : World} {N : Nat} (h : PSm p g X s w) (ok : s.Ok N) (hX : ∀ k ∈ X, k < w.heap.size) :
    Calls Try.prog 17 #[.pointer (some ⟨p, 0, none⟩)] w (TlA p g X (tickM s) (tickL s) w) := by
  have HNO := Lib.hid (noneM (h.smB ok.ag1))
  have HP := Lib.hid h
  obtain ⟨v, hb, hln⟩ := h
  obtain ⟨T, hT⟩ : ∃ T : Int, T = s.told := ⟨_, rfl⟩
  obtain ⟨I, hI⟩ : ∃ I : Int, I = s.ti := ⟨_, rfl⟩
  obtain ⟨G, hG⟩ : ∃ G : Int, G = s.ag := ⟨_, rfl⟩
  have c2 : w.cell? ⟨p, 2, none⟩ = some (.int .i64 T) := by rw [hT]; exact BlkAt.cell hb (j := 2) rfl
  have c3 : w.cell? ⟨p, 3, none⟩ = some (.int .i64 I) := by rw [hI]; exact BlkAt.cell hb (j := 3) rfl
  have hfz : ∀ j, w.frozen? ⟨p, j, none⟩ = false := fun j => hb.frozen j
  have hti := ok.ti1
  have hti2 := ok.ti2
  have e1 : wrap64 (I + 1) = I + 1 := IntWalk.wrap64_in _ ⟨by omega, by omega⟩
  have HTL := Lib.hid ok.tl
  have HX := Lib.hid hX
  by_cases h0 : s.told = 0
  · have k0 : (T == 0) = true := by rw [beq_iff_eq]; omega
    have e9 : tickM s = s ∧ tickL s = [] := ⟨by unfold tickM; rw [if_pos h0], by unfold tickL; rw [if_pos h0]⟩
    rw [e9.1, e9.2]
    clear e9 h0 hb hln hT hI hG hti hti2 ok hX c3
    go_enter Try.func17, Try.ntmps17
    go_wp2_with fail
    refine HNO.out.mono ?_
    rintro e w1 ⟨rfl, rfl⟩
    go_wp2_with fail
    go_ret
    exact TlA.nil HP.out (Chg.refl _ _)
  · have k0 : (T == 0) = false := by rw [beq_eq_false_iff_ne]; omega
    obtain ⟨w2, hw2⟩ : ∃ w2, w2 = w.setCell ⟨p, 3, none⟩ (.int .i64 (I + 1)) := ⟨_, rfl⟩
    have hq : Chg [p] w w2 := by rw [hw2]; exact (Chg.refl _ _).set (by simp) _ _
    have hb2 : BlkAt 62 p (pcs v { s with ti := s.ti + 1 }) w2 := by rw [hw2, hI]; exact BlkAt.set hb 3 _
    have hnb := noB_blk hb (by decide)
    have HP2 : Hid (PSm p g X { s with ti := s.ti + 1 } w2) := ⟨v, hb2, hln.chg hq (fun h => by simpa using h) (fun j hj => by simp at hj; subst hj; exact .inl hnb)⟩
    have HCE : Hid (∀ W, Below w2.heap.size w2 W → W.cell? ⟨p, 3, none⟩ = some (.int .i64 (I + 1)) ∧ W.cell? ⟨p, 0, none⟩ = some (.int .i64 G)) := by
      have : ∀ W, Below w2.heap.size w2 W → W.cell? ⟨p, 3, none⟩ = some (.int .i64 (I + 1)) ∧ W.cell? ⟨p, 0, none⟩ = some (.int .i64 G) := fun W hW => by
        rw [hI, hG]; exact ⟨BlkAt.cell (hb2.later hW) (j := 3) rfl, BlkAt.cell (hb2.later hW) (j := 0) rfl⟩
      exact this
    have HC2 := Lib.hid hq
    have HW2 := Lib.hid hw2
    by_cases h1 : s.ti + 1 < s.ag
    · have k1 : decide (I + 1 < G) = true := by simp; omega
      have e9 : tickM s = { s with ti := s.ti + 1 } ∧ tickL s = [] := ⟨by unfold tickM; rw [if_neg h0, if_pos h1], by unfold tickL; rw [if_neg h0, if_pos h1]⟩
      rw [e9.1, e9.2]
      clear e9 h0 h1 hb hln hT hI hG hti hti2 ok hX hw2 hq hb2 hnb
      go_enter Try.func17, Try.ntmps17
      go_wp2_with fail
      refine HNO.out.mono ?_
      rintro e w1 ⟨rfl, rfl⟩
      go_wp2_with fail
      rw [← HW2.out]
      clear c2 c3 hfz e1
      (refine wp_region_held_drew (S := (fun w' => Below w2.heap.size w2 w')) (by kernel_rfl) ?_ (fun hHeld => ?_); (focus ((try dsimp only); (exact (Below.refl _ _).drew))))
      (try dsimp only at hHeld)
      (refine wpAnyH_take (i := 0) (v := ?_) rfl (by kernel_rfl) (by kernel_rfl) (by kernel_rfl) (fun _ _ _ h => h) (Or.inl ⟨by rfl, ?_⟩) hHeld ?_; rotate_left; (focus (intro w hSw; (try dsimp only at hSw); go_simp; try with_reducible rfl)); (try simp only [Act.put, List.setIfInBounds_toArray, List.set_cons_zero, List.set_cons_succ, List.getElem_toArray, List.getElem_cons_zero])); (refine wpAnyH_take (i := 1) (v := ?_) rfl (by kernel_rfl) (by kernel_rfl) (by kernel_rfl) (fun _ _ _ h => h) (Or.inl ⟨by rfl, ?_⟩) hHeld ?_; rotate_left; (focus (intro w hSw; (try dsimp only at hSw); go_simp; try with_reducible rfl)); (try simp only [Act.put, List.setIfInBounds_toArray, List.set_cons_zero, List.set_cons_succ, List.getElem_toArray, List.getElem_cons_zero, List.getElem_cons_succ])); (refine wpAnyH_take (i := 2) (v := ?_) rfl (by kernel_rfl) (by kernel_rfl) (by kernel_rfl) (fun _ _ _ h => h) (Or.inl ⟨by rfl, ?_⟩) hHeld ?_; rotate_left; (focus (intro w hSw; (try dsimp only at hSw); go_simp; try with_reducible rfl)); (try simp only [Act.put, List.setIfInBounds_toArray, List.set_cons_zero, List.set_cons_succ, List.getElem_toArray, List.getElem_cons_zero, List.getElem_cons_succ]))
      (refine wpAnyH_take (i := 3) (v := ?_) rfl (by kernel_rfl) (by kernel_rfl) (by kernel_rfl) (fun _ _ _ h => h) (Or.inl ⟨by rfl, ?_⟩) hHeld ?_; rotate_left; (focus (intro w hSw; (try dsimp only at hSw); go_simp; (have c0 := (HCE.out _ hSw).1; go_simp; try with_reducible rfl))); (try simp only [Act.put, List.setIfInBounds_toArray, List.set_cons_zero, List.set_cons_succ, List.getElem_toArray, List.getElem_cons_zero, List.getElem_cons_succ]))
      (refine wpAnyH_take (i := 4) (v := ?_) rfl (by kernel_rfl) (by kernel_rfl) (by kernel_rfl) (fun _ _ _ h => h) (Or.inl ⟨by rfl, ?_⟩) hHeld ?_; rotate_left; (focus (intro w hSw; (try dsimp only at hSw); go_simp; try with_reducible rfl)); (try simp only [Act.put, List.setIfInBounds_toArray, List.set_cons_zero, List.set_cons_succ, List.getElem_toArray, List.getElem_cons_zero, List.getElem_cons_succ])); (refine wpAnyH_take (i := 5) (v := ?_) rfl (by kernel_rfl) (by kernel_rfl) (by kernel_rfl) (fun _ _ _ h => h) (Or.inl ⟨by rfl, ?_⟩) hHeld ?_; rotate_left; (focus (intro w hSw; (try dsimp only at hSw); go_simp; try with_reducible rfl)); (try simp only [Act.put, List.setIfInBounds_toArray, List.set_cons_zero, List.set_cons_succ, List.getElem_toArray, List.getElem_cons_zero, List.getElem_cons_succ])); (refine wpAnyH_take (i := 6) (v := ?_) rfl (by kernel_rfl) (by kernel_rfl) (by kernel_rfl) (fun _ _ _ h => h) (Or.inl ⟨by rfl, ?_⟩) hHeld ?_; rotate_left; (focus (intro w hSw; (try dsimp only at hSw); go_simp; try with_reducible rfl)); (try simp only [Act.put, List.setIfInBounds_toArray, List.set_cons_zero, List.set_cons_succ, List.getElem_toArray, List.getElem_cons_zero, List.getElem_cons_succ]))
      (refine wpAnyH_take (i := 7) (v := ?_) rfl (by kernel_rfl) (by kernel_rfl) (by kernel_rfl) (fun _ _ _ h => h) (Or.inl ⟨by rfl, ?_⟩) hHeld ?_; rotate_left; (focus (intro w hSw; (try dsimp only at hSw); go_simp; (have c0 := (HCE.out _ hSw).2; go_simp; try with_reducible rfl))); (try simp only [Act.put, List.setIfInBounds_toArray, List.set_cons_zero, List.set_cons_succ, List.getElem_toArray, List.getElem_cons_zero, List.getElem_cons_succ]))
      (refine wpAnyH_take (i := 8) (v := ?_) rfl (by kernel_rfl) (by kernel_rfl) (by kernel_rfl) (fun _ _ _ h => h) (Or.inl ⟨by rfl, ?_⟩) hHeld ?_; rotate_left; (focus (intro w hSw; (try dsimp only at hSw); go_simp; try with_reducible rfl)); (try simp only [Act.put, List.setIfInBounds_toArray, List.set_cons_zero, List.set_cons_succ, List.getElem_toArray, List.getElem_cons_zero, List.getElem_cons_succ]))
      refine wpAnyH_done (by kernel_rfl) ?_ _
      go_wp2_with fail
      go_ret
      exact TlA.nil (HP2.out.later hHeld) (HC2.out.trans (Chg.of_below _ hHeld))
    · have k1 : decide (I + 1 < G) = false := by simp; omega
      have e9 : tickM s = tellM s ∧ tickL s = segL s.ac s.tk (s.line.take s.told) := ⟨by unfold tickM; rw [if_neg h0, if_neg h1], by unfold tickL; rw [if_neg h0, if_neg h1]⟩
      rw [e9.1, e9.2]
      clear e9 h0 h1 hb hln hT hI hG hti hti2 ok hX hw2 hq hb2 hnb
      go_enter Try.func17, Try.ntmps17
      go_wp2_with fail
      refine HNO.out.mono ?_
      rintro e w1 ⟨rfl, rfl⟩
      go_wp2_with fail
      rw [← HW2.out]
      clear c2 c3 hfz e1
      (refine wp_region_held_drew (S := (fun w' => Below w2.heap.size w2 w')) (by kernel_rfl) ?_ (fun hHeld => ?_); (focus ((try dsimp only); (exact (Below.refl _ _).drew))))
      (try dsimp only at hHeld)
      (refine wpAnyH_take (i := 0) (v := ?_) rfl (by kernel_rfl) (by kernel_rfl) (by kernel_rfl) (fun _ _ _ h => h) (Or.inl ⟨by rfl, ?_⟩) hHeld ?_; rotate_left; (focus (intro w hSw; (try dsimp only at hSw); go_simp; try with_reducible rfl)); (try simp only [Act.put, List.setIfInBounds_toArray, List.set_cons_zero, List.set_cons_succ, List.getElem_toArray, List.getElem_cons_zero])); (refine wpAnyH_take (i := 1) (v := ?_) rfl (by kernel_rfl) (by kernel_rfl) (by kernel_rfl) (fun _ _ _ h => h) (Or.inl ⟨by rfl, ?_⟩) hHeld ?_; rotate_left; (focus (intro w hSw; (try dsimp only at hSw); go_simp; try with_reducible rfl)); (try simp only [Act.put, List.setIfInBounds_toArray, List.set_cons_zero, List.set_cons_succ, List.getElem_toArray, List.getElem_cons_zero, List.getElem_cons_succ])); (refine wpAnyH_take (i := 2) (v := ?_) rfl (by kernel_rfl) (by kernel_rfl) (by kernel_rfl) (fun _ _ _ h => h) (Or.inl ⟨by rfl, ?_⟩) hHeld ?_; rotate_left; (focus (intro w hSw; (try dsimp only at hSw); go_simp; try with_reducible rfl)); (try simp only [Act.put, List.setIfInBounds_toArray, List.set_cons_zero, List.set_cons_succ, List.getElem_toArray, List.getElem_cons_zero, List.getElem_cons_succ]))
      (refine wpAnyH_take (i := 3) (v := ?_) rfl (by kernel_rfl) (by kernel_rfl) (by kernel_rfl) (fun _ _ _ h => h) (Or.inl ⟨by rfl, ?_⟩) hHeld ?_; rotate_left; (focus (intro w hSw; (try dsimp only at hSw); go_simp; (have c0 := (HCE.out _ hSw).1; go_simp; try with_reducible rfl))); (try simp only [Act.put, List.setIfInBounds_toArray, List.set_cons_zero, List.set_cons_succ, List.getElem_toArray, List.getElem_cons_zero, List.getElem_cons_succ]))
      (refine wpAnyH_take (i := 4) (v := ?_) rfl (by kernel_rfl) (by kernel_rfl) (by kernel_rfl) (fun _ _ _ h => h) (Or.inl ⟨by rfl, ?_⟩) hHeld ?_; rotate_left; (focus (intro w hSw; (try dsimp only at hSw); go_simp; try with_reducible rfl)); (try simp only [Act.put, List.setIfInBounds_toArray, List.set_cons_zero, List.set_cons_succ, List.getElem_toArray, List.getElem_cons_zero, List.getElem_cons_succ])); (refine wpAnyH_take (i := 5) (v := ?_) rfl (by kernel_rfl) (by kernel_rfl) (by kernel_rfl) (fun _ _ _ h => h) (Or.inl ⟨by rfl, ?_⟩) hHeld ?_; rotate_left; (focus (intro w hSw; (try dsimp only at hSw); go_simp; try with_reducible rfl)); (try simp only [Act.put, List.setIfInBounds_toArray, List.set_cons_zero, List.set_cons_succ, List.getElem_toArray, List.getElem_cons_zero, List.getElem_cons_succ])); (refine wpAnyH_take (i := 6) (v := ?_) rfl (by kernel_rfl) (by kernel_rfl) (by kernel_rfl) (fun _ _ _ h => h) (Or.inl ⟨by rfl, ?_⟩) hHeld ?_; rotate_left; (focus (intro w hSw; (try dsimp only at hSw); go_simp; try with_reducible rfl)); (try simp only [Act.put, List.setIfInBounds_toArray, List.set_cons_zero, List.set_cons_succ, List.getElem_toArray, List.getElem_cons_zero, List.getElem_cons_succ]))
      (refine wpAnyH_take (i := 7) (v := ?_) rfl (by kernel_rfl) (by kernel_rfl) (by kernel_rfl) (fun _ _ _ h => h) (Or.inl ⟨by rfl, ?_⟩) hHeld ?_; rotate_left; (focus (intro w hSw; (try dsimp only at hSw); go_simp; (have c0 := (HCE.out _ hSw).2; go_simp; try with_reducible rfl))); (try simp only [Act.put, List.setIfInBounds_toArray, List.set_cons_zero, List.set_cons_succ, List.getElem_toArray, List.getElem_cons_zero, List.getElem_cons_succ]))
      (refine wpAnyH_take (i := 8) (v := ?_) rfl (by kernel_rfl) (by kernel_rfl) (by kernel_rfl) (fun _ _ _ h => h) (Or.inl ⟨by rfl, ?_⟩) hHeld ?_; rotate_left; (focus (intro w hSw; (try dsimp only at hSw); go_simp; try with_reducible rfl)); (try simp only [Act.put, List.setIfInBounds_toArray, List.set_cons_zero, List.set_cons_succ, List.getElem_toArray, List.getElem_cons_zero, List.getElem_cons_succ]))
      refine wpAnyH_done (by kernel_rfl) ?_ _
      have HC3 : Hid (Chg [p] w w2.drew) := HC2.out.trans (Chg.of_below _ hHeld)
      have HTE := Lib.hid (tellC (s := { s with ti := s.ti + 1 }) (HP2.out.later hHeld) ⟨HTL.out.t1, HTL.out.t8, HTL.out.few, HTL.out.tkN, HTL.out.len⟩ (fun k hk => Nat.lt_of_lt_of_le (HX.out k hk) HC3.out.size) 0 (Nat.zero_le _))
      clear hHeld
      go_wp2_with fail
      refine HTE.out.mono ?_
      rintro e w3 ⟨u, M, rfl, h1, h2, h3, h4, h5⟩
      have HR : Hid (TlA p g X (tellM s) (segL s.ac s.tk (s.line.take s.told)) w (.returned u) w3) := ⟨u, M, rfl, h1, h2.weak HC3.out.size, h3, h4, HC3.out.trans h5⟩
      clear h1 h2 h3 h4 h5
      go_wp2_with fail
      go_ret
      exact HR.out
set_option maxHeartbeats 4000000 in
set_option maxRecDepth 100000 in
theorem dueC {p g : Nat} {X : List Nat} {s : Sm} {w : World} {N : Nat} (h : PSm p g X s w) (ok : s.Ok N) (hX : ∀ k ∈ X, k < w.heap.size) :
    Calls Try.prog 19 #[.pointer (some ⟨p, 0, none⟩)] w (TlA p g X (dueM s) (dueL s) w) := by
  have HNO := Lib.hid (noneM (h.smB ok.ag1))
  have HOK := Lib.hid ok
  obtain ⟨v, hb, hln⟩ := h
  obtain ⟨va, vc, rfl⟩ := hln.form
  obtain ⟨f, hf⟩ : ∃ f, f = s.told := ⟨_, rfl⟩
  obtain ⟨u, hu⟩ : ∃ u, u = upM s := ⟨_, rfl⟩
  obtain ⟨n, hn⟩ : ∃ n, n = s.line.length := ⟨_, rfl⟩
  have hup := up_told ok
  have hn2 := ok.few
  have hn3 := ok.NN
  have hmin : (if (8 : Int) < (n : Int) then (8 : Int) else (n : Int)) = u := by rw [hu, hn]; unfold upM; split <;> omega
  have hul : u ≤ n ∧ u ≤ 8 := by rw [hu, hn]; unfold upM; omega
  have hq : Chg [p] w (w.setCell ⟨p, 2, none⟩ (.int .i64 (u : Int))) := (Chg.refl _ _).set (by simp) _ _
  have hnb := noB_blk hb (by decide)
  obtain ⟨s1, hs1⟩ : ∃ s1 : Sm, s1 = { s with told := u } := ⟨_, rfl⟩
  have hP1 : PSm p g X s1 (w.setCell ⟨p, 2, none⟩ (.int .i64 (u : Int))) := by
    rw [hs1]; exact ⟨_, hb.set 2 _, hln.chg hq (fun h => by simpa using h) (fun j hj => by simp at hj; subst hj; exact .inl hnb)⟩
  have c1 := BlkAt.cell hb (j := 1) rfl
  have c2 : w.cell? ⟨p, 2, none⟩ = some (.int .i64 (f : Int)) := by rw [hf]; exact BlkAt.cell hb (j := 2) rfl
  have c6 := BlkAt.cell hb (j := 6) rfl
  rw [← hn] at c1
  have hfz : ∀ j, w.frozen? ⟨p, j, none⟩ = false := fun j => hb.frozen j
  have HX : Hid (∀ k ∈ X, k < (w.setCell ⟨p, 2, none⟩ (.int .i64 (u : Int))).heap.size) := fun k hk => by simpa using hX k hk
  have HC1 := Lib.hid hq
  have HP1 := Lib.hid hP1
  by_cases h0 : f < u
  · have e9 : dueM s = tellM s1 ∧ dueL s = segL (s1.ac + f) s1.tk ((s1.line.take s1.told).drop f) := by
      have : s.told < upM s := by omega
      constructor
      · unfold dueM; rw [if_pos this, hs1, hu]
      · unfold dueL; rw [if_pos this, hs1, hu, hf]
    have HTE := Lib.hid (tellC hP1 (by rw [hs1]; exact ⟨by simp; omega, by simp; omega, by simp; omega, by have := ok.tkN; simp; omega, ok.len⟩) HX.out f (by rw [hs1]; simp; omega))
    rw [e9.1, e9.2]
    have k1 : decide (f < u) = true := by simp; omega
    clear e9 hb hln hf hu hn hup hn2 hn3 hul hq hnb hP1 hs1 ok hX h0 c6
    go_enter Try.func19, Try.ntmps19
    go_wp2_with fail
    refine HNO.out.mono ?_
    rintro e w1 ⟨rfl, rfl⟩
    go_wp2_with fail
    refine HTE.out.mono ?_
    rintro e w3 ⟨u, M, rfl, h1, h2, h3, h4, h5⟩
    have HR : Hid (TlA p g X (tellM s1) (segL (s1.ac + f) s1.tk ((s1.line.take s1.told).drop f)) w (.returned u) w3) := ⟨u, M, rfl, h1, h2.weak HC1.out.size, h3, h4, HC1.out.trans h5⟩
    clear h1 h2 h3 h4 h5
    go_wp2_with fail
    go_ret
    exact HR.out
  · have hfu : f = u := by omega
    have es : s1 = s := by rw [hs1, ← hfu, hf]
    rw [es] at hP1 HP1
    have k1 : decide (f < u) = false := by simp; omega
    have hno : ¬ s.told < upM s := by omega
    have e1 : dueM s = offM s := by unfold dueM offM; rw [if_neg hno]
    cases how : s.ow with
    | false =>
      have e9 : dueM s = s ∧ dueL s = [] := ⟨by rw [e1]; unfold offM; rw [← how], by unfold dueL; rw [if_neg hno, how]; simp⟩
      rw [e9.1, e9.2]
      have c7 : w.cell? ⟨p, 6, none⟩ = some (.bool false) := by rw [← how]; exact c6
      clear c6
      have hnn := k1
      clear e9 e1 hb hln hf hu hn hup hn2 hn3 hul hq hnb hP1 hs1 ok hX h0 es how hno hfu
      go_enter Try.func19, Try.ntmps19
      go_wp2_with fail
      refine HNO.out.mono ?_
      rintro e w1 ⟨rfl, rfl⟩
      go_wp2_with fail
      go_ret
      exact TlA.nil HP1.out HC1.out
    | true =>
      have e9 : dueL s = [⟨0, s.tk, []⟩] := by unfold dueL; rw [if_neg hno, how]; simp
      have HTE := Lib.hid (tellerM hP1)
      rw [e9, e1]
      have c7 : w.cell? ⟨p, 6, none⟩ = some (.bool true) := by rw [← how]; exact c6
      clear c6
      clear e9 e1 hb hln hf hu hn hup hn2 hn3 hul hq hnb hP1 hs1 ok hX h0 es how hno hfu
      go_enter Try.func19, Try.ntmps19
      go_wp2_with fail
      refine HNO.out.mono ?_
      rintro e w1 ⟨rfl, rfl⟩
      go_wp2_with fail
      refine HTE.out.mono ?_
      rintro e w2 ⟨k, rfl, hk, hkb, hP, hC⟩
      have HP2 : Hid (PSm p g X (offM s) w2) := hP
      have HC2 : Hid (Chg [p] w w2) := HC1.out.trans hC
      have HF := Lib.hid (tellF (q := 0) (u := .slice none 0 0) (l := []) hkb (Bytes.nil _ none 0 (fun _ => rfl)) (by simp))
      clear hP hC hk hkb c1 c2 c7 hfz k1 hmin
      go_wp2_with fail
      refine HF.out.mono ?_
      rintro e w3 ⟨y, rfl, ho, hs⟩
      obtain ⟨ya, yc, rfl⟩ := OwnB.form ho
      have HBY : Hid (Bod w3 X (.slice ya 0 yc) []) := Bod.own ho (fun j hj => by have h1 := HX.out j hj; have h2 := HC2.out.size; simp at h1; omega)
      have HP3 := Lib.hid (HP2.out.later hs)
      have HC3 : Hid (Chg [p] w w3) := HC2.out.trans (Chg.of_below _ hs)
      clear ho hs
      go_wp2_with fail
      go_ret
      refine ⟨_, [(⟨0, s.tk, []⟩, .slice ya 0 yc)], rfl, rfl, World.ownsRow_lit w3 _ 1 HC3.out.size (by decide) rfl, fun x hx => ?_, HP3.out.later (ba1 _ _), HC3.out.alloc _⟩
      simp at hx; subst hx
      exact HBY.out.later (ba1 _ _)
end Go.Proofs.Ytadcpmfphcapfaa

namespace Go.Proofs.Ytadcpmfphcapfaa
open Go.RowKit
attribute [local go_sem ↓] Go.wp_at_zero Go.wp_at_succ

theorem map_at {M : List (Sg × Value)} {L : List Sg} (h : M.map (·.1) = L) {j : Nat} {x : Sg} (hx : L[j]? = some x) : ∃ u, M[j]? = some (x, u) := by
  rw [← h, List.getElem?_map, Option.map_eq_some_iff] at hx
  obtain ⟨⟨y, u⟩, h1, h2⟩ := hx
  exact ⟨u, by rw [h1]; simp at h2; rw [h2]⟩
theorem map_len {M : List (Sg × Value)} {L : List Sg} (h : M.map (·.1) = L) : M.length = L.length := by rw [← h, List.length_map]
/-- So many bytes, a message each. -/
def kn (k : Nat) : Sm := { smN 5 with line := (List.range k).map fun i => [UInt8.ofNat i] }
theorem kn_ok (k : Nat) (h : k ≤ 10) : (kn k).Ok k := ⟨by simp [kn, smN], by simp [kn, smN], by simp [kn, smN], by simp [kn, smN], by simp [kn, smN], by simp [kn, smN], by simp [kn, smN], by simp [kn, smN], by simp [kn, smN], by omega, by intro b hb; simp [kn] at hb; obtain ⟨i, _, rfl⟩ := hb; simp⟩
theorem kn_len (k : Nat) : (kn k).line.length = k := by simp [kn]
theorem kn_succ (k : Nat) : sendM (kn k) [UInt8.ofNat k] = kn (k + 1) := by simp [kn, sendM, List.range_succ]
theorem one_lit (w : World) (k : Nat) (hk : k < 256) : Bytes (w.alloc (.cells #[.int .u8 (k : Int)] 5)) (.slice (some ⟨w.heap.size, 0, none⟩) 1 1) [UInt8.ofNat k] := by
  have h := bytes_lit w [UInt8.ofNat k]
  have e : (UInt8.ofNat k).toNat = k := by simp; omega
  simp only [bv, List.map_cons, List.map_nil, List.length_cons, List.length_nil, e] at h
  exact h
def k2 : Sm := dueM (kn 10)
def k3 : Sm := takeM k2 0 3
set_option maxHeartbeats 8000000 in
set_option maxRecDepth 100000 in
theorem knownR (w : World) : Calls Try.prog 8 #[] w fun e w' => e = .returned (.bool true) ∧ Below w.heap.size w w' := by
  have HN := Lib.hid (newM 5 w (by omega) (by omega))
  go_enter Try.func8, Try.ntmps8
  go_wp2_with fail
  refine HN.out.mono ?_
  rintro e w1 ⟨rfl, hP, hb1⟩
  have HP1 := Lib.hid (hP [])
  have HB1 := Lib.hid hb1
  clear hP hb1 HN
  go_wp2_with fail
  go_loopw [3] (fun x wr => ∃ k : Nat, k ≤ 10 ∧ x = .int .i64 k ∧ ∃ g, Hid (PSm w.heap.size g [] (kn k) wr) ∧ Hid (w.heap.size ≤ g) ∧ Hid (Below w.heap.size w wr)) (fun x _ => 10 - (intOf x).toNat)
  case atStart => exact ⟨0, by omega, rfl, w.heap.size, HP1.out, Nat.le_refl _, HB1.out⟩
  case round =>
    obtain ⟨k, hk, rfl, g, HP, HG, HB⟩ := hrel
    rcases Nat.lt_or_ge k 10 with hlt | hge
    · have g1 : (k : Int) < 10 := by omega
      have e0 : IntKind.u8.wrap (k : Int) = k := IntWalk.u8_in _ ⟨by omega, by omega⟩
      have e00 : (k : Int) % 256 = k := by omega
      obtain ⟨w2, hw2⟩ : ∃ w2, w2 = wr.alloc (.cells #[.int .u8 (k : Int)] 5) := ⟨_, rfl⟩
      have hb2 : Below wr.heap.size wr w2 := by rw [hw2]; exact ba1 _ _
      have hby : Bytes w2 (.slice (some ⟨wr.heap.size, 0, none⟩) 1 1) [UInt8.ofNat k] := by rw [hw2]; exact one_lit wr k (by omega)
      have HS := sendC (HP.out.later hb2) (kn_ok k hk) (by simp) _ _ hby (by simp) (by rw [kn_len]; omega)
      unfold SnA at HS
      rw [kn_succ, kn_len] at HS
      have HS := Lib.hid HS
      have HW2 := Lib.hid hw2
      have HB2 := Lib.hid (below_of HB.out hb2)
      have e1 : ((kn k).ac + k + 1 : Nat) = k + 1 := by simp [kn, smN]
      rw [e1] at HS
      clear hw2 hb2 hby e1
      go_wp2_with fail
      rw [← HW2.out]
      refine HS.out.mono ?_
      rintro e w3 ⟨rfl, g3, hP, hg, hC⟩
      have HP3 := Lib.hid hP
      have HG3 : Hid (w.heap.size ≤ g3) := by
        have h1 := HG.out; have h2 := HB2.out.size
        rcases hg with e | e
        · rw [e]; exact h1
        · show _ ≤ _; omega
      have HB3 : Hid (Below w.heap.size w w3) := HB2.out.trans (hC.below HB2.out.size (by have := HG.out; simp; omega))
      have f1 : IntKind.u64.wrap ((k : Int) + 1) = ((k + 1 : Nat) : Int) := by rw [IntWalk.u64_in _ ⟨by omega, by omega⟩]; omega
      clear hP hg hC HS
      go_wp2_with fail
      go_roundw
      case rel => exact ⟨k + 1, by omega, by go_num, g3, HP3, HG3, HB3⟩
      case measure => simp [intOf]; omega
    · have e : k = 10 := by omega
      subst e
      have HD := Lib.hid (dueC HP.out (kn_ok 10 (by omega)) (by simp))
      go_wp2_with fail
      refine HD.out.mono ?_
      rintro e w2 ⟨v, M, rfl, hM, hO, hB, hP, hC⟩
      have HP2 : Hid (PSm w.heap.size g [] k2 w2) := hP
      have hl := map_len hM
      rw [show (dueL (kn 10)).length = 8 by decide] at hl
      obtain ⟨a, c, rfl⟩ := hO.form
      rw [hl] at hO ⊢
      obtain ⟨u7, hu7⟩ := map_at hM (j := 7) (x := ⟨8, 0, [7]⟩) (by rfl)
      obtain ⟨h, rfl, hh, d7, _⟩ := hO.at hu7
      have HO2 := Lib.hid d7
      have HH2 : Hid (wr.heap.size ≤ h) := hh
      have HPL := Lib.hid HP.out.lt
      have HC2 := Lib.hid hC
      have HT := takeC HP2.out (dueM_ok (kn_ok 10 (by omega))) (by simp) 0 3 (by omega) (by omega) (.slice none 0 0) [] (fun W _ => Bytes.nil _ none 0 (fun _ => rfl)) (by simp)
      unfold TkA at HT
      rw [show (takeM k2 0 3).ac = 3 by decide, show decide (0 = k2.tk + 1) = false by decide] at HT
      have HT := Lib.hid HT
      clear hM hO hB hP hC hl hu7 hh d7 HD
      go_wp2_with fail
      refine HT.out.mono ?_
      rintro e w3 ⟨u, rfl, hu, hP, hC⟩
      have HP3 : Hid (PSm w.heap.size g [] k3 w3) := hP
      have HC3 := Lib.hid (HC2.out.mono (l' := [w.heap.size, g]) (by simp) |>.trans hC)
      have HO3 := Lib.hid (hC.cell HO2.out (by have := HPL.out; have := HH2.out; simp; omega))
      have HD := Lib.hid (dueC HP3.out (takeM_ok (dueM_ok (kn_ok 10 (by omega))) (by omega) 0 3) (by simp))
      clear hu hP hC HT
      go_wp2_with fail
      refine HD.out.mono ?_
      rintro e w4 ⟨v, M, rfl, hM, hO, hB, hP, hC⟩
      have hl := map_len hM
      rw [show (dueL k3).length = 2 by decide] at hl
      obtain ⟨a, c4, rfl⟩ := hO.form
      rw [hl] at hO ⊢
      obtain ⟨u0, hu0⟩ := map_at hM (j := 0) (x := ⟨9, 0, [8]⟩) (by rfl)
      obtain ⟨h4, rfl, hh, d0, _⟩ := hO.at hu0
      obtain ⟨u1, hu1⟩ := map_at hM (j := 1) (x := ⟨10, 0, [9]⟩) (by rfl)
      obtain ⟨h5, hh5, _, d1, _⟩ := hO.at hu1
      simp at hh5; subst hh5
      have d7 := hC.cell HO3.out (by have := HPL.out; have := HH2.out; simp; omega)
      have HL := leftM (hP.smB (by decide))
      rw [show (dueM k3).line.length = 7 by decide] at HL
      have HL := Lib.hid HL
      have HBF : Hid (Below w.heap.size w w4) := by
        have h1 : Chg [w.heap.size, g] wr w4 := HC3.out.trans (hC.mono (by simp))
        exact HB.out.trans (h1.below HB.out.size (by have := HG.out; simp; omega))
      clear hM hO hB hP hC hl hu0 hu1 hh HD
      go_wp2_with fail
      refine HL.out.mono ?_
      rintro e w5 ⟨rfl, rfl⟩
      go_wp2_with fail
      go_ret
      exact ⟨rfl, HBF.out⟩
end Go.Proofs.Ytadcpmfphcapfaa

namespace Go.Proofs.Ytadcpmfphcapfaa
open Go.ChangeShapes Go.WideShapes Go.ChangeAt Go.RowKit

theorem lt_u8 {a : Int} (h : 0 ≤ a ∧ a ≤ 255) : a < 256 := by omega
theorem lt_u16 {a : Int} (h : 0 ≤ a ∧ a ≤ 65535) : a < 65536 := by omega
theorem lt_u32 {a : Int} (h : 0 ≤ a ∧ a ≤ 4294967295) : a < 4294967296 := by omega
theorem lt_u64 {a : Int} (h : 0 ≤ a ∧ a ≤ 18446744073709551615) : a < 18446744073709551616 := by omega

theorem own : ownKnob Try.prog.godebug = none := by kernel_rfl
theorem laidOut : laidOutB Try.prog = true := by kernel_rfl


theorem spot_none {W : World} {a : Addr} {v : Value} (h : W.cell? (a.add 0) = some v) : a.spot = none := by
  obtain ⟨b, o, sp⟩ := a
  cases sp with
  | none => rfl
  | some s =>
    simp [World.cell?, Addr.add] at h
    split at h <;> cases h
theorem bytes_of_ints {W : World} {A : Option Addr} {len cap : Nat} {zs : List Int} (hl : len ≤ cap) (hz : zs.length = cap) (hwz : ∀ n ∈ zs, (Lit.int .u8 n).wf = true) (h0 : A = none → cap = 0)
    (hc : ∀ a, A = some a → ∀ c, c < cap → W.cell? (a.add c) = some (.int .u8 (zs.getD c 0))) : Bytes W (.slice A len cap) ((zs.take len).map fun z => UInt8.ofNat z.toNat) := by
  have hlen : ((zs.take len).map fun z => UInt8.ofNat z.toNat).length = len := by simp; omega
  rcases Nat.eq_zero_or_pos len with hp | hp
  · subst hp
    exact .inl ⟨by simp, A, cap, rfl, h0⟩
  · cases A with
    | none => have := h0 rfl; omega
    | some x =>
      have hcell := hc x rfl
      have hc0 := hcell 0 (by omega)
      have hsp := spot_none hc0
      obtain ⟨b, o, sp⟩ := x
      simp only at hsp
      subst hsp
      refine .inr ⟨b, o, cap, by rw [hlen], ?_, by rw [hlen]; exact hl, ?_⟩
      · have := World.block_lt_of_cell? _ _ hc0
        simpa [Addr.add] using this
      · intro j y hy
        simp only [List.getElem?_map, Option.map_eq_some_iff] at hy
        obtain ⟨z, hz1, rfl⟩ := hy
        have hj : j < len := by
          have := (List.getElem?_eq_some_iff.1 hz1).1
          simp at this; omega
        have hz2 : zs[j]? = some z := by rw [List.getElem?_take, if_pos hj] at hz1; exact hz1
        have hb := bounds_u8 (hwz z (List.mem_of_getElem? hz2))
        have hcj := hcell j (by omega)
        have he : zs.getD j 0 = z := by simp [List.getD, hz2]
        rw [he] at hcj
        have hn : ((UInt8.ofNat z.toNat).toNat : Int) = z := by rw [UInt8.toNat_ofNat']; omega
        rw [hn]
        cases j with
        | zero => simpa [Addr.add] using hcj
        | succ j => simpa [Addr.add] using hcj

set_option maxRecDepth 100000 in
theorem open_bytes {H : Type} {enc : TypeId × Value → H} {W : World} {base : Nat} {v : Value} {d : DataW H} {p : List MemPlace}
    (hv : Value.okWide Try.prog W .any base 33 v) (h : DataW.Trod enc Try.prog W 0 (fun _ => true) true 33 v d p) : ∃ l : List UInt8, Bytes W v l ∧ l.length ≤ 9223372036854775807 := by
  obtain ⟨a, len, cap, rfl⟩ := okWide_slice Try.underlying33 hv
  obtain ⟨fuel, hf⟩ := h
  rcases open_ints Try.underlying33 Try.underlying5 (by kernel_rfl) hf with ⟨hcs, _⟩ | ⟨x, l, c, zs, hcs, _, hl, hm, hz, _, hcell, hwz⟩
  · simp [Value.cells] at hcs
    obtain ⟨rfl, rfl, rfl⟩ := hcs
    exact ⟨[], Bytes.nil _ _ _, by simp⟩
  · simp [Value.cells] at hcs
    obtain ⟨rfl, rfl, rfl⟩ := hcs
    unfold maxLen at hm
    have hzl : zs.length = cap := by simpa using hz
    exact ⟨_, bytes_of_ints hl hzl hwz (fun h => by cases h) (fun a ha c hc => by cases ha; exact hcell c (by omega)), by simp; omega⟩

set_option maxRecDepth 100000 in
theorem open_lists {H : Type} {enc : TypeId × Value → H} {W : World} {base : Nat} {v : Value} {d : DataW H} {p : List MemPlace}
    (hv : Value.okWide Try.prog W .any base 29 v) (h : DataW.Trod enc Try.prog W 0 (fun _ => true) true 29 v d p) :
    ∃ L : List (List UInt8), Lists W v L ∧ L.length ≤ 9223372036854775807 ∧ ∀ l ∈ L, l.length ≤ 9223372036854775807 := by
  obtain ⟨a, len, cap, rfl⟩ := okWide_slice Try.underlying29 hv
  obtain ⟨fuel, hf⟩ := h
  rcases Deep.open_int_rows Try.underlying29 Try.underlying33 Try.underlying5 (by kernel_rfl) (by kernel_rfl) hf with ⟨hcs, _⟩ | ⟨x, l, c, A, Ln, C, Z, hcs, _, hl, hm, _, hr⟩
  · simp [Value.cells] at hcs
    obtain ⟨rfl, rfl, rfl⟩ := hcs
    exact ⟨[], Lists.nil _ _ _, by simp, by simp⟩
  · simp [Value.cells] at hcs
    obtain ⟨rfl, rfl, rfl⟩ := hcs
    unfold maxLen at hm hr
    have each : ∀ r, r < cap → Bytes W (.slice (A r) (Ln r) (C r)) (((Z r).take (Ln r)).map fun z => UInt8.ofNat z.toNat) := fun r hrr => by
      obtain ⟨_, h1, h2, h3, h4, h5, h6⟩ := hr r hrr
      exact bytes_of_ints h1 h3 h4 h5 (fun a ha c hc => (h6 a ha).2 c hc)
    refine ⟨(List.range len).map fun r => ((Z r).take (Ln r)).map fun z => UInt8.ofNat z.toNat, ?_, by simp; omega, ?_⟩
    · rcases Nat.eq_zero_or_pos len with hp | hp
      · subst hp
        exact .inl ⟨by simp, _, _, rfl, fun h => by cases h⟩
      · have hc0 := (hr 0 (by omega)).1
        have hsp := spot_none hc0
        obtain ⟨b, o, sp⟩ := x
        simp only at hsp
        subst hsp
        refine .inr ⟨b, o, cap, by simp, ?_, by simpa using hl, ?_⟩
        · have := World.block_lt_of_cell? _ _ hc0
          simpa [Addr.add] using this
        · intro j l hjl
          simp only [List.getElem?_map, Option.map_eq_some_iff] at hjl
          obtain ⟨r, hr1, rfl⟩ := hjl
          have hj : j < len := by
            have := (List.getElem?_eq_some_iff.1 hr1).1
            simpa using this
          have hr2 : r = j := by rw [List.getElem?_range hj] at hr1; cases hr1; rfl
          subst hr2
          refine ⟨_, ?_, each r (by omega)⟩
          have := (hr r (by omega)).1
          cases r with
          | zero => simpa [Addr.add] using this
          | succ r => simpa [Addr.add] using this
    · intro l hl2
      simp only [List.mem_map, List.mem_range] at hl2
      obtain ⟨r, hr1, rfl⟩ := hl2
      obtain ⟨_, h1, h2, h3, _⟩ := hr r (by omega)
      simp; omega

end Go.Proofs.Ytadcpmfphcapfaa

namespace Go.Proofs.Ytadcpmfphcapfaa
open Go.ChangeShapes Go.WideShapes Go.ChangeAt Go.RowKit Go.Joins Go.Deep

/-- The value reads as these, each of k cells. -/
def Rds {α : Type} (k : Nat) (f : α → List Value) (w : World) (v : Value) (L : List α) : Prop :=
  (L = [] ∧ ∃ a c, v = .slice a 0 c ∧ (a = none → c = 0)) ∨
  ∃ b o c, v = .slice (some ⟨b, o, none⟩) L.length c ∧ b < w.heap.size ∧ L.length ≤ c ∧ ∀ j x, L[j]? = some x → ∀ i u, (f x)[i]? = some u → w.cell? ⟨b, o + j * k + i, none⟩ = some u
section
variable {α : Type} {k : Nat} {f : α → List Value}
theorem Rds.later {w w' : World} {v : Value} {L : List α} (h : Rds k f w v L) (hb : Below w.heap.size w w') : Rds k f w' v L := by
  rcases h with h | ⟨b, o, c, h1, h2, hp, h3⟩
  · exact .inl h
  · exact .inr ⟨b, o, c, h1, Nat.lt_of_lt_of_le h2 hb.size, hp, fun j x hx i u hu => cell_later hb (h3 j x hx i u hu)⟩
theorem Rds.form {w : World} {v : Value} {L : List α} (h : Rds k f w v L) : ∃ a c, v = .slice a L.length c := by
  rcases h with ⟨rfl, a, c, rfl, _⟩ | ⟨b, o, c, rfl, _, _⟩
  · exact ⟨a, c, rfl⟩
  · exact ⟨_, c, rfl⟩
theorem Rds.at {w : World} {a : Option Addr} {n c : Nat} {L : List α} (h : Rds k f w (.slice a n c) L) {i : Nat} {x : α} (hx : L[i]? = some x) :
    ∃ b o, a = some ⟨b, o, none⟩ ∧ b < w.heap.size ∧ ∀ j u, (f x)[j]? = some u → w.cell? ⟨b, o + i * k + j, none⟩ = some u := by
  rcases h with ⟨rfl, _⟩ | ⟨b, o, c', h1, h2, _, h3⟩
  · simp at hx
  · simp only [Value.slice.injEq] at h1
    exact ⟨b, o, h1.1, h2, fun j u hu => h3 i x hx j u hu⟩
theorem open_rds [Inhabited α] {H : Type} {enc : TypeId × Value → H} {W : World} {base : Nat} {v : Value} {d : DataW H} {p : List MemPlace} {t : TypeId} (hu : Try.prog.underlying t = some (.slice (Try.prog.elem t))) (hC : Try.prog.cellsOf (Try.prog.elem t) = k) (hk : 0 < k) (Pr : α → Prop)
    (one : ∀ {n : Nat} {cs : List Value} {y : DataW H × List MemPlace}, DataW.trod enc Try.prog W 0 (fun _ => true) true n (Try.prog.elem t) cs = some y → cs.length = k → ∃ x : α, cs = f x ∧ Pr x)
    (hv : Value.okWide Try.prog W .any base t v) (h : DataW.Trod enc Try.prog W 0 (fun _ => true) true t v d p) :
    ∃ L : List α, Rds k f W v L ∧ L.length ≤ 9223372036854775807 ∧ ∀ x ∈ L, Pr x := by
  obtain ⟨a, len, cap, rfl⟩ := okWide_slice hu hv
  obtain ⟨fuel, hf⟩ := h
  rcases open_slice hu hf with ⟨hcs, _⟩ | ⟨x, l, c, m, n, D, Pl, hcs, _, hl, hm, hmm, _, hx⟩
  · simp [Value.cells] at hcs
    obtain ⟨rfl, rfl, rfl⟩ := hcs
    exact ⟨[], .inl ⟨rfl, _, _, rfl, fun _ => rfl⟩, by simp, by simp⟩
  · simp [Value.cells] at hcs
    obtain ⟨rfl, rfl, rfl⟩ := hcs
    unfold maxLen at hm
    have hm2 : m = cap := by simpa using hmm
    subst hm2
    rw [hC] at hx
    have each : ∀ i, i < m → ∃ u : α, ((f u).length = k ∧ ∀ j z, (f u)[j]? = some z → W.cell? ((x.add (i * k)).add j) = some z) ∧ Pr u := by
      intro i hi
      obtain ⟨cs', h1, h2⟩ := hx i hi
      obtain ⟨_, hlen, hcell⟩ := World.cells?_some h1
      obtain ⟨u, rfl, hu⟩ := one h2 hlen
      refine ⟨u, ⟨hlen, fun j z hz => ?_⟩, hu⟩
      have hj := (List.getElem?_eq_some_iff.1 hz).1
      exact (hcell j (by omega)).trans hz
    obtain ⟨F, hF⟩ := choose_lt each
    have hlen : ((List.range len).map F).length = len := by simp
    refine ⟨(List.range len).map F, ?_, by rw [hlen]; omega, ?_⟩
    · rcases Nat.eq_zero_or_pos len with hp | hp
      · subst hp
        exact .inl ⟨by simp, _, _, rfl, fun h => by cases h⟩
      · obtain ⟨⟨hl0, hc⟩, _⟩ := hF 0 (by omega)
        have hc0 := hc 0 _ (List.getElem?_eq_getElem (by omega))
        rw [Nat.zero_mul] at hc0
        have hsp := spot_none (a := x) (by simpa [Addr.add] using hc0)
        obtain ⟨b, o, sp⟩ := x
        simp only at hsp
        subst hsp
        refine .inr ⟨b, o, m, by rw [hlen], ?_, by rw [hlen]; exact hl, ?_⟩
        · have := World.block_lt_of_cell? _ _ hc0
          simpa [Addr.add] using this
        · intro j u hju i z hz
          simp only [List.getElem?_map, Option.map_eq_some_iff] at hju
          obtain ⟨r, hr1, rfl⟩ := hju
          have hj : j < len := by
            have := (List.getElem?_eq_some_iff.1 hr1).1
            simpa using this
          have hr : r = j := by
            rw [List.getElem?_range hj] at hr1
            exact (Option.some.inj hr1).symm
          subst hr
          have := (hF r (by omega)).1.2 i z hz
          have ad : ∀ b o k, (⟨b, o, none⟩ : Addr).add k = ⟨b, o + k, none⟩ := fun b o k => by cases k <;> simp [Addr.add]
          rw [ad, ad] at this
          exact this
    · intro u hu
      obtain ⟨r, hr, rfl⟩ := List.mem_map.1 hu
      have := List.mem_range.1 hr
      exact (hF r (by omega)).2
end
end Go.Proofs.Ytadcpmfphcapfaa

namespace Go.Proofs.Ytadcpmfphcapfaa
open Go.ChangeShapes Go.WideShapes Go.ChangeAt Go.RowKit Go.Joins Go.Deep

set_option maxRecDepth 100000 in
theorem open_bytes_c {H : Type} {enc : TypeId × Value → H} {W : World} {fuel : Nat} {v : Value} {x : DataW H × List MemPlace}
    (hf : DataW.trod enc Try.prog W 0 (fun _ => true) true fuel 33 [v] = some x) : ∃ l : List UInt8, Bytes W v l ∧ l.length ≤ 9223372036854775807 := by
  rcases open_ints Try.underlying33 Try.underlying5 (by kernel_rfl) hf with ⟨hcs, _⟩ | ⟨x, l, c, zs, hcs, _, hl, hm, hz, _, hcell, hwz⟩
  · simp only [List.cons.injEq, and_true] at hcs
    subst hcs
    exact ⟨[], Bytes.nil _ _ _, by simp⟩
  · simp only [List.cons.injEq, and_true] at hcs
    subst hcs
    unfold maxLen at hm
    have hzl : zs.length = c := by simpa using hz
    exact ⟨_, bytes_of_ints hl hzl hwz (fun h => by cases h) (fun a ha c hc => by cases ha; exact hcell c (by omega)), by simp; omega⟩
end Go.Proofs.Ytadcpmfphcapfaa

namespace Go.Proofs.Ytadcpmfphcapfaa
open Go.ChangeShapes Go.WideShapes Go.ChangeAt Go.RowKit Go.Joins Go.Deep

/-- A segment that came in: its numbers, its body and the value that this is. -/
structure Gv where
  q : Nat
  a : Nat
  b : List UInt8
  u : Value
instance : Inhabited Gv := ⟨⟨0, 0, [], undef⟩⟩
def Gv.cs (x : Gv) : List Value := [.int .u64 (x.q : Int), .int .u64 (x.a : Int), x.u]
structure Gv.Ok (W : World) (x : Gv) : Prop where
  q1 : (x.q : Int) ≤ 18446744073709551615
  a1 : (x.a : Int) ≤ 18446744073709551615
  b1 : x.b.length ≤ 9223372036854775807
  by_ : Bytes W x.u x.b
/-- An act. -/
structure Av where
  k : Int
  b : List UInt8
  u : Value
  g : Gv
instance : Inhabited Av := ⟨⟨0, [], undef, default⟩⟩
def Av.cs (x : Av) : List Value := [.int .i64 x.k, x.u, .int .u64 (x.g.q : Int), .int .u64 (x.g.a : Int), x.g.u]
structure Av.Ok (W : World) (x : Av) : Prop where
  k0 : -9223372036854775808 ≤ x.k
  k1 : x.k ≤ 9223372036854775807
  b1 : x.b.length ≤ 9223372036854775807
  by_ : Bytes W x.u x.b
  g : x.g.Ok W
/-- A way. -/
structure Wy where
  k : Int
  n : Int
  back : Bool
instance : Inhabited Wy := ⟨⟨0, 0, false⟩⟩
def Wy.cs (x : Wy) : List Value := [.int .i64 x.k, .int .i64 x.n, .bool x.back]
structure Wy.Ok (x : Wy) : Prop where
  k0 : -9223372036854775808 ≤ x.k
  k1 : x.k ≤ 9223372036854775807
  n0 : -9223372036854775808 ≤ x.n
  n1 : x.n ≤ 9223372036854775807
section
variable {H : Type} {enc : TypeId × Value → H} {W : World}
set_option maxRecDepth 100000 in
theorem seg_cells {n : Nat} {cs : List Value} {y : DataW H × List MemPlace} (h : DataW.trod enc Try.prog W 0 (fun _ => true) true n 35 cs = some y) (hl : cs.length = 3) :
    ∃ a : Gv, cs = a.cs ∧ a.Ok W := by
  have k1 : Try.prog.cellsOf 30 = 1 := by kernel_rfl
  have k2 : Try.prog.cellsOf 33 = 1 := by kernel_rfl
  match cs, hl with
  | [c0, c1, c2], _ =>
    obtain ⟨zs, m, _, hz, _, hzl, hgz⟩ := DataW.trod_struct Try.underlying35 h
    match zs, hzl with
    | [z0, z1, z2], _ =>
      have g0 : DataW.trod enc Try.prog W 0 (fun _ => true) true m 30 [c0] = some z0 := by simpa [k1, k2] using hgz 0 _ rfl
      have g1 : DataW.trod enc Try.prog W 0 (fun _ => true) true m 30 [c1] = some z1 := by simpa [k1, k2] using hgz 1 _ rfl
      have g2 : DataW.trod enc Try.prog W 0 (fun _ => true) true m 33 [c2] = some z2 := by simpa [k1, k2] using hgz 2 _ rfl
      obtain ⟨a0, e0, _, w0⟩ := DataW.trod_int Try.underlying30 g0
      obtain ⟨a1, e1, _, w1⟩ := DataW.trod_int Try.underlying30 g1
      obtain ⟨B, hB, hBl⟩ := open_bytes_c g2
      simp only [List.cons.injEq, and_true] at e0 e1
      subst e0 e1
      have b0 := bounds_u64 w0
      have b1 := bounds_u64 w1
      obtain ⟨x0, rfl⟩ := Int.eq_ofNat_of_zero_le b0.1
      obtain ⟨x1, rfl⟩ := Int.eq_ofNat_of_zero_le b1.1
      exact ⟨⟨x0, x1, B, c2⟩, rfl, ⟨b0.2, b1.2, hBl, hB⟩⟩
set_option maxRecDepth 100000 in
theorem act11_cells {n : Nat} {cs : List Value} {y : DataW H × List MemPlace} (h : DataW.trod enc Try.prog W 0 (fun _ => true) true n 37 cs = some y) (hl : cs.length = 5) :
    ∃ a : Av, cs = a.cs ∧ a.Ok W := by
  have k1 : Try.prog.cellsOf 3 = 1 := by kernel_rfl
  have k2 : Try.prog.cellsOf 33 = 1 := by kernel_rfl
  have k3 : Try.prog.cellsOf 35 = 3 := by kernel_rfl
  match cs, hl with
  | [c0, c1, c2, c3, c4], _ =>
    obtain ⟨zs, m, _, hz, _, hzl, hgz⟩ := DataW.trod_struct Try.underlying37 h
    match zs, hzl with
    | [z0, z1, z2], _ =>
      have g0 : DataW.trod enc Try.prog W 0 (fun _ => true) true m 3 [c0] = some z0 := by simpa [k1, k2, k3] using hgz 0 _ rfl
      have g1 : DataW.trod enc Try.prog W 0 (fun _ => true) true m 33 [c1] = some z1 := by simpa [k1, k2, k3] using hgz 1 _ rfl
      have g2 : DataW.trod enc Try.prog W 0 (fun _ => true) true m 35 [c2, c3, c4] = some z2 := by simpa [k1, k2, k3] using hgz 2 _ rfl
      obtain ⟨a0, e0, _, w0⟩ := DataW.trod_int Try.underlying3 g0
      obtain ⟨B, hB, hBl⟩ := open_bytes_c g1
      obtain ⟨g, e2, hg⟩ := seg_cells g2 rfl
      simp only [Gv.cs, List.cons.injEq, and_true] at e0 e2
      obtain ⟨e2, e3, e4⟩ := e2
      subst e0 e2 e3 e4
      have b0 := bounds_i64 w0
      exact ⟨⟨a0, B, c1, g⟩, rfl, ⟨b0.1, b0.2, hBl, hB, hg⟩⟩
set_option maxRecDepth 100000 in
theorem way_cells {n : Nat} {cs : List Value} {y : DataW H × List MemPlace} (h : DataW.trod enc Try.prog W 0 (fun _ => true) true n 58 cs = some y) (hl : cs.length = 3) :
    ∃ a : Wy, cs = a.cs ∧ a.Ok := by
  have k1 : Try.prog.cellsOf 3 = 1 := by kernel_rfl
  have k2 : Try.prog.cellsOf 4 = 1 := by kernel_rfl
  match cs, hl with
  | [c0, c1, c2], _ =>
    obtain ⟨zs, m, _, hz, _, hzl, hgz⟩ := DataW.trod_struct Try.underlying58 h
    match zs, hzl with
    | [z0, z1, z2], _ =>
      have g0 : DataW.trod enc Try.prog W 0 (fun _ => true) true m 3 [c0] = some z0 := by simpa [k1, k2] using hgz 0 _ rfl
      have g1 : DataW.trod enc Try.prog W 0 (fun _ => true) true m 3 [c1] = some z1 := by simpa [k1, k2] using hgz 1 _ rfl
      have g2 : DataW.trod enc Try.prog W 0 (fun _ => true) true m 4 [c2] = some z2 := by simpa [k1, k2] using hgz 2 _ rfl
      obtain ⟨a0, e0, _, w0⟩ := DataW.trod_int Try.underlying3 g0
      obtain ⟨a1, e1, _, w1⟩ := DataW.trod_int Try.underlying3 g1
      obtain ⟨a2, e2, _⟩ := DataW.trod_bool Try.underlying4 g2
      simp only [List.cons.injEq, and_true] at e0 e1 e2
      subst e0 e1 e2
      have b0 := bounds_i64 w0
      have b1 := bounds_i64 w1
      exact ⟨⟨a0, a1, a2⟩, rfl, ⟨b0.1, b0.2, b1.1, b1.2⟩⟩
end
section
variable {H : Type} {enc : TypeId × Value → H} {W : World} {base : Nat} {v : Value} {d : DataW H} {p : List MemPlace}
set_option maxRecDepth 100000 in
theorem open_segs (hv : Value.okWide Try.prog W .any base 48 v) (h : DataW.Trod enc Try.prog W 0 (fun _ => true) true 48 v d p) :
    ∃ L : List Gv, Rds 3 Gv.cs W v L ∧ L.length ≤ 9223372036854775807 ∧ ∀ x ∈ L, x.Ok W :=
  open_rds Try.underlying48 (by kernel_rfl) (by decide) (Gv.Ok W) (fun h hl => seg_cells h hl) hv h
set_option maxRecDepth 100000 in
theorem open_acts11 (hv : Value.okWide Try.prog W .any base 22 v) (h : DataW.Trod enc Try.prog W 0 (fun _ => true) true 22 v d p) :
    ∃ L : List Av, Rds 5 Av.cs W v L ∧ L.length ≤ 9223372036854775807 ∧ ∀ x ∈ L, x.Ok W :=
  open_rds Try.underlying22 (by kernel_rfl) (by decide) (Av.Ok W) (fun h hl => act11_cells h hl) hv h
set_option maxRecDepth 100000 in
theorem open_ways (hv : Value.okWide Try.prog W .any base 52 v) (h : DataW.Trod enc Try.prog W 0 (fun _ => true) true 52 v d p) :
    ∃ L : List Wy, Rds 3 Wy.cs W v L ∧ L.length ≤ 9223372036854775807 ∧ ∀ x ∈ L, x.Ok :=
  open_rds Try.underlying52 (by kernel_rfl) (by decide) Wy.Ok (fun h hl => way_cells h hl) hv h
end
end Go.Proofs.Ytadcpmfphcapfaa

namespace Go.Proofs.Ytadcpmfphcapfaa
open Go.RowKit
attribute [local go_sem ↓] Go.wp_at_zero Go.wp_at_succ

/-- What Copy leaves. -/
def CpA (X : List Nat) (s : Sm) (w : World) (e : Ending) (w' : World) : Prop :=
  ∃ p g, e = .returned (.pointer (some ⟨p, 0, none⟩)) ∧ w.heap.size ≤ p ∧ PSm p g X s w' ∧ (g = p ∨ w.heap.size ≤ g) ∧ Below w.heap.size w w'
set_option maxHeartbeats 4000000 in
set_option maxRecDepth 100000 in
theorem copyC {p g : Nat} {X : List Nat} {s : Sm} {w : World} {N : Nat} (h : PSm p g X s w) (ok : s.Ok N) :
    Calls Try.prog 10 #[.pointer (some ⟨p, 0, none⟩)] w (CpA X s w) := by
  have H := Lib.hid (noneM (h.smB ok.ag1))
  have hlt := h.lt.1
  obtain ⟨v, hb, hln⟩ := h
  obtain ⟨a, c, rfl⟩ := hln.form
  obtain ⟨n, hn⟩ : ∃ n, n = s.line.length := ⟨_, rfl⟩
  rw [← hn] at hb hln
  obtain ⟨w1, hw1⟩ : ∃ w1, w1 = w.alloc (.cells #[.int .i64 s.ag, .slice a n c, .int .i64 (s.told : Int), .int .i64 s.ti, .int .u64 (s.ac : Int), .int .u64 (s.tk : Int), .bool s.ow] 62) := ⟨_, rfl⟩
  have hb1 : Below w.heap.size w w1 := by rw [hw1]; exact ba1 _ _
  have hs1 : w1.heap.size = w.heap.size + 1 := by rw [hw1]; simp
  have hq : BlkAt 62 w.heap.size (pcs (.slice a n c) s) w1 := by rw [hw1]; exact BlkAt.new w _
  have HC := Lib.hid (cloneL (hln.later hb1) (by have := ok.few; have := ok.NN; omega))
  have c0 := BlkAt.cell hb (j := 0) rfl
  have c1 := BlkAt.cell hb (j := 1) rfl
  have c2 := BlkAt.cell hb (j := 2) rfl
  have c3 := BlkAt.cell hb (j := 3) rfl
  have c4 := BlkAt.cell hb (j := 4) rfl
  have c5 := BlkAt.cell hb (j := 5) rfl
  have c6 := BlkAt.cell hb (j := 6) rfl
  have HQ := Lib.hid hq
  have HB1 := Lib.hid hb1
  have HS1 := Lib.hid hs1
  have HW := Lib.hid hw1
  have HLT := Lib.hid hlt
  clear hb hln hn hw1 hb1 hs1 hq ok
  go_enter Try.func10, Try.ntmps10
  go_wp2_with fail
  refine H.out.mono ?_
  rintro e w2 ⟨rfl, rfl⟩
  go_wp2_with fail
  rw [← HW.out]
  refine HC.out.mono ?_
  rintro e w2 ⟨u, rfl, hcl⟩
  obtain ⟨g', hl', hg'⟩ := hcl.1 w.heap.size (by have := HS1.out; omega)
  obtain ⟨ua, uc, rfl⟩ := hl'.form
  obtain ⟨m, hm⟩ : ∃ m, m = s.line.length := ⟨_, rfl⟩
  rw [← hm] at hl' ⊢
  have hq2 := BlkAt.later HQ.out hcl.2
  have HQ2 := Lib.hid hq2
  have q0 := BlkAt.cell hq2 (j := 1) rfl
  have hfz : ∀ j, w2.frozen? ⟨w.heap.size, j, none⟩ = false := fun j => BlkAt.frozen HQ2.out j
  have HL := Lib.hid hl'
  have HG := Lib.hid hg'
  have HB2 := Lib.hid hcl.2
  clear hcl hl' hg' hm hq2 c0 c1 c2 c3 c4 c5 c6
  go_wp2_with fail
  go_ret
  have hc : Chg [w.heap.size] w2 (w2.setCell ⟨w.heap.size, 1, none⟩ (.slice ua m uc)) := (Chg.refl _ _).set (by simp) _ _
  have hbs : Below w.heap.size w w2 := HB1.out.trans (HB2.out.mono (by have := HS1.out; omega))
  refine ⟨w.heap.size, g', rfl, Nat.le_refl _, ⟨_, BlkAt.set HQ2.out 1 _, HL.out.chg hc (fun h => by simpa using h) (fun j hj => by simp at hj; subst hj; exact .inl (noB_blk HQ2.out (by decide)))⟩, ?_, hbs.trans (hc.below hbs.size (by simp))⟩
  rcases HG.out with e | e
  · exact .inl e
  · exact .inr (by have := HS1.out; omega)
end Go.Proofs.Ytadcpmfphcapfaa

namespace Go.Proofs.Ytadcpmfphcapfaa
open Go.RowKit
attribute [local go_sem ↓] Go.wp_at_zero Go.wp_at_succ

/-- Bytes that stand whatever is done behind a world. -/
def Kn (w0 : World) (u : Value) (b : List UInt8) : Prop := ∀ W, Below w0.heap.size w0 W → Bytes W u b
/-- The cells of the reference's stream. -/
def rcs (v : Value) (s : Sm) : List Value := [.int .i64 s.ag, v, .int .i64 (s.ac : Int), .int .i64 ((s.ac + s.told : Nat) : Int), .int .u64 (s.tk : Int), .bool s.ow, .int .i64 s.ti]
/-- All that was ever sent, in memory. -/
def AlAt (w0 w : World) (q r : Nat) (v : Value) (P : List (List UInt8)) : Prop :=
  ∃ xs : List Value, xs.length = P.length ∧ w.ownsRow 0 33 1 v P.length xs ∧ (∀ (j : Nat) (u : Value) (b : List UInt8), xs[j]? = some u → P[j]? = some b → Kn w0 u b) ∧ ((v.ownBlock = none ∧ r = q) ∨ (v.ownBlock = some r ∧ r ≠ q))
def RSm (w0 : World) (q r : Nat) (s : Sm) (pre : List (List UInt8)) (w : World) : Prop := ∃ v, BlkAt 32 q (rcs v s) w ∧ AlAt w0 w q r v (pre ++ s.line) ∧ pre.length = s.ac
theorem AlAt.form {w0 w : World} {q r : Nat} {v : Value} {P : List (List UInt8)} (h : AlAt w0 w q r v P) : ∃ a c, v = .slice a P.length c := by
  obtain ⟨xs, h1, h2, _⟩ := h
  rcases h2.2 with ⟨rfl, h0⟩ | ⟨g, cap, cur, rfl, _⟩
  · exact ⟨none, 0, by rw [h0]⟩
  · exact ⟨_, cap, rfl⟩
theorem AlAt.chg {w0 w w' : World} {q r : Nat} {v : Value} {P : List (List UInt8)} {L : List Nat} (h : AlAt w0 w q r v P) (hm : Chg L w w') (hr : r ≠ q → r ∉ L) : AlAt w0 w' q r v P := by
  obtain ⟨xs, h1, h2, h3, h4⟩ := h
  refine ⟨xs, h1, hm.owns h2 (fun g hg => ?_), h3, h4⟩
  rcases h4 with ⟨e, _⟩ | ⟨e, hn⟩
  · rw [e] at hg; cases hg
  · rw [e] at hg; cases hg; exact hr hn
theorem RSm.chg {w0 w w' : World} {q r : Nat} {s : Sm} {pre : List (List UInt8)} {L : List Nat} (h : RSm w0 q r s pre w) (hm : Chg L w w') (hq : q ∉ L) (hr : r ∉ L) : RSm w0 q r s pre w' := by
  obtain ⟨v, h1, h2, h3⟩ := h
  exact ⟨v, hm.blk h1 hq, h2.chg hm (fun _ => hr), h3⟩
theorem RSm.later {w0 w w' : World} {q r : Nat} {s : Sm} {pre : List (List UInt8)} (h : RSm w0 q r s pre w) (hb : Below w.heap.size w w') : RSm w0 q r s pre w' := h.chg (Chg.of_below [] hb) (by simp) (by simp)
theorem RSm.lt {w0 w : World} {q r : Nat} {s : Sm} {pre : List (List UInt8)} (h : RSm w0 q r s pre w) : q < w.heap.size ∧ r < w.heap.size := by
  obtain ⟨v, h1, ⟨xs, _, h2, _, h4⟩, _⟩ := h
  refine ⟨h1.lt, ?_⟩
  rcases h4 with ⟨_, e⟩ | ⟨e, _⟩
  · rw [e]; exact h1.lt
  · exact (h2.lt r e).2
theorem RSm.noB {w0 w : World} {q r : Nat} {s : Sm} {pre : List (List UInt8)} (h : RSm w0 q r s pre w) : NoB w q ∧ NoB w r := by
  obtain ⟨v, h1, ⟨xs, _, h2, _, h4⟩, _⟩ := h
  have hq := noB_blk h1 (by decide)
  refine ⟨hq, ?_⟩
  rcases h4 with ⟨_, e⟩ | ⟨e, _⟩
  · rw [e]; exact hq
  · obtain ⟨cur, hc⟩ := own_block h2 e
    intro c2 fr h3
    rw [hc] at h3
    simp at h3
/-- The message at a place. -/
theorem AlAt.at {w0 w : World} {q r : Nat} {a : Option Addr} {n c : Nat} {P : List (List UInt8)} (h : AlAt w0 w q r (.slice a n c) P) {j : Nat} {b : List UInt8} (hj : P[j]? = some b) :
    a = some ⟨r, 0, none⟩ ∧ ∃ u, w.cell? ⟨r, j, none⟩ = some u ∧ Kn w0 u b := by
  obtain ⟨xs, h1, h2, h3, h4⟩ := h
  have hjl := (List.getElem?_eq_some_iff.1 hj).1
  rcases h2.2 with ⟨_, h0⟩ | ⟨g, cap, cur, hv, hb, hg, _⟩
  · omega
  · simp only [Value.slice.injEq] at hv
    obtain ⟨rfl, rfl, rfl⟩ := hv
    have e : g = r := by
      rcases h4 with ⟨e, _⟩ | ⟨e, _⟩
      · simp [Value.ownBlock] at e
      · simpa [Value.ownBlock] using e
    subst e
    obtain ⟨u, hu⟩ : ∃ u, xs[j]? = some u := ⟨_, List.getElem?_eq_getElem (show j < xs.length by omega)⟩
    exact ⟨rfl, u, (World.ownsRow.cellAt h2 j (by omega)).trans hu, h3 j u b hu hj⟩
/-- Behind an append. -/
theorem al_app {w0 w : World} {q r : Nat} {v : Value} {P : List (List UInt8)} (h : AlAt w0 w q r v P) (hq : q < w.heap.size) {u : Value} {b : List UInt8} (hu : Kn w0 u b) (h1 : u.oneCell' = true) {e : Nat} (hc : w.cell? ⟨e, 0, none⟩ = some u) (hn : P.length ≤ 1000000) (ty : TypeId) :
    ∃ v' w', (Builtin.append_ #[29, 29] ty #[v, .slice (some ⟨e, 0, none⟩) 1 1]).run Try.prog w = .ok v' w' ∧ ∃ r', AlAt w0 w' q r' v' (P ++ [b]) ∧ Chg [r] w w' ∧ w'.heap[q]? = w.heap[q]? ∧ (r' = r ∨ w.heap.size ≤ r') := by
  obtain ⟨i0, hi, hz0, hz1, hz2⟩ := infoL
  obtain ⟨xs, hl, ho, hk, hr⟩ := h
  have hnews : ∀ (j : Nat) (x : Value), [u][j]? = some x → w.cell? ((⟨e, 0, none⟩ : Addr).add j) = some x := fun j x hx => by
    match j, hx with
    | 0, hx => simp at hx; subst hx; simpa [Addr.add] using hc
  obtain ⟨g, cap, w', hrun, hown, hg, hat, hlt⟩ := run_append_lies (P := Try.prog) w 29 ty 0 33 i0 _ 1 24 Try.underlying29 hi hz0 hz1 hz2 rfl (by decide) v P.length xs ho ⟨e, 0, none⟩ 1 1 [u] rfl hnews (by intro x hx; simp at hx; subst hx; exact h1) (by decide) (by unfold maxLen; omega) (by omega) (Nat.zero_le _) _ rfl
  have hch : Chg [r] w w' := by
    refine ⟨⟨hg.os, hg.tape, hg.output, hg.size, fun k hk => by omega⟩, fun k hk hkn => hg.block k hk (fun e => hkn ?_)⟩
    rcases hr with ⟨e2, _⟩ | ⟨e2, _⟩
    · rw [e2] at e; cases e
    · rw [e2] at e; cases e; simp
  have hqq : w'.heap[q]? = w.heap[q]? := hg.block q hq (fun e => by
    rcases hr with ⟨e2, _⟩ | ⟨e2, hne⟩
    · rw [e2] at e; cases e
    · rw [e2] at e; cases e; exact hne rfl)
  refine ⟨_, w', hrun, g, ⟨xs ++ [u], by simp [hl], by rw [List.length_append]; exact hown, fun j x y hx hy => ?_, .inr ⟨rfl, ?_⟩⟩, hch, hqq, ?_⟩
  · rcases Nat.lt_or_ge j xs.length with hj | hj
    · rw [List.getElem?_append_left hj] at hx
      rw [List.getElem?_append_left (by omega)] at hy
      exact hk j x y hx hy
    · rw [List.getElem?_append_right hj] at hx
      rw [List.getElem?_append_right (by omega)] at hy
      have hj0 : j - xs.length = 0 := by
        have := (List.getElem?_eq_some_iff.1 hx).1
        simp at this; omega
      rw [hj0] at hx
      rw [show j - P.length = 0 by omega] at hy
      simp only [List.getElem?_cons_zero, Option.some.injEq] at hx hy
      subst hx hy
      exact hu
  · rcases hat with e2 | e2
    · rcases hr with ⟨e3, _⟩ | ⟨e3, hne⟩
      · rw [e3] at e2; cases e2
      · rw [e3] at e2; cases e2; exact hne
    · omega
  · rcases hat with e2 | e2
    · rcases hr with ⟨e3, _⟩ | ⟨e3, hne⟩
      · rw [e3] at e2; cases e2
      · rw [e3] at e2; cases e2; exact .inl rfl
    · exact .inr (by omega)
end Go.Proofs.Ytadcpmfphcapfaa
