/- A region that draws its order, and whose last operation waits for all others: the others' walk, then it.
   The front of a line is cut: the walk of acknowledge. -/
import Derived.StillTail
import Derived.Test.YtghaajmalhcgbaaZ02

set_option linter.unusedSimpArgs false
set_option linter.unusedVariables false
namespace Go.Proofs.Ytghaajmalhcgbaa
open Go.RowKit
attribute [local go_sem ↓] Go.wp_at_zero Go.wp_at_succ

theorem blk_sets {t : TypeId} {g : Nat} : ∀ (vs : List Value) (o : Nat) (cs : List Value) (w : World), BlkAt t g cs w → ∃ cs', BlkAt t g cs' (w.setCells g o vs) ∧ cs'.length = cs.length ∧ ∀ j, o + vs.length ≤ j → cs'[j]? = cs[j]?
  | [], _, cs, _, h => ⟨cs, h, rfl, fun _ _ => rfl⟩
  | v :: r, o, cs, w, h => by
    obtain ⟨cs', h1, h2, h3⟩ := blk_sets r (o + 1) (cs.set o v) _ (h.set o v)
    refine ⟨cs', h1, by rw [h2, List.length_set], fun j hj => ?_⟩
    simp only [List.length_cons] at hj
    rw [h3 j (by omega), List.getElem?_set_ne (by omega)]
theorem Chg.sets {l : List Nat} {g : Nat} (hg : g ∈ l) : ∀ (vs : List Value) (o : Nat) {w w' : World}, Chg l w w' → Chg l w (w'.setCells g o vs)
  | [], _, _, _, h => h
  | v :: r, o, _, _, h => Chg.sets hg r (o + 1) (h.set hg o v)
theorem cellsLL : (Try.prog.underlying 135) = some (.slice (Try.prog.elem 135)) := by kernel_rfl
theorem sizeLL (w : World) : (sizeOf (Try.prog.elem 135)).run Try.prog w = .ok 1 w := by kernel_rfl
theorem zeroLL (w : World) : (zeroValue 90).run Try.prog w = .ok (.slice none 0 0) w := by kernel_rfl
/-- What a cut of the front does. -/
structure LnCut (w : World) (p g : Nat) (X : List Nat) (a : Option Addr) (n c k : Nat) (P : List (List UInt8)) (o : Nat) (a2 : Option Addr) (w1 : World) : Prop where
  ad : a = some ⟨g, o, none⟩
  ne : g ≠ p
  sh : ∀ w, (Instr.slice 135 (.slice a n c) none (some (.int .i64 (k : Int))) none).run Try.prog w = .ok (.slice a k c) w
  sl : ∀ w, (Instr.slice 135 (.slice a n c) (some (.int .i64 (k : Int))) none none).run Try.prog w = .ok (.slice a2 (n - k) (c - k)) w
  cl : ∀ ty, (Builtin.clear_ #[135] ty #[.slice a k c]).run Try.prog w = .ok (.tuple #[]) w1
  ch : Chg [g] w w1
  ln : LnAt w1 p g X (.slice a2 (n - k) (c - k)) (P.drop k)
theorem ln_cut {w : World} {p g : Nat} {X : List Nat} {a : Option Addr} {c : Nat} {P : List (List UInt8)} (h : LnAt w p g X (.slice a P.length c) P) {k : Nat} (hk0 : 0 < k) (hk : k ≤ P.length) :
    ∃ o a2 w1, LnCut w p g X a P.length c k P o a2 w1 := by
  rcases h with ⟨rfl, _⟩ | ⟨o, cap, cs, h1, h2, h3, h4, h5, h6⟩
  · simp at hk; omega
  · simp only [Value.slice.injEq] at h1
    obtain ⟨rfl, _, rfl⟩ := h1
    obtain ⟨cs', g1, g2, g3⟩ := blk_sets (List.replicate k (.slice none 0 0)) o cs w h3
    rw [List.length_replicate] at g3
    have hch : Chg [g] w (w.setCells g o (List.replicate k (.slice none 0 0))) := Chg.sets (by simp) _ _ (Chg.refl _ _)
    refine ⟨o, if k = c then some ⟨g, o, none⟩ else some ⟨g, o + k, none⟩, _, rfl, h2, fun w => ?_, fun w => ?_, fun ty => ?_, hch, ?_⟩
    · rw [run_slice_h w _ _ _ _ cellsLL _ _ (by omega) (by omega), sizeLL]
      show Result.ok (Go.sliced _ 0 _ c 1) w = _
      rw [Int.toNat_natCast]
      unfold Go.sliced
      congr 2
      split <;> simp [Addr.add]
    · rw [run_slice_l w _ _ _ _ cellsLL _ _ (by omega) (by omega), sizeLL]
      show Result.ok (Go.sliced _ _ _ _ 1) w = _
      unfold Go.sliced
      rw [Int.toNat_natCast]
      congr 2
      by_cases hkc : k = c
      · rw [if_pos hkc, if_pos (by omega)]
      · rw [if_neg hkc, if_neg (by omega)]
        simp [Addr.add]; omega
    · exact Lib.run_clear_slice w 135 90 ty _ Try.underlying135 zeroLL rfl rfl g o k c hk0 (fun j hj => by
        rw [h3.cell (List.getElem?_eq_getElem (show o + j < cs.length by omega))]; rfl) (fun j _ => h3.frozen _)
    · have hNB : ∀ j ∈ [g], NoB w j ∨ j ∈ X := fun j hj => by simp at hj; subst hj; exact .inl (noB_blk h3 (by decide))
      by_cases hkc : k = c
      · rw [if_pos hkc]
        have e : P.drop k = [] := List.drop_eq_nil_of_le (by omega)
        rw [e]
        refine .inr ⟨o, c - k, cs', ?_, h2, g1, by omega, by simp, by simp⟩
        simp; omega
      · rw [if_neg hkc]
        refine .inr ⟨o + k, c - k, cs', by simp, h2, g1, by omega, by simp; omega, fun j b hj => ?_⟩
        rw [List.getElem?_drop] at hj
        obtain ⟨u, hu, hb⟩ := h6 (k + j) b hj
        exact ⟨u, by rw [g3 _ (by omega)]; rw [← hu]; congr 1; omega, hb.chg hch hNB⟩

set_option maxHeartbeats 2000000 in
set_option maxRecDepth 100000 in
theorem ackC {p g : Nat} {X : List Nat} {s : Sm} {w : World} {N : Nat} (h : PSm p g X s w) (ok : s.Ok N) (a : Nat) (ha : (a : Int) ≤ 18446744073709551615) :
    Calls Try.prog 65 #[.pointer (some ⟨p, 0, none⟩), .int .u64 (a : Int)] w fun e w' => (∃ v, e = .returned v) ∧ PSm p g X (ackM s a) w' ∧ Chg [p, g] w w' := by
  have HP := Lib.hid h
  obtain ⟨A, hA⟩ : ∃ A : Int, A = a := ⟨_, rfl⟩
  obtain ⟨x, hx⟩ : ∃ x : Int, x = s.ac := ⟨_, rfl⟩
  obtain ⟨T, hT⟩ : ∃ T : Int, T = s.told := ⟨_, rfl⟩
  have HCE : Hid (∀ W, Below w.heap.size w W → W.cell? ⟨p, 4, none⟩ = some (.int .u64 x) ∧ W.cell? ⟨p, 2, none⟩ = some (.int .i64 T)) := by
    obtain ⟨v, hb, hl⟩ := h
    have : ∀ W, Below w.heap.size w W → W.cell? ⟨p, 4, none⟩ = some (.int .u64 x) ∧ W.cell? ⟨p, 2, none⟩ = some (.int .i64 T) := fun W hW => by
      rw [hx, hT]
      exact ⟨BlkAt.cell (hb.later hW) (j := 4) rfl, BlkAt.cell (hb.later hW) (j := 2) rfl⟩
    exact this
  have b1 := ok.t1
  have b2 := ok.t8
  have b3 := ok.few
  have b4 := ok.NN
  by_cases h1 : s.ac < a
  · have k1 : decide (A ≤ x) = false := by simp; omega
    have e1 : IntKind.u64.wrap (A - x) = A - x := IntWalk.u64_in _ ⟨by omega, by omega⟩
    have e2 : IntKind.u64.wrap T = T := IntWalk.u64_in _ ⟨by omega, by omega⟩
    by_cases h2 : a ≤ s.ac + s.told
    · have k2 : decide (T < A - x) = false := by simp; omega
      obtain ⟨k, hk⟩ : ∃ k, k = a - s.ac := ⟨_, rfl⟩
      have e : ackM s a = { s with line := s.line.drop k, told := s.told - k, ac := a, ti := 0 } := by unfold ackM; rw [if_pos ⟨h1, h2⟩, hk]
      rw [e]
      have hz : A - x = (k : Int) := by omega
      have HK : Hid (0 < k ∧ k ≤ s.told ∧ s.told ≤ s.line.length ∧ T = s.told ∧ A = a ∧ s.told ≤ 8) := ⟨by omega, by omega, b1, hT, hA, b2⟩
      rw [hz] at k2
      have e9 := e1.trans hz
      clear e1
      have e1 := e9
      clear e9
      rw [← hA]
      clear h ok ha hA hx hT b1 b2 b3 b4 h1 h2 hk e hz
      go_enter Try.func65, Try.ntmps65
      go_wp2_with fail
      (refine wp_region_held_drew (S := (fun w' => Below w.heap.size w w')) (by kernel_rfl) ?_ (fun hHeld => ?_); (focus ((try dsimp only); (exact (Below.refl _ _).drew))))
      (try dsimp only at hHeld)
      (refine wpAnyH_take (i := 0) (v := ?_) rfl (by kernel_rfl) (by kernel_rfl) (by kernel_rfl) (fun _ _ _ h => h) (Or.inl ⟨by rfl, ?_⟩) hHeld ?_; rotate_left; (focus (intro w hSw; (try dsimp only at hSw); go_simp; try with_reducible rfl)); (try simp only [Act.put, List.setIfInBounds_toArray, List.set_cons_zero, List.set_cons_succ, List.getElem_toArray, List.getElem_cons_zero])); (refine wpAnyH_take (i := 1) (v := ?_) rfl (by kernel_rfl) (by kernel_rfl) (by kernel_rfl) (fun _ _ _ h => h) (Or.inl ⟨by rfl, ?_⟩) hHeld ?_; rotate_left; (focus (intro w hSw; (try dsimp only at hSw); go_simp; try with_reducible rfl)); (try simp only [Act.put, List.setIfInBounds_toArray, List.set_cons_zero, List.set_cons_succ, List.getElem_toArray, List.getElem_cons_zero, List.getElem_cons_succ])); (refine wpAnyH_take (i := 2) (v := ?_) rfl (by kernel_rfl) (by kernel_rfl) (by kernel_rfl) (fun _ _ _ h => h) (Or.inl ⟨by rfl, ?_⟩) hHeld ?_; rotate_left; (focus (intro w hSw; (try dsimp only at hSw); go_simp; try with_reducible rfl)); (try simp only [Act.put, List.setIfInBounds_toArray, List.set_cons_zero, List.set_cons_succ, List.getElem_toArray, List.getElem_cons_zero, List.getElem_cons_succ])); (refine wpAnyH_take (i := 3) (v := ?_) rfl (by kernel_rfl) (by kernel_rfl) (by kernel_rfl) (fun _ _ _ h => h) (Or.inl ⟨by rfl, ?_⟩) hHeld ?_; rotate_left; (focus (intro w hSw; (try dsimp only at hSw); go_simp; try with_reducible rfl)); (try simp only [Act.put, List.setIfInBounds_toArray, List.set_cons_zero, List.set_cons_succ, List.getElem_toArray, List.getElem_cons_zero, List.getElem_cons_succ]))
      (refine wpAnyH_take (i := 4) (v := ?_) rfl (by kernel_rfl) (by kernel_rfl) (by kernel_rfl) (fun _ _ _ h => h) (Or.inl ⟨by rfl, ?_⟩) hHeld ?_; rotate_left; (focus (intro w hSw; (try dsimp only at hSw); go_simp; (have c0 := (HCE.out _ hSw).1; go_simp; try with_reducible rfl))); (try simp only [Act.put, List.setIfInBounds_toArray, List.set_cons_zero, List.set_cons_succ, List.getElem_toArray, List.getElem_cons_zero, List.getElem_cons_succ]))
      (refine wpAnyH_take (i := 5) (v := ?_) rfl (by kernel_rfl) (by kernel_rfl) (by kernel_rfl) (fun _ _ _ h => h) (Or.inl ⟨by rfl, ?_⟩) hHeld ?_; rotate_left; (focus (intro w hSw; (try dsimp only at hSw); go_simp; try with_reducible rfl)); (try simp only [Act.put, List.setIfInBounds_toArray, List.set_cons_zero, List.set_cons_succ, List.getElem_toArray, List.getElem_cons_zero, List.getElem_cons_succ])); (refine wpAnyH_take (i := 6) (v := ?_) rfl (by kernel_rfl) (by kernel_rfl) (by kernel_rfl) (fun _ _ _ h => h) (Or.inl ⟨by rfl, ?_⟩) hHeld ?_; rotate_left; (focus (intro w hSw; (try dsimp only at hSw); go_simp; try with_reducible rfl)); (try simp only [Act.put, List.setIfInBounds_toArray, List.set_cons_zero, List.set_cons_succ, List.getElem_toArray, List.getElem_cons_zero, List.getElem_cons_succ])); (refine wpAnyH_take (i := 7) (v := ?_) rfl (by kernel_rfl) (by kernel_rfl) (by kernel_rfl) (fun _ _ _ h => h) (Or.inl ⟨by rfl, ?_⟩) hHeld ?_; rotate_left; (focus (intro w hSw; (try dsimp only at hSw); go_simp; try with_reducible rfl)); (try simp only [Act.put, List.setIfInBounds_toArray, List.set_cons_zero, List.set_cons_succ, List.getElem_toArray, List.getElem_cons_zero, List.getElem_cons_succ])); (refine wpAnyH_take (i := 8) (v := ?_) rfl (by kernel_rfl) (by kernel_rfl) (by kernel_rfl) (fun _ _ _ h => h) (Or.inl ⟨by rfl, ?_⟩) hHeld ?_; rotate_left; (focus (intro w hSw; (try dsimp only at hSw); go_simp; try with_reducible rfl)); (try simp only [Act.put, List.setIfInBounds_toArray, List.set_cons_zero, List.set_cons_succ, List.getElem_toArray, List.getElem_cons_zero, List.getElem_cons_succ])); (refine wpAnyH_take (i := 9) (v := ?_) rfl (by kernel_rfl) (by kernel_rfl) (by kernel_rfl) (fun _ _ _ h => h) (Or.inl ⟨by rfl, ?_⟩) hHeld ?_; rotate_left; (focus (intro w hSw; (try dsimp only at hSw); go_simp; try with_reducible rfl)); (try simp only [Act.put, List.setIfInBounds_toArray, List.set_cons_zero, List.set_cons_succ, List.getElem_toArray, List.getElem_cons_zero, List.getElem_cons_succ])); (refine wpAnyH_take (i := 10) (v := ?_) rfl (by kernel_rfl) (by kernel_rfl) (by kernel_rfl) (fun _ _ _ h => h) (Or.inl ⟨by rfl, ?_⟩) hHeld ?_; rotate_left; (focus (intro w hSw; (try dsimp only at hSw); go_simp; try with_reducible rfl)); (try simp only [Act.put, List.setIfInBounds_toArray, List.set_cons_zero, List.set_cons_succ, List.getElem_toArray, List.getElem_cons_zero, List.getElem_cons_succ]))
      (refine wpAnyH_take (i := 11) (v := ?_) rfl (by kernel_rfl) (by kernel_rfl) (by kernel_rfl) (fun _ _ _ h => h) (Or.inl ⟨by rfl, ?_⟩) hHeld ?_; rotate_left; (focus (intro w hSw; (try dsimp only at hSw); go_simp; (have c0 := (HCE.out _ hSw).1; go_simp; try with_reducible rfl))); (try simp only [Act.put, List.setIfInBounds_toArray, List.set_cons_zero, List.set_cons_succ, List.getElem_toArray, List.getElem_cons_zero, List.getElem_cons_succ]))
      (refine wpAnyH_take (i := 12) (v := ?_) rfl (by kernel_rfl) (by kernel_rfl) (by kernel_rfl) (fun _ _ _ h => h) (Or.inl ⟨by rfl, ?_⟩) hHeld ?_; rotate_left; (focus (intro w hSw; (try dsimp only at hSw); go_simp; try with_reducible rfl)); (try simp only [Act.put, List.setIfInBounds_toArray, List.set_cons_zero, List.set_cons_succ, List.getElem_toArray, List.getElem_cons_zero, List.getElem_cons_succ])); (refine wpAnyH_take (i := 13) (v := ?_) rfl (by kernel_rfl) (by kernel_rfl) (by kernel_rfl) (fun _ _ _ h => h) (Or.inl ⟨by rfl, ?_⟩) hHeld ?_; rotate_left; (focus (intro w hSw; (try dsimp only at hSw); go_simp; try with_reducible rfl)); (try simp only [Act.put, List.setIfInBounds_toArray, List.set_cons_zero, List.set_cons_succ, List.getElem_toArray, List.getElem_cons_zero, List.getElem_cons_succ])); (refine wpAnyH_take (i := 14) (v := ?_) rfl (by kernel_rfl) (by kernel_rfl) (by kernel_rfl) (fun _ _ _ h => h) (Or.inl ⟨by rfl, ?_⟩) hHeld ?_; rotate_left; (focus (intro w hSw; (try dsimp only at hSw); go_simp; try with_reducible rfl)); (try simp only [Act.put, List.setIfInBounds_toArray, List.set_cons_zero, List.set_cons_succ, List.getElem_toArray, List.getElem_cons_zero, List.getElem_cons_succ])); (refine wpAnyH_take (i := 15) (v := ?_) rfl (by kernel_rfl) (by kernel_rfl) (by kernel_rfl) (fun _ _ _ h => h) (Or.inl ⟨by rfl, ?_⟩) hHeld ?_; rotate_left; (focus (intro w hSw; (try dsimp only at hSw); go_simp; try with_reducible rfl)); (try simp only [Act.put, List.setIfInBounds_toArray, List.set_cons_zero, List.set_cons_succ, List.getElem_toArray, List.getElem_cons_zero, List.getElem_cons_succ]))
      (refine wpAnyH_take (i := 16) (v := ?_) rfl (by kernel_rfl) (by kernel_rfl) (by kernel_rfl) (fun _ _ _ h => h) (Or.inl ⟨by rfl, ?_⟩) hHeld ?_; rotate_left; (focus (intro w hSw; (try dsimp only at hSw); go_simp; (have c0 := (HCE.out _ hSw).2; go_simp; try with_reducible rfl))); (try simp only [Act.put, List.setIfInBounds_toArray, List.set_cons_zero, List.set_cons_succ, List.getElem_toArray, List.getElem_cons_zero, List.getElem_cons_succ]))
      (refine wpAnyH_take (i := 17) (v := ?_) rfl (by kernel_rfl) (by kernel_rfl) (by kernel_rfl) (fun _ _ _ h => h) (Or.inl ⟨by rfl, ?_⟩) hHeld ?_; rotate_left; (focus (intro w hSw; (try dsimp only at hSw); go_simp; try with_reducible rfl)); (try simp only [Act.put, List.setIfInBounds_toArray, List.set_cons_zero, List.set_cons_succ, List.getElem_toArray, List.getElem_cons_zero, List.getElem_cons_succ])); (refine wpAnyH_take (i := 18) (v := ?_) rfl (by kernel_rfl) (by kernel_rfl) (by kernel_rfl) (fun _ _ _ h => h) (Or.inl ⟨by rfl, ?_⟩) hHeld ?_; rotate_left; (focus (intro w hSw; (try dsimp only at hSw); go_simp; try with_reducible rfl)); (try simp only [Act.put, List.setIfInBounds_toArray, List.set_cons_zero, List.set_cons_succ, List.getElem_toArray, List.getElem_cons_zero, List.getElem_cons_succ])); (refine wpAnyH_take (i := 19) (v := ?_) rfl (by kernel_rfl) (by kernel_rfl) (by kernel_rfl) (fun _ _ _ h => h) (Or.inl ⟨by rfl, ?_⟩) hHeld ?_; rotate_left; (focus (intro w hSw; (try dsimp only at hSw); go_simp; try with_reducible rfl)); (try simp only [Act.put, List.setIfInBounds_toArray, List.set_cons_zero, List.set_cons_succ, List.getElem_toArray, List.getElem_cons_zero, List.getElem_cons_succ]))
      refine wpAnyH_done (by kernel_rfl) ?_ _
      obtain ⟨wd, hwd⟩ : ∃ wd, wd = World.drew w := ⟨_, rfl⟩
      rw [← hwd]
      rw [← hwd] at hHeld
      obtain ⟨v, hb, hl⟩ := HP.out.later hHeld
      obtain ⟨va, vc, rfl⟩ := hl.form
      obtain ⟨o, a2, w1, hcut⟩ := ln_cut hl HK.out.1 (by have := HK.out; omega)
      have hnb := noB_blk hb (by decide)
      have hb1 := hcut.ch.blk hb (by have := hcut.ne; simp; omega)
      obtain ⟨n, hn⟩ : ∃ n, n = s.line.length := ⟨_, rfl⟩
      rw [← hn] at hb hb1 hcut
      have hcl := hcut.cl
      have hsh := hcut.sh
      have hsl := hcut.sl
      have c1 := BlkAt.cell hb (j := 1) rfl
      have c4 : wd.cell? ⟨p, 4, none⟩ = some (.int .u64 x) := (HCE.out _ hHeld).1
      have hfz : ∀ j, wd.frozen? ⟨p, j, none⟩ = false := fun j => hb.frozen j
      have d1 := BlkAt.cell hb1 (j := 1) rfl
      have d2 : w1.cell? ⟨p, 2, none⟩ = some (.int .i64 T) := by have := BlkAt.cell hb1 (j := 2) rfl; rw [← HK.out.2.2.2.1] at this; exact this
      have d3 := BlkAt.cell hb1 (j := 3) rfl
      have d4 : w1.cell? ⟨p, 4, none⟩ = some (.int .u64 x) := by have := (HCE.out _ hHeld).1; exact hcut.ch.cell this (by have := hcut.ne; simp; omega)
      have hfz1 : ∀ j, w1.frozen? ⟨p, j, none⟩ = false := fun j => hb1.frozen j
      have e3 : wrap64 (T - k) = T - k := IntWalk.wrap64_in _ ⟨by have := HK.out; omega, by have := HK.out; omega⟩
      have e4 : wrap64 (k : Int) = k := IntWalk.wrap64_in _ ⟨by have := HK.out; omega, by have := HK.out; omega⟩
      have g1 : (k : Int) ≤ n := by have := HK.out; omega
      have g2 : (k : Int) ≤ 8 := by have := HK.out; omega
      have HB1 := Lib.hid hb1
      have HLN : Hid (LnAt w1 p g X (.slice a2 (n - k) (vc - k)) (s.line.drop k)) := hcut.ln
      have HCH : Hid (Chg [g] w w1) := (Chg.of_below _ hHeld).trans hcut.ch
      have HNE := Lib.hid hcut.ne
      have HNB := Lib.hid (hnb.chg hcut.ch hb.lt (by have := hcut.ne; simp; omega))
      have HN := Lib.hid hn
      clear hb hl hcut hnb hb1 hn hwd
      go_wp2_with fail
      go_end0
      have hq : Chg [p] w1 ((((w1.setCell ⟨p, 1, none⟩ (.slice a2 (n - k) (vc - k))).setCell ⟨p, 2, none⟩ (.int .i64 (T - k))).setCell ⟨p, 4, none⟩ (.int .u64 A)).setCell ⟨p, 3, none⟩ (.int .i64 0)) := ((((Chg.refl _ _).set (by simp) _ _).set (by simp) _ _).set (by simp) _ _).set (by simp) _ _
      refine ⟨⟨_, rfl⟩, ⟨_, ?_, HLN.out.chg hq (fun _ => by have := HNE.out; simp; omega) (fun j hj => by simp at hj; subst hj; exact .inl HNB.out)⟩, (HCH.out.mono (by simp)).trans (hq.mono (by simp))⟩
      have hq2 := (((BlkAt.set HB1.out 1 (.slice a2 (n - k) (vc - k))).set 2 (.int .i64 (T - k))).set 4 (.int .u64 A)).set 3 (.int .i64 0)
      have e9 : (T - k : Int) = ((s.told - k : Nat) : Int) := by have := HK.out; omega
      rw [e9, HK.out.2.2.2.2.1] at hq2 ⊢
      exact hq2
    · have k2 : decide (T < A - x) = true := by simp; omega
      have e : ackM s a = s := by unfold ackM; rw [if_neg (by omega)]
      rw [e, ← hA]
      clear h ok ha hA hx hT b1 b2 b3 b4 h1 h2 e
      go_enter Try.func65, Try.ntmps65
      go_wp2_with fail
      (refine wp_region_held_drew (S := (fun w' => Below w.heap.size w w')) (by kernel_rfl) ?_ (fun hHeld => ?_); (focus ((try dsimp only); (exact (Below.refl _ _).drew))))
      (try dsimp only at hHeld)
      (refine wpAnyH_take (i := 0) (v := ?_) rfl (by kernel_rfl) (by kernel_rfl) (by kernel_rfl) (fun _ _ _ h => h) (Or.inl ⟨by rfl, ?_⟩) hHeld ?_; rotate_left; (focus (intro w hSw; (try dsimp only at hSw); go_simp; try with_reducible rfl)); (try simp only [Act.put, List.setIfInBounds_toArray, List.set_cons_zero, List.set_cons_succ, List.getElem_toArray, List.getElem_cons_zero])); (refine wpAnyH_take (i := 1) (v := ?_) rfl (by kernel_rfl) (by kernel_rfl) (by kernel_rfl) (fun _ _ _ h => h) (Or.inl ⟨by rfl, ?_⟩) hHeld ?_; rotate_left; (focus (intro w hSw; (try dsimp only at hSw); go_simp; try with_reducible rfl)); (try simp only [Act.put, List.setIfInBounds_toArray, List.set_cons_zero, List.set_cons_succ, List.getElem_toArray, List.getElem_cons_zero, List.getElem_cons_succ])); (refine wpAnyH_take (i := 2) (v := ?_) rfl (by kernel_rfl) (by kernel_rfl) (by kernel_rfl) (fun _ _ _ h => h) (Or.inl ⟨by rfl, ?_⟩) hHeld ?_; rotate_left; (focus (intro w hSw; (try dsimp only at hSw); go_simp; try with_reducible rfl)); (try simp only [Act.put, List.setIfInBounds_toArray, List.set_cons_zero, List.set_cons_succ, List.getElem_toArray, List.getElem_cons_zero, List.getElem_cons_succ])); (refine wpAnyH_take (i := 3) (v := ?_) rfl (by kernel_rfl) (by kernel_rfl) (by kernel_rfl) (fun _ _ _ h => h) (Or.inl ⟨by rfl, ?_⟩) hHeld ?_; rotate_left; (focus (intro w hSw; (try dsimp only at hSw); go_simp; try with_reducible rfl)); (try simp only [Act.put, List.setIfInBounds_toArray, List.set_cons_zero, List.set_cons_succ, List.getElem_toArray, List.getElem_cons_zero, List.getElem_cons_succ]))
      (refine wpAnyH_take (i := 4) (v := ?_) rfl (by kernel_rfl) (by kernel_rfl) (by kernel_rfl) (fun _ _ _ h => h) (Or.inl ⟨by rfl, ?_⟩) hHeld ?_; rotate_left; (focus (intro w hSw; (try dsimp only at hSw); go_simp; (have c0 := (HCE.out _ hSw).1; go_simp; try with_reducible rfl))); (try simp only [Act.put, List.setIfInBounds_toArray, List.set_cons_zero, List.set_cons_succ, List.getElem_toArray, List.getElem_cons_zero, List.getElem_cons_succ]))
      (refine wpAnyH_take (i := 5) (v := ?_) rfl (by kernel_rfl) (by kernel_rfl) (by kernel_rfl) (fun _ _ _ h => h) (Or.inl ⟨by rfl, ?_⟩) hHeld ?_; rotate_left; (focus (intro w hSw; (try dsimp only at hSw); go_simp; try with_reducible rfl)); (try simp only [Act.put, List.setIfInBounds_toArray, List.set_cons_zero, List.set_cons_succ, List.getElem_toArray, List.getElem_cons_zero, List.getElem_cons_succ])); (refine wpAnyH_take (i := 6) (v := ?_) rfl (by kernel_rfl) (by kernel_rfl) (by kernel_rfl) (fun _ _ _ h => h) (Or.inl ⟨by rfl, ?_⟩) hHeld ?_; rotate_left; (focus (intro w hSw; (try dsimp only at hSw); go_simp; try with_reducible rfl)); (try simp only [Act.put, List.setIfInBounds_toArray, List.set_cons_zero, List.set_cons_succ, List.getElem_toArray, List.getElem_cons_zero, List.getElem_cons_succ])); (refine wpAnyH_take (i := 7) (v := ?_) rfl (by kernel_rfl) (by kernel_rfl) (by kernel_rfl) (fun _ _ _ h => h) (Or.inl ⟨by rfl, ?_⟩) hHeld ?_; rotate_left; (focus (intro w hSw; (try dsimp only at hSw); go_simp; try with_reducible rfl)); (try simp only [Act.put, List.setIfInBounds_toArray, List.set_cons_zero, List.set_cons_succ, List.getElem_toArray, List.getElem_cons_zero, List.getElem_cons_succ])); (refine wpAnyH_take (i := 8) (v := ?_) rfl (by kernel_rfl) (by kernel_rfl) (by kernel_rfl) (fun _ _ _ h => h) (Or.inl ⟨by rfl, ?_⟩) hHeld ?_; rotate_left; (focus (intro w hSw; (try dsimp only at hSw); go_simp; try with_reducible rfl)); (try simp only [Act.put, List.setIfInBounds_toArray, List.set_cons_zero, List.set_cons_succ, List.getElem_toArray, List.getElem_cons_zero, List.getElem_cons_succ])); (refine wpAnyH_take (i := 9) (v := ?_) rfl (by kernel_rfl) (by kernel_rfl) (by kernel_rfl) (fun _ _ _ h => h) (Or.inl ⟨by rfl, ?_⟩) hHeld ?_; rotate_left; (focus (intro w hSw; (try dsimp only at hSw); go_simp; try with_reducible rfl)); (try simp only [Act.put, List.setIfInBounds_toArray, List.set_cons_zero, List.set_cons_succ, List.getElem_toArray, List.getElem_cons_zero, List.getElem_cons_succ])); (refine wpAnyH_take (i := 10) (v := ?_) rfl (by kernel_rfl) (by kernel_rfl) (by kernel_rfl) (fun _ _ _ h => h) (Or.inl ⟨by rfl, ?_⟩) hHeld ?_; rotate_left; (focus (intro w hSw; (try dsimp only at hSw); go_simp; try with_reducible rfl)); (try simp only [Act.put, List.setIfInBounds_toArray, List.set_cons_zero, List.set_cons_succ, List.getElem_toArray, List.getElem_cons_zero, List.getElem_cons_succ]))
      (refine wpAnyH_take (i := 11) (v := ?_) rfl (by kernel_rfl) (by kernel_rfl) (by kernel_rfl) (fun _ _ _ h => h) (Or.inl ⟨by rfl, ?_⟩) hHeld ?_; rotate_left; (focus (intro w hSw; (try dsimp only at hSw); go_simp; (have c0 := (HCE.out _ hSw).1; go_simp; try with_reducible rfl))); (try simp only [Act.put, List.setIfInBounds_toArray, List.set_cons_zero, List.set_cons_succ, List.getElem_toArray, List.getElem_cons_zero, List.getElem_cons_succ]))
      (refine wpAnyH_take (i := 12) (v := ?_) rfl (by kernel_rfl) (by kernel_rfl) (by kernel_rfl) (fun _ _ _ h => h) (Or.inl ⟨by rfl, ?_⟩) hHeld ?_; rotate_left; (focus (intro w hSw; (try dsimp only at hSw); go_simp; try with_reducible rfl)); (try simp only [Act.put, List.setIfInBounds_toArray, List.set_cons_zero, List.set_cons_succ, List.getElem_toArray, List.getElem_cons_zero, List.getElem_cons_succ])); (refine wpAnyH_take (i := 13) (v := ?_) rfl (by kernel_rfl) (by kernel_rfl) (by kernel_rfl) (fun _ _ _ h => h) (Or.inl ⟨by rfl, ?_⟩) hHeld ?_; rotate_left; (focus (intro w hSw; (try dsimp only at hSw); go_simp; try with_reducible rfl)); (try simp only [Act.put, List.setIfInBounds_toArray, List.set_cons_zero, List.set_cons_succ, List.getElem_toArray, List.getElem_cons_zero, List.getElem_cons_succ])); (refine wpAnyH_take (i := 14) (v := ?_) rfl (by kernel_rfl) (by kernel_rfl) (by kernel_rfl) (fun _ _ _ h => h) (Or.inl ⟨by rfl, ?_⟩) hHeld ?_; rotate_left; (focus (intro w hSw; (try dsimp only at hSw); go_simp; try with_reducible rfl)); (try simp only [Act.put, List.setIfInBounds_toArray, List.set_cons_zero, List.set_cons_succ, List.getElem_toArray, List.getElem_cons_zero, List.getElem_cons_succ])); (refine wpAnyH_take (i := 15) (v := ?_) rfl (by kernel_rfl) (by kernel_rfl) (by kernel_rfl) (fun _ _ _ h => h) (Or.inl ⟨by rfl, ?_⟩) hHeld ?_; rotate_left; (focus (intro w hSw; (try dsimp only at hSw); go_simp; try with_reducible rfl)); (try simp only [Act.put, List.setIfInBounds_toArray, List.set_cons_zero, List.set_cons_succ, List.getElem_toArray, List.getElem_cons_zero, List.getElem_cons_succ]))
      (refine wpAnyH_take (i := 16) (v := ?_) rfl (by kernel_rfl) (by kernel_rfl) (by kernel_rfl) (fun _ _ _ h => h) (Or.inl ⟨by rfl, ?_⟩) hHeld ?_; rotate_left; (focus (intro w hSw; (try dsimp only at hSw); go_simp; (have c0 := (HCE.out _ hSw).2; go_simp; try with_reducible rfl))); (try simp only [Act.put, List.setIfInBounds_toArray, List.set_cons_zero, List.set_cons_succ, List.getElem_toArray, List.getElem_cons_zero, List.getElem_cons_succ]))
      (refine wpAnyH_take (i := 17) (v := ?_) rfl (by kernel_rfl) (by kernel_rfl) (by kernel_rfl) (fun _ _ _ h => h) (Or.inl ⟨by rfl, ?_⟩) hHeld ?_; rotate_left; (focus (intro w hSw; (try dsimp only at hSw); go_simp; try with_reducible rfl)); (try simp only [Act.put, List.setIfInBounds_toArray, List.set_cons_zero, List.set_cons_succ, List.getElem_toArray, List.getElem_cons_zero, List.getElem_cons_succ])); (refine wpAnyH_take (i := 18) (v := ?_) rfl (by kernel_rfl) (by kernel_rfl) (by kernel_rfl) (fun _ _ _ h => h) (Or.inl ⟨by rfl, ?_⟩) hHeld ?_; rotate_left; (focus (intro w hSw; (try dsimp only at hSw); go_simp; try with_reducible rfl)); (try simp only [Act.put, List.setIfInBounds_toArray, List.set_cons_zero, List.set_cons_succ, List.getElem_toArray, List.getElem_cons_zero, List.getElem_cons_succ])); (refine wpAnyH_take (i := 19) (v := ?_) rfl (by kernel_rfl) (by kernel_rfl) (by kernel_rfl) (fun _ _ _ h => h) (Or.inl ⟨by rfl, ?_⟩) hHeld ?_; rotate_left; (focus (intro w hSw; (try dsimp only at hSw); go_simp; try with_reducible rfl)); (try simp only [Act.put, List.setIfInBounds_toArray, List.set_cons_zero, List.set_cons_succ, List.getElem_toArray, List.getElem_cons_zero, List.getElem_cons_succ]))
      refine wpAnyH_done (by kernel_rfl) ?_ _
      go_wp2_with fail
      exact bodyPost_ret (results_none rfl _ _ _) rfl ⟨⟨_, rfl⟩, HP.out.later hHeld, Chg.of_below _ hHeld⟩
  · have k1 : decide (A ≤ x) = true := by simp; omega
    have e : ackM s a = s := by unfold ackM; rw [if_neg (by omega)]
    rw [e, ← hA]
    clear h ok ha hA hx hT b1 b2 b3 b4 h1 e
    go_enter Try.func65, Try.ntmps65
    go_wp2_with fail
    (refine wp_region_held_drew (S := (fun w' => Below w.heap.size w w')) (by kernel_rfl) ?_ (fun hHeld => ?_); (focus ((try dsimp only); (exact (Below.refl _ _).drew))))
    (try dsimp only at hHeld)
    (refine wpAnyH_take (i := 0) (v := ?_) rfl (by kernel_rfl) (by kernel_rfl) (by kernel_rfl) (fun _ _ _ h => h) (Or.inl ⟨by rfl, ?_⟩) hHeld ?_; rotate_left; (focus (intro w hSw; (try dsimp only at hSw); go_simp; try with_reducible rfl)); (try simp only [Act.put, List.setIfInBounds_toArray, List.set_cons_zero, List.set_cons_succ, List.getElem_toArray, List.getElem_cons_zero])); (refine wpAnyH_take (i := 1) (v := ?_) rfl (by kernel_rfl) (by kernel_rfl) (by kernel_rfl) (fun _ _ _ h => h) (Or.inl ⟨by rfl, ?_⟩) hHeld ?_; rotate_left; (focus (intro w hSw; (try dsimp only at hSw); go_simp; try with_reducible rfl)); (try simp only [Act.put, List.setIfInBounds_toArray, List.set_cons_zero, List.set_cons_succ, List.getElem_toArray, List.getElem_cons_zero, List.getElem_cons_succ])); (refine wpAnyH_take (i := 2) (v := ?_) rfl (by kernel_rfl) (by kernel_rfl) (by kernel_rfl) (fun _ _ _ h => h) (Or.inl ⟨by rfl, ?_⟩) hHeld ?_; rotate_left; (focus (intro w hSw; (try dsimp only at hSw); go_simp; try with_reducible rfl)); (try simp only [Act.put, List.setIfInBounds_toArray, List.set_cons_zero, List.set_cons_succ, List.getElem_toArray, List.getElem_cons_zero, List.getElem_cons_succ])); (refine wpAnyH_take (i := 3) (v := ?_) rfl (by kernel_rfl) (by kernel_rfl) (by kernel_rfl) (fun _ _ _ h => h) (Or.inl ⟨by rfl, ?_⟩) hHeld ?_; rotate_left; (focus (intro w hSw; (try dsimp only at hSw); go_simp; try with_reducible rfl)); (try simp only [Act.put, List.setIfInBounds_toArray, List.set_cons_zero, List.set_cons_succ, List.getElem_toArray, List.getElem_cons_zero, List.getElem_cons_succ]))
    (refine wpAnyH_take (i := 4) (v := ?_) rfl (by kernel_rfl) (by kernel_rfl) (by kernel_rfl) (fun _ _ _ h => h) (Or.inl ⟨by rfl, ?_⟩) hHeld ?_; rotate_left; (focus (intro w hSw; (try dsimp only at hSw); go_simp; (have c0 := (HCE.out _ hSw).1; go_simp; try with_reducible rfl))); (try simp only [Act.put, List.setIfInBounds_toArray, List.set_cons_zero, List.set_cons_succ, List.getElem_toArray, List.getElem_cons_zero, List.getElem_cons_succ]))
    (refine wpAnyH_take (i := 5) (v := ?_) rfl (by kernel_rfl) (by kernel_rfl) (by kernel_rfl) (fun _ _ _ h => h) (Or.inl ⟨by rfl, ?_⟩) hHeld ?_; rotate_left; (focus (intro w hSw; (try dsimp only at hSw); go_simp; try with_reducible rfl)); (try simp only [Act.put, List.setIfInBounds_toArray, List.set_cons_zero, List.set_cons_succ, List.getElem_toArray, List.getElem_cons_zero, List.getElem_cons_succ])); (refine wpAnyH_take (i := 6) (v := ?_) rfl (by kernel_rfl) (by kernel_rfl) (by kernel_rfl) (fun _ _ _ h => h) (Or.inl ⟨by rfl, ?_⟩) hHeld ?_; rotate_left; (focus (intro w hSw; (try dsimp only at hSw); go_simp; try with_reducible rfl)); (try simp only [Act.put, List.setIfInBounds_toArray, List.set_cons_zero, List.set_cons_succ, List.getElem_toArray, List.getElem_cons_zero, List.getElem_cons_succ]))
    (refine wpAnyH_take (i := 7) (v := undef) rfl (by kernel_rfl) (by kernel_rfl) (by kernel_rfl) (fun _ _ _ h => h) (Or.inr ⟨by rfl, rfl⟩) hHeld ?_; (try simp only [Act.put, List.setIfInBounds_toArray, List.set_cons_zero, List.set_cons_succ, List.getElem_toArray, List.getElem_cons_zero, List.getElem_cons_succ])); (refine wpAnyH_take (i := 8) (v := undef) rfl (by kernel_rfl) (by kernel_rfl) (by kernel_rfl) (fun _ _ _ h => h) (Or.inr ⟨by rfl, rfl⟩) hHeld ?_; (try simp only [Act.put, List.setIfInBounds_toArray, List.set_cons_zero, List.set_cons_succ, List.getElem_toArray, List.getElem_cons_zero, List.getElem_cons_succ])); (refine wpAnyH_take (i := 9) (v := undef) rfl (by kernel_rfl) (by kernel_rfl) (by kernel_rfl) (fun _ _ _ h => h) (Or.inr ⟨by rfl, rfl⟩) hHeld ?_; (try simp only [Act.put, List.setIfInBounds_toArray, List.set_cons_zero, List.set_cons_succ, List.getElem_toArray, List.getElem_cons_zero, List.getElem_cons_succ])); (refine wpAnyH_take (i := 10) (v := undef) rfl (by kernel_rfl) (by kernel_rfl) (by kernel_rfl) (fun _ _ _ h => h) (Or.inr ⟨by rfl, rfl⟩) hHeld ?_; (try simp only [Act.put, List.setIfInBounds_toArray, List.set_cons_zero, List.set_cons_succ, List.getElem_toArray, List.getElem_cons_zero, List.getElem_cons_succ])); (refine wpAnyH_take (i := 11) (v := undef) rfl (by kernel_rfl) (by kernel_rfl) (by kernel_rfl) (fun _ _ _ h => h) (Or.inr ⟨by rfl, rfl⟩) hHeld ?_; (try simp only [Act.put, List.setIfInBounds_toArray, List.set_cons_zero, List.set_cons_succ, List.getElem_toArray, List.getElem_cons_zero, List.getElem_cons_succ])); (refine wpAnyH_take (i := 12) (v := undef) rfl (by kernel_rfl) (by kernel_rfl) (by kernel_rfl) (fun _ _ _ h => h) (Or.inr ⟨by rfl, rfl⟩) hHeld ?_; (try simp only [Act.put, List.setIfInBounds_toArray, List.set_cons_zero, List.set_cons_succ, List.getElem_toArray, List.getElem_cons_zero, List.getElem_cons_succ])); (refine wpAnyH_take (i := 13) (v := undef) rfl (by kernel_rfl) (by kernel_rfl) (by kernel_rfl) (fun _ _ _ h => h) (Or.inr ⟨by rfl, rfl⟩) hHeld ?_; (try simp only [Act.put, List.setIfInBounds_toArray, List.set_cons_zero, List.set_cons_succ, List.getElem_toArray, List.getElem_cons_zero, List.getElem_cons_succ])); (refine wpAnyH_take (i := 14) (v := undef) rfl (by kernel_rfl) (by kernel_rfl) (by kernel_rfl) (fun _ _ _ h => h) (Or.inr ⟨by rfl, rfl⟩) hHeld ?_; (try simp only [Act.put, List.setIfInBounds_toArray, List.set_cons_zero, List.set_cons_succ, List.getElem_toArray, List.getElem_cons_zero, List.getElem_cons_succ])); (refine wpAnyH_take (i := 15) (v := undef) rfl (by kernel_rfl) (by kernel_rfl) (by kernel_rfl) (fun _ _ _ h => h) (Or.inr ⟨by rfl, rfl⟩) hHeld ?_; (try simp only [Act.put, List.setIfInBounds_toArray, List.set_cons_zero, List.set_cons_succ, List.getElem_toArray, List.getElem_cons_zero, List.getElem_cons_succ])); (refine wpAnyH_take (i := 16) (v := undef) rfl (by kernel_rfl) (by kernel_rfl) (by kernel_rfl) (fun _ _ _ h => h) (Or.inr ⟨by rfl, rfl⟩) hHeld ?_; (try simp only [Act.put, List.setIfInBounds_toArray, List.set_cons_zero, List.set_cons_succ, List.getElem_toArray, List.getElem_cons_zero, List.getElem_cons_succ])); (refine wpAnyH_take (i := 17) (v := undef) rfl (by kernel_rfl) (by kernel_rfl) (by kernel_rfl) (fun _ _ _ h => h) (Or.inr ⟨by rfl, rfl⟩) hHeld ?_; (try simp only [Act.put, List.setIfInBounds_toArray, List.set_cons_zero, List.set_cons_succ, List.getElem_toArray, List.getElem_cons_zero, List.getElem_cons_succ])); (refine wpAnyH_take (i := 18) (v := undef) rfl (by kernel_rfl) (by kernel_rfl) (by kernel_rfl) (fun _ _ _ h => h) (Or.inr ⟨by rfl, rfl⟩) hHeld ?_; (try simp only [Act.put, List.setIfInBounds_toArray, List.set_cons_zero, List.set_cons_succ, List.getElem_toArray, List.getElem_cons_zero, List.getElem_cons_succ]))
    (refine wpAnyH_take (i := 19) (v := ?_) rfl (by kernel_rfl) (by kernel_rfl) (by kernel_rfl) (fun _ _ _ h => h) (Or.inl ⟨by rfl, ?_⟩) hHeld ?_; rotate_left; (focus (intro w hSw; (try dsimp only at hSw); go_simp; try with_reducible rfl)); (try simp only [Act.put, List.setIfInBounds_toArray, List.set_cons_zero, List.set_cons_succ, List.getElem_toArray, List.getElem_cons_zero, List.getElem_cons_succ]))
    refine wpAnyH_done (by kernel_rfl) ?_ _
    go_wp2_with fail
    exact bodyPost_ret (results_none rfl _ _ _) rfl ⟨⟨_, rfl⟩, HP.out.later hHeld, Chg.of_below _ hHeld⟩
end Go.Proofs.Ytghaajmalhcgbaa

namespace Go.Proofs.Ytghaajmalhcgbaa
open Go.RowKit

/-- What is asked where all but the last operation have come up. -/
def lastQ (P : Program) (ops : Array Oper) (Q : Exit → Act → World → Prop) : Exit → Act → World → Prop
  | .normal, a, w => wpOp P ops Q (ops.size - 1) (Q .normal) a w
  | e, a, w => Q e a w
/-- Edges and guards go backwards. -/
def backB (md : Region.Mode) (ops : Array Oper) : Bool :=
  (List.range ops.size).all fun i => match ops[i]? with
    | none => true
    | some o => (o.after.all fun e => !Region.binds md e || decide (e.on < i)) && (match o.guard with | none => true | some g => decide (g.1 < i))
theorem back_spec {md : Region.Mode} {ops : Array Oper} (h : backB md ops = true) {i : Nat} {o : Oper} (ho : ops[i]? = some o) :
    (∀ e ∈ o.after, Region.binds md e = true → e.on < i) ∧ ∀ g, o.guard = some g → g.1 < i := by
  have h1 := List.all_eq_true.1 h i (List.mem_range.2 (Array.getElem?_eq_some_iff.1 ho).1)
  rw [ho] at h1
  simp only [Bool.and_eq_true] at h1
  refine ⟨fun e he hb => ?_, fun g hg => ?_⟩
  · have := Array.all_eq_true'.1 h1.1 e he
    rw [hb] at this
    simpa using this
  · have := h1.2
    rw [hg] at this
    simpa using this
theorem letsOut_last {P : Program} {ops : Array Oper} {Q : Exit → Act → World → Prop} : LetsOut (lastQ P ops Q) ↔ LetsOut Q := Iff.rfl
theorem upon_last {P : Program} {ops : Array Oper} {Q : Exit → Act → World → Prop} {o : Oper} {a : Act} {K : Act → World → Prop} : ∀ r : Result Next, o.upon P a K (lastQ P ops Q) r → o.upon P a K Q r
  | .ok (.value _) _, h => h
  | .ok .skip _, h => h
  | .ok (.defer _) _, h => h
  | .ok (.enter f args) w', h => Calls.mono (show Calls P f args w' _ from h) (fun e w'' hr => by
      cases e with
      | returned v => exact hr
      | panicked c => exact hr
      | outgrown => exact hr)
  | .ok (.row row args) w', h => h
  | .halt (.panic _) _, h => h
  | .ok (.round ..) _, h => h.elim
theorem wpOp_last {P : Program} {md : Region.Mode} {ops : Array Oper} {Q : Exit → Act → World → Prop} (hB : backB md ops = true) {i : Nat} (hi : i < ops.size - 1) {K : Act → World → Prop} {a : Act} {w : World}
    (h : wpOp P ops.pop (lastQ P ops Q) i K a w) : wpOp P ops Q i K a w := by
  have e : ops.pop[i]? = ops[i]? := by simp [Array.getElem?_pop, hi]
  unfold wpOp at h ⊢
  rw [e] at h
  cases ho : ops[i]? with
  | none => rw [ho] at h; exact h
  | some o =>
    rw [ho] at h
    simp only at h ⊢
    have hw : Region.wanted o (yielded ops.pop a.tmps) = Region.wanted o (yielded ops a.tmps) := by
      unfold Region.wanted
      cases hg : o.guard with
      | none => rfl
      | some g =>
        have hlt := (back_spec hB ho).2 g hg
        have e2 : ops.pop[g.1]? = ops[g.1]? := by simp [Array.getElem?_pop]; omega
        simp only [yielded, e2]
    rw [hw] at h
    by_cases hx : Region.wanted o (yielded ops a.tmps) = true
    · rw [if_pos hx] at h ⊢
      rcases h with h | h
      · exact .inl (upon_last _ h)
      · exact .inr h
    · rw [if_neg hx] at h ⊢
      exact h
/-- What has come up, of the others and of all. -/
structure Same (n : Nat) (l' l : Array Bool) : Prop where
  s' : l'.size = n
  s : l.size = n + 1
  eq : ∀ i d, i < n → l'.getD i d = l.getD i d
  no : l.getD n true = false
theorem Same.set {n : Nat} {l' l : Array Bool} (h : Same n l' l) {i : Nat} (hi : i < n) : Same n (l'.setIfInBounds i true) (l.setIfInBounds i true) :=
  ⟨by simp [h.s'], by simp [h.s], fun j d hj => by
    by_cases e : i = j
    · subst e
      have h1 : i < l'.size := by rw [h.s']; exact hi
      have h2 : i < l.size := by rw [h.s]; omega
      simp [h1, h2]
    · rw [getD_set_ne d e, getD_set_ne d e]; exact h.eq j d hj, by rw [getD_set_ne true (by omega)]; exact h.no⟩
theorem ready_same {md : Region.Mode} {ops : Array Oper} {n : Nat} (hn : ops.size = n + 1) (hB : backB md ops = true) {l' l : Array Bool} (h : Same n l' l) {i : Nat} (hi : i < n) : i ∈ Region.ready md ops.pop l' ↔ i ∈ Region.ready md ops l := by
  rw [mem_ready, mem_ready, h.eq i true hi, show ops.pop[i]? = ops[i]? by simp [Array.getElem?_pop]; omega]
  constructor
  · rintro ⟨h1, o, ho, h2⟩
    exact ⟨h1, o, ho, fun e he hb => by rw [← h.eq e.on false (by have := (back_spec hB ho).1 e he hb; omega)]; exact h2 e he hb⟩
  · rintro ⟨h1, o, ho, h2⟩
    exact ⟨h1, o, ho, fun e he hb => by rw [h.eq e.on false (by have := (back_spec hB ho).1 e he hb; omega)]; exact h2 e he hb⟩
/-- Where nothing may come up, all has. -/
theorem all_listed {md : Region.Mode} {ops : Array Oper} {n : Nat} (hn : ops.size = n + 1) (hB : backB md ops = true) {l : Array Bool} (hs : l.size = n + 1) (h : ∀ i, i < n → i ∉ Region.ready md ops l) : ∀ i, i < n → l.getD i true = true := by
  intro i
  induction i using Nat.strongRecOn with
  | _ i ih =>
    intro hi
    cases hl : l.getD i true with
    | true => rfl
    | false =>
      exfalso
      refine h i hi (mem_ready.2 ⟨hl, ops[i], Array.getElem?_eq_getElem (by omega), fun e he hb => ?_⟩)
      have hlt := (back_spec hB (Array.getElem?_eq_getElem (show i < ops.size by omega))).1 e he hb
      have := ih e.on hlt (by omega)
      simp [show e.on < l.size by omega] at this ⊢
      exact this
theorem wpAny_last {P : Program} {md : Region.Mode} {ops : Array Oper} {Q : Exit → Act → World → Prop} {n : Nat} (hn : ops.size = n + 1) (hB : backB md ops = true) (hs : Region.sinkB md ops n = true) (hc : Region.chainB md ops n = true) :
    ∀ (f : Nat) (l' l : Array Bool) (a : Act) (w : World), Same n l' l → HeadInv md ops n l → wpAny P md ops.pop (lastQ P ops Q) f l' a w → wpAny P md ops Q (f + 1) l a w := by
  have fin : ∀ (f : Nat) (l' l : Array Bool) (a : Act) (w : World), Same n l' l → Region.ready md ops.pop l' = [] → lastQ P ops Q .normal a w → wpAny P md ops Q (f + 1) l a w := by
    intro f l' l a w hS hr hq
    have hall := all_listed hn hB hS.s (fun i hi hm => by have := (ready_same hn hB hS hi).2 hm; rw [hr] at this; cases this)
    have hlt : ∀ i, i ∈ Region.ready md ops l → i = n := by
      intro i hi
      obtain ⟨h1, o, ho, _⟩ := mem_ready.1 hi
      have := (Array.getElem?_eq_some_iff.1 ho).1
      rcases Nat.lt_or_ge i n with h2 | h2
      · rw [hall i h2] at h1; cases h1
      · omega
    have hnr : n ∈ Region.ready md ops l := mem_ready.2 ⟨hS.no, ops[n], Array.getElem?_eq_getElem (by omega), fun e he hb => by
      have h1 := (back_spec hB (Array.getElem?_eq_getElem (show n < ops.size by omega))).1 e he hb
      have h2 := hall e.on h1
      have hs' := hS.s
      simp [show e.on < l.size by omega] at h2 ⊢
      exact h2⟩
    refine ⟨(fun h0 => by rw [h0] at hnr; cases hnr), fun i hi => ?_⟩
    obtain rfl := hlt i hi
    have hq' : wpOp P ops Q i (Q .normal) a w := by
      have : lastQ P ops Q .normal a w = wpOp P ops Q (ops.size - 1) (Q .normal) a w := rfl
      rw [this, hn] at hq
      exact hq
    refine wpOp_mono (fun a' w' h' => ?_) hq'
    have hno : Region.ready md ops (l.setIfInBounds i true) = [] := by
      refine List.eq_nil_iff_forall_not_mem.2 fun j hj => ?_
      obtain ⟨h1, o, ho, _⟩ := mem_ready.1 hj
      have hj2 := (Array.getElem?_eq_some_iff.1 ho).1
      have hls := hS.s
      by_cases e : i = j
      · subst e
        simp [show i < l.size by omega] at h1
      · rw [getD_set_ne true e, hall j (by omega)] at h1; cases h1
    cases f with
    | zero => exact ⟨hno, h'⟩
    | succ f => exact ⟨fun _ => h', fun j hj => by rw [hno] at hj; cases hj⟩
  intro f
  induction f with
  | zero => intro l' l a w hS _ h; exact fin 0 l' l a w hS h.1 h.2
  | succ f ih =>
    intro l' l a w hS hI h
    by_cases hr : Region.ready md ops.pop l' = []
    · exact fin (f + 1) l' l a w hS hr (h.1 hr)
    · obtain ⟨i0, hi0⟩ := List.exists_mem_of_ne_nil _ hr
      have hi0n : i0 < n := by
        obtain ⟨_, o, ho, _⟩ := mem_ready.1 hi0
        have := (Array.getElem?_eq_some_iff.1 ho).1
        simp at this; omega
      have hi0r := (ready_same hn hB hS hi0n).1 hi0
      refine ⟨(fun h0 => by rw [h0] at hi0r; cases hi0r), fun i hi => ?_⟩
      have hin : i < n := by
        rcases Nat.lt_or_ge i n with h2 | h2
        · exact h2
        · exact absurd hi (tail_waits hs hc (by omega) hI (n - i0) i0 rfl hi0n (mem_ready.1 hi0r).1 i h2)
      have h2 := h.2 i ((ready_same hn hB hS hin).2 hi)
      exact wpOp_last hB (by omega) (wpOp_mono (fun a' w' h' => ih _ _ a' w' (hS.set hin) (hI.set hi hin) h') h2)
/-- The region: the others under a promise, then the last one. -/
theorem wp_region_last {P : Program} {Q : Exit → Act → World → Prop} {S : World → Prop} {id : Nat} {ops ops' : Array Oper} {a : Act} {w : World} (he : ops.pop = ops') (hm : P.follows .mixedOrders = true)
    (hB : (backB .any ops && (Region.sinkB .any ops (ops.size - 1) && (Region.chainB .any ops (ops.size - 1) && decide (0 < ops.size)))) = true) (hS : S w.drew)
    (h : S w.drew → wpAnyH P .any ops' (lastQ P ops Q) S ops'.size (Array.replicate ops'.size false) a w.drew) : (Code.region id ops true).wp P Q a w := by
  simp only [Bool.and_eq_true, decide_eq_true_eq] at hB
  obtain ⟨b1, b2, b3, b4⟩ := hB
  obtain ⟨n, hn⟩ : ∃ n, ops.size = n + 1 := ⟨ops.size - 1, by omega⟩
  subst he
  have hn' : ops.size - 1 = n := by omega
  rw [hn'] at b2 b3
  have hw := wpAny_of_held _ _ _ _ (h hS)
  rw [show ops.pop.size = n by simp; omega] at hw
  refine wp_region_any hm ?_
  rw [hn]
  refine wpAny_last hn b1 b2 b3 n (Array.replicate n false) (Array.replicate (n + 1) false) a _ ⟨by simp, by simp, fun i d hi => ?_, by simp⟩ ⟨by simp [hn], fun j oj _ hl => ?_, fun t ht ht' => ?_⟩ hw
  · simp [hi, show i < n + 1 by omega]
  · rw [getD_replicate_false] at hl; cases hl
  · have : t = n := by omega
    subst this; simp
/-- The last operation itself. -/
theorem lastQ_at {P : Program} {ops : Array Oper} {Q : Exit → Act → World → Prop} {o : Oper} {a : Act} {w : World} (ho : ops[ops.size - 1]? = some o)
    (h : if Region.wanted o (yielded ops a.tmps) = true then Oper.wp P o a w (Q .normal) Q else Q .normal (a.put o.dst undef) w) : lastQ P ops Q .normal a w := by
  show wpOp P ops Q (ops.size - 1) (Q .normal) a w
  unfold wpOp
  rw [ho]
  simp only
  by_cases hx : Region.wanted o (yielded ops a.tmps) = true
  · rw [if_pos hx] at h ⊢; exact .inl h
  · rw [if_neg hx] at h ⊢; exact h
end Go.Proofs.Ytghaajmalhcgbaa
