/- The reference's Delete: the walk.
   The reference's Insert: the walk. -/
import Derived.Test.YtbfkjdnopiadjaaZ07
import Derived.Test.YtbfkjdnopiadjaaZ09

set_option linter.unusedSimpArgs false
set_option linter.unusedVariables false
namespace Go.Proofs.Ytbfkjdnopiadjaa
open Go.RowKit
attribute [local go_sem ↓] Go.wp_at_zero Go.wp_at_succ
attribute [local go_sem ↓ high] eqP neP
open Tp (Pf Ok En)

/-- What Insert leaves of a list. -/
def insL (lim : Int) (p : Pf) (x : Int) (L : List En) : List En := if Wp.mayB p.1 p.2 = true ∧ (Tp.isAt L p = true ∨ (L.length : Int) < lim) then Tp.insE L p x else L

/-- What Insert leaves. -/
def InsA (q : Nat) (v : Value) (lim : Int) (p : Pf) (x : Int) (L : List En) (w : World) (e : Ending) (w' : World) : Prop :=
  e = .returned (.int .i64 (insC lim p L)) ∧ ∃ v', RT q v' lim (insL lim p x L) w' ∧ Chg (rtB q v) w w' ∧ Fresh w v v'

set_option maxHeartbeats 4000000 in
set_option maxRecDepth 100000 in
theorem insertR {q : Nat} {v : Value} {lim : Int} {L : List En} {w : World} (h : RT q v lim L w) (hL : L.length ≤ 100000) {p : Pf} (hp : Ad p) (x : Int) :
    Calls Try.prog 34 #[.pointer (some ⟨q, 0, none⟩), .agg #[.int .u32 p.1, .int .i64 p.2], .int .i64 x] w (InsA q v lim p x L w) := by
  have HA := Lib.hid (ba1 w (.cells #[.int .u32 p.1, .int .i64 p.2] 37))
  have HX := Lib.hid (BlkAt.new w (t := 37) [.int .u32 p.1, .int .i64 p.2])
  have HM := Lib.hid (fun (W : World) => mayR_any p.1 p.2 W hp.a0 hp.a1)
  have HT := Lib.hid h
  obtain ⟨W, hW⟩ : ∃ W, W = w.alloc (.cells #[.int .u32 p.1, .int .i64 p.2] 37) := ⟨_, rfl⟩
  unfold InsA
  go_enter Try.func34, Try.ntmps34
  go_wp2_with fail
  rw [← hW] at HA HX ⊢
  refine (HM.out _).mono ?_
  rintro e w1 ⟨rfl, hb1⟩
  have HB1 := Lib.hid (below_of HA.out hb1)
  have HX1 := Lib.hid (HX.out.later hb1)
  have HT1 := Lib.hid (HT.out.later HB1.out)
  clear hW hb1 HX HA HM
  rcases hm : Wp.mayB p.1 p.2 with _ | _
  · have H1 : Hid (insC lim p L = 2 ∧ insL lim p x L = L) := by
      show _ ∧ _
      unfold insC insL; rw [hm]; simp
    clear hm
    go_wp2_with fail
    go_ret
    rw [H1.out.1, H1.out.2]
    exact ⟨rfl, _, HT1.out, Chg.of_below _ HB1.out, .inl rfl⟩
  · have HAt := Lib.hid (atT HT1.out (by omega) p)
    have b0 := HX1.out.cell (j := 0) rfl
    have b1 := HX1.out.cell (j := 1) rfl
    rcases hi : Tp.isAt L p with _ | _
    · rw [hi] at HAt
      rcases hl : decide ((L.length : Int) < lim) with _ | _
      · have hl2 := of_decide_eq_false hl
        have H1 : Hid (insC lim p L = 5 ∧ insL lim p x L = L) := by
          show _ ∧ _
          unfold insC insL; rw [hm, hi, if_pos rfl, if_neg (by simp; omega), if_neg (by simp; omega)]; exact ⟨rfl, rfl⟩
        clear hm hi
        go_wp2_with fail
        refine HAt.out.mono ?_
        rintro e w2 ⟨rfl, hb2⟩
        have HB2 := Lib.hid (below_of HB1.out hb2)
        have HT2 := Lib.hid (HT.out.later HB2.out)
        obtain ⟨c0, c1⟩ := HT2.out.cells
        have hl3 : lim ≤ L.length := by omega
        clear hb2 b0 b1 hl hl2
        obtain ⟨a, c, rfl⟩ := HT2.out.own.form
        go_wp2_with fail
        go_quiet (fail)
        go_wp2_with fail
        go_ret
        rw [H1.out.1, H1.out.2]
        exact ⟨rfl, _, HT.out.later (below_drewN HB2.out _), Chg.of_below _ (below_drewN HB2.out _), .inl rfl⟩
      · have hl2 := of_decide_eq_true hl
        have H1 : Hid (insC lim p L = 0 ∧ insL lim p x L = L.take (Tp.pos L p) ++ (p, x) :: L.drop (Tp.pos L p)) := by
          show _ ∧ _
          unfold insC insL; rw [hm, hi, if_pos rfl, if_pos (.inr hl2), if_pos ⟨rfl, .inr hl2⟩, Tp.insE_pos, if_neg (by rw [hi]; simp)]; exact ⟨rfl, rfl⟩
        clear hm hi
        go_wp2_with fail
        refine HAt.out.mono ?_
        rintro e w2 ⟨rfl, hb2⟩
        have HB2 := Lib.hid (below_of HB1.out hb2)
        have HX2 := Lib.hid (HX1.out.later hb2)
        have HT2 := Lib.hid (HT.out.later HB2.out)
        obtain ⟨c0, c1⟩ := HT2.out.cells
        have hl3 : ¬ lim ≤ L.length := by omega
        obtain ⟨a, c, hv, hac, _⟩ := HT2.out.own.reads.form
        subst hv
        have hps := Tp.pos_le L p
        obtain ⟨u1, hu1, hU1⟩ := cutE_h a L.length c (Tp.pos L p) hps hac
        obtain ⟨u2, hu2, hU2⟩ := cutE_l a L.length c (Tp.pos L p) hps
        have HU1 := Lib.hid hU1
        have HU2 := Lib.hid hU2
        have HAC := Lib.hid hac
        clear hb2 b0 b1 hl hl2 hU1 hU2 hac hps
        have hlt : decide (lim ≤ (L.length : Int)) = false := decide_eq_false hl3
        go_wp2_with fail
        go_quiet (fail)
        obtain ⟨w3, hw3⟩ : ∃ w3, w3 = World.drewN w2 nq := ⟨_, rfl⟩
        rw [← hw3]
        have HT3 : Hid (RT q (.slice a L.length c) lim L w3) := by rw [hw3]; exact HT2.out.later (below_drewN (Below.refl _ _) _)
        have HX3 : Hid (BlkAt 37 w.heap.size [.int .u32 p.1, .int .i64 p.2] w3) := by rw [hw3]; exact HX2.out.later (below_drewN (Below.refl _ _) _)
        have HB3 : Hid (Below w.heap.size w w3) := by rw [hw3]; exact below_drewN HB2.out _
        clear c0 c1 hw3
        obtain ⟨c0, c1⟩ := HT3.out.cells
        have b0 := HX3.out.cell (j := 0) rfl
        have b1 := HX3.out.cell (j := 1) rfl
        go_wp2_with fail
        refine wp_region_last (S := fun w' => Below w3.heap.size w3 w') (by simp only [List.pop_toArray, List.dropLast]; exact rfl) (by kernel_rfl) (by kernel_rfl) (Below.refl _ _).drew (fun hHeld => ?_)
        (refine wpAnyH_take (i := 0) (v := ?_) rfl (by kernel_rfl) (by kernel_rfl) (by kernel_rfl) (fun _ _ _ h => h) (Or.inl ⟨by rfl, ?_⟩) hHeld ?_; rotate_left; (focus (intro w hSw; (try dsimp only at hSw); go_simp; try with_reducible rfl)); (try simp only [Act.put, List.setIfInBounds_toArray, List.set_cons_zero, List.set_cons_succ, List.getElem_toArray, List.getElem_cons_zero])); (refine wpAnyH_take (i := 1) (v := ?_) rfl (by kernel_rfl) (by kernel_rfl) (by kernel_rfl) (fun _ _ _ h => h) (Or.inl ⟨by rfl, ?_⟩) hHeld ?_; rotate_left; (focus (intro w hSw; (try dsimp only at hSw); go_simp; try with_reducible rfl)); (try simp only [Act.put, List.setIfInBounds_toArray, List.set_cons_zero, List.set_cons_succ, List.getElem_toArray, List.getElem_cons_zero, List.getElem_cons_succ])); (refine wpAnyH_take (i := 2) (v := ?_) rfl (by kernel_rfl) (by kernel_rfl) (by kernel_rfl) (fun _ _ _ h => h) (Or.inl ⟨by rfl, ?_⟩) hHeld ?_; rotate_left; (focus (intro w hSw; (try dsimp only at hSw); go_simp; try with_reducible rfl)); (try simp only [Act.put, List.setIfInBounds_toArray, List.set_cons_zero, List.set_cons_succ, List.getElem_toArray, List.getElem_cons_zero, List.getElem_cons_succ])); (refine wpAnyH_take (i := 3) (v := ?_) rfl (by kernel_rfl) (by kernel_rfl) (by kernel_rfl) (fun _ _ _ h => h) (Or.inl ⟨by rfl, ?_⟩) hHeld ?_; rotate_left; (focus (intro w hSw; (try dsimp only at hSw); go_simp; try with_reducible rfl)); (try simp only [Act.put, List.setIfInBounds_toArray, List.set_cons_zero, List.set_cons_succ, List.getElem_toArray, List.getElem_cons_zero, List.getElem_cons_succ]))
        (refine wpAnyH_take (i := 4) (v := ?_) rfl (by kernel_rfl) (by kernel_rfl) (by kernel_rfl) (fun _ _ _ h => h) (Or.inl ⟨by rfl, ?_⟩) hHeld ?_; rotate_left; (focus (intro w hSw; (try dsimp only at hSw); go_simp; ((have hcc := cell_later hSw c0); go_simp; try with_reducible rfl))); (try simp only [Act.put, List.setIfInBounds_toArray, List.set_cons_zero, List.set_cons_succ, List.getElem_toArray, List.getElem_cons_zero, List.getElem_cons_succ]))
        (refine wpAnyH_take (i := 5) (v := ?_) rfl (by kernel_rfl) (by kernel_rfl) (by kernel_rfl) (fun _ _ _ h => h) (Or.inl ⟨by rfl, ?_⟩) hHeld ?_; rotate_left; (focus (intro w hSw; (try dsimp only at hSw); go_simp; try with_reducible rfl)); (try simp only [Act.put, List.setIfInBounds_toArray, List.set_cons_zero, List.set_cons_succ, List.getElem_toArray, List.getElem_cons_zero, List.getElem_cons_succ])); (refine wpAnyH_take (i := 6) (v := ?_) rfl (by kernel_rfl) (by kernel_rfl) (by kernel_rfl) (fun _ _ _ h => h) (Or.inl ⟨by rfl, ?_⟩) hHeld ?_; rotate_left; (focus (intro w hSw; (try dsimp only at hSw); go_simp; try with_reducible rfl)); (try simp only [Act.put, List.setIfInBounds_toArray, List.set_cons_zero, List.set_cons_succ, List.getElem_toArray, List.getElem_cons_zero, List.getElem_cons_succ]))
        (refine wpAnyH_take (i := 8) (v := ?_) rfl (by kernel_rfl) (by kernel_rfl) (by kernel_rfl) (fun _ _ _ h => h) (Or.inl ⟨by rfl, ?_⟩) hHeld ?_; rotate_left; (focus (intro w hSw; (try dsimp only at hSw); go_simp; ((have hcc := cell_later hSw b0); (have hcd := cell_later hSw b1); go_simp; try with_reducible rfl))); (try simp only [Act.put, List.setIfInBounds_toArray, List.set_cons_zero, List.set_cons_succ, List.getElem_toArray, List.getElem_cons_zero, List.getElem_cons_succ]))
        (refine wpAnyH_take (i := 9) (v := ?_) rfl (by kernel_rfl) (by kernel_rfl) (by kernel_rfl) (fun _ _ _ h => h) (Or.inl ⟨by rfl, ?_⟩) hHeld ?_; rotate_left; (focus (intro w hSw; (try dsimp only at hSw); go_simp; try with_reducible rfl)); (try simp only [Act.put, List.setIfInBounds_toArray, List.set_cons_zero, List.set_cons_succ, List.getElem_toArray, List.getElem_cons_zero, List.getElem_cons_succ])); (refine wpAnyH_take (i := 10) (v := ?_) rfl (by kernel_rfl) (by kernel_rfl) (by kernel_rfl) (fun _ _ _ h => h) (Or.inl ⟨by rfl, ?_⟩) hHeld ?_; rotate_left; (focus (intro w hSw; (try dsimp only at hSw); go_simp; try with_reducible rfl)); (try simp only [Act.put, List.setIfInBounds_toArray, List.set_cons_zero, List.set_cons_succ, List.getElem_toArray, List.getElem_cons_zero, List.getElem_cons_succ])); (refine wpAnyH_take (i := 13) (v := ?_) rfl (by kernel_rfl) (by kernel_rfl) (by kernel_rfl) (fun _ _ _ h => h) (Or.inl ⟨by rfl, ?_⟩) hHeld ?_; rotate_left; (focus (intro w hSw; (try dsimp only at hSw); go_simp; try with_reducible rfl)); (try simp only [Act.put, List.setIfInBounds_toArray, List.set_cons_zero, List.set_cons_succ, List.getElem_toArray, List.getElem_cons_zero, List.getElem_cons_succ])); (refine wpAnyH_take (i := 14) (v := ?_) rfl (by kernel_rfl) (by kernel_rfl) (by kernel_rfl) (fun _ _ _ h => h) (Or.inl ⟨by rfl, ?_⟩) hHeld ?_; rotate_left; (focus (intro w hSw; (try dsimp only at hSw); go_simp; try with_reducible rfl)); (try simp only [Act.put, List.setIfInBounds_toArray, List.set_cons_zero, List.set_cons_succ, List.getElem_toArray, List.getElem_cons_zero, List.getElem_cons_succ])); (refine wpAnyH_take (i := 15) (v := ?_) rfl (by kernel_rfl) (by kernel_rfl) (by kernel_rfl) (fun _ _ _ h => h) (Or.inl ⟨by rfl, ?_⟩) hHeld ?_; rotate_left; (focus (intro w hSw; (try dsimp only at hSw); go_simp; try with_reducible rfl)); (try simp only [Act.put, List.setIfInBounds_toArray, List.set_cons_zero, List.set_cons_succ, List.getElem_toArray, List.getElem_cons_zero, List.getElem_cons_succ]))
        (refine wpAnyH_take (i := 16) (v := ?_) rfl (by kernel_rfl) (by kernel_rfl) (by kernel_rfl) (fun _ _ _ h => h) (Or.inl ⟨by rfl, ?_⟩) hHeld ?_; rotate_left; (focus (intro w hSw; (try dsimp only at hSw); go_simp; ((have hcc := cell_later hSw c0); go_simp; try with_reducible rfl))); (try simp only [Act.put, List.setIfInBounds_toArray, List.set_cons_zero, List.set_cons_succ, List.getElem_toArray, List.getElem_cons_zero, List.getElem_cons_succ]))
        (refine wpAnyH_take (i := 17) (v := ?_) rfl (by kernel_rfl) (by kernel_rfl) (by kernel_rfl) (fun _ _ _ h => h) (Or.inl ⟨by rfl, ?_⟩) hHeld ?_; rotate_left; (focus (intro w hSw; (try dsimp only at hSw); go_simp; try with_reducible rfl)); (try simp only [Act.put, List.setIfInBounds_toArray, List.set_cons_zero, List.set_cons_succ, List.getElem_toArray, List.getElem_cons_zero, List.getElem_cons_succ])); (refine wpAnyH_take (i := 18) (v := ?_) rfl (by kernel_rfl) (by kernel_rfl) (by kernel_rfl) (fun _ _ _ h => h) (Or.inl ⟨by rfl, ?_⟩) hHeld ?_; rotate_left; (focus (intro w hSw; (try dsimp only at hSw); go_simp; try with_reducible rfl)); (try simp only [Act.put, List.setIfInBounds_toArray, List.set_cons_zero, List.set_cons_succ, List.getElem_toArray, List.getElem_cons_zero, List.getElem_cons_succ]))
        refine wpAnyH_cut #[true, true, true, true, true, true, true, true, true, true, true, true, false, true, true, true, true, true, true, false, false, false] 4 (fun A w1 => ∃ (v25 : Value) (g29 : Nat), A = ⟨#[.pointer (some ⟨q, 0, none⟩), .agg #[.int .u32 p.fst, .int .i64 p.snd], .int .i64 x, undef, .pointer (some ⟨w.heap.size, 0, none⟩), undef, .int .i64 0, .int .i64 (Tp.pos L p : Nat), .bool false, .agg #[.int .u32 p.fst, .int .i64 p.snd], .bool true, .bool false, .tuple #[.int .i64 (Tp.pos L p : Nat), .bool false], .pointer (some ⟨q, 0, none⟩), .agg #[.int .u32 p.fst, .int .i64 p.snd], .tuple #[.int .i64 (Tp.pos L p : Nat), .bool false], .int .i64 (Tp.pos L p : Nat), .bool false, .pointer (some ⟨q, 0, none⟩), .pointer (some ⟨q, 0, none⟩), .pointer (some ⟨q, 0, none⟩), .pointer (some ⟨q, 0, none⟩), .slice a L.length c, .int .i64 (Tp.pos L p : Nat), u1, v25, .agg #[.int .u32 p.fst, .int .i64 p.snd], .int .i64 x, .agg #[.int .u32 p.fst, .int .i64 p.snd, .int .i64 x], .slice (some ⟨g29, 0, none⟩) 1 1, undef, .pointer (some ⟨q, 0, none⟩), .pointer (some ⟨q, 0, none⟩), .pointer (some ⟨q, 0, none⟩), .slice a L.length c, .int .i64 (Tp.pos L p : Nat), u2, undef, undef, undef, .bool false, .bool false, undef, undef, undef, undef, undef, undef, undef, undef, .bool false, .pointer (some ⟨q, 0, none⟩), .pointer (some ⟨q, 0, none⟩), .pointer (some ⟨q, 0, none⟩), .slice a L.length c, .int .i64 (L.length : Nat), .pointer (some ⟨q, 0, none⟩), .pointer (some ⟨q, 0, none⟩), .pointer (some ⟨q, 1, none⟩), .int .i64 lim, .bool false], []⟩ ∧ Hid (OwnE w1 w3.heap.size v25 (L.take (Tp.pos L p))) ∧ Hid (EnR w1 (.slice (some ⟨g29, 0, none⟩) 1 1) [(p, x)])) ?_ (fun m0 => ?_)
        · rintro l A w1 rfl ⟨v25, g29, rfl, F25, F29⟩ hHeld
          refine wpAnyH_ready (rs := [12]) (by kernel_rfl) (by simp) ?_
          refine AllReadyH.cons rfl (fun K hK => ?_) AllReadyH.nil
          refine step_appT rfl (.tmp 25) (.tmp 29) 28 28 rfl v25 (.slice (some ⟨g29, 0, none⟩) 1 1) _ rfl rfl (run_appE w1 w3.heap.size _ _ _ _ F25.out F29.out (by simp; omega) hHeld.size) ?_
          rintro v30 w4 ⟨ho, hs, _⟩
          have F30 := Lib.hid ho
          refine hK.out _ _ (hHeld.trans hs) (fun hHeldN => ?_)
          clear ho hHeld hs F25 F29 hK K
          have hHeld := hHeldN
          clear hHeldN
          try simp only [Act.put, List.setIfInBounds_toArray, List.set_cons_zero, List.set_cons_succ, List.getElem_toArray, List.getElem_cons_zero, List.getElem_cons_succ]
          refine wpAnyH_ready (rs := [19]) (by kernel_rfl) (by simp) ?_
          refine AllReadyH.cons rfl (fun K hK => ?_) AllReadyH.nil
          refine step_appT rfl (.tmp 30) (.tmp 36) 28 28 rfl v30 u2 _ rfl rfl (run_appE w4 w3.heap.size _ _ _ _ F30.out (HU2.out _ _ (HT3.out.later hHeld).own.reads) (by simp; omega) hHeld.size) ?_
          rintro v37 w5 ⟨ho, hs, _⟩
          have F37 := Lib.hid ho
          refine hK.out _ _ (hHeld.trans hs) (fun hHeldN => ?_)
          clear ho hHeld hs F30 hK K
          have hHeld := hHeldN
          clear hHeldN
          try simp only [Act.put, List.setIfInBounds_toArray, List.set_cons_zero, List.set_cons_succ, List.getElem_toArray, List.getElem_cons_zero, List.getElem_cons_succ]
          (refine wpAnyH_take (i := 20) (v := ?_) rfl (by kernel_rfl) (by kernel_rfl) (by kernel_rfl) (fun _ _ _ h => h) (Or.inl ⟨by rfl, ?_⟩) hHeld ?_; rotate_left; (focus (intro w hSw; (try dsimp only at hSw); go_simp; try with_reducible rfl)); (try simp only [Act.put, List.setIfInBounds_toArray, List.set_cons_zero, List.set_cons_succ, List.getElem_toArray, List.getElem_cons_zero, List.getElem_cons_succ])); (refine wpAnyH_take (i := 21) (v := ?_) rfl (by kernel_rfl) (by kernel_rfl) (by kernel_rfl) (fun _ _ _ h => h) (Or.inl ⟨by rfl, ?_⟩) hHeld ?_; rotate_left; (focus (intro w hSw; (try dsimp only at hSw); go_simp; try with_reducible rfl)); (try simp only [Act.put, List.setIfInBounds_toArray, List.set_cons_zero, List.set_cons_succ, List.getElem_toArray, List.getElem_cons_zero, List.getElem_cons_succ]))
          refine wpAnyH_done (by kernel_rfl) ?_ _
          have HT5 := Lib.hid (HT3.out.later hHeld)
          have q0 := HT5.out.cells.1
          have qf := HT5.out.blk.frozen 0
          obtain ⟨a7, c7, e7⟩ := F37.out.form
          obtain ⟨n7, hn7⟩ : ∃ n7, n7 = (L.take (Tp.pos L p) ++ [(p, x)] ++ L.drop (Tp.pos L p)).length := ⟨_, rfl⟩
          rw [← hn7] at e7
          subst e7
          obtain ⟨hR, hC⟩ := HT5.out.new F37.out HT3.out.lt
          have HR := Lib.hid hR
          have HC := Lib.hid (((Chg.of_below (rtB q (.slice a L.length c)) HB3.out).trans (Chg.of_below _ hHeld)).trans (hC.mono (by simp [rtB])))
          have HF := Lib.hid (Fresh.own (v := .slice a L.length c) F37.out HB3.out.size)
          clear c0 c1 b0 b1 hHeld hR hC hn7
          refine lastQ_at rfl ?_
          go_simp
          go_wp2_with fail
          go_ret
          rw [H1.out.1, H1.out.2]
          refine ⟨rfl, _, ?_, HC.out, HF.out⟩
          have := HR.out
          rw [List.append_assoc] at this
          exact this
        refine wpAnyH_cut #[true, true, true, true, true, true, true, true, true, true, true, false, false, true, true, true, true, true, true, false, false, false] 5 (fun A w1 => ∃ (v25 : Value), A = ⟨#[.pointer (some ⟨q, 0, none⟩), .agg #[.int .u32 p.fst, .int .i64 p.snd], .int .i64 x, undef, .pointer (some ⟨w.heap.size, 0, none⟩), undef, .int .i64 0, .int .i64 (Tp.pos L p : Nat), .bool false, .agg #[.int .u32 p.fst, .int .i64 p.snd], .bool true, .bool false, .tuple #[.int .i64 (Tp.pos L p : Nat), .bool false], .pointer (some ⟨q, 0, none⟩), .agg #[.int .u32 p.fst, .int .i64 p.snd], .tuple #[.int .i64 (Tp.pos L p : Nat), .bool false], .int .i64 (Tp.pos L p : Nat), .bool false, .pointer (some ⟨q, 0, none⟩), .pointer (some ⟨q, 0, none⟩), .pointer (some ⟨q, 0, none⟩), .pointer (some ⟨q, 0, none⟩), .slice a L.length c, .int .i64 (Tp.pos L p : Nat), u1, v25, .agg #[.int .u32 p.fst, .int .i64 p.snd], .int .i64 x, .agg #[.int .u32 p.fst, .int .i64 p.snd, .int .i64 x], undef, undef, .pointer (some ⟨q, 0, none⟩), .pointer (some ⟨q, 0, none⟩), .pointer (some ⟨q, 0, none⟩), .slice a L.length c, .int .i64 (Tp.pos L p : Nat), u2, undef, undef, undef, .bool false, .bool false, undef, undef, undef, undef, undef, undef, undef, undef, .bool false, .pointer (some ⟨q, 0, none⟩), .pointer (some ⟨q, 0, none⟩), .pointer (some ⟨q, 0, none⟩), .slice a L.length c, .int .i64 (L.length : Nat), .pointer (some ⟨q, 0, none⟩), .pointer (some ⟨q, 0, none⟩), .pointer (some ⟨q, 1, none⟩), .int .i64 lim, .bool false], []⟩ ∧ Hid (OwnE w1 w3.heap.size v25 (L.take (Tp.pos L p)))) ?_ (fun m1 => ?_)
        · rintro l A w1 rfl ⟨v25, rfl, F25⟩ hHeld
          refine wpAnyH_ready (rs := [11]) (by kernel_rfl) (by simp) ?_
          refine AllReadyH.cons rfl (fun K hK => ?_) AllReadyH.nil
          go_simp
          have hs : Below w1.heap.size w1 (w1.alloc (.cells #[.int .u32 p.1, .int .i64 p.2, .int .i64 x] 75)) := ba1 _ _
          have F29 := Lib.hid (EnR.one w1 (p, x))
          refine hK.out _ _ (below_of hHeld hs) (fun hHeldN => ?_)
          exact m0 _ _ _ (by kernel_rfl) ⟨_, _, rfl, Lib.hid (F25.out.later hs), F29⟩ hHeldN
        refine wpAnyH_cut #[true, true, true, true, true, true, true, false, true, true, true, true, false, true, true, true, true, true, true, false, false, false] 5 (fun A w1 => ∃ (g29 : Nat), A = ⟨#[.pointer (some ⟨q, 0, none⟩), .agg #[.int .u32 p.fst, .int .i64 p.snd], .int .i64 x, undef, .pointer (some ⟨w.heap.size, 0, none⟩), undef, .int .i64 0, .int .i64 (Tp.pos L p : Nat), .bool false, .agg #[.int .u32 p.fst, .int .i64 p.snd], .bool true, .bool false, .tuple #[.int .i64 (Tp.pos L p : Nat), .bool false], .pointer (some ⟨q, 0, none⟩), .agg #[.int .u32 p.fst, .int .i64 p.snd], .tuple #[.int .i64 (Tp.pos L p : Nat), .bool false], .int .i64 (Tp.pos L p : Nat), .bool false, .pointer (some ⟨q, 0, none⟩), .pointer (some ⟨q, 0, none⟩), .pointer (some ⟨q, 0, none⟩), .pointer (some ⟨q, 0, none⟩), .slice a L.length c, .int .i64 (Tp.pos L p : Nat), u1, undef, .agg #[.int .u32 p.fst, .int .i64 p.snd], .int .i64 x, .agg #[.int .u32 p.fst, .int .i64 p.snd, .int .i64 x], .slice (some ⟨g29, 0, none⟩) 1 1, undef, .pointer (some ⟨q, 0, none⟩), .pointer (some ⟨q, 0, none⟩), .pointer (some ⟨q, 0, none⟩), .slice a L.length c, .int .i64 (Tp.pos L p : Nat), u2, undef, undef, undef, .bool false, .bool false, undef, undef, undef, undef, undef, undef, undef, undef, .bool false, .pointer (some ⟨q, 0, none⟩), .pointer (some ⟨q, 0, none⟩), .pointer (some ⟨q, 0, none⟩), .slice a L.length c, .int .i64 (L.length : Nat), .pointer (some ⟨q, 0, none⟩), .pointer (some ⟨q, 0, none⟩), .pointer (some ⟨q, 1, none⟩), .int .i64 lim, .bool false], []⟩ ∧ Hid (EnR w1 (.slice (some ⟨g29, 0, none⟩) 1 1) [(p, x)]) ∧ g29 < w1.heap.size) ?_ (fun m2 => ?_)
        · rintro l A w1 rfl ⟨g29, rfl, F29, hg29⟩ hHeld
          refine wpAnyH_ready (rs := [7]) (by kernel_rfl) (by simp) ?_
          refine AllReadyH.cons rfl (fun K hK => ?_) AllReadyH.nil
          refine step_appT rfl (.const (.slice none 0 0)) (.tmp 24) 28 28 rfl _ _ _ rfl rfl (run_appE w1 w1.heap.size (.slice none 0 0) _ [] _ (OwnE.nil _ _) (HU1.out _ _ (HT3.out.later hHeld).own.reads) (by simp; omega) (Nat.le_refl _)) ?_
          rintro v25 w4 ⟨ho, hs, _⟩
          rw [List.nil_append] at ho
          have F25 := Lib.hid (ho.down hHeld.size)
          refine hK.out _ _ (below_of hHeld hs) (fun hHeldN => ?_)
          exact m0 _ _ _ (by kernel_rfl) ⟨_, _, rfl, F25, Lib.hid (F29.out.later hs)⟩ hHeldN
        refine wpAnyH_ready (rs := [7, 11]) (by kernel_rfl) (by simp) ?_
        obtain ⟨w1, hw1⟩ : ∃ w1, w1 = World.drew w3 := ⟨_, rfl⟩
        rw [← hw1] at hHeld ⊢
        clear hw1
        refine AllReadyH.cons rfl (fun K hK => ?_) (AllReadyH.cons rfl (fun K hK => ?_) AllReadyH.nil)
        · refine step_appT rfl (.const (.slice none 0 0)) (.tmp 24) 28 28 rfl _ _ _ rfl rfl (run_appE w1 w1.heap.size (.slice none 0 0) _ [] _ (OwnE.nil _ _) (HU1.out _ _ (HT3.out.later hHeld).own.reads) (by simp; omega) (Nat.le_refl _)) ?_
          rintro v25 w4 ⟨ho, hs, _⟩
          rw [List.nil_append] at ho
          have F25 := Lib.hid (ho.down hHeld.size)
          refine hK.out _ _ (below_of hHeld hs) (fun hHeldN => ?_)
          exact m1 _ _ _ (by kernel_rfl) ⟨_, rfl, F25⟩ hHeldN
        · go_simp
          have hs : Below w1.heap.size w1 (w1.alloc (.cells #[.int .u32 p.1, .int .i64 p.2, .int .i64 x] 75)) := ba1 _ _
          have F29 := Lib.hid (EnR.one w1 (p, x))
          refine hK.out _ _ (below_of hHeld hs) (fun hHeldN => ?_)
          exact m2 _ _ _ (by kernel_rfl) ⟨_, rfl, F29, by simp⟩ hHeldN
    · obtain ⟨u, hx⟩ := isAt_at hi
      rw [hi] at HAt
      have H1 : Hid (insC lim p L = 0 ∧ insL lim p x L = L.set (Tp.pos L p) (p, x)) := by
        show _ ∧ _
        unfold insC insL; rw [hm, hi]; simp only [true_or, and_self, if_true]
        rw [Tp.insE_pos, if_pos hi]
        exact ⟨trivial, rfl⟩
      clear hm hi
      go_wp2_with fail
      refine HAt.out.mono ?_
      rintro e w2 ⟨rfl, hb2⟩
      have HB2 := Lib.hid (below_of HB1.out hb2)
      have HT2 := Lib.hid (HT.out.later HB2.out)
      obtain ⟨c0, c1⟩ := HT2.out.cells
      obtain ⟨g, c, rfl, e2, ef, hR, hC⟩ := HT2.out.put hx x
      have k0 : ((Tp.pos L p : Nat) : Int) < L.length := by have := (List.getElem?_eq_some_iff.1 hx).1; omega
      have HR := Lib.hid hR
      have HC := Lib.hid hC
      clear hb2 b0 b1 hR hC hx
      go_wp2_with fail
      go_ret
      rw [H1.out.1, H1.out.2]
      exact ⟨rfl, _, HR.out, (Chg.of_below _ HB2.out).trans HC.out, .inl rfl⟩
end Go.Proofs.Ytbfkjdnopiadjaa

namespace Go.Proofs.Ytbfkjdnopiadjaa
open Go.RowKit
attribute [local go_sem ↓] Go.wp_at_zero Go.wp_at_succ
attribute [local go_sem ↓ high] eqP neP
open Tp (Pf Ok En)

/-- What Delete leaves of a list. -/
def delL (p : Pf) (L : List En) : List En := if Wp.mayB p.1 p.2 = true then Tp.delE L p else L
/-- What Delete leaves. -/
def DelA (q : Nat) (v : Value) (lim : Int) (p : Pf) (L : List En) (w : World) (e : Ending) (w' : World) : Prop :=
  e = .returned (.int .i64 (delC p L)) ∧ ∃ v', RT q v' lim (delL p L) w' ∧ Chg (rtB q v) w w' ∧ Fresh w v v'

set_option maxHeartbeats 4000000 in
set_option maxRecDepth 100000 in
theorem deleteR {q : Nat} {v : Value} {lim : Int} {L : List En} {w : World} (h : RT q v lim L w) (hL : L.length ≤ 100000) (hup : Tp.Up L) {p : Pf} (hp : Ad p) :
    Calls Try.prog 33 #[.pointer (some ⟨q, 0, none⟩), .agg #[.int .u32 p.1, .int .i64 p.2]] w (DelA q v lim p L w) := by
  have HA := Lib.hid (ba1 w (.cells #[.int .u32 p.1, .int .i64 p.2] 37))
  have HX := Lib.hid (BlkAt.new w (t := 37) [.int .u32 p.1, .int .i64 p.2])
  have HM := Lib.hid (fun (W : World) => mayR_any p.1 p.2 W hp.a0 hp.a1)
  have HT := Lib.hid h
  obtain ⟨W, hW⟩ : ∃ W, W = w.alloc (.cells #[.int .u32 p.1, .int .i64 p.2] 37) := ⟨_, rfl⟩
  unfold DelA
  go_enter Try.func33, Try.ntmps33
  go_wp2_with fail
  rw [← hW] at HA HX ⊢
  refine (HM.out _).mono ?_
  rintro e w1 ⟨rfl, hb1⟩
  have HB1 := Lib.hid (below_of HA.out hb1)
  have HX1 := Lib.hid (HX.out.later hb1)
  have HT1 := Lib.hid (HT.out.later HB1.out)
  clear hW hb1 HX HA HM
  rcases hm : Wp.mayB p.1 p.2 with _ | _
  · have H1 : Hid (delC p L = 2 ∧ delL p L = L) := by
      show _ ∧ _
      unfold delC delL; rw [hm]; simp
    clear hm
    go_wp2_with fail
    go_ret
    rw [H1.out.1, H1.out.2]
    exact ⟨rfl, _, HT1.out, Chg.of_below _ HB1.out, .inl rfl⟩
  · have HAt := Lib.hid (atT HT1.out (by omega) p)
    have b0 := HX1.out.cell (j := 0) rfl
    have b1 := HX1.out.cell (j := 1) rfl
    rcases hi : Tp.isAt L p with _ | _
    · rw [hi] at HAt
      have H1 : Hid (delC p L = 6 ∧ delL p L = L) := by
        show _ ∧ _
        unfold delC delL; rw [hm, hi, if_pos rfl, if_pos rfl, if_neg (by simp), Tp.delE_pos L p hup, if_neg (by rw [hi]; simp)]; exact ⟨rfl, rfl⟩
      clear hm hi
      go_wp2_with fail
      refine HAt.out.mono ?_
      rintro e w2 ⟨rfl, hb2⟩
      have HB2 := Lib.hid (below_of HB1.out hb2)
      clear hb2 b0 b1
      go_wp2_with fail
      go_ret
      rw [H1.out.1, H1.out.2]
      exact ⟨rfl, _, HT.out.later HB2.out, Chg.of_below _ HB2.out, .inl rfl⟩
    · obtain ⟨u, hx⟩ := isAt_at hi
      have hps : Tp.pos L p < L.length := (List.getElem?_eq_some_iff.1 hx).1
      rw [hi] at HAt
      have H1 : Hid (delC p L = 0 ∧ delL p L = L.take (Tp.pos L p) ++ L.drop (Tp.pos L p + 1)) := by
        show _ ∧ _
        unfold delC delL; rw [hm, hi, if_pos rfl, if_pos rfl, if_pos rfl, Tp.delE_pos L p hup, if_pos hi]; exact ⟨rfl, rfl⟩
      clear hm hi hx
      go_wp2_with fail
      refine HAt.out.mono ?_
      rintro e w2 ⟨rfl, hb2⟩
      have HB2 := Lib.hid (below_of HB1.out hb2)
      have HT2 := Lib.hid (HT.out.later HB2.out)
      obtain ⟨a, c, hv, hac, _⟩ := HT2.out.own.reads.form
      subst hv
      obtain ⟨u1, hu1, hU1⟩ := cutE_h a L.length c (Tp.pos L p) (by omega) hac
      obtain ⟨u2, hu2, hU2⟩ := cutE_l a L.length c (Tp.pos L p + 1) hps
      have hu3 : ∀ w, (Instr.slice 28 (.slice a L.length c) (some (.int .i64 ((Tp.pos L p : Nat) + 1))) none none).run Try.prog w = .ok u2 w := hu2
      clear hu2
      have HU1 := Lib.hid hU1
      have HU2 := Lib.hid hU2
      have hk : ((Tp.pos L p : Nat) : Int) ≤ 100000 := by omega
      have hsm : IntKind.i64.wrap ((Tp.pos L p : Nat) + 1) = (Tp.pos L p : Nat) + 1 := IntWalk.i64_in _ ⟨by omega, by omega⟩
      clear hb2 b0 b1 hU1 hU2 hac hps
      obtain ⟨c0, c1⟩ := HT2.out.cells
      go_wp2_with fail
      refine wp_region_last (S := fun w' => Below w2.heap.size w2 w') (by simp only [List.pop_toArray, List.dropLast]; exact rfl) (by kernel_rfl) (by kernel_rfl) (Below.refl _ _).drew (fun hHeld => ?_)
      (refine wpAnyH_take (i := 0) (v := ?_) rfl (by kernel_rfl) (by kernel_rfl) (by kernel_rfl) (fun _ _ _ h => h) (Or.inl ⟨by rfl, ?_⟩) hHeld ?_; rotate_left; (focus (intro w hSw; (try dsimp only at hSw); go_simp; try with_reducible rfl)); (try simp only [Act.put, List.setIfInBounds_toArray, List.set_cons_zero, List.set_cons_succ, List.getElem_toArray, List.getElem_cons_zero])); (refine wpAnyH_take (i := 1) (v := ?_) rfl (by kernel_rfl) (by kernel_rfl) (by kernel_rfl) (fun _ _ _ h => h) (Or.inl ⟨by rfl, ?_⟩) hHeld ?_; rotate_left; (focus (intro w hSw; (try dsimp only at hSw); go_simp; try with_reducible rfl)); (try simp only [Act.put, List.setIfInBounds_toArray, List.set_cons_zero, List.set_cons_succ, List.getElem_toArray, List.getElem_cons_zero, List.getElem_cons_succ])); (refine wpAnyH_take (i := 2) (v := ?_) rfl (by kernel_rfl) (by kernel_rfl) (by kernel_rfl) (fun _ _ _ h => h) (Or.inl ⟨by rfl, ?_⟩) hHeld ?_; rotate_left; (focus (intro w hSw; (try dsimp only at hSw); go_simp; try with_reducible rfl)); (try simp only [Act.put, List.setIfInBounds_toArray, List.set_cons_zero, List.set_cons_succ, List.getElem_toArray, List.getElem_cons_zero, List.getElem_cons_succ])); (refine wpAnyH_take (i := 3) (v := ?_) rfl (by kernel_rfl) (by kernel_rfl) (by kernel_rfl) (fun _ _ _ h => h) (Or.inl ⟨by rfl, ?_⟩) hHeld ?_; rotate_left; (focus (intro w hSw; (try dsimp only at hSw); go_simp; try with_reducible rfl)); (try simp only [Act.put, List.setIfInBounds_toArray, List.set_cons_zero, List.set_cons_succ, List.getElem_toArray, List.getElem_cons_zero, List.getElem_cons_succ]))
      (refine wpAnyH_take (i := 4) (v := ?_) rfl (by kernel_rfl) (by kernel_rfl) (by kernel_rfl) (fun _ _ _ h => h) (Or.inl ⟨by rfl, ?_⟩) hHeld ?_; rotate_left; (focus (intro w hSw; (try dsimp only at hSw); go_simp; ((have hcc := cell_later hSw c0); go_simp; try with_reducible rfl))); (try simp only [Act.put, List.setIfInBounds_toArray, List.set_cons_zero, List.set_cons_succ, List.getElem_toArray, List.getElem_cons_zero, List.getElem_cons_succ]))
      (refine wpAnyH_take (i := 5) (v := ?_) rfl (by kernel_rfl) (by kernel_rfl) (by kernel_rfl) (fun _ _ _ h => h) (Or.inl ⟨by rfl, ?_⟩) hHeld ?_; rotate_left; (focus (intro w hSw; (try dsimp only at hSw); go_simp; try with_reducible rfl)); (try simp only [Act.put, List.setIfInBounds_toArray, List.set_cons_zero, List.set_cons_succ, List.getElem_toArray, List.getElem_cons_zero, List.getElem_cons_succ])); (refine wpAnyH_take (i := 6) (v := ?_) rfl (by kernel_rfl) (by kernel_rfl) (by kernel_rfl) (fun _ _ _ h => h) (Or.inl ⟨by rfl, ?_⟩) hHeld ?_; rotate_left; (focus (intro w hSw; (try dsimp only at hSw); go_simp; try with_reducible rfl)); (try simp only [Act.put, List.setIfInBounds_toArray, List.set_cons_zero, List.set_cons_succ, List.getElem_toArray, List.getElem_cons_zero, List.getElem_cons_succ])); (refine wpAnyH_take (i := 8) (v := ?_) rfl (by kernel_rfl) (by kernel_rfl) (by kernel_rfl) (fun _ _ _ h => h) (Or.inl ⟨by rfl, ?_⟩) hHeld ?_; rotate_left; (focus (intro w hSw; (try dsimp only at hSw); go_simp; try with_reducible rfl)); (try simp only [Act.put, List.setIfInBounds_toArray, List.set_cons_zero, List.set_cons_succ, List.getElem_toArray, List.getElem_cons_zero, List.getElem_cons_succ])); (refine wpAnyH_take (i := 9) (v := ?_) rfl (by kernel_rfl) (by kernel_rfl) (by kernel_rfl) (fun _ _ _ h => h) (Or.inl ⟨by rfl, ?_⟩) hHeld ?_; rotate_left; (focus (intro w hSw; (try dsimp only at hSw); go_simp; try with_reducible rfl)); (try simp only [Act.put, List.setIfInBounds_toArray, List.set_cons_zero, List.set_cons_succ, List.getElem_toArray, List.getElem_cons_zero, List.getElem_cons_succ])); (refine wpAnyH_take (i := 10) (v := ?_) rfl (by kernel_rfl) (by kernel_rfl) (by kernel_rfl) (fun _ _ _ h => h) (Or.inl ⟨by rfl, ?_⟩) hHeld ?_; rotate_left; (focus (intro w hSw; (try dsimp only at hSw); go_simp; try with_reducible rfl)); (try simp only [Act.put, List.setIfInBounds_toArray, List.set_cons_zero, List.set_cons_succ, List.getElem_toArray, List.getElem_cons_zero, List.getElem_cons_succ]))
      (refine wpAnyH_take (i := 11) (v := ?_) rfl (by kernel_rfl) (by kernel_rfl) (by kernel_rfl) (fun _ _ _ h => h) (Or.inl ⟨by rfl, ?_⟩) hHeld ?_; rotate_left; (focus (intro w hSw; (try dsimp only at hSw); go_simp; ((have hcc := cell_later hSw c0); go_simp; try with_reducible rfl))); (try simp only [Act.put, List.setIfInBounds_toArray, List.set_cons_zero, List.set_cons_succ, List.getElem_toArray, List.getElem_cons_zero, List.getElem_cons_succ]))
      (refine wpAnyH_take (i := 12) (v := ?_) rfl (by kernel_rfl) (by kernel_rfl) (by kernel_rfl) (fun _ _ _ h => h) (Or.inl ⟨by rfl, ?_⟩) hHeld ?_; rotate_left; (focus (intro w hSw; (try dsimp only at hSw); go_simp; try with_reducible rfl)); (try simp only [Act.put, List.setIfInBounds_toArray, List.set_cons_zero, List.set_cons_succ, List.getElem_toArray, List.getElem_cons_zero, List.getElem_cons_succ])); (refine wpAnyH_take (i := 13) (v := ?_) rfl (by kernel_rfl) (by kernel_rfl) (by kernel_rfl) (fun _ _ _ h => h) (Or.inl ⟨by rfl, ?_⟩) hHeld ?_; rotate_left; (focus (intro w hSw; (try dsimp only at hSw); go_simp; try with_reducible rfl)); (try simp only [Act.put, List.setIfInBounds_toArray, List.set_cons_zero, List.set_cons_succ, List.getElem_toArray, List.getElem_cons_zero, List.getElem_cons_succ])); (refine wpAnyH_take (i := 14) (v := ?_) rfl (by kernel_rfl) (by kernel_rfl) (by kernel_rfl) (fun _ _ _ h => h) (Or.inl ⟨by rfl, ?_⟩) hHeld ?_; rotate_left; (focus (intro w hSw; (try dsimp only at hSw); go_simp; try with_reducible rfl)); (try simp only [Act.put, List.setIfInBounds_toArray, List.set_cons_zero, List.set_cons_succ, List.getElem_toArray, List.getElem_cons_zero, List.getElem_cons_succ]))
      obtain ⟨w3, hw3⟩ : ∃ w3, w3 = World.drew w2 := ⟨_, rfl⟩
      rw [← hw3] at hHeld ⊢
      clear hw3
      refine wpAnyH_ready (rs := [7]) (by kernel_rfl) (by simp) ?_
      refine AllReadyH.cons rfl (fun K hK => ?_) AllReadyH.nil
      refine step_appT rfl (.const (.slice none 0 0)) (.tmp 24) 28 28 rfl (.slice none 0 0) u1 _ rfl rfl (run_appE w3 w3.heap.size (.slice none 0 0) _ [] _ (OwnE.nil _ _) (HU1.out _ _ (HT2.out.later hHeld).own.reads) (by simp; omega) (Nat.le_refl _)) ?_
      rintro v25 w4 ⟨ho, hs, _⟩
      rw [List.nil_append] at ho
      have F25 := Lib.hid (ho.down hHeld.size)
      refine hK.out _ _ (below_of hHeld hs) (fun hHeldN => ?_)
      clear ho hHeld hs hK K
      have hHeld := hHeldN
      clear hHeldN
      try simp only [Act.put, List.setIfInBounds_toArray, List.set_cons_zero, List.set_cons_succ, List.getElem_toArray, List.getElem_cons_zero, List.getElem_cons_succ]
      refine wpAnyH_ready (rs := [15]) (by kernel_rfl) (by simp) ?_
      refine AllReadyH.cons rfl (fun K hK => ?_) AllReadyH.nil
      refine step_appT rfl (.tmp 25) (.tmp 32) 28 28 rfl v25 u2 _ rfl rfl (run_appE w4 w2.heap.size _ _ _ _ F25.out (HU2.out _ _ (HT2.out.later hHeld).own.reads) (by simp; omega) hHeld.size) ?_
      rintro v33 w5 ⟨ho, hs, _⟩
      have F37 := Lib.hid ho
      refine hK.out _ _ (hHeld.trans hs) (fun hHeldN => ?_)
      clear ho hHeld hs F25 hK K
      have hHeld := hHeldN
      clear hHeldN
      try simp only [Act.put, List.setIfInBounds_toArray, List.set_cons_zero, List.set_cons_succ, List.getElem_toArray, List.getElem_cons_zero, List.getElem_cons_succ]
      (refine wpAnyH_take (i := 16) (v := ?_) rfl (by kernel_rfl) (by kernel_rfl) (by kernel_rfl) (fun _ _ _ h => h) (Or.inl ⟨by rfl, ?_⟩) hHeld ?_; rotate_left; (focus (intro w hSw; (try dsimp only at hSw); go_simp; try with_reducible rfl)); (try simp only [Act.put, List.setIfInBounds_toArray, List.set_cons_zero, List.set_cons_succ, List.getElem_toArray, List.getElem_cons_zero, List.getElem_cons_succ])); (refine wpAnyH_take (i := 17) (v := ?_) rfl (by kernel_rfl) (by kernel_rfl) (by kernel_rfl) (fun _ _ _ h => h) (Or.inl ⟨by rfl, ?_⟩) hHeld ?_; rotate_left; (focus (intro w hSw; (try dsimp only at hSw); go_simp; try with_reducible rfl)); (try simp only [Act.put, List.setIfInBounds_toArray, List.set_cons_zero, List.set_cons_succ, List.getElem_toArray, List.getElem_cons_zero, List.getElem_cons_succ]))
      refine wpAnyH_done (by kernel_rfl) ?_ _
      have HT5 := Lib.hid (HT2.out.later hHeld)
      have q0 := HT5.out.cells.1
      have qf := HT5.out.blk.frozen 0
      obtain ⟨a7, c7, e7⟩ := F37.out.form
      obtain ⟨n7, hn7⟩ : ∃ n7, n7 = (L.take (Tp.pos L p) ++ L.drop (Tp.pos L p + 1)).length := ⟨_, rfl⟩
      rw [← hn7] at e7
      subst e7
      obtain ⟨hR, hC⟩ := HT5.out.new F37.out HT2.out.lt
      have HR := Lib.hid hR
      have HC := Lib.hid (((Chg.of_below (rtB q (.slice a L.length c)) HB2.out).trans (Chg.of_below _ hHeld)).trans (hC.mono (by simp [rtB])))
      have HF := Lib.hid (Fresh.own (v := .slice a L.length c) F37.out HB2.out.size)
      clear c0 c1 hHeld hR hC hn7
      refine lastQ_at rfl ?_
      go_simp
      go_wp2_with fail
      go_ret
      rw [H1.out.1, H1.out.2]
      exact ⟨rfl, _, HR.out, HC.out, HF.out⟩
end Go.Proofs.Ytbfkjdnopiadjaa
