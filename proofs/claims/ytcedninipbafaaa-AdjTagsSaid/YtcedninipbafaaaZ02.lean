/- adj.Drop, Tick, Accepts, New: the walks. -/
import Derived.Test.YtcedninipbafaaaZ01

set_option linter.unusedSimpArgs false
set_option linter.unusedVariables false
namespace Go.Proofs.Ytcedninipbafaaa
open Go.RowKit
attribute [local go_sem ↓] Go.wp_at_zero Go.wp_at_succ
attribute [local go_sem ↓ high] eqTI neTI eqVI neVI

/-- It tries anew. -/
def anV (v : Vw) : Vw := ⟨0, v.mb, IntKind.u64.wrap (v.mt + 1), 0, 0, 0⟩
def dropA (a : Ad) : Ad := ⟨a.node, a.every, a.dead, a.said, a.sil, anV a.v⟩
set_option maxHeartbeats 2000000 in
theorem dropW {p : Nat} {a : Ad} {w : World} (h : PA p a w) (hn : a.node ≠ 0) : Calls Try.prog 15 #[.pointer (some ⟨p, 0, none⟩)] w fun e w' => e = .returned (.int .i64 (cameI a.v (anV a.v))) ∧ PA p (dropA a) w' ∧ Chg [p] w w' := by
  have HN := Lib.hid (noneA h hn)
  obtain ⟨W1, hW1⟩ : ∃ W1, W1 = w.alloc (.cells #[.int .i64 a.v.st, .int .u64 a.v.mb, .int .u64 a.v.mt, .int .u64 a.v.tb, .int .u64 a.v.tt, .int .i64 a.v.n] 40) := ⟨_, rfl⟩
  have hb : Below w.heap.size w W1 := by rw [hW1]; exact (Below.refl _ _).alloc (Nat.le_refl _) _
  have hV : BlkAt 40 w.heap.size [.int .i64 a.v.st, .int .u64 a.v.mb, .int .u64 a.v.mt, .int .u64 a.v.tb, .int .u64 a.v.tt, .int .i64 a.v.n] W1 := by rw [hW1]; exact BlkAt.new w _
  have HA := Lib.hid (anewW (h.later hb))
  have HC1 := Lib.hid (Chg.of_below [p] hb)
  have HV1 := Lib.hid hV
  have HL := Lib.hid h.lt
  obtain ⟨c0, c1, c2, c3, c4, c5, c6, c7, c8, c9, c10⟩ := h.cells
  have HW := Lib.hid hW1
  clear h hn hb hV hW1
  go_enter Try.func15, Try.ntmps15
  go_wp2_with fail
  refine HN.out.mono ?_
  rintro e w1 ⟨rfl, rfl⟩
  go_wp2_with fail
  rw [← HW.out]
  refine HA.out.mono ?_
  rintro e w2 ⟨⟨_, rfl⟩, hP, hC⟩
  have HP2 := Lib.hid (show PA p (dropA a) w2 from hP)
  have HV2 := Lib.hid (hC.blk HV1.out (by have := HL.out; simp; omega))
  have HC2 := Lib.hid (HC1.out.trans hC)
  clear hP hC
  go_wp2_with fail
  (refine wp_region_held_drew (S := (fun w' => Below w2.heap.size w2 w')) (by kernel_rfl) ?_ (fun hHeld => ?_); (focus ((try dsimp only); (exact (Below.refl _ _).drew))))
  (try dsimp only at hHeld)
  (refine wpAnyH_take (i := 0) (v := ?_) rfl (by kernel_rfl) (by kernel_rfl) (by kernel_rfl) (fun _ _ _ h => h) (Or.inl ⟨by rfl, ?_⟩) hHeld ?_; rotate_left; (focus (intro w hSw; (try dsimp only at hSw); go_simp; (have e0 := BlkAt.cell (BlkAt.later HV2.out hSw) (j := 0) rfl; have e1 := BlkAt.cell (BlkAt.later HV2.out hSw) (j := 1) rfl; have e2 := BlkAt.cell (BlkAt.later HV2.out hSw) (j := 2) rfl; have e3 := BlkAt.cell (BlkAt.later HV2.out hSw) (j := 3) rfl; have e4 := BlkAt.cell (BlkAt.later HV2.out hSw) (j := 4) rfl; have e5 := BlkAt.cell (BlkAt.later HV2.out hSw) (j := 5) rfl; go_simp; try with_reducible rfl))); (try simp only [Act.put, List.setIfInBounds_toArray, List.set_cons_zero, List.set_cons_succ, List.getElem_toArray, List.getElem_cons_zero]))
  (refine wpAnyH_take (i := 1) (v := ?_) rfl (by kernel_rfl) (by kernel_rfl) (by kernel_rfl) (fun _ _ _ h => h) (Or.inl ⟨by rfl, ?_⟩) hHeld ?_; rotate_left; (focus (intro w hSw; (try dsimp only at hSw); go_simp; try with_reducible rfl)); (try simp only [Act.put, List.setIfInBounds_toArray, List.set_cons_zero, List.set_cons_succ, List.getElem_toArray, List.getElem_cons_zero, List.getElem_cons_succ])); (refine wpAnyH_take (i := 2) (v := ?_) rfl (by kernel_rfl) (by kernel_rfl) (by kernel_rfl) (fun _ _ _ h => h) (Or.inl ⟨by rfl, ?_⟩) hHeld ?_; rotate_left; (focus (intro w hSw; (try dsimp only at hSw); go_simp; try with_reducible rfl)); (try simp only [Act.put, List.setIfInBounds_toArray, List.set_cons_zero, List.set_cons_succ, List.getElem_toArray, List.getElem_cons_zero, List.getElem_cons_succ])); (refine wpAnyH_take (i := 3) (v := ?_) rfl (by kernel_rfl) (by kernel_rfl) (by kernel_rfl) (fun _ _ _ h => h) (Or.inl ⟨by rfl, ?_⟩) hHeld ?_; rotate_left; (focus (intro w hSw; (try dsimp only at hSw); go_simp; try with_reducible rfl)); (try simp only [Act.put, List.setIfInBounds_toArray, List.set_cons_zero, List.set_cons_succ, List.getElem_toArray, List.getElem_cons_zero, List.getElem_cons_succ]))
  (refine wpAnyH_take (i := 4) (v := ?_) rfl (by kernel_rfl) (by kernel_rfl) (by kernel_rfl) (fun _ _ _ h => h) (Or.inl ⟨by rfl, ?_⟩) hHeld ?_; rotate_left; (focus (intro w hSw; (try dsimp only at hSw); go_simp; (have e0 := BlkAt.cell (BlkAt.later HP2.out hSw) (j := 0) rfl; have e1 := BlkAt.cell (BlkAt.later HP2.out hSw) (j := 1) rfl; have e2 := BlkAt.cell (BlkAt.later HP2.out hSw) (j := 2) rfl; have e3 := BlkAt.cell (BlkAt.later HP2.out hSw) (j := 3) rfl; have e4 := BlkAt.cell (BlkAt.later HP2.out hSw) (j := 4) rfl; have e5 := BlkAt.cell (BlkAt.later HP2.out hSw) (j := 5) rfl; have e6 := BlkAt.cell (BlkAt.later HP2.out hSw) (j := 6) rfl; have e7 := BlkAt.cell (BlkAt.later HP2.out hSw) (j := 7) rfl; have e8 := BlkAt.cell (BlkAt.later HP2.out hSw) (j := 8) rfl; have e9 := BlkAt.cell (BlkAt.later HP2.out hSw) (j := 9) rfl; have e10 := BlkAt.cell (BlkAt.later HP2.out hSw) (j := 10) rfl; go_simp; try with_reducible rfl))); (try simp only [Act.put, List.setIfInBounds_toArray, List.set_cons_zero, List.set_cons_succ, List.getElem_toArray, List.getElem_cons_zero, List.getElem_cons_succ]))
  (refine wpAnyH_ready (rs := [5]) (by kernel_rfl) (by simp) ?_; refine AllReadyH.cons rfl (fun K hK => ?_) AllReadyH.nil; go_simp; refine (cameW a.v (anV a.v) _).mono ?_; rintro e y5 ⟨rfl, hs⟩; refine hK.out _ _ ?_ (fun hHeldN => ?_); (focus ((try dsimp only); (exact hHeld.trans (hs.mono hHeld.size)))); clear hK K hHeld; have hHeld := hHeldN; clear hHeldN; (try simp only [Act.put, List.setIfInBounds_toArray, List.set_cons_zero, List.set_cons_succ, List.getElem_toArray, List.getElem_cons_zero, List.getElem_cons_succ]))
  (refine wpAnyH_take (i := 6) (v := ?_) rfl (by kernel_rfl) (by kernel_rfl) (by kernel_rfl) (fun _ _ _ h => h) (Or.inl ⟨by rfl, ?_⟩) hHeld ?_; rotate_left; (focus (intro w hSw; (try dsimp only at hSw); go_simp; try with_reducible rfl)); (try simp only [Act.put, List.setIfInBounds_toArray, List.set_cons_zero, List.set_cons_succ, List.getElem_toArray, List.getElem_cons_zero, List.getElem_cons_succ]))
  refine wpAnyH_done (by kernel_rfl) ?_ _
  go_wp2_with fail
  go_ret
  exact ⟨rfl, HP2.out.later hHeld, HC2.out.trans (Chg.of_below _ hHeld)⟩
/-- A tick. -/
def tickA (a : Ad) (s : Int) : Ad := if a.v.st ≠ 0 ∧ wrap64 (a.sil + 1) = a.dead then ⟨a.node, a.every, a.dead, s, wrap64 (a.sil + 1), anV a.v⟩ else ⟨a.node, a.every, a.dead, s, wrap64 (a.sil + 1), a.v⟩
def TkA (p : Nat) (a : Ad) (w : World) (e : Ending) (w' : World) : Prop :=
  ∃ x b s, e = .returned (.tuple #[.int .i64 x, .bool b]) ∧ PA p (tickA a s) w' ∧ Chg [p] w w'
set_option maxHeartbeats 2000000 in
theorem tickW {p : Nat} {a : Ad} {w : World} (h : PA p a w) (hn : a.node ≠ 0) : Calls Try.prog 14 #[.pointer (some ⟨p, 0, none⟩)] w (TkA p a w) := by
  have HN := Lib.hid (noneA h hn)
  have hfz : ∀ j, w.frozen? ⟨p, j, none⟩ = false := fun j => BlkAt.frozen h j
  obtain ⟨c0, c1, c2, c3, c4, c5, c6, c7, c8, c9, c10⟩ := h.cells
  have h4 := h.setSil (s := wrap64 (a.sil + 1))
  have HC := Lib.hid (Chg.set (b := p) (Chg.refl [p] w) (by simp) 4 (.int .i64 (wrap64 (a.sil + 1))))
  have HP := Lib.hid h4
  have HND := Lib.hid hn
  unfold TkA
  by_cases t : a.v.st ≠ 0 ∧ wrap64 (a.sil + 1) = a.dead
  · have HT : Hid (∀ s, tickA a s = ⟨a.node, a.every, a.dead, s, wrap64 (a.sil + 1), anV a.v⟩) := by
      have : ∀ s, tickA a s = ⟨a.node, a.every, a.dead, s, wrap64 (a.sil + 1), anV a.v⟩ := fun s => if_pos t
      exact this
    have t1 : (a.v.st != 0) = true := by simp [t.1]
    have t2 : (wrap64 (a.sil + 1) == a.dead) = true := by simp [t.2]
    clear h h4 hn t
    go_enter Try.func14, Try.ntmps14
    go_wp2_with fail
    refine HN.out.mono ?_
    rintro e w1 ⟨rfl, rfl⟩
    go_wp2_with fail
    go_quiet (fail)
    have HD := Lib.hid (dropW (HP.out.dr nq) HND.out)
    go_wp2_with fail
    refine HD.out.mono ?_
    rintro e w2 ⟨rfl, hP, hC⟩
    have HC2 := Lib.hid ((HC.out.dr nq).trans hC)
    have HU := Lib.hid (dueW hP)
    clear hP hC
    go_wp2_with fail
    refine HU.out.mono ?_
    rintro e w3 ⟨b, s, rfl, hP, hC⟩
    have HP3 := Lib.hid hP
    have HC3 := Lib.hid (HC2.out.trans hC)
    clear hP hC
    go_wp2_with fail
    go_ret2
    exact ⟨_, _, s, rfl, by rw [HT.out s]; exact HP3.out, HC3.out⟩
  · have HT : Hid (∀ s, tickA a s = ⟨a.node, a.every, a.dead, s, wrap64 (a.sil + 1), a.v⟩) := by
      have : ∀ s, tickA a s = ⟨a.node, a.every, a.dead, s, wrap64 (a.sil + 1), a.v⟩ := fun s => if_neg t
      exact this
    have HX : Hid ((a.v.st != 0) = true → (wrap64 (a.sil + 1) == a.dead) = false) := by
      have : (a.v.st != 0) = true → (wrap64 (a.sil + 1) == a.dead) = false := fun q => beq_eq_false_iff_ne.2 fun r => t ⟨bne_iff_ne.1 q, r⟩
      exact this
    clear h h4 hn t
    cases t1 : a.v.st != 0 with
    | false =>
      go_enter Try.func14, Try.ntmps14
      go_wp2_with fail
      refine HN.out.mono ?_
      rintro e w1 ⟨rfl, rfl⟩
      go_wp2_with fail
      go_quiet (fail)
      have HU := Lib.hid (dueW (HP.out.dr nq))
      go_wp2_with fail
      refine HU.out.mono ?_
      rintro e w3 ⟨b, s, rfl, hP, hC⟩
      have HP3 := Lib.hid hP
      have HC3 := Lib.hid ((HC.out.dr nq).trans hC)
      clear hP hC
      go_wp2_with fail
      go_ret2
      exact ⟨_, _, s, rfl, by rw [HT.out s]; exact HP3.out, HC3.out⟩
    | true =>
      have t2 := HX.out t1
      go_enter Try.func14, Try.ntmps14
      go_wp2_with fail
      refine HN.out.mono ?_
      rintro e w1 ⟨rfl, rfl⟩
      go_wp2_with fail
      go_quiet (fail)
      have HU := Lib.hid (dueW (HP.out.dr nq))
      go_wp2_with fail
      refine HU.out.mono ?_
      rintro e w3 ⟨b, s, rfl, hP, hC⟩
      have HP3 := Lib.hid hP
      have HC3 := Lib.hid ((HC.out.dr nq).trans hC)
      clear hP hC
      go_wp2_with fail
      go_ret2
      exact ⟨_, _, s, rfl, by rw [HT.out s]; exact HP3.out, HC3.out⟩
end Go.Proofs.Ytcedninipbafaaa
