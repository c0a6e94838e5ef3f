/- The walk of ref03.Less where a packet goes on, whole. -/
import Derived.Test.YtccfebaifgnodaaRl
namespace Go.Proofs.Ytccfebaifgnodaa
open Go.RowKit
attribute [local go_sem ↓] Go.wp_at_zero Go.wp_at_succ

set_option maxRecDepth 100000 in
set_option maxHeartbeats 8000000 in
theorem lessR_yes (bx ox c : Nat) (l : List UInt8) (hl : l.length ≤ 1000000) (w : World) (hv : Bytes w (.slice (some ⟨bx, ox, none⟩) l.length c) l) (hf : flt l = 0) (ht : Sm.at0 l 8 ≠ 0) :
    Calls Try.prog 33 #[.slice (some ⟨bx, ox, none⟩) l.length c] w (AnsO w (lessL l) 0) := by
  have h20 := flt_20 hf
  have hpa := parseR_yes bx ox c l hl w hv hf
  obtain ⟨hlc, hll⟩ := less_sets l h20 ht
  have hbyte : ∀ i, i < l.length → bx < w.heap.size ∧ w.cell? ⟨bx, ox + i, none⟩ = some (.int .u8 (Sm.at0 l i : Nat)) := fun i hi => by
    obtain ⟨b', o', e, hb, hc⟩ := hv.at1 hi
    simp only [Option.some.injEq, Addr.mk.injEq, and_true] at e
    obtain ⟨rfl, rfl⟩ := e
    exact ⟨hb, hc⟩
  have hbx := (hbyte 8 (by omega)).1
  have x8 := (hbyte 8 (by omega)).2
  have x9 := (hbyte 9 (by omega)).2
  have x10 := (hbyte 10 (by omega)).2
  have x11 := (hbyte 11 (by omega)).2
  have l8 := Sm.at0_lt l 8
  have l9 := Sm.at0_lt l 9
  have l10 := Sm.at0_lt l 10
  have l11 := Sm.at0_lt l 11
  obtain ⟨n8, e8⟩ : ∃ n, n = Sm.at0 l 8 := ⟨_, rfl⟩
  obtain ⟨n9, e9⟩ : ∃ n, n = Sm.at0 l 9 := ⟨_, rfl⟩
  obtain ⟨n10, e10⟩ : ∃ n, n = Sm.at0 l 10 := ⟨_, rfl⟩
  obtain ⟨n11, e11⟩ : ∃ n, n = Sm.at0 l 11 := ⟨_, rfl⟩
  rw [← e8] at x8 l8 hlc hll ht
  rw [← e9] at x9 l9 hlc
  rw [← e10] at x10 l10 hlc
  rw [← e11] at x11 l11 hlc
  obtain ⟨ch, hch⟩ : ∃ n, n = lessC l := ⟨_, rfl⟩
  rw [← hch] at hlc hll
  have lch : ch < 65536 := by rw [hlc]; unfold Sm.changed; omega
  have HCH : Hid (∀ W, Calls Try.prog 54 #[.int .u16 (256 * (n10 : Int) + n11), .int .u16 (256 * (n8 : Int) + n9), .int .u16 (256 * (n8 : Int) + n9 - 256)] W fun e w' => e = .returned (.int .u16 (ch : Nat)) ∧ W = w') := fun W => by
    have := changeR_any (256 * n10 + n11) (256 * n8 + n9) (256 * n8 + n9 - 256) W (by omega) (by omega) (by omega)
    rw [← hlc, show ((256 * n10 + n11 : Nat) : Int) = 256 * (n10 : Int) + n11 by omega, show ((256 * n8 + n9 : Nat) : Int) = 256 * (n8 : Int) + n9 by omega, show ((256 * n8 + n9 - 256 : Nat) : Int) = 256 * (n8 : Int) + n9 - 256 by omega] at this
    exact this
  have HPA := Lib.hid hpa
  have HV := Lib.hid hv
  have HL := Lib.hid (And.intro hll (And.intro hl h20))
  have HX := Lib.hid (And.intro x8 (And.intro x9 (And.intro x10 x11)))
  have HN := Lib.hid (And.intro l8 (And.intro l9 (And.intro l10 (And.intro l11 lch))))
  have HE := Lib.hid (And.intro e8 (And.intro e10 e11))
  have g0 : ((n8 : Int) == 0) = false := by rw [beq_eq_false_iff_ne]; omega
  have g8 : (8 : Int) < l.length := by omega
  have g9 : (9 : Int) < l.length := by omega
  have g10 : (10 : Int) < l.length := by omega
  have g11 : (11 : Int) < l.length := by omega
  have j8 : 8 < l.length := by omega
  have j9 : 9 < l.length := by omega
  have j10 : 10 < l.length := by omega
  have j11 : 11 < l.length := by omega
  have hql : ([] : List UInt8).length + l.length ≤ 140737488355328 := by simp; omega
  have g1 : (1 : Int) ≤ n8 := by omega
  clear hv hf hpa hlc hll hbyte x8 x9 x10 x11 l8 l9 l10 l11 hch lch e8 e9 e10 e11 hl ht h20
  go_enter Try.func33, Try.ntmps33
  go_wp2_with fail
  refine HPA.out.mono ?_
  rintro e w1 ⟨u, v, rfl, hu, hv1, hb1⟩
  obtain ⟨ua, uc, rfl⟩ := hu.form
  obtain ⟨va, vc, rfl⟩ := hv1.form
  rw [← HE.out.1]
  clear hu hv1
  have HB1 := Lib.hid hb1
  clear hb1
  go_wp2_with (at_builtin; refine wpList_app rfl (.const (.slice none 0 0)) (.tmp 21) rfl _ (.slice none 0 0) _ [] l rfl rfl (OwnB.nil _ _) ((show Bytes w _ l from HV.out).later (HB1.out.alloc HB1.out.size _)) hql (Nat.le_refl _) ?_)
  intro v7 w7 ho7 hb7 _
  obtain ⟨g, cap, cur, rfl, hbg, hgc, hnc, hcs⟩ := OwnB.row ho7 (by omega)
  have HB7 : Hid (Below w.heap.size w w7) := (HB1.out.alloc HB1.out.size _).trans (hb7.mono (Nat.le_succ_of_le HB1.out.size))
  have HO7 : Hid (OwnB w7 w.heap.size (.slice (some ⟨g, 0, none⟩) l.length cap) l) := OwnB.weak ho7 (Nat.le_succ_of_le HB1.out.size)
  have HG : Hid (w.heap.size ≤ g) := Nat.le_trans (Nat.le_succ_of_le HB1.out.size) hbg
  obtain ⟨x8, x9, x10, x11⟩ := HX.out
  obtain ⟨l8, l9, l10, l11, lch⟩ := HN.out
  have q1 : IntKind.u16.wrap (256 * (n8 : Int)) = 256 * (n8 : Int) := IntWalk.u16_in _ ⟨by omega, by omega⟩
  have q2 : IntKind.u16.wrap (256 * (n8 : Int) + n9) = 256 * (n8 : Int) + n9 := IntWalk.u16_in _ ⟨by omega, by omega⟩
  have q3 : IntKind.u16.wrap (256 * (n10 : Int)) = 256 * (n10 : Int) := IntWalk.u16_in _ ⟨by omega, by omega⟩
  have q4 : IntKind.u16.wrap (256 * (n10 : Int) + n11) = 256 * (n10 : Int) + n11 := IntWalk.u16_in _ ⟨by omega, by omega⟩
  have q5 : IntKind.u16.wrap (256 * (n8 : Int) + n9 - 256) = 256 * (n8 : Int) + n9 - 256 := IntWalk.u16_in _ ⟨by omega, by omega⟩
  have q6 : IntKind.u16.wrap (n8 : Int) = n8 := IntWalk.u16_in _ ⟨by omega, by omega⟩
  have q7 : IntKind.u16.wrap (n9 : Int) = n9 := IntWalk.u16_in _ ⟨by omega, by omega⟩
  have q8 : IntKind.u16.wrap (n10 : Int) = n10 := IntWalk.u16_in _ ⟨by omega, by omega⟩
  have q9 : IntKind.u16.wrap (n11 : Int) = n11 := IntWalk.u16_in _ ⟨by omega, by omega⟩
  have QQ := Lib.hid (And.intro q1 (And.intro q2 (And.intro q3 (And.intro q4 (And.intro q5 (And.intro q6 (And.intro q7 (And.intro q8 q9))))))))
  clear ho7 hb7 hbg hgc hnc hcs l8 l9 l10 l11 lch q1 q2 q3 q4 q5 q6 q7 q8 q9
  go_wp2_with fail
  obtain ⟨q1, q2, q3, q4, q5, q6, q7, q8, q9⟩ := QQ.out
  (refine wp_region_held_drew (S := (fun w' => Below w7.heap.size w7 w')) (by kernel_rfl) ?_ (fun hHeld => ?_); (focus ((try dsimp only); (exact (Below.refl _ _).drew))))
  change wpAnyH _ _ _ _ _ 11 _ _ _
  obtain ⟨w8, hw8⟩ : ∃ w0, w0 = World.drew w7 := ⟨_, rfl⟩
  rw [← hw8]
  (try dsimp only at hHeld)
  rw [← hw8] at hHeld
  clear hw8
  (refine wpAnyH_take (i := 0) (v := ?_) rfl (by kernel_rfl) (by kernel_rfl) (by kernel_rfl) (fun _ _ _ h => h) (Or.inl ⟨by rfl, ?_⟩) hHeld ?_; rotate_left; (focus (intro w hSw; (try dsimp only at hSw); go_simp; try with_reducible rfl)); (try simp only [Act.put, List.setIfInBounds_toArray, List.set_cons_zero, List.set_cons_succ, List.getElem_toArray, List.getElem_cons_zero])); (refine wpAnyH_take (i := 1) (v := ?_) rfl (by kernel_rfl) (by kernel_rfl) (by kernel_rfl) (fun _ _ _ h => h) (Or.inl ⟨by rfl, ?_⟩) hHeld ?_; rotate_left; (focus (intro w hSw; (try dsimp only at hSw); go_simp; try with_reducible rfl)); (try simp only [Act.put, List.setIfInBounds_toArray, List.set_cons_zero, List.set_cons_succ, List.getElem_toArray, List.getElem_cons_zero, List.getElem_cons_succ]))
  (refine wpAnyH_take (i := 2) (v := ?_) rfl (by kernel_rfl) (by kernel_rfl) (by kernel_rfl) (fun _ _ _ h => h) (Or.inl ⟨by rfl, ?_⟩) hHeld ?_; rotate_left; (focus (intro w hSw; (try dsimp only at hSw); go_simp; (have hcc := cell_later' (HB7.out.trans (hSw.mono HB7.out.size)) hbx x8; go_simp; try with_reducible rfl))); (try simp only [Act.put, List.setIfInBounds_toArray, List.set_cons_zero, List.set_cons_succ, List.getElem_toArray, List.getElem_cons_zero, List.getElem_cons_succ]))
  (refine wpAnyH_take (i := 3) (v := ?_) rfl (by kernel_rfl) (by kernel_rfl) (by kernel_rfl) (fun _ _ _ h => h) (Or.inl ⟨by rfl, ?_⟩) hHeld ?_; rotate_left; (focus (intro w hSw; (try dsimp only at hSw); go_simp; try with_reducible rfl)); (try simp only [Act.put, List.setIfInBounds_toArray, List.set_cons_zero, List.set_cons_succ, List.getElem_toArray, List.getElem_cons_zero, List.getElem_cons_succ])); (refine wpAnyH_take (i := 4) (v := ?_) rfl (by kernel_rfl) (by kernel_rfl) (by kernel_rfl) (fun _ _ _ h => h) (Or.inl ⟨by rfl, ?_⟩) hHeld ?_; rotate_left; (focus (intro w hSw; (try dsimp only at hSw); go_simp; try with_reducible rfl)); (try simp only [Act.put, List.setIfInBounds_toArray, List.set_cons_zero, List.set_cons_succ, List.getElem_toArray, List.getElem_cons_zero, List.getElem_cons_succ])); (refine wpAnyH_take (i := 5) (v := ?_) rfl (by kernel_rfl) (by kernel_rfl) (by kernel_rfl) (fun _ _ _ h => h) (Or.inl ⟨by rfl, ?_⟩) hHeld ?_; rotate_left; (focus (intro w hSw; (try dsimp only at hSw); go_simp; try with_reducible rfl)); (try simp only [Act.put, List.setIfInBounds_toArray, List.set_cons_zero, List.set_cons_succ, List.getElem_toArray, List.getElem_cons_zero, List.getElem_cons_succ])); (refine wpAnyH_take (i := 6) (v := ?_) rfl (by kernel_rfl) (by kernel_rfl) (by kernel_rfl) (fun _ _ _ h => h) (Or.inl ⟨by rfl, ?_⟩) hHeld ?_; rotate_left; (focus (intro w hSw; (try dsimp only at hSw); go_simp; try with_reducible rfl)); (try simp only [Act.put, List.setIfInBounds_toArray, List.set_cons_zero, List.set_cons_succ, List.getElem_toArray, List.getElem_cons_zero, List.getElem_cons_succ]))
  (refine wpAnyH_take (i := 7) (v := ?_) rfl (by kernel_rfl) (by kernel_rfl) (by kernel_rfl) (fun _ _ _ h => h) (Or.inl ⟨by rfl, ?_⟩) hHeld ?_; rotate_left; (focus (intro w hSw; (try dsimp only at hSw); go_simp; (have hcc := cell_later' (HB7.out.trans (hSw.mono HB7.out.size)) hbx x9; go_simp; try with_reducible rfl))); (try simp only [Act.put, List.setIfInBounds_toArray, List.set_cons_zero, List.set_cons_succ, List.getElem_toArray, List.getElem_cons_zero, List.getElem_cons_succ]))
  (refine wpAnyH_take (i := 8) (v := ?_) rfl (by kernel_rfl) (by kernel_rfl) (by kernel_rfl) (fun _ _ _ h => h) (Or.inl ⟨by rfl, ?_⟩) hHeld ?_; rotate_left; (focus (intro w hSw; (try dsimp only at hSw); go_simp; try with_reducible rfl)); (try simp only [Act.put, List.setIfInBounds_toArray, List.set_cons_zero, List.set_cons_succ, List.getElem_toArray, List.getElem_cons_zero, List.getElem_cons_succ])); (refine wpAnyH_take (i := 9) (v := ?_) rfl (by kernel_rfl) (by kernel_rfl) (by kernel_rfl) (fun _ _ _ h => h) (Or.inl ⟨by rfl, ?_⟩) hHeld ?_; rotate_left; (focus (intro w hSw; (try dsimp only at hSw); go_simp; try with_reducible rfl)); (try simp only [Act.put, List.setIfInBounds_toArray, List.set_cons_zero, List.set_cons_succ, List.getElem_toArray, List.getElem_cons_zero, List.getElem_cons_succ])); (refine wpAnyH_take (i := 10) (v := ?_) rfl (by kernel_rfl) (by kernel_rfl) (by kernel_rfl) (fun _ _ _ h => h) (Or.inl ⟨by rfl, ?_⟩) hHeld ?_; rotate_left; (focus (intro w hSw; (try dsimp only at hSw); go_simp; try with_reducible rfl)); (try simp only [Act.put, List.setIfInBounds_toArray, List.set_cons_zero, List.set_cons_succ, List.getElem_toArray, List.getElem_cons_zero, List.getElem_cons_succ]))
  refine wpAnyH_done (by kernel_rfl) ?_ _
  have HB8 := Lib.hid hHeld
  clear hHeld
  go_wp2_with fail
  (refine wp_region_held_drew (S := (fun w' => Below w8.heap.size w8 w')) (by kernel_rfl) ?_ (fun hHeld => ?_); (focus ((try dsimp only); (exact (Below.refl _ _).drew))))
  change wpAnyH _ _ _ _ _ 15 _ _ _
  obtain ⟨w9, hw9⟩ : ∃ w0, w0 = World.drew w8 := ⟨_, rfl⟩
  rw [← hw9]
  (try dsimp only at hHeld)
  rw [← hw9] at hHeld
  clear hw9
  (refine wpAnyH_take (i := 0) (v := ?_) rfl (by kernel_rfl) (by kernel_rfl) (by kernel_rfl) (fun _ _ _ h => h) (Or.inl ⟨by rfl, ?_⟩) hHeld ?_; rotate_left; (focus (intro w hSw; (try dsimp only at hSw); go_simp; try with_reducible rfl)); (try simp only [Act.put, List.setIfInBounds_toArray, List.set_cons_zero, List.set_cons_succ, List.getElem_toArray, List.getElem_cons_zero])); (refine wpAnyH_take (i := 1) (v := ?_) rfl (by kernel_rfl) (by kernel_rfl) (by kernel_rfl) (fun _ _ _ h => h) (Or.inl ⟨by rfl, ?_⟩) hHeld ?_; rotate_left; (focus (intro w hSw; (try dsimp only at hSw); go_simp; try with_reducible rfl)); (try simp only [Act.put, List.setIfInBounds_toArray, List.set_cons_zero, List.set_cons_succ, List.getElem_toArray, List.getElem_cons_zero, List.getElem_cons_succ]))
  (refine wpAnyH_take (i := 2) (v := ?_) rfl (by kernel_rfl) (by kernel_rfl) (by kernel_rfl) (fun _ _ _ h => h) (Or.inl ⟨by rfl, ?_⟩) hHeld ?_; rotate_left; (focus (intro w hSw; (try dsimp only at hSw); go_simp; (have hcc := cell_later' (HB7.out.trans (HB8.out.trans (hSw.mono HB8.out.size) |>.mono HB7.out.size)) hbx x10; go_simp; try with_reducible rfl))); (try simp only [Act.put, List.setIfInBounds_toArray, List.set_cons_zero, List.set_cons_succ, List.getElem_toArray, List.getElem_cons_zero, List.getElem_cons_succ]))
  (refine wpAnyH_take (i := 3) (v := ?_) rfl (by kernel_rfl) (by kernel_rfl) (by kernel_rfl) (fun _ _ _ h => h) (Or.inl ⟨by rfl, ?_⟩) hHeld ?_; rotate_left; (focus (intro w hSw; (try dsimp only at hSw); go_simp; try with_reducible rfl)); (try simp only [Act.put, List.setIfInBounds_toArray, List.set_cons_zero, List.set_cons_succ, List.getElem_toArray, List.getElem_cons_zero, List.getElem_cons_succ])); (refine wpAnyH_take (i := 4) (v := ?_) rfl (by kernel_rfl) (by kernel_rfl) (by kernel_rfl) (fun _ _ _ h => h) (Or.inl ⟨by rfl, ?_⟩) hHeld ?_; rotate_left; (focus (intro w hSw; (try dsimp only at hSw); go_simp; try with_reducible rfl)); (try simp only [Act.put, List.setIfInBounds_toArray, List.set_cons_zero, List.set_cons_succ, List.getElem_toArray, List.getElem_cons_zero, List.getElem_cons_succ])); (refine wpAnyH_take (i := 5) (v := ?_) rfl (by kernel_rfl) (by kernel_rfl) (by kernel_rfl) (fun _ _ _ h => h) (Or.inl ⟨by rfl, ?_⟩) hHeld ?_; rotate_left; (focus (intro w hSw; (try dsimp only at hSw); go_simp; try with_reducible rfl)); (try simp only [Act.put, List.setIfInBounds_toArray, List.set_cons_zero, List.set_cons_succ, List.getElem_toArray, List.getElem_cons_zero, List.getElem_cons_succ])); (refine wpAnyH_take (i := 6) (v := ?_) rfl (by kernel_rfl) (by kernel_rfl) (by kernel_rfl) (fun _ _ _ h => h) (Or.inl ⟨by rfl, ?_⟩) hHeld ?_; rotate_left; (focus (intro w hSw; (try dsimp only at hSw); go_simp; try with_reducible rfl)); (try simp only [Act.put, List.setIfInBounds_toArray, List.set_cons_zero, List.set_cons_succ, List.getElem_toArray, List.getElem_cons_zero, List.getElem_cons_succ]))
  (refine wpAnyH_take (i := 7) (v := ?_) rfl (by kernel_rfl) (by kernel_rfl) (by kernel_rfl) (fun _ _ _ h => h) (Or.inl ⟨by rfl, ?_⟩) hHeld ?_; rotate_left; (focus (intro w hSw; (try dsimp only at hSw); go_simp; (have hcc := cell_later' (HB7.out.trans (HB8.out.trans (hSw.mono HB8.out.size) |>.mono HB7.out.size)) hbx x11; go_simp; try with_reducible rfl))); (try simp only [Act.put, List.setIfInBounds_toArray, List.set_cons_zero, List.set_cons_succ, List.getElem_toArray, List.getElem_cons_zero, List.getElem_cons_succ]))
  (refine wpAnyH_take (i := 8) (v := ?_) rfl (by kernel_rfl) (by kernel_rfl) (by kernel_rfl) (fun _ _ _ h => h) (Or.inl ⟨by rfl, ?_⟩) hHeld ?_; rotate_left; (focus (intro w hSw; (try dsimp only at hSw); go_simp; try with_reducible rfl)); (try simp only [Act.put, List.setIfInBounds_toArray, List.set_cons_zero, List.set_cons_succ, List.getElem_toArray, List.getElem_cons_zero, List.getElem_cons_succ])); (refine wpAnyH_take (i := 9) (v := ?_) rfl (by kernel_rfl) (by kernel_rfl) (by kernel_rfl) (fun _ _ _ h => h) (Or.inl ⟨by rfl, ?_⟩) hHeld ?_; rotate_left; (focus (intro w hSw; (try dsimp only at hSw); go_simp; try with_reducible rfl)); (try simp only [Act.put, List.setIfInBounds_toArray, List.set_cons_zero, List.set_cons_succ, List.getElem_toArray, List.getElem_cons_zero, List.getElem_cons_succ])); (refine wpAnyH_take (i := 10) (v := ?_) rfl (by kernel_rfl) (by kernel_rfl) (by kernel_rfl) (fun _ _ _ h => h) (Or.inl ⟨by rfl, ?_⟩) hHeld ?_; rotate_left; (focus (intro w hSw; (try dsimp only at hSw); go_simp; try with_reducible rfl)); (try simp only [Act.put, List.setIfInBounds_toArray, List.set_cons_zero, List.set_cons_succ, List.getElem_toArray, List.getElem_cons_zero, List.getElem_cons_succ])); (refine wpAnyH_take (i := 11) (v := ?_) rfl (by kernel_rfl) (by kernel_rfl) (by kernel_rfl) (fun _ _ _ h => h) (Or.inl ⟨by rfl, ?_⟩) hHeld ?_; rotate_left; (focus (intro w hSw; (try dsimp only at hSw); go_simp; try with_reducible rfl)); (try simp only [Act.put, List.setIfInBounds_toArray, List.set_cons_zero, List.set_cons_succ, List.getElem_toArray, List.getElem_cons_zero, List.getElem_cons_succ])); (refine wpAnyH_take (i := 12) (v := ?_) rfl (by kernel_rfl) (by kernel_rfl) (by kernel_rfl) (fun _ _ _ h => h) (Or.inl ⟨by rfl, ?_⟩) hHeld ?_; rotate_left; (focus (intro w hSw; (try dsimp only at hSw); go_simp; try with_reducible rfl)); (try simp only [Act.put, List.setIfInBounds_toArray, List.set_cons_zero, List.set_cons_succ, List.getElem_toArray, List.getElem_cons_zero, List.getElem_cons_succ]))
  (refine wpAnyH_ready (rs := [13]) (by kernel_rfl) (by simp) ?_; refine AllReadyH.cons rfl (fun K hK => ?_) AllReadyH.nil; go_simp; refine (HCH.out w9).mono ?_; rintro e wq ⟨rfl, rfl⟩; refine hK.out _ _ ?_ (fun hHeldN => ?_); (focus ((try dsimp only); (exact hHeld))); clear hK K hHeld; have hHeld := hHeldN; clear hHeldN; (try simp only [Act.put, List.setIfInBounds_toArray, List.set_cons_zero, List.set_cons_succ, List.getElem_toArray, List.getElem_cons_zero, List.getElem_cons_succ]))
  (refine wpAnyH_take (i := 14) (v := ?_) rfl (by kernel_rfl) (by kernel_rfl) (by kernel_rfl) (fun _ _ _ h => h) (Or.inl ⟨by rfl, ?_⟩) hHeld ?_; rotate_left; (focus (intro w hSw; (try dsimp only at hSw); go_simp; try with_reducible rfl)); (try simp only [Act.put, List.setIfInBounds_toArray, List.set_cons_zero, List.set_cons_succ, List.getElem_toArray, List.getElem_cons_zero, List.getElem_cons_succ]))
  refine wpAnyH_done (by kernel_rfl) ?_ _
  have HB9 := Lib.hid (HB8.out.trans (hHeld.mono HB8.out.size))
  have HO9 : Hid (OwnB w9 w.heap.size (.slice (some ⟨g, 0, none⟩) l.length cap) l) := OwnB.later HO7.out HB9.out
  have HBw : Hid (Below w.heap.size w w9) := HB7.out.trans (HB9.out.mono HB7.out.size)
  obtain ⟨c8, f8⟩ := OwnB.cellAt HO9.out (i := 8) j8
  obtain ⟨c10, f10⟩ := OwnB.cellAt HO9.out (i := 10) j10
  obtain ⟨c11, f11⟩ := OwnB.cellAt HO9.out (i := 11) j11
  have y8 := cell_later' HBw.out hbx x8
  obtain ⟨l8, l9, l10, l11, lch⟩ := HN.out
  have r1 : IntKind.u8.wrap ((n8 : Int) - 1) = n8 - 1 := IntWalk.u8_in _ ⟨by omega, by omega⟩
  clear hHeld q1 q2 q3 q4 q5 q6 q7 q8 q9 x9 x10 x11 l8 l9 l10 l11
  go_wp2_with fail
  obtain ⟨l8, _⟩ := HN.out
  have hc1 : ((n8 - 1 : Nat) : Int) = (n8 : Int) - 1 := by omega
  have hc2 : ((ch / 256 : Nat) : Int) = (ch : Int) / 256 := by omega
  have hc3 : ((ch % 256 : Nat) : Int) = (ch : Int) % 256 := by omega
  have o1 := OwnB.setL HO9.out 8 (n8 - 1) (by omega) j8
  have o2 := OwnB.setL o1 10 (ch / 256) (by omega) (by rw [List.length_set]; exact j10)
  have o3 := OwnB.setL o2 11 (ch % 256) (by omega) (by rw [List.length_set, List.length_set]; exact j11)
  rw [hc1, hc2, hc3, List.length_set, List.length_set, List.length_set, HL.out.1] at o3
  have HO3 := Lib.hid o3
  have HB3 := Lib.hid (((HBw.out.setCell (p := ⟨g, 8, none⟩) HG.out (.int .u8 ((n8 : Int) - 1))).setCell (p := ⟨g, 10, none⟩) HG.out (.int .u8 ((ch : Int) / 256))).setCell (p := ⟨g, 11, none⟩) HG.out (.int .u8 ((ch : Int) % 256)))
  clear o1 o2 o3
  go_ret2
  exact ⟨_, rfl, HO3.out, HB3.out⟩
theorem lessR_any (v : Value) (l : List UInt8) (hl : l.length ≤ 1000000) (w : World) (hv : Bytes w v l) :
    Calls Try.prog 33 #[v] w (AnsO w (if flt l ≠ 0 then [] else if Sm.at0 l 8 = 0 then [] else lessL l) (if flt l ≠ 0 then 4 else if Sm.at0 l 8 = 0 then 7 else 0)) := by
  obtain ⟨a, c, rfl⟩ := hv.form
  by_cases h1 : flt l ≠ 0
  · rw [if_pos h1, if_pos h1]; exact lessR_bad a c l hl w hv h1
  · rw [if_neg h1, if_neg h1]
    have h1' : flt l = 0 := by omega
    have h20 := flt_20 h1'
    obtain ⟨b, o, rfl, _, _⟩ := hv.at1 (i := 0) (by omega)
    by_cases h2 : Sm.at0 l 8 = 0
    · rw [if_pos h2, if_pos h2]; exact lessR_zero b o c l hl w hv h1' h2
    · rw [if_neg h2, if_neg h2]; exact lessR_yes b o c l hl w hv h1' h2
end Go.Proofs.Ytccfebaifgnodaa
