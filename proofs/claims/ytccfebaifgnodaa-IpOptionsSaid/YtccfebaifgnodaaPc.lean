/- The walk of ref03.Copied. -/
import Derived.Test.YtccfebaifgnodaaPr
import Derived.Test.YtccfebaifgnodaaIk
namespace Go.Proofs.Ytccfebaifgnodaa
open Go.RowKit
attribute [local go_sem ↓] Go.wp_at_zero Go.wp_at_succ

def copP (L : List UInt8) (A : List (Nat × Nat)) : List UInt8 := A.flatMap fun p => if 128 ≤ Sm.at0 L p.1 then cutP L p else []
theorem copOf_fm : ∀ s : List (Option (List UInt8)), copOf s = (s.filterMap id).flatMap fun r => if 128 ≤ Sm.at0 r 0 then r else []
  | [] => rfl
  | none :: s => by
    have := copOf_fm s
    unfold copOf at this ⊢
    rw [List.flatMap_cons, this]; rfl
  | some r :: s => by
    have := copOf_fm s
    unfold copOf at this ⊢
    rw [List.flatMap_cons, this]; rfl
theorem copied_raws (L : List UInt8) : copied L = pad ((Om.raws L).flatMap fun r => if 128 ≤ Sm.at0 r 0 then r else []) := by
  cases h : Om.ok L with
  | true =>
    have e : Om.raws L = (Om.seq L).filterMap id := by unfold Om.raws; rw [h]; rfl
    unfold copied
    rw [h, if_pos rfl, copOf_fm, e]
  | false => rw [copied_no h, raws_no h]; rfl
theorem copied_parts {L : List UInt8} {A : List (Nat × Nat)} (hr : Om.raws L = rawsP L A) (hp : ∀ p ∈ A, PtOk L p) : copied L = pad (copP L A) := by
  rw [copied_raws, hr, flat_raws A hp]; rfl
theorem copP_len {L : List UInt8} : ∀ A : List (Nat × Nat), (copP L A).length ≤ A.length * L.length
  | [] => Nat.zero_le _
  | p :: A => by
    have := copP_len (L := L) A
    unfold copP at this ⊢
    rw [List.flatMap_cons, List.length_append, List.length_cons, Nat.succ_mul]
    have h2 : (if 128 ≤ Sm.at0 L p.1 then cutP L p else []).length ≤ L.length := by
      split
      · unfold cutP; rw [List.length_take, List.length_drop]; omega
      · exact Nat.zero_le _
    omega
theorem copP_succ {L : List UInt8} {A : List (Nat × Nat)} {k : Nat} {p : Nat × Nat} (h : A[k]? = some p) : copP L (A.take (k + 1)) = copP L (A.take k) ++ (if 128 ≤ Sm.at0 L p.1 then cutP L p else []) := by
  unfold copP; rw [List.take_add_one, List.flatMap_append, h]; simp

set_option maxHeartbeats 4000000 in
set_option maxRecDepth 100000 in
theorem copiedR_any (v0 : Value) (L : List UInt8) (hL : L.length ≤ 1000) (w : World) (hv : Bytes w v0 L) :
    Calls Try.prog 29 #[v0] w fun e w' => ∃ v, e = .returned v ∧ OwnB w' w.heap.size v (copied L) ∧ Below w.heap.size w w' := by
  obtain ⟨a, c, rfl⟩ := hv.form
  have HV := Lib.hid hv
  have HP := Lib.hid (partsR_any _ L hL w hv)
  have hL2 : (L.length : Int) ≤ 1000 := by omega
  clear hv
  go_enter Try.func29, Try.ntmps29
  go_wp2_with fail
  refine HP.out.mono ?_
  rintro e w1 ⟨a1, c1, A, rfl, hr, hal, hpo, hraw, hb1⟩
  have hcp := copied_parts hraw hpo
  obtain ⟨N, hN⟩ : ∃ N, N = A.length := ⟨_, rfl⟩
  rw [← hN] at hr hal ⊢
  have HR := Lib.hid hr
  have HN := Lib.hid (And.intro hN (And.intro hpo hcp))
  have HB1 := Lib.hid hb1
  have hN2 : (N : Int) ≤ 1000 := by omega
  have HCL : Hid (∀ k, (copP L (A.take k)).length ≤ 1000000) := fun k => by
    have h1 := copP_len (L := L) (A.take k)
    have h2 : (A.take k).length ≤ 1000 := by rw [List.length_take]; omega
    have h3 : (A.take k).length * L.length ≤ 1000 * 1000 := Nat.mul_le_mul h2 hL
    omega
  clear hr hpo hraw hcp hN hb1
  go_wp2_with fail
  go_loopw [5, 6] (fun v i wr => ∃ k : Nat, k ≤ N ∧ i = .int .i64 (k : Nat) ∧ Hid (OwnB wr w1.heap.size v (copP L (A.take k))) ∧ Hid (Below w1.heap.size w1 wr)) (fun _ i _ => N - (intOf i).toNat)
  case atStart => exact ⟨0, Nat.zero_le _, rfl, OwnB.nil _ _, Below.refl _ _⟩
  case round =>
    obtain ⟨k, hk, rfl, HW, HB⟩ := hrel
    obtain ⟨av, cv, rfl⟩ := OwnB.form (show OwnB wr w1.heap.size u5 (copP L (A.take k)) from HW.out)
    obtain ⟨Z, hZ⟩ : ∃ Z, Z = copP L (A.take k) := ⟨_, rfl⟩
    have hZl := HCL.out k
    rw [← hZ] at HW hZl ⊢
    have HZ := Lib.hid hZ
    clear hZ
    rcases Nat.lt_or_ge k N with hlt | hge
    · have g1 : (k : Int) < N := by omega
      have hkl : k < A.length := by rw [← HN.out.1]; exact hlt
      obtain ⟨p, hp⟩ : ∃ p, p = A[k] := ⟨_, rfl⟩
      have hpk : A[k]? = some p := by rw [hp]; exact List.getElem?_eq_getElem hkl
      obtain ⟨b, o, rfl, hbl, hc0, hc1⟩ := PtR.at HR.out hpk
      have hpo := HN.out.2.1 p (by rw [hp]; exact List.getElem_mem hkl)
      obtain ⟨m, hm⟩ : ∃ m, m = p.1 := ⟨_, rfl⟩
      obtain ⟨n, hn⟩ : ∃ n, n = p.2 := ⟨_, rfl⟩
      rw [← hm] at hc0
      rw [← hn] at hc1
      have hn1 : 1 ≤ n := by rw [hn]; exact hpo.1
      have hmn : m + n ≤ L.length := by rw [hm, hn]; exact hpo.2.1
      have hmL : m < L.length := by omega
      obtain ⟨bx, ox, rfl, hbx, hex⟩ := HV.out.at1 hmL
      obtain ⟨x, hx⟩ : ∃ x : Nat, x = Sm.at0 L m := ⟨_, rfl⟩
      rw [← hx] at hex
      have d0 : w1.cell? ⟨b, o + k * 2, none⟩ = some (.int .i64 (m : Nat)) := by rw [Nat.mul_comm]; exact hc0
      have d1 : w1.cell? ⟨b, o + k * 2 + 1, none⟩ = some (.int .i64 (n : Nat)) := by rw [Nat.add_assoc, Nat.mul_comm k 2]; exact hc1
      have e0 := cell_later' HB.out hbl d0
      have e1 : wr.cell? ⟨bx, ox + m, none⟩ = some (.int .u8 (x : Nat)) := cell_later' (HB1.out.trans (HB.out.mono HB1.out.size)) hbx hex
      have g2 : (m : Int) < L.length := by omega
      have hsu := copP_succ (L := L) hpk
      rw [← HZ.out, ← hm, ← hx] at hsu
      have hcut : cutP L p = (L.take (m + n)).drop m := by unfold cutP; rw [List.drop_take, ← hm, ← hn]; congr 1; omega
      have HS := Lib.hid (And.intro hsu hcut)
      clear hc0 hc1 hex hx hp hpk hpo hm hn hkl hsu hcut
      by_cases h1 : 128 ≤ x
      · have g3 : (128 : Int) ≤ x := by omega
        obtain ⟨sa, hcs, hcb⟩ := HV.out.cut_lh (m : Int) ((m : Int) + n) m (m + n) rfl (by omega) (by omega) hmn
        have hsu2 : copP L (A.take (k + 1)) = Z ++ (L.take (m + n)).drop m := by rw [HS.out.1, if_pos h1, HS.out.2]
        have HSU := Lib.hid hsu2
        rw [Nat.add_sub_cancel_left] at hcb
        have HCB := Lib.hid hcb
        have hwr : IntKind.i64.wrap ((m : Int) + n) = m + n := IntWalk.i64_in _ ⟨by omega, by omega⟩
        have hql : Z.length + ((L.take (m + n)).drop m).length ≤ 140737488355328 := by rw [List.length_drop, List.length_take]; omega
        have HQL := Lib.hid hql
        have g4 : (m : Int) + n ≤ L.length := by omega
        clear hsu2 hcb hql h1
        go_wp2_with fail
        have HB3 : Hid (Below w1.heap.size w1 wr) := HB
        (refine wp_region_held_drew (S := (fun w' => Below w1.heap.size w1 w')) (by kernel_rfl) ?_ (fun hHeld => ?_); (focus ((try dsimp only); (exact HB3.out.drew))))
        change wpAnyH _ _ _ _ _ 21 _ _ _
        (refine wpAnyH_take (i := 0) (v := ?_) rfl (by kernel_rfl) (by kernel_rfl) (by kernel_rfl) (fun _ _ _ h => h) (Or.inl ⟨by rfl, ?_⟩) hHeld ?_; rotate_left; (focus (intro w hSw; (try dsimp only at hSw); go_simp; try with_reducible rfl)); (try simp only [Act.put, List.setIfInBounds_toArray, List.set_cons_zero, List.set_cons_succ, List.getElem_toArray, List.getElem_cons_zero])); (refine wpAnyH_take (i := 1) (v := ?_) rfl (by kernel_rfl) (by kernel_rfl) (by kernel_rfl) (fun _ _ _ h => h) (Or.inl ⟨by rfl, ?_⟩) hHeld ?_; rotate_left; (focus (intro w hSw; (try dsimp only at hSw); go_simp; try with_reducible rfl)); (try simp only [Act.put, List.setIfInBounds_toArray, List.set_cons_zero, List.set_cons_succ, List.getElem_toArray, List.getElem_cons_zero, List.getElem_cons_succ])); (refine wpAnyH_take (i := 2) (v := ?_) rfl (by kernel_rfl) (by kernel_rfl) (by kernel_rfl) (fun _ _ _ h => h) (Or.inl ⟨by rfl, ?_⟩) hHeld ?_; rotate_left; (focus (intro w hSw; (try dsimp only at hSw); go_simp; try with_reducible rfl)); (try simp only [Act.put, List.setIfInBounds_toArray, List.set_cons_zero, List.set_cons_succ, List.getElem_toArray, List.getElem_cons_zero, List.getElem_cons_succ])); (refine wpAnyH_take (i := 3) (v := ?_) rfl (by kernel_rfl) (by kernel_rfl) (by kernel_rfl) (fun _ _ _ h => h) (Or.inl ⟨by rfl, ?_⟩) hHeld ?_; rotate_left; (focus (intro w hSw; (try dsimp only at hSw); go_simp; try with_reducible rfl)); (try simp only [Act.put, List.setIfInBounds_toArray, List.set_cons_zero, List.set_cons_succ, List.getElem_toArray, List.getElem_cons_zero, List.getElem_cons_succ])); (refine wpAnyH_take (i := 4) (v := ?_) rfl (by kernel_rfl) (by kernel_rfl) (by kernel_rfl) (fun _ _ _ h => h) (Or.inl ⟨by rfl, ?_⟩) hHeld ?_; rotate_left; (focus (intro w hSw; (try dsimp only at hSw); go_simp; try with_reducible rfl)); (try simp only [Act.put, List.setIfInBounds_toArray, List.set_cons_zero, List.set_cons_succ, List.getElem_toArray, List.getElem_cons_zero, List.getElem_cons_succ])); (refine wpAnyH_take (i := 5) (v := ?_) rfl (by kernel_rfl) (by kernel_rfl) (by kernel_rfl) (fun _ _ _ h => h) (Or.inl ⟨by rfl, ?_⟩) hHeld ?_; rotate_left; (focus (intro w hSw; (try dsimp only at hSw); go_simp; try with_reducible rfl)); (try simp only [Act.put, List.setIfInBounds_toArray, List.set_cons_zero, List.set_cons_succ, List.getElem_toArray, List.getElem_cons_zero, List.getElem_cons_succ]))
        (refine wpAnyH_take (i := 6) (v := ?_) rfl (by kernel_rfl) (by kernel_rfl) (by kernel_rfl) (fun _ _ _ h => h) (Or.inl ⟨by rfl, ?_⟩) hHeld ?_; rotate_left; (focus (intro w hSw; (try dsimp only at hSw); go_simp; (have hcc := cell_later' hSw hbl d0; go_simp; try with_reducible rfl))); (try simp only [Act.put, List.setIfInBounds_toArray, List.set_cons_zero, List.set_cons_succ, List.getElem_toArray, List.getElem_cons_zero, List.getElem_cons_succ]))
        (refine wpAnyH_take (i := 7) (v := ?_) rfl (by kernel_rfl) (by kernel_rfl) (by kernel_rfl) (fun _ _ _ h => h) (Or.inl ⟨by rfl, ?_⟩) hHeld ?_; rotate_left; (focus (intro w hSw; (try dsimp only at hSw); go_simp; try with_reducible rfl)); (try simp only [Act.put, List.setIfInBounds_toArray, List.set_cons_zero, List.set_cons_succ, List.getElem_toArray, List.getElem_cons_zero, List.getElem_cons_succ])); (refine wpAnyH_take (i := 8) (v := ?_) rfl (by kernel_rfl) (by kernel_rfl) (by kernel_rfl) (fun _ _ _ h => h) (Or.inl ⟨by rfl, ?_⟩) hHeld ?_; rotate_left; (focus (intro w hSw; (try dsimp only at hSw); go_simp; try with_reducible rfl)); (try simp only [Act.put, List.setIfInBounds_toArray, List.set_cons_zero, List.set_cons_succ, List.getElem_toArray, List.getElem_cons_zero, List.getElem_cons_succ])); (refine wpAnyH_take (i := 9) (v := ?_) rfl (by kernel_rfl) (by kernel_rfl) (by kernel_rfl) (fun _ _ _ h => h) (Or.inl ⟨by rfl, ?_⟩) hHeld ?_; rotate_left; (focus (intro w hSw; (try dsimp only at hSw); go_simp; try with_reducible rfl)); (try simp only [Act.put, List.setIfInBounds_toArray, List.set_cons_zero, List.set_cons_succ, List.getElem_toArray, List.getElem_cons_zero, List.getElem_cons_succ])); (refine wpAnyH_take (i := 10) (v := ?_) rfl (by kernel_rfl) (by kernel_rfl) (by kernel_rfl) (fun _ _ _ h => h) (Or.inl ⟨by rfl, ?_⟩) hHeld ?_; rotate_left; (focus (intro w hSw; (try dsimp only at hSw); go_simp; try with_reducible rfl)); (try simp only [Act.put, List.setIfInBounds_toArray, List.set_cons_zero, List.set_cons_succ, List.getElem_toArray, List.getElem_cons_zero, List.getElem_cons_succ]))
        (refine wpAnyH_take (i := 11) (v := ?_) rfl (by kernel_rfl) (by kernel_rfl) (by kernel_rfl) (fun _ _ _ h => h) (Or.inl ⟨by rfl, ?_⟩) hHeld ?_; rotate_left; (focus (intro w hSw; (try dsimp only at hSw); go_simp; (have hcc := cell_later' hSw hbl d0; go_simp; try with_reducible rfl))); (try simp only [Act.put, List.setIfInBounds_toArray, List.set_cons_zero, List.set_cons_succ, List.getElem_toArray, List.getElem_cons_zero, List.getElem_cons_succ]))
        (refine wpAnyH_take (i := 12) (v := ?_) rfl (by kernel_rfl) (by kernel_rfl) (by kernel_rfl) (fun _ _ _ h => h) (Or.inl ⟨by rfl, ?_⟩) hHeld ?_; rotate_left; (focus (intro w hSw; (try dsimp only at hSw); go_simp; try with_reducible rfl)); (try simp only [Act.put, List.setIfInBounds_toArray, List.set_cons_zero, List.set_cons_succ, List.getElem_toArray, List.getElem_cons_zero, List.getElem_cons_succ])); (refine wpAnyH_take (i := 13) (v := ?_) rfl (by kernel_rfl) (by kernel_rfl) (by kernel_rfl) (fun _ _ _ h => h) (Or.inl ⟨by rfl, ?_⟩) hHeld ?_; rotate_left; (focus (intro w hSw; (try dsimp only at hSw); go_simp; try with_reducible rfl)); (try simp only [Act.put, List.setIfInBounds_toArray, List.set_cons_zero, List.set_cons_succ, List.getElem_toArray, List.getElem_cons_zero, List.getElem_cons_succ])); (refine wpAnyH_take (i := 14) (v := ?_) rfl (by kernel_rfl) (by kernel_rfl) (by kernel_rfl) (fun _ _ _ h => h) (Or.inl ⟨by rfl, ?_⟩) hHeld ?_; rotate_left; (focus (intro w hSw; (try dsimp only at hSw); go_simp; try with_reducible rfl)); (try simp only [Act.put, List.setIfInBounds_toArray, List.set_cons_zero, List.set_cons_succ, List.getElem_toArray, List.getElem_cons_zero, List.getElem_cons_succ])); (refine wpAnyH_take (i := 15) (v := ?_) rfl (by kernel_rfl) (by kernel_rfl) (by kernel_rfl) (fun _ _ _ h => h) (Or.inl ⟨by rfl, ?_⟩) hHeld ?_; rotate_left; (focus (intro w hSw; (try dsimp only at hSw); go_simp; try with_reducible rfl)); (try simp only [Act.put, List.setIfInBounds_toArray, List.set_cons_zero, List.set_cons_succ, List.getElem_toArray, List.getElem_cons_zero, List.getElem_cons_succ]))
        (refine wpAnyH_take (i := 16) (v := ?_) rfl (by kernel_rfl) (by kernel_rfl) (by kernel_rfl) (fun _ _ _ h => h) (Or.inl ⟨by rfl, ?_⟩) hHeld ?_; rotate_left; (focus (intro w hSw; (try dsimp only at hSw); go_simp; (have hcc := cell_later' hSw hbl d1; go_simp; try with_reducible rfl))); (try simp only [Act.put, List.setIfInBounds_toArray, List.set_cons_zero, List.set_cons_succ, List.getElem_toArray, List.getElem_cons_zero, List.getElem_cons_succ]))
        (refine wpAnyH_take (i := 17) (v := ?_) rfl (by kernel_rfl) (by kernel_rfl) (by kernel_rfl) (fun _ _ _ h => h) (Or.inl ⟨by rfl, ?_⟩) hHeld ?_; rotate_left; (focus (intro w hSw; (try dsimp only at hSw); go_simp; try with_reducible rfl)); (try simp only [Act.put, List.setIfInBounds_toArray, List.set_cons_zero, List.set_cons_succ, List.getElem_toArray, List.getElem_cons_zero, List.getElem_cons_succ])); (refine wpAnyH_take (i := 18) (v := ?_) rfl (by kernel_rfl) (by kernel_rfl) (by kernel_rfl) (fun _ _ _ h => h) (Or.inl ⟨by rfl, ?_⟩) hHeld ?_; rotate_left; (focus (intro w hSw; (try dsimp only at hSw); go_simp; try with_reducible rfl)); (try simp only [Act.put, List.setIfInBounds_toArray, List.set_cons_zero, List.set_cons_succ, List.getElem_toArray, List.getElem_cons_zero, List.getElem_cons_succ]))
        obtain ⟨w0, hw0⟩ : ∃ w0, w0 = World.drew wr := ⟨_, rfl⟩
        rw [← hw0]
        (try dsimp only at hHeld)
        rw [← hw0] at hHeld
        have hd0 : Below wr.heap.size wr w0 := by rw [hw0]; exact (Below.refl _ _).drew
        have HW0 : Hid (OwnB w0 w1.heap.size (.slice av Z.length cv) Z) := OwnB.later HW.out hd0
        clear hw0 hd0
        refine wpAnyH_ready (rs := [19]) (by kernel_rfl) (by simp) ?_
        refine AllReadyH.cons rfl (fun K hK => ?_) AllReadyH.nil
        refine step_app rfl (.tmp 27) (.tmp 45) rfl w1.heap.size _ _ Z ((L.take (m + n)).drop m) rfl rfl HW0.out ((show Bytes w _ _ from HCB.out).later (HB1.out.trans (hHeld.mono HB1.out.size))) HQL.out hHeld.size ?_
        intro v19 w19 ho19 hbl19 _
        have hH19 := hHeld.trans hbl19
        have HW19 : Hid (OwnB w19 w1.heap.size v19 (copP L (A.take (k + 1)))) := by
          show OwnB _ _ _ _
          rw [HSU.out]; exact ho19
        have HB19 := Lib.hid hH19
        clear ho19 hbl19 HW0
        refine hK.out _ _ hH19 (fun hHeldN => ?_)
        (try simp only [Act.put, List.setIfInBounds_toArray, List.set_cons_zero, List.set_cons_succ, List.getElem_toArray, List.getElem_cons_zero, List.getElem_cons_succ])
        (clear hHeld hH19; have hHeld := hHeldN; clear hHeldN)
        (refine wpAnyH_take (i := 20) (v := ?_) rfl (by kernel_rfl) (by kernel_rfl) (by kernel_rfl) (fun _ _ _ h => h) (Or.inl ⟨by rfl, ?_⟩) hHeld ?_; rotate_left; (focus (intro w hSw; (try dsimp only at hSw); go_simp; try with_reducible rfl)); (try simp only [Act.put, List.setIfInBounds_toArray, List.set_cons_zero, List.set_cons_succ, List.getElem_toArray, List.getElem_cons_zero, List.getElem_cons_succ]))
        refine wpAnyH_done (by kernel_rfl) ?_ _
        clear hHeld d0 d1 e0 e1 hcs
        go_wp2_with fail
        go_roundw
        case rel => exact ⟨k + 1, by omega, by go_num, HW19, HB19⟩
        case measure => simp [intOf]; omega
      · have g3 : (x : Int) < 128 := by omega
        have hsu2 : copP L (A.take (k + 1)) = Z := by rw [HS.out.1, if_neg h1, List.append_nil]
        have HW2 : Hid (OwnB wr w1.heap.size (.slice av Z.length cv) (copP L (A.take (k + 1)))) := by
          show OwnB _ _ _ _
          rw [hsu2]; exact HW.out
        clear hsu2 h1
        go_wp2_with fail
        go_roundw
        case rel => exact ⟨k + 1, by omega, by go_num, HW2, HB⟩
        case measure => simp [intOf]; omega
    · have e : k = N := by omega
      subst e
      have hzc : copied L = pad Z := by rw [HN.out.2.2, HZ.out, HN.out.1, List.take_length]
      have HC := Lib.hid hzc
      obtain ⟨q, hq⟩ : ∃ q, q = (4 - Z.length % 4) % 4 := ⟨_, rfl⟩
      have HQ := Lib.hid hq
      have g1 : (k : Int) ≤ k := by omega
      have HB4 := Lib.hid (HB1.out.trans (HB.out.mono HB1.out.size))
      have HW4 : Hid (OwnB wr w.heap.size (.slice av Z.length cv) Z) := OwnB.weak HW.out HB1.out.size
      clear hzc hq HZ
      go_wp2_with fail
      go_loopw [5] (fun v ws => ∃ (j : Nat) (y : List UInt8), j ≤ q ∧ Hid (y = Z ++ List.replicate j 0) ∧ Hid (OwnB ws w.heap.size v y) ∧ Hid (Below w.heap.size w ws)) (fun v _ => (4 - (match v with | .slice _ n _ => n | _ => 0) % 4) % 4)
      case atStart => exact ⟨0, Z, Nat.zero_le _, by show _ = _; rw [List.replicate_zero, List.append_nil], HW4.out, HB4.out⟩
      case round =>
        obtain ⟨j, Y, hj, HY, HO, HBs⟩ := hrel
        obtain ⟨ay, cy, rfl⟩ := OwnB.form (show OwnB _ w.heap.size _ Y from HO.out)
        have hYl : Y.length = Z.length + j := by rw [HY.out]; simp
        have hq := HQ.out
        have hz3 : (Y.length : Int) ≤ 300000000 := by omega
        rcases Nat.lt_or_ge j q with hlt | hge2
        · have g1 : ((Y.length : Int) % 4 != 0) = true := by rw [bne_iff_ne]; omega
          have hdec : (4 - (Y.length + 1) % 4) % 4 < (4 - Y.length % 4) % 4 := by omega
          have HDEC := Lib.hid hdec
          have HBL := Lib.hid (bytes_lit wr [0])
          have hsz := HBs.out.size
          have HSZ := Lib.hid hsz
          have h47 : Y.length + [(0 : UInt8)].length ≤ 140737488355328 := by simp; omega
          have H47 := Lib.hid h47
          clear hYl hq hdec hsz h47
          go_wp2_with (at_builtin; refine wpList_app rfl _ _ rfl w.heap.size _ _ _ [0] rfl rfl (OwnB.alloc HO.out _) HBL.out H47.out (by rw [World.size_alloc]; exact Nat.le_succ_of_le HSZ.out) ?_)
          intro v' w3 hown' hbel _
          have HO3 := Lib.hid hown'
          have HB3 : Hid (Below w.heap.size w w3) := (HBs.out.alloc HBs.out.size _).trans hbel
          obtain ⟨a3, c3, rfl⟩ := OwnB.form hown'
          have hl3 : (Y ++ [(0 : UInt8)]).length = Y.length + 1 := by simp
          clear hown' hbel
          go_wp2_with fail
          go_roundw
          case rel => exact ⟨j + 1, Y ++ [0], hlt, by show _ = _; rw [pad_snoc, ← HY.out], HO3, HB3⟩
          case measure => simp only [List.length_append, List.length_cons, List.length_nil]; exact HDEC.out
        · have hjq : j = q := by omega
          have g1 : ((Y.length : Int) % 4 != 0) = false := by rw [bne_eq_false_iff_eq]; omega
          have hpad : copied L = Y := by rw [HC.out, HY.out]; unfold pad; rw [hjq, hq]
          have HPD := Lib.hid hpad
          clear hYl hq hjq hpad
          go_wp2_with fail
          go_ret
          exact ⟨_, rfl, by rw [HPD.out]; exact HO.out, HBs.out⟩
end Go.Proofs.Ytccfebaifgnodaa
