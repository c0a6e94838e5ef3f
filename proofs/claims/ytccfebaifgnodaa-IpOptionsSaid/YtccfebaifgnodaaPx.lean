/- The walk of ref03.Options. -/
import Derived.Test.YtccfebaifgnodaaPc
import Derived.Test.YtccfebaifgnodaaOl
namespace Go.Proofs.Ytccfebaifgnodaa
open Go.RowKit
attribute [local go_sem ↓] Go.wp_at_zero Go.wp_at_succ

/-- The cells of options. -/
def oq (Q : List (Nat × Value)) : List Value := Q.flatMap fun p => [.int .u8 (p.1 : Nat), p.2]
theorem oq_snoc (Q : List (Nat × Value)) (p : Nat × Value) : oq (Q ++ [p]) = oq Q ++ [.int .u8 (p.1 : Nat), p.2] := by unfold oq; rw [List.flatMap_append]; rfl
theorem oq_at : ∀ (Q : List (Nat × Value)) (j : Nat) (p : Nat × Value), Q[j]? = some p → (oq Q)[2 * j]? = some (.int .u8 (p.1 : Nat)) ∧ (oq Q)[2 * j + 1]? = some p.2
  | [], j, p, h => by simp at h
  | q :: Q, 0, p, h => by simp at h; subst h; exact ⟨rfl, rfl⟩
  | q :: Q, j + 1, p, h => by
    have := oq_at Q j p (by simpa using h)
    show (_ :: _ :: oq Q)[2 * (j + 1)]? = _ ∧ (_ :: _ :: oq Q)[2 * (j + 1) + 1]? = _
    rw [show 2 * (j + 1) = 2 * j + 1 + 1 by omega]
    simpa using this
/-- An own list of options whose data lie in an elder world. -/
def OptS (w0 W : World) (B : Nat) (v : Value) (K : List (Nat × List UInt8)) : Prop :=
  ∃ Q : List (Nat × Value), Q.length = K.length ∧ W.ownsRow B 50 2 v K.length (oq Q) ∧ ∀ (j : Nat) q k, Q[j]? = some q → K[j]? = some k → q.1 = k.1 ∧ Bytes w0 q.2 k.2
theorem OptS.nil (w0 W : World) (B : Nat) : OptS w0 W B (.slice none 0 0) [] := ⟨[], rfl, World.ownsRow_nil W _ _ _, by simp⟩
theorem OptS.later {w0 W W' : World} {B : Nat} {v : Value} {K : List (Nat × List UInt8)} (h : OptS w0 W B v K) (hb : Below W.heap.size W W') : OptS w0 W' B v K := by
  obtain ⟨Q, h1, h2, h3⟩ := h
  exact ⟨Q, h1, ownsRow_later h2 hb, h3⟩
theorem OptS.reads {w0 W : World} {B : Nat} {v : Value} {K : List (Nat × List UInt8)} (h : OptS w0 W B v K) (hb : Below w0.heap.size w0 W) : OptR W v K := by
  obtain ⟨Q, hl, ho, he⟩ := h
  rcases ho.2 with ⟨rfl, h0⟩ | ⟨g, cap, cur, rfl, hbb, hg, hn, hm, hc, ht⟩
  · have : K = [] := List.length_eq_zero_iff.1 h0
    subst this
    exact .inl ⟨rfl, _, _, rfl⟩
  · refine .inr ⟨g, 0, cap, rfl, (Array.getElem?_eq_some_iff.1 hg).1, fun j k d hj => ?_⟩
    have hjl : j < Q.length := by rw [hl]; exact (List.getElem?_eq_some_iff.1 hj).1
    have hu : Q[j]? = some Q[j] := List.getElem?_eq_getElem hjl
    obtain ⟨e0, e1⟩ := oq_at Q j _ hu
    obtain ⟨e2, e3⟩ := he j _ _ hu hj
    have hcell : ∀ i x, (oq Q)[i]? = some x → W.cell? ⟨g, 0 + i, none⟩ = some x := fun i x hx => by
      rw [Nat.zero_add, cell_of_row W g i cur _ (0, 0) hg]
      rw [← ht, List.getElem?_take] at hx
      split at hx
      · simpa using hx
      · cases hx
    have e4 : W.cell? ⟨g, 0 + 2 * j, none⟩ = some (.int .u8 (k : Nat)) := by rw [← show Q[j].1 = k from e2]; exact hcell _ _ e0
    exact ⟨e4, _, hcell _ _ e1, Bytes.later e3 hb⟩

theorem step_appS {w w0 : World} {ops : Array Oper} {o : Oper} {a : Act} {K : Act → World → Prop} {Q : Exit → Act → World → Prop} {E : Prop} (hgd : o.guard = none) (s x : Operand)
    (ho : o.op = .call { callee := .builtin .append, args := #[s, x], argTypes := #[44, 44] }) (B : Nat) (v : Value) (k : Nat) (ua : Option Addr) (un uc : Nat) (d : List UInt8) (R : List (Nat × List UInt8)) (g : Nat) (hs : a.eval s = v) (hx : a.eval x = .slice (some ⟨g, 0, none⟩) 1 1)
    (hl : OptS w0 w B v R) (hu : Bytes w0 (.slice ua un uc) d) (hc0 : w.cell? ⟨g, 0, none⟩ = some (.int .u8 (k : Nat))) (hc1 : w.cell? ⟨g, 1, none⟩ = some (.slice ua un uc)) (hn : R.length ≤ 2000000) (hB : B ≤ w.heap.size)
    (h : ∀ v' w', OptS w0 w' B v' (R ++ [(k, d)]) → Below B w w' → K (a.put o.dst v') w') :
    if Region.wanted o (yielded ops a.tmps) = true then Oper.wp Try.prog o a w K Q else E := by
  have hw : Region.wanted o (yielded ops a.tmps) = true := by simp [Region.wanted, hgd]
  rw [if_pos hw]
  obtain ⟨i0, hi, hz0, hz1, hz2⟩ := infoO
  obtain ⟨qs, hql, hown, he⟩ := hl
  obtain ⟨v', w', h1, h2, h3, _⟩ := run_append_own (P := Try.prog) (w := w) B 44 o.type 50 i0 _ 2 32 Try.underlying44 hi hz0 hz1 hz2 rfl (by decide) v R.length _ hown ⟨g, 0, none⟩ 1 1 [.int .u8 (k : Nat), .slice ua un uc] rfl
    (fun j x hx => by
      match j, hx with
      | 0, hx => simp at hx; subst hx; simpa [Addr.add] using hc0
      | 1, hx => simp at hx; subst hx; simpa [Addr.add] using hc1)
    (by intro x hx; simp at hx; rcases hx with rfl | rfl <;> rfl) (by unfold maxLen; omega) (by omega) hB
  have hK := h v' w' ⟨qs ++ [(k, .slice ua un uc)], by simp [hql], by rw [oq_snoc, List.length_append]; exact h2, fun j q r hq hr => ?_⟩ ((Below.refl B w).grown h3 hB (fun j hj => own_base hown hj))
  · unfold Oper.wp execOp
    simp only [ho, resolve, invoke, builtin, Sem.run_bind, Sem.run_pure, Result.andThen_ok, List.map_toArray, List.map_cons, List.map_nil, hs, hx, h1]
    exact hK
  · rcases Nat.lt_or_ge j qs.length with hj | hj
    · rw [List.getElem?_append_left hj] at hq
      rw [List.getElem?_append_left (by omega)] at hr
      exact he j q r hq hr
    · rw [List.getElem?_append_right hj] at hq
      rw [List.getElem?_append_right (by omega)] at hr
      have hj0 : j - qs.length = 0 := by
        have := (List.getElem?_eq_some_iff.1 hq).1
        simp at this; omega
      rw [hj0] at hq
      rw [show j - R.length = 0 by omega] at hr
      simp only [List.getElem?_cons_zero, Option.some.injEq] at hq hr
      subst hq hr
      exact ⟨rfl, hu⟩

def optP (L : List UInt8) (A : List (Nat × Nat)) : List (Nat × List UInt8) := (rawsP L A).map kd
theorem rawsP_len (L : List UInt8) (A : List (Nat × Nat)) : (rawsP L A).length ≤ A.length := by unfold rawsP; rw [List.length_map]; exact List.length_filter_le _ _
theorem optP_succ {L : List UInt8} {A : List (Nat × Nat)} {k : Nat} {p : Nat × Nat} (h : A[k]? = some p) : optP L (A.take (k + 1)) = optP L (A.take k) ++ (if Sm.at0 L p.1 = 1 then [] else [kd (cutP L p)]) := by
  unfold optP
  rw [List.take_add_one, h, Option.toList_some, rawsP_snoc, List.map_append]
  by_cases h1 : Sm.at0 L p.1 = 1 <;> simp [h1]

set_option maxHeartbeats 4000000 in
set_option maxRecDepth 100000 in
theorem optionsR_any (v0 : Value) (L : List UInt8) (hL : L.length ≤ 1000) (w : World) (hv : Bytes w v0 L) :
    Calls Try.prog 26 #[v0] w fun e w' => ∃ v, e = .returned (.tuple #[v, .bool (Om.ok L)]) ∧ OptR w' v ((Om.raws L).map kd) ∧ Below w.heap.size w w' := by
  obtain ⟨a, c, rfl⟩ := hv.form
  have HV := Lib.hid hv
  have HP := Lib.hid (partsR_any _ L hL w hv)
  have hL2 : (L.length : Int) ≤ 1000 := by omega
  clear hv
  go_enter Try.func26, Try.ntmps26
  go_wp2_with fail
  refine HP.out.mono ?_
  rintro e w1 ⟨a1, c1, A, rfl, hr, hal, hpo, hraw, hb1⟩
  obtain ⟨N, hN⟩ : ∃ N, N = A.length := ⟨_, rfl⟩
  rw [← hN] at hr hal ⊢
  have HR := Lib.hid hr
  have HN := Lib.hid (And.intro hN (And.intro hpo hraw))
  have HB1 := Lib.hid hb1
  have hN2 : (N : Int) ≤ 1000 := by omega
  have HCL : Hid (∀ k, (optP L (A.take k)).length ≤ 2000000) := fun k => by
    have h1 := rawsP_len L (A.take k)
    have h2 : (A.take k).length ≤ 1000 := by rw [List.length_take]; omega
    unfold optP
    rw [List.length_map]; omega
  clear hr hpo hraw hN hb1
  go_wp2_with fail
  go_loopw [6, 7] (fun v i wr => ∃ k : Nat, k ≤ N ∧ i = .int .i64 (k : Nat) ∧ Hid (OptS w wr w1.heap.size v (optP L (A.take k))) ∧ Hid (Below w1.heap.size w1 wr)) (fun _ i _ => N - (intOf i).toNat)
  case atStart => exact ⟨0, Nat.zero_le _, rfl, OptS.nil _ _ _, Below.refl _ _⟩
  case round =>
    obtain ⟨k, hk, rfl, HW, HB⟩ := hrel
    obtain ⟨Z, hZ⟩ : ∃ Z, Z = optP L (A.take k) := ⟨_, rfl⟩
    have hZl := HCL.out k
    rw [← hZ] at HW hZl
    have HZ := Lib.hid hZ
    clear hZ
    rcases Nat.lt_or_ge k N with hlt | hge
    · have g1 : (k : Int) < N := by omega
      have hkl : k < A.length := by rw [← HN.out.1]; exact hlt
      obtain ⟨p, hp⟩ : ∃ p, p = A[k] := ⟨_, rfl⟩
      have hpk : A[k]? = some p := by rw [hp]; exact List.getElem?_eq_getElem hkl
      obtain ⟨b, o, rfl, hbl, hc0, hc1⟩ := PtR.at HR.out hpk
      have hpo := HN.out.2.1 p (by rw [hp]; exact List.getElem_mem hkl)
      have hcat := at0_cut hpo
      obtain ⟨m, hm⟩ : ∃ m, m = p.1 := ⟨_, rfl⟩
      obtain ⟨n, hn⟩ : ∃ n, n = p.2 := ⟨_, rfl⟩
      rw [← hm] at hc0 hcat
      rw [← hn] at hc1
      have hn1 : 1 ≤ n := by rw [hn]; exact hpo.1
      have hmn : m + n ≤ L.length := by rw [hm, hn]; exact hpo.2.1
      have hn2 : Sm.at0 L m ≠ 1 → 2 ≤ n := by rw [hm, hn]; exact fun h => (hpo.2.2 h).1
      have hmL : m < L.length := by omega
      obtain ⟨bx, ox, rfl, hbx, hex⟩ := HV.out.at1 hmL
      obtain ⟨x, hx⟩ : ∃ x : Nat, x = Sm.at0 L m := ⟨_, rfl⟩
      rw [← hx] at hex hcat hn2
      have d0 : w1.cell? ⟨b, o + k * 2, none⟩ = some (.int .i64 (m : Nat)) := by rw [Nat.mul_comm]; exact hc0
      have d1 : w1.cell? ⟨b, o + k * 2 + 1, none⟩ = some (.int .i64 (n : Nat)) := by rw [Nat.add_assoc, Nat.mul_comm k 2]; exact hc1
      have d2 : w1.cell? ⟨bx, ox + m, none⟩ = some (.int .u8 (x : Nat)) := cell_later' HB1.out hbx hex
      have hbx1 : bx < w1.heap.size := Nat.lt_of_lt_of_le hbx HB1.out.size
      have e0 := cell_later' HB.out hbl d0
      have e1 := cell_later' HB.out hbx1 d2
      have g2 : (m : Int) < L.length := by omega
      have hsu := optP_succ (L := L) hpk
      rw [← HZ.out, ← hm, ← hx] at hsu
      have hcut : cutP L p = (L.take (m + n)).drop m := by unfold cutP; rw [List.drop_take, ← hm, ← hn]; congr 1; omega
      have hkd : kd (cutP L p) = (x, (L.take (m + n)).drop (m + 2)) := by unfold kd; rw [hcat, hcut, List.drop_drop]
      rw [hkd] at hsu
      have HS := Lib.hid hsu
      clear hc0 hc1 hex hx hp hpk hpo hm hn hkl hsu hcut hkd hcat
      by_cases h1 : x = 1
      · have g3 : ((x : Int) != 1) = false := by simp; omega
        have hsu2 : optP L (A.take (k + 1)) = Z := by rw [HS.out, if_pos h1, List.append_nil]
        have HW2 : Hid (OptS w wr w1.heap.size u6 (optP L (A.take (k + 1)))) := by
          show OptS _ _ _ _ _
          rw [hsu2]; exact HW.out
        clear hsu2 h1
        go_wp2_with fail
        go_roundw
        case rel => exact ⟨k + 1, by omega, by go_num, HW2, HB⟩
        case measure => simp [intOf]; omega
      · have g3 : ((x : Int) != 1) = true := by simp; omega
        have hn2' := hn2 h1
        obtain ⟨sa, hcs, hcb⟩ := HV.out.cut_lh ((m : Int) + 2) ((m : Int) + n) (m + 2) (m + n) (by omega) (by omega) (by omega) hmn
        have hsu2 : optP L (A.take (k + 1)) = Z ++ [(x, (L.take (m + n)).drop (m + 2))] := by rw [HS.out, if_neg h1]
        have HSU := Lib.hid hsu2
        obtain ⟨sn, hsn⟩ : ∃ sn, sn = m + n - (m + 2) := ⟨_, rfl⟩
        obtain ⟨sc, hsc⟩ : ∃ sc, sc = c - (m + 2) := ⟨_, rfl⟩
        rw [← hsn, ← hsc] at hcs hcb
        have HCB := Lib.hid hcb
        have hwr : IntKind.i64.wrap ((m : Int) + n) = m + n := IntWalk.i64_in _ ⟨by omega, by omega⟩
        have hwr2 : IntKind.i64.wrap ((m : Int) + 2) = m + 2 := IntWalk.i64_in _ ⟨by omega, by omega⟩
        have g4 : (m : Int) + n ≤ L.length := by omega
        have g5 : (m : Int) + 2 ≤ m + n := by omega
        clear hsu2 hcb h1 hsn hsc hn2
        go_wp2_with fail
        have HB3 : Hid (Below w1.heap.size w1 wr) := HB
        (refine wp_region_held_drew (S := (fun w' => Below w1.heap.size w1 w')) (by kernel_rfl) ?_ (fun hHeld => ?_); (focus ((try dsimp only); (exact HB3.out.drew))))
        change wpAnyH _ _ _ _ _ 32 _ _ _
        (refine wpAnyH_take (i := 0) (v := ?_) rfl (by kernel_rfl) (by kernel_rfl) (by kernel_rfl) (fun _ _ _ h => h) (Or.inl ⟨by rfl, ?_⟩) hHeld ?_; rotate_left; (focus (intro w hSw; (try dsimp only at hSw); go_simp; try with_reducible rfl)); (try simp only [Act.put, List.setIfInBounds_toArray, List.set_cons_zero, List.set_cons_succ, List.getElem_toArray, List.getElem_cons_zero])); (refine wpAnyH_take (i := 1) (v := ?_) rfl (by kernel_rfl) (by kernel_rfl) (by kernel_rfl) (fun _ _ _ h => h) (Or.inl ⟨by rfl, ?_⟩) hHeld ?_; rotate_left; (focus (intro w hSw; (try dsimp only at hSw); go_simp; try with_reducible rfl)); (try simp only [Act.put, List.setIfInBounds_toArray, List.set_cons_zero, List.set_cons_succ, List.getElem_toArray, List.getElem_cons_zero, List.getElem_cons_succ])); (refine wpAnyH_take (i := 2) (v := ?_) rfl (by kernel_rfl) (by kernel_rfl) (by kernel_rfl) (fun _ _ _ h => h) (Or.inl ⟨by rfl, ?_⟩) hHeld ?_; rotate_left; (focus (intro w hSw; (try dsimp only at hSw); go_simp; try with_reducible rfl)); (try simp only [Act.put, List.setIfInBounds_toArray, List.set_cons_zero, List.set_cons_succ, List.getElem_toArray, List.getElem_cons_zero, List.getElem_cons_succ])); (refine wpAnyH_take (i := 3) (v := ?_) rfl (by kernel_rfl) (by kernel_rfl) (by kernel_rfl) (fun _ _ _ h => h) (Or.inl ⟨by rfl, ?_⟩) hHeld ?_; rotate_left; (focus (intro w hSw; (try dsimp only at hSw); go_simp; try with_reducible rfl)); (try simp only [Act.put, List.setIfInBounds_toArray, List.set_cons_zero, List.set_cons_succ, List.getElem_toArray, List.getElem_cons_zero, List.getElem_cons_succ])); (refine wpAnyH_take (i := 4) (v := ?_) rfl (by kernel_rfl) (by kernel_rfl) (by kernel_rfl) (fun _ _ _ h => h) (Or.inl ⟨by rfl, ?_⟩) hHeld ?_; rotate_left; (focus (intro w hSw; (try dsimp only at hSw); go_simp; try with_reducible rfl)); (try simp only [Act.put, List.setIfInBounds_toArray, List.set_cons_zero, List.set_cons_succ, List.getElem_toArray, List.getElem_cons_zero, List.getElem_cons_succ])); (refine wpAnyH_take (i := 5) (v := ?_) rfl (by kernel_rfl) (by kernel_rfl) (by kernel_rfl) (fun _ _ _ h => h) (Or.inl ⟨by rfl, ?_⟩) hHeld ?_; rotate_left; (focus (intro w hSw; (try dsimp only at hSw); go_simp; try with_reducible rfl)); (try simp only [Act.put, List.setIfInBounds_toArray, List.set_cons_zero, List.set_cons_succ, List.getElem_toArray, List.getElem_cons_zero, List.getElem_cons_succ]))
        (refine wpAnyH_take (i := 6) (v := ?_) rfl (by kernel_rfl) (by kernel_rfl) (by kernel_rfl) (fun _ _ _ h => h) (Or.inl ⟨by rfl, ?_⟩) hHeld ?_; rotate_left; (focus (intro w hSw; (try dsimp only at hSw); go_simp; (have hcc := cell_later' hSw hbl d0; go_simp; try with_reducible rfl))); (try simp only [Act.put, List.setIfInBounds_toArray, List.set_cons_zero, List.set_cons_succ, List.getElem_toArray, List.getElem_cons_zero, List.getElem_cons_succ]))
        (refine wpAnyH_take (i := 7) (v := ?_) rfl (by kernel_rfl) (by kernel_rfl) (by kernel_rfl) (fun _ _ _ h => h) (Or.inl ⟨by rfl, ?_⟩) hHeld ?_; rotate_left; (focus (intro w hSw; (try dsimp only at hSw); go_simp; try with_reducible rfl)); (try simp only [Act.put, List.setIfInBounds_toArray, List.set_cons_zero, List.set_cons_succ, List.getElem_toArray, List.getElem_cons_zero, List.getElem_cons_succ]))
        (refine wpAnyH_take (i := 8) (v := ?_) rfl (by kernel_rfl) (by kernel_rfl) (by kernel_rfl) (fun _ _ _ h => h) (Or.inl ⟨by rfl, ?_⟩) hHeld ?_; rotate_left; (focus (intro w hSw; (try dsimp only at hSw); go_simp; (have hcc := cell_later' hSw hbx1 d2; go_simp; try with_reducible rfl))); (try simp only [Act.put, List.setIfInBounds_toArray, List.set_cons_zero, List.set_cons_succ, List.getElem_toArray, List.getElem_cons_zero, List.getElem_cons_succ]))
        (refine wpAnyH_take (i := 9) (v := ?_) rfl (by kernel_rfl) (by kernel_rfl) (by kernel_rfl) (fun _ _ _ h => h) (Or.inl ⟨by rfl, ?_⟩) hHeld ?_; rotate_left; (focus (intro w hSw; (try dsimp only at hSw); go_simp; try with_reducible rfl)); (try simp only [Act.put, List.setIfInBounds_toArray, List.set_cons_zero, List.set_cons_succ, List.getElem_toArray, List.getElem_cons_zero, List.getElem_cons_succ])); (refine wpAnyH_take (i := 10) (v := ?_) rfl (by kernel_rfl) (by kernel_rfl) (by kernel_rfl) (fun _ _ _ h => h) (Or.inl ⟨by rfl, ?_⟩) hHeld ?_; rotate_left; (focus (intro w hSw; (try dsimp only at hSw); go_simp; try with_reducible rfl)); (try simp only [Act.put, List.setIfInBounds_toArray, List.set_cons_zero, List.set_cons_succ, List.getElem_toArray, List.getElem_cons_zero, List.getElem_cons_succ])); (refine wpAnyH_take (i := 11) (v := ?_) rfl (by kernel_rfl) (by kernel_rfl) (by kernel_rfl) (fun _ _ _ h => h) (Or.inl ⟨by rfl, ?_⟩) hHeld ?_; rotate_left; (focus (intro w hSw; (try dsimp only at hSw); go_simp; try with_reducible rfl)); (try simp only [Act.put, List.setIfInBounds_toArray, List.set_cons_zero, List.set_cons_succ, List.getElem_toArray, List.getElem_cons_zero, List.getElem_cons_succ])); (refine wpAnyH_take (i := 12) (v := ?_) rfl (by kernel_rfl) (by kernel_rfl) (by kernel_rfl) (fun _ _ _ h => h) (Or.inl ⟨by rfl, ?_⟩) hHeld ?_; rotate_left; (focus (intro w hSw; (try dsimp only at hSw); go_simp; try with_reducible rfl)); (try simp only [Act.put, List.setIfInBounds_toArray, List.set_cons_zero, List.set_cons_succ, List.getElem_toArray, List.getElem_cons_zero, List.getElem_cons_succ])); (refine wpAnyH_take (i := 13) (v := ?_) rfl (by kernel_rfl) (by kernel_rfl) (by kernel_rfl) (fun _ _ _ h => h) (Or.inl ⟨by rfl, ?_⟩) hHeld ?_; rotate_left; (focus (intro w hSw; (try dsimp only at hSw); go_simp; try with_reducible rfl)); (try simp only [Act.put, List.setIfInBounds_toArray, List.set_cons_zero, List.set_cons_succ, List.getElem_toArray, List.getElem_cons_zero, List.getElem_cons_succ]))
        (refine wpAnyH_take (i := 14) (v := ?_) rfl (by kernel_rfl) (by kernel_rfl) (by kernel_rfl) (fun _ _ _ h => h) (Or.inl ⟨by rfl, ?_⟩) hHeld ?_; rotate_left; (focus (intro w hSw; (try dsimp only at hSw); go_simp; (have hcc := cell_later' hSw hbl d0; go_simp; try with_reducible rfl))); (try simp only [Act.put, List.setIfInBounds_toArray, List.set_cons_zero, List.set_cons_succ, List.getElem_toArray, List.getElem_cons_zero, List.getElem_cons_succ]))
        (refine wpAnyH_take (i := 15) (v := ?_) rfl (by kernel_rfl) (by kernel_rfl) (by kernel_rfl) (fun _ _ _ h => h) (Or.inl ⟨by rfl, ?_⟩) hHeld ?_; rotate_left; (focus (intro w hSw; (try dsimp only at hSw); go_simp; try with_reducible rfl)); (try simp only [Act.put, List.setIfInBounds_toArray, List.set_cons_zero, List.set_cons_succ, List.getElem_toArray, List.getElem_cons_zero, List.getElem_cons_succ])); (refine wpAnyH_take (i := 16) (v := ?_) rfl (by kernel_rfl) (by kernel_rfl) (by kernel_rfl) (fun _ _ _ h => h) (Or.inl ⟨by rfl, ?_⟩) hHeld ?_; rotate_left; (focus (intro w hSw; (try dsimp only at hSw); go_simp; try with_reducible rfl)); (try simp only [Act.put, List.setIfInBounds_toArray, List.set_cons_zero, List.set_cons_succ, List.getElem_toArray, List.getElem_cons_zero, List.getElem_cons_succ])); (refine wpAnyH_take (i := 17) (v := ?_) rfl (by kernel_rfl) (by kernel_rfl) (by kernel_rfl) (fun _ _ _ h => h) (Or.inl ⟨by rfl, ?_⟩) hHeld ?_; rotate_left; (focus (intro w hSw; (try dsimp only at hSw); go_simp; try with_reducible rfl)); (try simp only [Act.put, List.setIfInBounds_toArray, List.set_cons_zero, List.set_cons_succ, List.getElem_toArray, List.getElem_cons_zero, List.getElem_cons_succ])); (refine wpAnyH_take (i := 18) (v := ?_) rfl (by kernel_rfl) (by kernel_rfl) (by kernel_rfl) (fun _ _ _ h => h) (Or.inl ⟨by rfl, ?_⟩) hHeld ?_; rotate_left; (focus (intro w hSw; (try dsimp only at hSw); go_simp; try with_reducible rfl)); (try simp only [Act.put, List.setIfInBounds_toArray, List.set_cons_zero, List.set_cons_succ, List.getElem_toArray, List.getElem_cons_zero, List.getElem_cons_succ])); (refine wpAnyH_take (i := 19) (v := ?_) rfl (by kernel_rfl) (by kernel_rfl) (by kernel_rfl) (fun _ _ _ h => h) (Or.inl ⟨by rfl, ?_⟩) hHeld ?_; rotate_left; (focus (intro w hSw; (try dsimp only at hSw); go_simp; try with_reducible rfl)); (try simp only [Act.put, List.setIfInBounds_toArray, List.set_cons_zero, List.set_cons_succ, List.getElem_toArray, List.getElem_cons_zero, List.getElem_cons_succ]))
        (refine wpAnyH_take (i := 20) (v := ?_) rfl (by kernel_rfl) (by kernel_rfl) (by kernel_rfl) (fun _ _ _ h => h) (Or.inl ⟨by rfl, ?_⟩) hHeld ?_; rotate_left; (focus (intro w hSw; (try dsimp only at hSw); go_simp; (have hcc := cell_later' hSw hbl d0; go_simp; try with_reducible rfl))); (try simp only [Act.put, List.setIfInBounds_toArray, List.set_cons_zero, List.set_cons_succ, List.getElem_toArray, List.getElem_cons_zero, List.getElem_cons_succ]))
        (refine wpAnyH_take (i := 21) (v := ?_) rfl (by kernel_rfl) (by kernel_rfl) (by kernel_rfl) (fun _ _ _ h => h) (Or.inl ⟨by rfl, ?_⟩) hHeld ?_; rotate_left; (focus (intro w hSw; (try dsimp only at hSw); go_simp; try with_reducible rfl)); (try simp only [Act.put, List.setIfInBounds_toArray, List.set_cons_zero, List.set_cons_succ, List.getElem_toArray, List.getElem_cons_zero, List.getElem_cons_succ])); (refine wpAnyH_take (i := 22) (v := ?_) rfl (by kernel_rfl) (by kernel_rfl) (by kernel_rfl) (fun _ _ _ h => h) (Or.inl ⟨by rfl, ?_⟩) hHeld ?_; rotate_left; (focus (intro w hSw; (try dsimp only at hSw); go_simp; try with_reducible rfl)); (try simp only [Act.put, List.setIfInBounds_toArray, List.set_cons_zero, List.set_cons_succ, List.getElem_toArray, List.getElem_cons_zero, List.getElem_cons_succ])); (refine wpAnyH_take (i := 23) (v := ?_) rfl (by kernel_rfl) (by kernel_rfl) (by kernel_rfl) (fun _ _ _ h => h) (Or.inl ⟨by rfl, ?_⟩) hHeld ?_; rotate_left; (focus (intro w hSw; (try dsimp only at hSw); go_simp; try with_reducible rfl)); (try simp only [Act.put, List.setIfInBounds_toArray, List.set_cons_zero, List.set_cons_succ, List.getElem_toArray, List.getElem_cons_zero, List.getElem_cons_succ])); (refine wpAnyH_take (i := 24) (v := ?_) rfl (by kernel_rfl) (by kernel_rfl) (by kernel_rfl) (fun _ _ _ h => h) (Or.inl ⟨by rfl, ?_⟩) hHeld ?_; rotate_left; (focus (intro w hSw; (try dsimp only at hSw); go_simp; try with_reducible rfl)); (try simp only [Act.put, List.setIfInBounds_toArray, List.set_cons_zero, List.set_cons_succ, List.getElem_toArray, List.getElem_cons_zero, List.getElem_cons_succ]))
        (refine wpAnyH_take (i := 25) (v := ?_) rfl (by kernel_rfl) (by kernel_rfl) (by kernel_rfl) (fun _ _ _ h => h) (Or.inl ⟨by rfl, ?_⟩) hHeld ?_; rotate_left; (focus (intro w hSw; (try dsimp only at hSw); go_simp; (have hcc := cell_later' hSw hbl d1; go_simp; try with_reducible rfl))); (try simp only [Act.put, List.setIfInBounds_toArray, List.set_cons_zero, List.set_cons_succ, List.getElem_toArray, List.getElem_cons_zero, List.getElem_cons_succ]))
        (refine wpAnyH_take (i := 26) (v := ?_) rfl (by kernel_rfl) (by kernel_rfl) (by kernel_rfl) (fun _ _ _ h => h) (Or.inl ⟨by rfl, ?_⟩) hHeld ?_; rotate_left; (focus (intro w hSw; (try dsimp only at hSw); go_simp; try with_reducible rfl)); (try simp only [Act.put, List.setIfInBounds_toArray, List.set_cons_zero, List.set_cons_succ, List.getElem_toArray, List.getElem_cons_zero, List.getElem_cons_succ])); (refine wpAnyH_take (i := 27) (v := ?_) rfl (by kernel_rfl) (by kernel_rfl) (by kernel_rfl) (fun _ _ _ h => h) (Or.inl ⟨by rfl, ?_⟩) hHeld ?_; rotate_left; (focus (intro w hSw; (try dsimp only at hSw); go_simp; try with_reducible rfl)); (try simp only [Act.put, List.setIfInBounds_toArray, List.set_cons_zero, List.set_cons_succ, List.getElem_toArray, List.getElem_cons_zero, List.getElem_cons_succ])); (refine wpAnyH_take (i := 28) (v := ?_) rfl (by kernel_rfl) (by kernel_rfl) (by kernel_rfl) (fun _ _ _ h => h) (Or.inl ⟨by rfl, ?_⟩) hHeld ?_; rotate_left; (focus (intro w hSw; (try dsimp only at hSw); go_simp; try with_reducible rfl)); (try simp only [Act.put, List.setIfInBounds_toArray, List.set_cons_zero, List.set_cons_succ, List.getElem_toArray, List.getElem_cons_zero, List.getElem_cons_succ]))
        obtain ⟨w0, hw0⟩ : ∃ w0, w0 = World.drew wr := ⟨_, rfl⟩
        rw [← hw0]
        (try dsimp only at hHeld)
        rw [← hw0] at hHeld
        have hd0 : Below wr.heap.size wr w0 := by rw [hw0]; exact (Below.refl _ _).drew
        have HW0 : Hid (OptS w w0 w1.heap.size u6 Z) := OptS.later HW.out hd0
        clear hw0 hd0
        refine wpAnyH_ready (rs := [29]) (by kernel_rfl) (by simp) ?_
        refine AllReadyH.cons rfl (fun K hK => ?_) AllReadyH.nil
        go_simp
        have HW1 : Hid (OptS w (w0.alloc (.cells #[.int .u8 (x : Nat), .slice sa sn sc] 50)) w1.heap.size u6 Z) := OptS.later HW0.out ((Below.refl _ _).alloc (Nat.le_refl _) _)
        refine hK.out _ _ (hHeld.alloc hHeld.size _) (fun hHeldN => ?_)
        (try simp only [Act.put, List.setIfInBounds_toArray, List.set_cons_zero, List.set_cons_succ, List.getElem_toArray, List.getElem_cons_zero, List.getElem_cons_succ])
        (clear hHeld; have hHeld := hHeldN; clear hHeldN)
        refine wpAnyH_ready (rs := [30]) (by kernel_rfl) (by simp) ?_
        refine AllReadyH.cons rfl (fun K2 hK2 => ?_) AllReadyH.nil
        refine step_appS rfl (.tmp 28) (.tmp 57) rfl w1.heap.size _ x sa sn sc ((L.take (m + n)).drop (m + 2)) Z _ rfl rfl HW1.out HCB.out (by simp) (by simp) hZl hHeld.size ?_
        intro v30 w30 ho30 hbl30
        have hH30 := hHeld.trans hbl30
        have HW30 : Hid (OptS w w30 w1.heap.size v30 (optP L (A.take (k + 1)))) := by
          show OptS _ _ _ _ _
          rw [HSU.out]; exact ho30
        have HB30 := Lib.hid hH30
        clear ho30 hbl30 HW0 HW1
        refine hK2.out _ _ hH30 (fun hHeldN => ?_)
        (try simp only [Act.put, List.setIfInBounds_toArray, List.set_cons_zero, List.set_cons_succ, List.getElem_toArray, List.getElem_cons_zero, List.getElem_cons_succ])
        (clear hHeld hH30; have hHeld := hHeldN; clear hHeldN)
        (refine wpAnyH_take (i := 31) (v := ?_) rfl (by kernel_rfl) (by kernel_rfl) (by kernel_rfl) (fun _ _ _ h => h) (Or.inl ⟨by rfl, ?_⟩) hHeld ?_; rotate_left; (focus (intro w hSw; (try dsimp only at hSw); go_simp; try with_reducible rfl)); (try simp only [Act.put, List.setIfInBounds_toArray, List.set_cons_zero, List.set_cons_succ, List.getElem_toArray, List.getElem_cons_zero, List.getElem_cons_succ]))
        refine wpAnyH_done (by kernel_rfl) ?_ _
        clear hHeld d0 d1 d2 e0 e1 hcs
        go_wp2_with fail
        go_roundw
        case rel => exact ⟨k + 1, by omega, by go_num, HW30, HB30⟩
        case measure => simp [intOf]; omega
    · have e : k = N := by omega
      subst e
      have hfin : Z = (Om.raws L).map kd := by rw [HZ.out, HN.out.1, List.take_length, HN.out.2.2]; rfl
      have g1 : (k : Int) ≤ k := by omega
      have HB4 := Lib.hid (HB1.out.trans (HB.out.mono HB1.out.size))
      have HF : Hid (OptR wr u6 ((Om.raws L).map kd)) := by
        show OptR _ _ _
        rw [← hfin]; exact OptS.reads HW.out HB4.out
      clear hfin HZ
      go_wp2_with fail
      go_ret2
      exact ⟨_, rfl, HF.out, HB4.out⟩
end Go.Proofs.Ytccfebaifgnodaa
