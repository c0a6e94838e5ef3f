/- AdjMeets: for every input the law's call returns true, and each argument reads behind it as before.
   AdjMeets: the walk. -/
import Derived.Test.YtcedninipbafaaaZ07
import Derived.Test.YtcedninipbafaaaZ09

set_option linter.unusedSimpArgs false
set_option linter.unusedVariables false
namespace Go.Proofs.Ytcedninipbafaaa
open Go.RowKit
attribute [local go_sem ↓] Go.wp_at_zero Go.wp_at_succ
attribute [local go_sem ↓ high] eqTI neTI eqVI neVI field_V

theorem hearM {p : Nat} {a : Ad} {w : World} (hA : PA p a w) (hI : Inv a) (h : Hl) :
    Calls Try.prog 13 #[.pointer (some ⟨p, 0, none⟩), .agg #[.int .i64 h.n, .int .u64 h.mb, .int .u64 h.mt, .int .u64 h.hb, .int .u64 h.ht]] w fun e w' => (∃ x y, e = .returned (.tuple #[.int .i64 x, .int .i64 y])) ∧ PA p (hearA a h) w' ∧ Chg [p] w w' :=
  (hearW hA hI h).mono fun _ _ ⟨e, h1, h2⟩ => ⟨⟨_, _, e⟩, h1, h2⟩
theorem sayM {p : Nat} {a : Ad} {w : World} (h : PA p a w) (hn : a.node ≠ 0) {g : Hl} (hg : sayH a = g) : Calls Try.prog 16 #[.pointer (some ⟨p, 0, none⟩)] w fun e w' => e = .returned (.tuple #[.agg #[.int .i64 g.n, .int .u64 g.mb, .int .u64 g.mt, .int .u64 g.hb, .int .u64 g.ht], .int .i64 0]) ∧ Below w.heap.size w w' := by
  subst hg
  exact sayW h hn
/-- What was laid since does not count. -/
theorem Chg.fresh {p q : Nat} {w w1 w2 : World} (h : Chg [p] w w1) (h2 : Chg [p, q] w1 w2) (hq : w.heap.size ≤ q) : Chg [p] w w2 :=
  ⟨h.low.trans h2.low, fun b hb hn => (h2.rest b (Nat.lt_of_lt_of_le hb h.size) (by simp at hn ⊢; omega)).trans (h.rest b hb hn)⟩
/-- The two, as they lie. -/
structure MtW (p q : Nat) (a b : Ad) (w wr : World) : Prop where
  pa : PA p a wr
  pb : PA q b wr
  hb : Below w.heap.size w wr
theorem MtW.later {p q : Nat} {a b : Ad} {w wr w' : World} (h : MtW p q a b w wr) (hb : Below wr.heap.size wr w') : MtW p q a b w w' := ⟨h.pa.later hb, h.pb.later hb, below_of h.hb hb⟩
theorem MtW.chgA {p q : Nat} {a a' b : Ad} {w wr w' : World} (h : MtW p q a b w wr) (hc : Chg [p] wr w') (hp : w.heap.size ≤ p) (hq : p < q) (h1 : PA p a' w') : MtW p q a' b w w' := ⟨h1, h.pb.chg hc (by simp; omega), Chg.onA h.hb hc (by simp; omega)⟩
theorem MtW.chgB {p q : Nat} {a b b' : Ad} {w wr w' : World} (h : MtW p q a b w wr) (hc : Chg [q] wr w') (hp : w.heap.size ≤ p) (hq : p < q) (h1 : PA q b' w') : MtW p q a b' w w' := ⟨h.pa.chg hc (by simp; omega), h1, Chg.onA h.hb hc (by simp; omega)⟩
theorem acceptsM {v : Vw} {s t : Int} (h : v = ⟨2, 5, s, 7, t, 2⟩) : accB v 2 5 s 7 t = true := by
  rw [h]; unfold accB; exact sameVI_iff.2 ⟨rfl, rfl, rfl, rfl, rfl, rfl⟩
theorem acceptsN {v : Vw} {s t : Int} (h : v = ⟨2, 7, t, 5, s, 1⟩) : accB v 1 7 t 5 s = true := by
  rw [h]; unfold accB; exact sameVI_iff.2 ⟨rfl, rfl, rfl, rfl, rfl, rfl⟩
/-- The acts of a slice, in a world since. -/
theorem rds_old {b o i : Nat} {c : AcA} {w W : World} (hc : ∀ j u, c.cs[j]? = some u → w.cell? ⟨b, o + i * 6 + j, none⟩ = some u) (hb : b < w.heap.size) (h : Below w.heap.size w W) {j : Nat} {u : Value} (hu : c.cs[j]? = some u) : W.cell? ⟨b, o + i * 6 + j, none⟩ = some u := cell_later h (hc j u hu)

set_option maxHeartbeats 64000000 in
set_option maxRecDepth 100000 in
theorem adjMeets_walk0 (u0 : Value) (l : List AcA) (u1 : Value) (m : List AcA) (w : World) (hl : Rds 6 AcA.cs w u0 l) (hln : l.length ≤ 9223372036854775807) (hm : Rds 6 AcA.cs w u1 m) (hmn : m.length ≤ 9223372036854775807) :
    Calls Try.prog 5 #[u0, u1] w fun e w' => e = .returned (.bool true) ∧ Below w.heap.size w w' := by
  obtain ⟨la, lc, rfl⟩ := hl.form
  obtain ⟨ma, mc, rfl⟩ := hm.form
  have HL := Lib.hid hl
  have HM := Lib.hid hm
  clear hl hm
  by_cases hgo : l.length ≤ 100
  rotate_left
  · have k1 : (100 : Int) < l.length := by omega
    go_enter Try.func5, Try.ntmps5
    go_wp2_with fail
    refine (knownA _).mono ?_
    rintro e w2 ⟨rfl, hb⟩
    have HB2 := Lib.hid hb
    clear hb
    go_wp2_with fail
    go_ret
    exact ⟨rfl, HB2.out⟩
  have k1 : ¬ (100 : Int) < l.length := by omega
  by_cases hgm : m.length ≤ 100
  rotate_left
  · have k2 : (100 : Int) < m.length := by omega
    go_enter Try.func5, Try.ntmps5
    go_wp2_with fail
    refine (knownA _).mono ?_
    rintro e w2 ⟨rfl, hb⟩
    have HB2 := Lib.hid hb
    clear hb
    go_wp2_with fail
    go_ret
    exact ⟨rfl, HB2.out⟩
  have k2 : ¬ (100 : Int) < m.length := by omega
  clear hln hmn
  go_enter Try.func5, Try.ntmps5
  go_wp2_with fail
  refine (newW 1 5 w (by omega) (by omega) (by omega)).mono ?_
  rintro e w1 ⟨rfl, hP, hb⟩
  have HP1 := Lib.hid hP
  have HB1 := Lib.hid hb
  clear hP hb
  go_wp2_with fail
  refine (newW 2 7 w1 (by omega) (by omega) (by omega)).mono ?_
  rintro e w2 ⟨rfl, hP, hb⟩
  have HT : Hid (MtW w.heap.size w1.heap.size (newA 1 5) (newA 2 7) w w2) := by
    have : MtW w.heap.size w1.heap.size (newA 1 5) (newA 2 7) w w2 := ⟨HP1.out.later hb, hP, below_of HB1.out hb⟩
    exact this
  have HPQ : Hid (w.heap.size < w1.heap.size) := by
    have : w.heap.size < w1.heap.size := HP1.out.lt
    exact this
  obtain ⟨p, hp⟩ : ∃ p, p = w.heap.size := ⟨_, rfl⟩
  obtain ⟨q, hq⟩ : ∃ q, q = w1.heap.size := ⟨_, rfl⟩
  have HPW : Hid (w.heap.size ≤ p) := by
    have : w.heap.size ≤ p := by rw [hp]; exact Nat.le_refl _
    exact this
  have HRA : Hid (Rch 1 2 5 (newA 1 5) 0) := by
    have : Rch 1 2 5 (newA 1 5) 0 := ⟨(rel_new 1 5 (by omega)).inv, rfl, rfl, by decide, by decide, by decide⟩
    exact this
  have HRB : Hid (Rch 2 1 7 (newA 2 7) 0) := by
    have : Rch 2 1 7 (newA 2 7) 0 := ⟨(rel_new 2 7 (by omega)).inv, rfl, rfl, by decide, by decide, by decide⟩
    exact this
  rw [← hp, ← hq] at HT HPQ
  rw [← hp, ← hq]
  clear hP hb hp hq k1 k2
  go_wp2_with fail
  go_loopw [9] (fun x wr => ∃ (i : Nat) (a : Ad), i ≤ l.length ∧ x = .int .i64 i ∧ Hid (MtW p q a (newA 2 7) w wr) ∧ Hid (Rch 1 2 5 a i)) (fun x _ => l.length - (intOf x).toNat)
  case atStart => exact ⟨0, _, Nat.zero_le _, rfl, HT, HRA⟩
  case round =>
    obtain ⟨i, a, hi, rfl, HT, HR⟩ := hrel
    cases hx : l[i]? with
    | some c =>
      obtain ⟨g, o, rfl, hlt, hc⟩ := HL.out.at hx
      have k0 : (i : Int) < l.length := by have := (List.getElem?_eq_some_iff.1 hx).1; omega
      have HI : Hid (i < l.length) := (List.getElem?_eq_some_iff.1 hx).1
      have HC : Hid (∀ (W : World) (j : Nat) (u : Value), Below w.heap.size w W → c.cs[j]? = some u → W.cell? ⟨g, o + i * 6 + j, none⟩ = some u) := by
        have : ∀ (W : World) (j : Nat) (u : Value), Below w.heap.size w W → c.cs[j]? = some u → W.cell? ⟨g, o + i * 6 + j, none⟩ = some u := fun W j u h1 h2 => rds_old hc hlt h1 h2
        exact this
      clear hc hx hlt
      have c0 := HC.out wr 0 _ HT.out.hb rfl
      have c1 := HC.out wr 1 _ HT.out.hb rfl
      rw [Nat.add_zero] at c0
      by_cases k1 : c.k = 1
      · have t1 : (c.k == 1) = true := beq_iff_eq.2 k1
        by_cases k2 : c.h.n = 2
        · have t2 : (c.h.n == 2) = true := beq_iff_eq.2 k2
          have HR6 := Lib.hid (HR.out.next (by have := HI.out; omega) (by omega))
          clear k1 k2
          go_wp2_with fail
          go_roundw
          case rel => exact ⟨i + 1, _, by have := HI.out; omega, by go_num, HT, HR6⟩
          case measure => simp [intOf]; have := HI.out; omega
        · have t2 : (c.h.n == 2) = false := beq_eq_false_iff_ne.2 k2
          have HN : Hid (c.k = 1 → c.h.n ≠ 2) := by
            have : c.k = 1 → c.h.n ≠ 2 := fun _ => k2
            exact this
          clear k1 k2
          go_wp2_with fail
          (refine wp_region_held_drew (S := (fun w' => Chg [p] wr w')) (by kernel_rfl) ?_ (fun hHeld => ?_); (focus ((try dsimp only); (exact (Chg.refl _ _).drew))))
          (try dsimp only at hHeld)
          obtain ⟨d0, hd0⟩ : ∃ W0, W0 = World.drew wr := ⟨_, rfl⟩
          have HPd : Hid (PA p a d0) := by
            have : PA p a d0 := by rw [hd0]; exact HT.out.pa
            exact this
          have HSd : Hid (d0.heap.size = wr.heap.size) := by
            have : d0.heap.size = wr.heap.size := by rw [hd0]; rfl
            exact this
          rw [← hd0]
          rw [← hd0] at hHeld
          clear hd0 c0 c1
          (refine wpAnyH_take (i := 0) (v := ?_) rfl (by kernel_rfl) (by kernel_rfl) (by kernel_rfl) (fun _ _ _ h => h) (Or.inl ⟨by rfl, ?_⟩) hHeld ?_; rotate_left; (focus (intro w hSw; (try dsimp only at hSw); go_simp; try with_reducible rfl)); (try simp only [Act.put, List.setIfInBounds_toArray, List.set_cons_zero, List.set_cons_succ, List.getElem_toArray, List.getElem_cons_zero])); (refine wpAnyH_take (i := 2) (v := ?_) rfl (by kernel_rfl) (by kernel_rfl) (by kernel_rfl) (fun _ _ _ h => h) (Or.inl ⟨by rfl, ?_⟩) hHeld ?_; rotate_left; (focus (intro w hSw; (try dsimp only at hSw); go_simp; try with_reducible rfl)); (try simp only [Act.put, List.setIfInBounds_toArray, List.set_cons_zero, List.set_cons_succ, List.getElem_toArray, List.getElem_cons_zero, List.getElem_cons_succ])); (refine wpAnyH_take (i := 3) (v := ?_) rfl (by kernel_rfl) (by kernel_rfl) (by kernel_rfl) (fun _ _ _ h => h) (Or.inl ⟨by rfl, ?_⟩) hHeld ?_; rotate_left; (focus (intro w hSw; (try dsimp only at hSw); go_simp; try with_reducible rfl)); (try simp only [Act.put, List.setIfInBounds_toArray, List.set_cons_zero, List.set_cons_succ, List.getElem_toArray, List.getElem_cons_zero, List.getElem_cons_succ])); (refine wpAnyH_take (i := 4) (v := ?_) rfl (by kernel_rfl) (by kernel_rfl) (by kernel_rfl) (fun _ _ _ h => h) (Or.inl ⟨by rfl, ?_⟩) hHeld ?_; rotate_left; (focus (intro w hSw; (try dsimp only at hSw); go_simp; try with_reducible rfl)); (try simp only [Act.put, List.setIfInBounds_toArray, List.set_cons_zero, List.set_cons_succ, List.getElem_toArray, List.getElem_cons_zero, List.getElem_cons_succ]))
          (refine wpAnyH_take (i := 5) (v := ?_) rfl (by kernel_rfl) (by kernel_rfl) (by kernel_rfl) (fun _ _ _ h => h) (Or.inl ⟨by rfl, ?_⟩) hHeld ?_; rotate_left; (focus (intro w hSw; (try dsimp only at hSw); go_simp; (have hbw := Chg.onA HT.out.hb hSw (by have := HPW.out; have := HPQ.out; simp; omega); have e0 := HC.out _ 0 _ hbw rfl; have e1 := HC.out _ 1 _ hbw rfl; have e2 := HC.out _ 2 _ hbw rfl; have e3 := HC.out _ 3 _ hbw rfl; have e4 := HC.out _ 4 _ hbw rfl; have e5 := HC.out _ 5 _ hbw rfl; rw [Nat.add_zero] at e0; clear hbw; go_simp; try with_reducible rfl))); (try simp only [Act.put, List.setIfInBounds_toArray, List.set_cons_zero, List.set_cons_succ, List.getElem_toArray, List.getElem_cons_zero, List.getElem_cons_succ]))
          (refine wpAnyH_ready (rs := [1]) (by kernel_rfl) (by simp) ?_; refine AllReadyH.cons rfl (fun K hK => ?_) AllReadyH.nil; go_simp; refine (newRW 1 5 _).mono ?_; rintro e y1 ⟨rfl, hR, hs⟩; refine hK.out _ _ ?_ (fun hHeldN => ?_); (focus ((try dsimp only); (exact hHeld.trans (Chg.of_below _ hs)))); clear hK K hHeld; have hHeld := hHeldN; clear hHeldN; (try simp only [Act.put, List.setIfInBounds_toArray, List.set_cons_zero, List.set_cons_succ, List.getElem_toArray, List.getElem_cons_zero, List.getElem_cons_succ]))
          have HR1 := Lib.hid hR
          have HP1y := Lib.hid (HPd.out.later hs)
          clear hs hR
          (refine wpAnyH_ready (rs := [6]) (by kernel_rfl) (by simp) ?_; refine AllReadyH.cons rfl (fun K hK => ?_) AllReadyH.nil; go_simp; refine (doW HP1y.out HR1.out (by have := HPd.out.lt; omega) HR.out.inv (rel_new 1 5 (by omega)).invR c).mono ?_; rintro e y6 ⟨⟨bb, rfl⟩, ⟨s, ss, sd, hP, _⟩, hC⟩; refine hK.out _ _ ?_ (fun hHeldN => ?_); (focus ((try dsimp only); (exact Chg.fresh hHeld hC (by rw [HSd.out]; exact Nat.le_refl _)))); clear hK K hHeld; have hHeld := hHeldN; clear hHeldN; (try simp only [Act.put, List.setIfInBounds_toArray, List.set_cons_zero, List.set_cons_succ, List.getElem_toArray, List.getElem_cons_zero, List.getElem_cons_succ]))
          refine wpAnyH_done (by kernel_rfl) ?_ _
          have HT6 := Lib.hid (HT.out.chgA hHeld HPW.out HPQ.out hP)
          have HR6 := Lib.hid (HR.out.act (by have := HI.out; omega) (by omega) c HN.out s)
          clear hHeld hP hC
          go_wp2_with fail
          go_roundw
          case rel => exact ⟨i + 1, _, by have := HI.out; omega, by go_num, HT6, HR6⟩
          case measure => simp [intOf]; have := HI.out; omega
      · have t1 : (c.k == 1) = false := beq_eq_false_iff_ne.2 k1
        have HN : Hid (c.k = 1 → c.h.n ≠ 2) := by
          have : c.k = 1 → c.h.n ≠ 2 := fun q => absurd q k1
          exact this
        clear k1
        go_wp2_with fail
        (refine wp_region_held_drew (S := (fun w' => Chg [p] wr w')) (by kernel_rfl) ?_ (fun hHeld => ?_); (focus ((try dsimp only); (exact (Chg.refl _ _).drew))))
        (try dsimp only at hHeld)
        obtain ⟨d0, hd0⟩ : ∃ W0, W0 = World.drew wr := ⟨_, rfl⟩
        have HPd : Hid (PA p a d0) := by
          have : PA p a d0 := by rw [hd0]; exact HT.out.pa
          exact this
        have HSd : Hid (d0.heap.size = wr.heap.size) := by
          have : d0.heap.size = wr.heap.size := by rw [hd0]; rfl
          exact this
        rw [← hd0]
        rw [← hd0] at hHeld
        clear hd0 c0 c1
        (refine wpAnyH_take (i := 0) (v := ?_) rfl (by kernel_rfl) (by kernel_rfl) (by kernel_rfl) (fun _ _ _ h => h) (Or.inl ⟨by rfl, ?_⟩) hHeld ?_; rotate_left; (focus (intro w hSw; (try dsimp only at hSw); go_simp; try with_reducible rfl)); (try simp only [Act.put, List.setIfInBounds_toArray, List.set_cons_zero, List.set_cons_succ, List.getElem_toArray, List.getElem_cons_zero])); (refine wpAnyH_take (i := 2) (v := ?_) rfl (by kernel_rfl) (by kernel_rfl) (by kernel_rfl) (fun _ _ _ h => h) (Or.inl ⟨by rfl, ?_⟩) hHeld ?_; rotate_left; (focus (intro w hSw; (try dsimp only at hSw); go_simp; try with_reducible rfl)); (try simp only [Act.put, List.setIfInBounds_toArray, List.set_cons_zero, List.set_cons_succ, List.getElem_toArray, List.getElem_cons_zero, List.getElem_cons_succ])); (refine wpAnyH_take (i := 3) (v := ?_) rfl (by kernel_rfl) (by kernel_rfl) (by kernel_rfl) (fun _ _ _ h => h) (Or.inl ⟨by rfl, ?_⟩) hHeld ?_; rotate_left; (focus (intro w hSw; (try dsimp only at hSw); go_simp; try with_reducible rfl)); (try simp only [Act.put, List.setIfInBounds_toArray, List.set_cons_zero, List.set_cons_succ, List.getElem_toArray, List.getElem_cons_zero, List.getElem_cons_succ])); (refine wpAnyH_take (i := 4) (v := ?_) rfl (by kernel_rfl) (by kernel_rfl) (by kernel_rfl) (fun _ _ _ h => h) (Or.inl ⟨by rfl, ?_⟩) hHeld ?_; rotate_left; (focus (intro w hSw; (try dsimp only at hSw); go_simp; try with_reducible rfl)); (try simp only [Act.put, List.setIfInBounds_toArray, List.set_cons_zero, List.set_cons_succ, List.getElem_toArray, List.getElem_cons_zero, List.getElem_cons_succ]))
        (refine wpAnyH_take (i := 5) (v := ?_) rfl (by kernel_rfl) (by kernel_rfl) (by kernel_rfl) (fun _ _ _ h => h) (Or.inl ⟨by rfl, ?_⟩) hHeld ?_; rotate_left; (focus (intro w hSw; (try dsimp only at hSw); go_simp; (have hbw := Chg.onA HT.out.hb hSw (by have := HPW.out; have := HPQ.out; simp; omega); have e0 := HC.out _ 0 _ hbw rfl; have e1 := HC.out _ 1 _ hbw rfl; have e2 := HC.out _ 2 _ hbw rfl; have e3 := HC.out _ 3 _ hbw rfl; have e4 := HC.out _ 4 _ hbw rfl; have e5 := HC.out _ 5 _ hbw rfl; rw [Nat.add_zero] at e0; clear hbw; go_simp; try with_reducible rfl))); (try simp only [Act.put, List.setIfInBounds_toArray, List.set_cons_zero, List.set_cons_succ, List.getElem_toArray, List.getElem_cons_zero, List.getElem_cons_succ]))
        (refine wpAnyH_ready (rs := [1]) (by kernel_rfl) (by simp) ?_; refine AllReadyH.cons rfl (fun K hK => ?_) AllReadyH.nil; go_simp; refine (newRW 1 5 _).mono ?_; rintro e y1 ⟨rfl, hR, hs⟩; refine hK.out _ _ ?_ (fun hHeldN => ?_); (focus ((try dsimp only); (exact hHeld.trans (Chg.of_below _ hs)))); clear hK K hHeld; have hHeld := hHeldN; clear hHeldN; (try simp only [Act.put, List.setIfInBounds_toArray, List.set_cons_zero, List.set_cons_succ, List.getElem_toArray, List.getElem_cons_zero, List.getElem_cons_succ]))
        have HR1 := Lib.hid hR
        have HP1y := Lib.hid (HPd.out.later hs)
        clear hs hR
        (refine wpAnyH_ready (rs := [6]) (by kernel_rfl) (by simp) ?_; refine AllReadyH.cons rfl (fun K hK => ?_) AllReadyH.nil; go_simp; refine (doW HP1y.out HR1.out (by have := HPd.out.lt; omega) HR.out.inv (rel_new 1 5 (by omega)).invR c).mono ?_; rintro e y6 ⟨⟨bb, rfl⟩, ⟨s, ss, sd, hP, _⟩, hC⟩; refine hK.out _ _ ?_ (fun hHeldN => ?_); (focus ((try dsimp only); (exact Chg.fresh hHeld hC (by rw [HSd.out]; exact Nat.le_refl _)))); clear hK K hHeld; have hHeld := hHeldN; clear hHeldN; (try simp only [Act.put, List.setIfInBounds_toArray, List.set_cons_zero, List.set_cons_succ, List.getElem_toArray, List.getElem_cons_zero, List.getElem_cons_succ]))
        refine wpAnyH_done (by kernel_rfl) ?_ _
        have HT6 := Lib.hid (HT.out.chgA hHeld HPW.out HPQ.out hP)
        have HR6 := Lib.hid (HR.out.act (by have := HI.out; omega) (by omega) c HN.out s)
        clear hHeld hP hC
        go_wp2_with fail
        go_roundw
        case rel => exact ⟨i + 1, _, by have := HI.out; omega, by go_num, HT6, HR6⟩
        case measure => simp [intOf]; have := HI.out; omega
    | none =>
      have e : i = l.length := by have := List.getElem?_eq_none_iff.1 hx; omega
      subst e
      clear hx hi
      go_wp2_with fail
      have HRA1 := HR
      obtain ⟨A, hA⟩ : ∃ A, A = a := ⟨_, rfl⟩
      rw [← hA] at HT HRA1
      clear HRA HR hA
      go_loopw [10] (fun x wr => ∃ (i : Nat) (b : Ad), i ≤ m.length ∧ x = .int .i64 i ∧ Hid (MtW p q A b w wr) ∧ Hid (Rch 2 1 7 b i)) (fun x _ => m.length - (intOf x).toNat)
      case atStart => exact ⟨0, _, Nat.zero_le _, rfl, HT, HRB⟩
      case round =>
        obtain ⟨i, b, hi, rfl, HT, HR⟩ := hrel
        cases hx : m[i]? with
        | some c =>
          obtain ⟨g, o, rfl, hlt, hc⟩ := HM.out.at hx
          have k0 : (i : Int) < m.length := by have := (List.getElem?_eq_some_iff.1 hx).1; omega
          have HI : Hid (i < m.length) := (List.getElem?_eq_some_iff.1 hx).1
          have HC : Hid (∀ (W : World) (j : Nat) (u : Value), Below w.heap.size w W → c.cs[j]? = some u → W.cell? ⟨g, o + i * 6 + j, none⟩ = some u) := by
            have : ∀ (W : World) (j : Nat) (u : Value), Below w.heap.size w W → c.cs[j]? = some u → W.cell? ⟨g, o + i * 6 + j, none⟩ = some u := fun W j u h1 h2 => rds_old hc hlt h1 h2
            exact this
          clear hc hx hlt
          have c0 := HC.out wr 0 _ HT.out.hb rfl
          have c1 := HC.out wr 1 _ HT.out.hb rfl
          rw [Nat.add_zero] at c0
          by_cases k1 : c.k = 1
          · have t1 : (c.k == 1) = true := beq_iff_eq.2 k1
            by_cases k2 : c.h.n = 1
            · have t2 : (c.h.n == 1) = true := beq_iff_eq.2 k2
              have HR6 := Lib.hid (HR.out.next (by have := HI.out; omega) (by omega))
              clear k1 k2
              go_wp2_with fail
              go_roundw
              case rel => exact ⟨i + 1, _, by have := HI.out; omega, by go_num, HT, HR6⟩
              case measure => simp [intOf]; have := HI.out; omega
            · have t2 : (c.h.n == 1) = false := beq_eq_false_iff_ne.2 k2
              have HN : Hid (c.k = 1 → c.h.n ≠ 1) := by
                have : c.k = 1 → c.h.n ≠ 1 := fun _ => k2
                exact this
              clear k1 k2
              go_wp2_with fail
              (refine wp_region_held_drew (S := (fun w' => Chg [q] wr w')) (by kernel_rfl) ?_ (fun hHeld => ?_); (focus ((try dsimp only); (exact (Chg.refl _ _).drew))))
              (try dsimp only at hHeld)
              obtain ⟨d0, hd0⟩ : ∃ W0, W0 = World.drew wr := ⟨_, rfl⟩
              have HPd : Hid (PA q b d0) := by
                have : PA q b d0 := by rw [hd0]; exact HT.out.pb
                exact this
              have HSd : Hid (d0.heap.size = wr.heap.size) := by
                have : d0.heap.size = wr.heap.size := by rw [hd0]; rfl
                exact this
              rw [← hd0]
              rw [← hd0] at hHeld
              clear hd0 c0 c1
              (refine wpAnyH_take (i := 0) (v := ?_) rfl (by kernel_rfl) (by kernel_rfl) (by kernel_rfl) (fun _ _ _ h => h) (Or.inl ⟨by rfl, ?_⟩) hHeld ?_; rotate_left; (focus (intro w hSw; (try dsimp only at hSw); go_simp; try with_reducible rfl)); (try simp only [Act.put, List.setIfInBounds_toArray, List.set_cons_zero, List.set_cons_succ, List.getElem_toArray, List.getElem_cons_zero])); (refine wpAnyH_take (i := 2) (v := ?_) rfl (by kernel_rfl) (by kernel_rfl) (by kernel_rfl) (fun _ _ _ h => h) (Or.inl ⟨by rfl, ?_⟩) hHeld ?_; rotate_left; (focus (intro w hSw; (try dsimp only at hSw); go_simp; try with_reducible rfl)); (try simp only [Act.put, List.setIfInBounds_toArray, List.set_cons_zero, List.set_cons_succ, List.getElem_toArray, List.getElem_cons_zero, List.getElem_cons_succ])); (refine wpAnyH_take (i := 3) (v := ?_) rfl (by kernel_rfl) (by kernel_rfl) (by kernel_rfl) (fun _ _ _ h => h) (Or.inl ⟨by rfl, ?_⟩) hHeld ?_; rotate_left; (focus (intro w hSw; (try dsimp only at hSw); go_simp; try with_reducible rfl)); (try simp only [Act.put, List.setIfInBounds_toArray, List.set_cons_zero, List.set_cons_succ, List.getElem_toArray, List.getElem_cons_zero, List.getElem_cons_succ])); (refine wpAnyH_take (i := 4) (v := ?_) rfl (by kernel_rfl) (by kernel_rfl) (by kernel_rfl) (fun _ _ _ h => h) (Or.inl ⟨by rfl, ?_⟩) hHeld ?_; rotate_left; (focus (intro w hSw; (try dsimp only at hSw); go_simp; try with_reducible rfl)); (try simp only [Act.put, List.setIfInBounds_toArray, List.set_cons_zero, List.set_cons_succ, List.getElem_toArray, List.getElem_cons_zero, List.getElem_cons_succ]))
              (refine wpAnyH_take (i := 5) (v := ?_) rfl (by kernel_rfl) (by kernel_rfl) (by kernel_rfl) (fun _ _ _ h => h) (Or.inl ⟨by rfl, ?_⟩) hHeld ?_; rotate_left; (focus (intro w hSw; (try dsimp only at hSw); go_simp; (have hbw := Chg.onA HT.out.hb hSw (by have := HPW.out; have := HPQ.out; simp; omega); have e0 := HC.out _ 0 _ hbw rfl; have e1 := HC.out _ 1 _ hbw rfl; have e2 := HC.out _ 2 _ hbw rfl; have e3 := HC.out _ 3 _ hbw rfl; have e4 := HC.out _ 4 _ hbw rfl; have e5 := HC.out _ 5 _ hbw rfl; rw [Nat.add_zero] at e0; clear hbw; go_simp; try with_reducible rfl))); (try simp only [Act.put, List.setIfInBounds_toArray, List.set_cons_zero, List.set_cons_succ, List.getElem_toArray, List.getElem_cons_zero, List.getElem_cons_succ]))
              (refine wpAnyH_ready (rs := [1]) (by kernel_rfl) (by simp) ?_; refine AllReadyH.cons rfl (fun K hK => ?_) AllReadyH.nil; go_simp; refine (newRW 2 7 _).mono ?_; rintro e y1 ⟨rfl, hR, hs⟩; refine hK.out _ _ ?_ (fun hHeldN => ?_); (focus ((try dsimp only); (exact hHeld.trans (Chg.of_below _ hs)))); clear hK K hHeld; have hHeld := hHeldN; clear hHeldN; (try simp only [Act.put, List.setIfInBounds_toArray, List.set_cons_zero, List.set_cons_succ, List.getElem_toArray, List.getElem_cons_zero, List.getElem_cons_succ]))
              have HR1 := Lib.hid hR
              have HP1y := Lib.hid (HPd.out.later hs)
              clear hs hR
              (refine wpAnyH_ready (rs := [6]) (by kernel_rfl) (by simp) ?_; refine AllReadyH.cons rfl (fun K hK => ?_) AllReadyH.nil; go_simp; refine (doW HP1y.out HR1.out (by have := HPd.out.lt; omega) HR.out.inv (rel_new 2 7 (by omega)).invR c).mono ?_; rintro e y6 ⟨⟨bb, rfl⟩, ⟨s, ss, sd, hP, _⟩, hC⟩; refine hK.out _ _ ?_ (fun hHeldN => ?_); (focus ((try dsimp only); (exact Chg.fresh hHeld hC (by rw [HSd.out]; exact Nat.le_refl _)))); clear hK K hHeld; have hHeld := hHeldN; clear hHeldN; (try simp only [Act.put, List.setIfInBounds_toArray, List.set_cons_zero, List.set_cons_succ, List.getElem_toArray, List.getElem_cons_zero, List.getElem_cons_succ]))
              refine wpAnyH_done (by kernel_rfl) ?_ _
              have HT6 := Lib.hid (HT.out.chgB hHeld HPW.out HPQ.out hP)
              have HR6 := Lib.hid (HR.out.act (by have := HI.out; omega) (by omega) c HN.out s)
              clear hHeld hP hC
              go_wp2_with fail
              go_roundw
              case rel => exact ⟨i + 1, _, by have := HI.out; omega, by go_num, HT6, HR6⟩
              case measure => simp [intOf]; have := HI.out; omega
          · have t1 : (c.k == 1) = false := beq_eq_false_iff_ne.2 k1
            have HN : Hid (c.k = 1 → c.h.n ≠ 1) := by
              have : c.k = 1 → c.h.n ≠ 1 := fun q => absurd q k1
              exact this
            clear k1
            go_wp2_with fail
            (refine wp_region_held_drew (S := (fun w' => Chg [q] wr w')) (by kernel_rfl) ?_ (fun hHeld => ?_); (focus ((try dsimp only); (exact (Chg.refl _ _).drew))))
            (try dsimp only at hHeld)
            obtain ⟨d0, hd0⟩ : ∃ W0, W0 = World.drew wr := ⟨_, rfl⟩
            have HPd : Hid (PA q b d0) := by
              have : PA q b d0 := by rw [hd0]; exact HT.out.pb
              exact this
            have HSd : Hid (d0.heap.size = wr.heap.size) := by
              have : d0.heap.size = wr.heap.size := by rw [hd0]; rfl
              exact this
            rw [← hd0]
            rw [← hd0] at hHeld
            clear hd0 c0 c1
            (refine wpAnyH_take (i := 0) (v := ?_) rfl (by kernel_rfl) (by kernel_rfl) (by kernel_rfl) (fun _ _ _ h => h) (Or.inl ⟨by rfl, ?_⟩) hHeld ?_; rotate_left; (focus (intro w hSw; (try dsimp only at hSw); go_simp; try with_reducible rfl)); (try simp only [Act.put, List.setIfInBounds_toArray, List.set_cons_zero, List.set_cons_succ, List.getElem_toArray, List.getElem_cons_zero])); (refine wpAnyH_take (i := 2) (v := ?_) rfl (by kernel_rfl) (by kernel_rfl) (by kernel_rfl) (fun _ _ _ h => h) (Or.inl ⟨by rfl, ?_⟩) hHeld ?_; rotate_left; (focus (intro w hSw; (try dsimp only at hSw); go_simp; try with_reducible rfl)); (try simp only [Act.put, List.setIfInBounds_toArray, List.set_cons_zero, List.set_cons_succ, List.getElem_toArray, List.getElem_cons_zero, List.getElem_cons_succ])); (refine wpAnyH_take (i := 3) (v := ?_) rfl (by kernel_rfl) (by kernel_rfl) (by kernel_rfl) (fun _ _ _ h => h) (Or.inl ⟨by rfl, ?_⟩) hHeld ?_; rotate_left; (focus (intro w hSw; (try dsimp only at hSw); go_simp; try with_reducible rfl)); (try simp only [Act.put, List.setIfInBounds_toArray, List.set_cons_zero, List.set_cons_succ, List.getElem_toArray, List.getElem_cons_zero, List.getElem_cons_succ])); (refine wpAnyH_take (i := 4) (v := ?_) rfl (by kernel_rfl) (by kernel_rfl) (by kernel_rfl) (fun _ _ _ h => h) (Or.inl ⟨by rfl, ?_⟩) hHeld ?_; rotate_left; (focus (intro w hSw; (try dsimp only at hSw); go_simp; try with_reducible rfl)); (try simp only [Act.put, List.setIfInBounds_toArray, List.set_cons_zero, List.set_cons_succ, List.getElem_toArray, List.getElem_cons_zero, List.getElem_cons_succ]))
            (refine wpAnyH_take (i := 5) (v := ?_) rfl (by kernel_rfl) (by kernel_rfl) (by kernel_rfl) (fun _ _ _ h => h) (Or.inl ⟨by rfl, ?_⟩) hHeld ?_; rotate_left; (focus (intro w hSw; (try dsimp only at hSw); go_simp; (have hbw := Chg.onA HT.out.hb hSw (by have := HPW.out; have := HPQ.out; simp; omega); have e0 := HC.out _ 0 _ hbw rfl; have e1 := HC.out _ 1 _ hbw rfl; have e2 := HC.out _ 2 _ hbw rfl; have e3 := HC.out _ 3 _ hbw rfl; have e4 := HC.out _ 4 _ hbw rfl; have e5 := HC.out _ 5 _ hbw rfl; rw [Nat.add_zero] at e0; clear hbw; go_simp; try with_reducible rfl))); (try simp only [Act.put, List.setIfInBounds_toArray, List.set_cons_zero, List.set_cons_succ, List.getElem_toArray, List.getElem_cons_zero, List.getElem_cons_succ]))
            (refine wpAnyH_ready (rs := [1]) (by kernel_rfl) (by simp) ?_; refine AllReadyH.cons rfl (fun K hK => ?_) AllReadyH.nil; go_simp; refine (newRW 2 7 _).mono ?_; rintro e y1 ⟨rfl, hR, hs⟩; refine hK.out _ _ ?_ (fun hHeldN => ?_); (focus ((try dsimp only); (exact hHeld.trans (Chg.of_below _ hs)))); clear hK K hHeld; have hHeld := hHeldN; clear hHeldN; (try simp only [Act.put, List.setIfInBounds_toArray, List.set_cons_zero, List.set_cons_succ, List.getElem_toArray, List.getElem_cons_zero, List.getElem_cons_succ]))
            have HR1 := Lib.hid hR
            have HP1y := Lib.hid (HPd.out.later hs)
            clear hs hR
            (refine wpAnyH_ready (rs := [6]) (by kernel_rfl) (by simp) ?_; refine AllReadyH.cons rfl (fun K hK => ?_) AllReadyH.nil; go_simp; refine (doW HP1y.out HR1.out (by have := HPd.out.lt; omega) HR.out.inv (rel_new 2 7 (by omega)).invR c).mono ?_; rintro e y6 ⟨⟨bb, rfl⟩, ⟨s, ss, sd, hP, _⟩, hC⟩; refine hK.out _ _ ?_ (fun hHeldN => ?_); (focus ((try dsimp only); (exact Chg.fresh hHeld hC (by rw [HSd.out]; exact Nat.le_refl _)))); clear hK K hHeld; have hHeld := hHeldN; clear hHeldN; (try simp only [Act.put, List.setIfInBounds_toArray, List.set_cons_zero, List.set_cons_succ, List.getElem_toArray, List.getElem_cons_zero, List.getElem_cons_succ]))
            refine wpAnyH_done (by kernel_rfl) ?_ _
            have HT6 := Lib.hid (HT.out.chgB hHeld HPW.out HPQ.out hP)
            have HR6 := Lib.hid (HR.out.act (by have := HI.out; omega) (by omega) c HN.out s)
            clear hHeld hP hC
            go_wp2_with fail
            go_roundw
            case rel => exact ⟨i + 1, _, by have := HI.out; omega, by go_num, HT6, HR6⟩
            case measure => simp [intOf]; have := HI.out; omega
        | none =>
          have e : i = m.length := by have := List.getElem?_eq_none_iff.1 hx; omega
          subst e
          clear hx hi
          go_wp2_with fail
          have hTW : Two 0 A b := by
            have hA := HRA1.out
            have hB := HR.out
            refine ⟨hA.inv, hB.inv, hA.node, hB.node, A.v.mt, b.v.mt, ⟨hA.m0, ?_⟩, ⟨hB.m0, ?_⟩, hA.mb, rfl, hA.n, hB.mb, rfl, hB.n⟩
            · have := hA.m1; simp; omega
            · have := hB.m1; simp; omega
          have HTW := Lib.hid hTW
          clear hTW HR HRA1 HRB hgo hgm
          go_loopw [11] (fun x wr => ∃ (k : Nat) (A b : Ad), k ≤ 2 ∧ x = .int .i64 k ∧ Hid (MtW p q A b w wr) ∧ Hid (Two k A b)) (fun x _ => 2 - (intOf x).toNat)
          case atStart => exact ⟨0, _, _, Nat.zero_le _, rfl, HT, HTW⟩
          case round =>
            obtain ⟨k, A, b, hk, rfl, HT, HTW⟩ := hrel
            have HIA : Hid (Inv A) := HTW.out.1
            have HIB : Hid (Inv b) := HTW.out.2.1
            have HB' : Hid (Inv (hearA b (sayH A))) := by
              have : Inv (hearA b (sayH A)) := HIB.out.hear _
              exact this
            match k, hk, HTW with
            | 0, _, HTW =>
              go_wp2_with fail
              refine (sayM HT.out.pa HIA.out.nz rfl).mono ?_
              rintro e s1 ⟨rfl, hb⟩
              obtain ⟨v1, hv1⟩ : ∃ W, W = s1.alloc (.cells #[.int .i64 (sayH A).n, .int .u64 (sayH A).mb, .int .u64 (sayH A).mt, .int .u64 (sayH A).hb, .int .u64 (sayH A).ht] 35) := ⟨_, rfl⟩
              have HTs1 := Lib.hid (HT.out.later (w' := v1) (by rw [hv1]; exact hb.alloc hb.size _))
              have hH1 : BlkAt 35 s1.heap.size [.int .i64 (sayH A).n, .int .u64 (sayH A).mb, .int .u64 (sayH A).mt, .int .u64 (sayH A).hb, .int .u64 (sayH A).ht] v1 := by rw [hv1]; exact BlkAt.new s1 _
              rw [hv1] at hH1
              have x0 := BlkAt.cell hH1 (j := 0) rfl; have x1 := BlkAt.cell hH1 (j := 1) rfl; have x2 := BlkAt.cell hH1 (j := 2) rfl; have x3 := BlkAt.cell hH1 (j := 3) rfl; have x4 := BlkAt.cell hH1 (j := 4) rfl
              have HV1 := Lib.hid hv1
              clear hb hH1 hv1
              have HH1 := Lib.hid (hearM HTs1.out.pb HIB.out (sayH A))
              go_wp2_with fail
              rw [← HV1.out]
              refine HH1.out.mono ?_
              rintro e n1 ⟨⟨ev, er, rfl⟩, hP, hC⟩
              have HTn1 := Lib.hid (HTs1.out.chgB hC HPW.out HPQ.out hP)
              clear hP hC x0 x1 x2 x3 x4 HH1
              go_wp2_with fail
              refine (sayM HTn1.out.pb HB'.out.nz rfl).mono ?_
              rintro e s2 ⟨rfl, hb⟩
              obtain ⟨v2, hv2⟩ : ∃ W, W = s2.alloc (.cells #[.int .i64 (sayH (hearA b (sayH A))).n, .int .u64 (sayH (hearA b (sayH A))).mb, .int .u64 (sayH (hearA b (sayH A))).mt, .int .u64 (sayH (hearA b (sayH A))).hb, .int .u64 (sayH (hearA b (sayH A))).ht] 35) := ⟨_, rfl⟩
              have HTs2 := Lib.hid (HTn1.out.later (w' := v2) (by rw [hv2]; exact hb.alloc hb.size _))
              have hH2 : BlkAt 35 s2.heap.size [.int .i64 (sayH (hearA b (sayH A))).n, .int .u64 (sayH (hearA b (sayH A))).mb, .int .u64 (sayH (hearA b (sayH A))).mt, .int .u64 (sayH (hearA b (sayH A))).hb, .int .u64 (sayH (hearA b (sayH A))).ht] v2 := by rw [hv2]; exact BlkAt.new s2 _
              rw [hv2] at hH2
              have x0 := BlkAt.cell hH2 (j := 0) rfl; have x1 := BlkAt.cell hH2 (j := 1) rfl; have x2 := BlkAt.cell hH2 (j := 2) rfl; have x3 := BlkAt.cell hH2 (j := 3) rfl; have x4 := BlkAt.cell hH2 (j := 4) rfl
              have HV2 := Lib.hid hv2
              clear hb hH2 hv2
              have HH2 := Lib.hid (hearM HTs2.out.pa HIA.out (sayH (hearA b (sayH A))))
              go_wp2_with fail
              rw [← HV2.out]
              refine HH2.out.mono ?_
              rintro e n2 ⟨⟨ev, er, rfl⟩, hP, hC⟩
              have HTn2 := Lib.hid (HTs2.out.chgA hC HPW.out HPQ.out hP)
              clear hP hC x0 x1 x2 x3 x4 HH2
              go_wp2_with fail
              go_roundw
              case rel => exact ⟨1, _, _, by omega, rfl, HTn2, Lib.hid HTW.out.round0⟩
              case measure => simp [intOf]
            | 1, _, HTW =>
              go_wp2_with fail
              refine (sayM HT.out.pa HIA.out.nz rfl).mono ?_
              rintro e s1 ⟨rfl, hb⟩
              obtain ⟨v1, hv1⟩ : ∃ W, W = s1.alloc (.cells #[.int .i64 (sayH A).n, .int .u64 (sayH A).mb, .int .u64 (sayH A).mt, .int .u64 (sayH A).hb, .int .u64 (sayH A).ht] 35) := ⟨_, rfl⟩
              have HTs1 := Lib.hid (HT.out.later (w' := v1) (by rw [hv1]; exact hb.alloc hb.size _))
              have hH1 : BlkAt 35 s1.heap.size [.int .i64 (sayH A).n, .int .u64 (sayH A).mb, .int .u64 (sayH A).mt, .int .u64 (sayH A).hb, .int .u64 (sayH A).ht] v1 := by rw [hv1]; exact BlkAt.new s1 _
              rw [hv1] at hH1
              have x0 := BlkAt.cell hH1 (j := 0) rfl; have x1 := BlkAt.cell hH1 (j := 1) rfl; have x2 := BlkAt.cell hH1 (j := 2) rfl; have x3 := BlkAt.cell hH1 (j := 3) rfl; have x4 := BlkAt.cell hH1 (j := 4) rfl
              have HV1 := Lib.hid hv1
              clear hb hH1 hv1
              have HH1 := Lib.hid (hearM HTs1.out.pb HIB.out (sayH A))
              go_wp2_with fail
              rw [← HV1.out]
              refine HH1.out.mono ?_
              rintro e n1 ⟨⟨ev, er, rfl⟩, hP, hC⟩
              have HTn1 := Lib.hid (HTs1.out.chgB hC HPW.out HPQ.out hP)
              clear hP hC x0 x1 x2 x3 x4 HH1
              go_wp2_with fail
              refine (sayM HTn1.out.pb HB'.out.nz rfl).mono ?_
              rintro e s2 ⟨rfl, hb⟩
              obtain ⟨v2, hv2⟩ : ∃ W, W = s2.alloc (.cells #[.int .i64 (sayH (hearA b (sayH A))).n, .int .u64 (sayH (hearA b (sayH A))).mb, .int .u64 (sayH (hearA b (sayH A))).mt, .int .u64 (sayH (hearA b (sayH A))).hb, .int .u64 (sayH (hearA b (sayH A))).ht] 35) := ⟨_, rfl⟩
              have HTs2 := Lib.hid (HTn1.out.later (w' := v2) (by rw [hv2]; exact hb.alloc hb.size _))
              have hH2 : BlkAt 35 s2.heap.size [.int .i64 (sayH (hearA b (sayH A))).n, .int .u64 (sayH (hearA b (sayH A))).mb, .int .u64 (sayH (hearA b (sayH A))).mt, .int .u64 (sayH (hearA b (sayH A))).hb, .int .u64 (sayH (hearA b (sayH A))).ht] v2 := by rw [hv2]; exact BlkAt.new s2 _
              rw [hv2] at hH2
              have x0 := BlkAt.cell hH2 (j := 0) rfl; have x1 := BlkAt.cell hH2 (j := 1) rfl; have x2 := BlkAt.cell hH2 (j := 2) rfl; have x3 := BlkAt.cell hH2 (j := 3) rfl; have x4 := BlkAt.cell hH2 (j := 4) rfl
              have HV2 := Lib.hid hv2
              clear hb hH2 hv2
              have HH2 := Lib.hid (hearM HTs2.out.pa HIA.out (sayH (hearA b (sayH A))))
              go_wp2_with fail
              rw [← HV2.out]
              refine HH2.out.mono ?_
              rintro e n2 ⟨⟨ev, er, rfl⟩, hP, hC⟩
              have HTn2 := Lib.hid (HTs2.out.chgA hC HPW.out HPQ.out hP)
              clear hP hC x0 x1 x2 x3 x4 HH2
              go_wp2_with fail
              go_roundw
              case rel => exact ⟨2, _, _, by omega, rfl, HTn2, Lib.hid HTW.out.round1⟩
              case measure => simp [intOf]
            | 2, _, HTW =>
              go_wp2_with fail
              refine (sayM HT.out.pa HIA.out.nz rfl).mono ?_
              rintro e s1 ⟨rfl, hb⟩
              obtain ⟨v1, hv1⟩ : ∃ W, W = s1.alloc (.cells #[.int .i64 (sayH A).n, .int .u64 (sayH A).mb, .int .u64 (sayH A).mt, .int .u64 (sayH A).hb, .int .u64 (sayH A).ht] 35) := ⟨_, rfl⟩
              have HTs1 := Lib.hid (HT.out.later (w' := v1) (by rw [hv1]; exact hb.alloc hb.size _))
              have hH1 : BlkAt 35 s1.heap.size [.int .i64 (sayH A).n, .int .u64 (sayH A).mb, .int .u64 (sayH A).mt, .int .u64 (sayH A).hb, .int .u64 (sayH A).ht] v1 := by rw [hv1]; exact BlkAt.new s1 _
              rw [hv1] at hH1
              have x0 := BlkAt.cell hH1 (j := 0) rfl; have x1 := BlkAt.cell hH1 (j := 1) rfl; have x2 := BlkAt.cell hH1 (j := 2) rfl; have x3 := BlkAt.cell hH1 (j := 3) rfl; have x4 := BlkAt.cell hH1 (j := 4) rfl
              have HV1 := Lib.hid hv1
              clear hb hH1 hv1
              have HH1 := Lib.hid (hearM HTs1.out.pb HIB.out (sayH A))
              go_wp2_with fail
              rw [← HV1.out]
              refine HH1.out.mono ?_
              rintro e n1 ⟨⟨ev, er, rfl⟩, hP, hC⟩
              have HTn1 := Lib.hid (HTs1.out.chgB hC HPW.out HPQ.out hP)
              clear hP hC x0 x1 x2 x3 x4 HH1
              go_wp2_with fail
              obtain ⟨_, _, nA, nB, s, t, _, _, hv, hw⟩ := HTW.out.last
              have HAA := Lib.hid (acceptsM hv)
              have HBB := Lib.hid (acceptsN hw)
              refine (viewK HTn1.out.pa HIA.out.nz (s := 2) (n := 2) (ob := 5) (ot := s) (tb := 7) (tt := t) (by rw [hv]) (by rw [hv]) (by rw [hv]) (by rw [hv]) (by rw [hv]) (by rw [hv])).mono ?_
              rintro e v5 ⟨rfl, hb⟩
              have HT5 := Lib.hid (HTn1.out.later hb)
              clear hb
              go_wp2_with fail
              refine (viewK HT5.out.pb HB'.out.nz (s := 2) (n := 1) (ob := 7) (ot := t) (tb := 5) (tt := s) (by rw [hw]) (by rw [hw]) (by rw [hw]) (by rw [hw]) (by rw [hw]) (by rw [hw])).mono ?_
              rintro e v6 ⟨rfl, hb⟩
              have HT6 := Lib.hid (HT5.out.later hb)
              clear hb hv hw nA nB
              obtain ⟨v8, hv8⟩ : ∃ W, W = (v6.alloc (.cells #[.int .i64 2, .int .u64 5, .int .u64 s, .int .u64 7, .int .u64 t, .int .i64 2] 40)).alloc (.cells #[.int .i64 2, .int .u64 7, .int .u64 t, .int .u64 5, .int .u64 s, .int .i64 1] 40) := ⟨_, rfl⟩
              have hb8 : Below v6.heap.size v6 v8 := by rw [hv8]; exact ((Below.refl _ _).alloc (Nat.le_refl _) _).alloc (by simp) _
              have HX8 : Hid (BlkAt 40 v6.heap.size [.int .i64 2, .int .u64 5, .int .u64 s, .int .u64 7, .int .u64 t, .int .i64 2] v8) := by
                have : BlkAt 40 v6.heap.size [.int .i64 2, .int .u64 5, .int .u64 s, .int .u64 7, .int .u64 t, .int .i64 2] v8 := by rw [hv8]; exact (BlkAt.new v6 _).later (ba1 _ _)
                exact this
              have HY8 : Hid (BlkAt 40 (v6.heap.size + 1) [.int .i64 2, .int .u64 7, .int .u64 t, .int .u64 5, .int .u64 s, .int .i64 1] v8) := by
                have : BlkAt 40 (v6.heap.size + 1) [.int .i64 2, .int .u64 7, .int .u64 t, .int .u64 5, .int .u64 s, .int .i64 1] v8 := by
                  rw [hv8]
                  have := BlkAt.new (t := 40) (v6.alloc (.cells #[.int .i64 2, .int .u64 5, .int .u64 s, .int .u64 7, .int .u64 t, .int .i64 2] 40)) [.int .i64 2, .int .u64 7, .int .u64 t, .int .u64 5, .int .u64 s, .int .i64 1]
                  simpa using this
                exact this
              have HT8 := Lib.hid (HT6.out.later hb8)
              have HV8 := Lib.hid hv8
              clear hb8 hv8
              go_wp2_with fail
              rw [← HV8.out]
              have HQ := Lib.hid (acceptsW HT8.out.pa HIA.out.nz 2 5 s 7 t)
              rw [HAA.out] at HQ
              refine HQ.out.mono ?_
              rintro e v9 ⟨rfl, hb⟩
              have HT9 := Lib.hid (HT8.out.later hb)
              have hx9 := BlkAt.later HX8.out hb
              have hy9 := BlkAt.later HY8.out hb
              have x0 := BlkAt.cell hx9 (j := 0) rfl; have x1 := BlkAt.cell hx9 (j := 1) rfl; have x2 := BlkAt.cell hx9 (j := 2) rfl; have x3 := BlkAt.cell hx9 (j := 3) rfl; have x4 := BlkAt.cell hx9 (j := 4) rfl; have x5 := BlkAt.cell hx9 (j := 5) rfl
              have y0 := BlkAt.cell hy9 (j := 0) rfl; have y1 := BlkAt.cell hy9 (j := 1) rfl; have y2 := BlkAt.cell hy9 (j := 2) rfl; have y3 := BlkAt.cell hy9 (j := 3) rfl; have y4 := BlkAt.cell hy9 (j := 4) rfl; have y5 := BlkAt.cell hy9 (j := 5) rfl
              clear hb hx9 hy9 HQ
              go_wp2_with fail
              have HQ := Lib.hid (acceptsW HT9.out.pb HB'.out.nz 1 7 t 5 s)
              rw [HBB.out] at HQ
              refine HQ.out.mono ?_
              rintro e va ⟨rfl, hb⟩
              have HTa := Lib.hid (HT9.out.later hb)
              clear hb HQ x0 x1 x2 x3 x4 x5 y0 y1 y2 y3 y4 y5
              go_wp2_with fail
              refine (knownA _).mono ?_
              rintro e vb ⟨rfl, hb⟩
              have HBz := Lib.hid (below_of HTa.out.hb hb)
              clear hb
              go_wp2_with fail
              go_ret
              exact ⟨rfl, HBz.out⟩
theorem adjMeets_walk (u0 : Value) (l : List AcA) (u1 : Value) (m : List AcA) (w : World) (hl : Rds 6 AcA.cs w u0 l) (hln : l.length ≤ 9223372036854775807) (_ : ∀ x ∈ l, x.Ok) (hm : Rds 6 AcA.cs w u1 m) (hmn : m.length ≤ 9223372036854775807) (_ : ∀ x ∈ m, x.Ok) :
    Calls Try.prog 5 #[u0, u1] w fun e w' => e = .returned (.bool true) ∧ Below w.heap.size w w' := adjMeets_walk0 u0 l u1 m w hl hln hm hmn
end Go.Proofs.Ytcedninipbafaaa

namespace Go.Proofs.Ytcedninipbafaaa.adjMeets
open Go.ChangeShapes Go.WideShapes Go.ChangeAt Go.RowKit

set_option maxRecDepth 100000 in
theorem lifted (os : Os) (started : os.Started) (H : Type) (enc : TypeId × Value → H) :
    ReturnsInHanded {} Try.checked os 5 .any (Rows.adjMeetsSpec.pre6 enc Try.prog Try.f5 Rows.adjMeetsRow.domain false) (Rows.adjMeetsSpec.post enc Try.prog Try.f5 false true false false) := by
  refine returnsInHanded_of_change (C := Try.checked) own started (by kernel_rfl) Try.func5
    (ChangeSpec.witness6 (enc := enc) (C := Try.checked) false ⟨#[], #[.slice none 0 0, .slice none 0 0], []⟩ 8 (by kernel_rfl) (by kernel_rfl) (by kernel_rfl) (by kernel_rfl)) ?_
  intro W base args ds gs before hval0 hW hcnd _
  have hval : ∀ (j : Nat) t v, Try.f5.params[j]? = some t → args[j]? = some v → Value.okWide Try.prog W .any base t v := hval0
  have hW' := hW
  obtain ⟨p, q, hA0, hV, rfl, hfz, hnd⟩ := hW
  have hA : DataW.TrodAll enc Try.prog W 0 (fun _ => true) true Try.f5.params.toList args.toList ds p := hA0
  rw [Try.params5] at hA hval
  obtain ⟨v0, vs0, d0, ds0, p0, q0, hargs, rfl, rfl, h0, r0⟩ := trodAll_cons hA
  obtain ⟨v1, vs1, d1, ds1, p1, q1, rfl, rfl, rfl, h1, r1⟩ := trodAll_cons r0
  obtain ⟨rfl, rfl, rfl⟩ := trodAll_nil r1
  obtain rfl : args = #[v0, v1] := by cases args; simp_all
  obtain ⟨rfl, rfl⟩ := trodVars_none hV
  have k0 := h0
  have lt0 : ∀ x ∈ p0, x.block < W.heap.size := by obtain ⟨m, hm⟩ := k0; exact DataW.trod_lt m _ _ _ hm
  have k1 := h1
  have lt1 : ∀ x ∈ p1, x.block < W.heap.size := by obtain ⟨m, hm⟩ := k1; exact DataW.trod_lt m _ _ _ hm
  obtain ⟨l0, hb0, hl0, hs0⟩ := open_actsA (hval 0 22 v0 rfl rfl) h0
  obtain ⟨l1, hb1, hl1, hs1⟩ := open_actsA (hval 1 22 v1 rfl rfl) h1
  refine (adjMeets_walk v0 l0 v1 l1 W hb0 hl0 hs0 hb1 hl1 hs1).mono fun e W' ⟨he, bel⟩ => ?_
  subst he
  exact ⟨_, rfl, _, _, _, [], _, [], hW', trodAll_mk1 (shut_bool Try.underlying4 _), (trodAll_cons_mk (Below.trod laidOut (by kernel_rfl) (of_decide_eq_true (by kernel_rfl)) k0 bel lt0) (trodAll_cons_mk (Below.trod laidOut (by kernel_rfl) (of_decide_eq_true (by kernel_rfl)) k1 bel lt1) trodAll_mk0)), rfl, bel.frame _, fun h => by cases h⟩

/-- The statement. -/
theorem said : Rows.AdjMeetsSaid :=
  OpenClaim.holds_of_wide 5 Try.f5 rfl rfl rfl rfl rfl rfl rfl ⟨rfl, rfl, rfl, rfl, rfl⟩ rfl rfl rfl rfl rfl (by kernel_rfl) Try.func5 (by kernel_rfl)
    (of_decide_eq_true (by kernel_rfl)) (by unfold Func.isWrapper; first | (rw [if_pos (by decide +kernel)]; kernel_rfl) | (rw [if_neg (by decide +kernel)]; exact ⟨rfl, rfl⟩))
    (fun os started H enc _ => lifted os started H enc)
#print axioms said
end Go.Proofs.Ytcedninipbafaaa.adjMeets
