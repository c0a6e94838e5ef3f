/- AdjTags: the walk. -/
import Derived.Test.YtcedninipbafaaaZ05

set_option linter.unusedSimpArgs false
set_option linter.unusedVariables false
namespace Go.Proofs.Ytcedninipbafaaa
open Go.RowKit
attribute [local go_sem ↓] Go.wp_at_zero Go.wp_at_succ
theorem field_is (b : Bool) (W : World) : (Instr.field 53 (.agg #[.bool b]) 0).run Try.prog W = .ok (.bool b) W := rfl
attribute [local go_sem ↓ high] eqTI neTI eqVI neVI field_V field_is

theorem zero_is (w : World) : (zeroValue 53).run Try.prog w = .ok (.agg #[.bool false]) w := by kernel_rfl
/-- Hear, told or refused. -/
theorem hearT {p : Nat} {a : Ad} {w : World} (hA : PA p a w) (hI : Inv a) (h : Hl) :
    Calls Try.prog 13 #[.pointer (some ⟨p, 0, none⟩), .agg #[.int .i64 h.n, .int .u64 h.mb, .int .u64 h.mt, .int .u64 h.hb, .int .u64 h.ht]] w fun e w' => (∃ x y, e = .returned (.tuple #[.int .i64 x, .int .i64 y])) ∧ PA p (hearA a h) w' ∧ Chg [p] w w' :=
  (hearW hA hI h).mono fun _ _ ⟨e, h1, h2⟩ => ⟨⟨_, _, e⟩, h1, h2⟩
/-- What stands in each round: the adjacency, the map of those that were Up, the last view. -/
structure TgW (p g L : Nat) (a : Ad) (S : List Vw) (w wr : World) : Prop where
  pa : PA p a wr
  mp : MVw g S wr
  lv : BlkAt 40 L [.int .i64 a.v.st, .int .u64 a.v.mb, .int .u64 a.v.mt, .int .u64 a.v.tb, .int .u64 a.v.tt, .int .i64 a.v.n] wr
  hb : Below w.heap.size w wr
  lt : ∀ u ∈ S, lt4 u a.v
/-- Behind an act: the new view is told, too. -/
structure TgN (p g L V : Nat) (a a' : Ad) (S : List Vw) (w W : World) : Prop where
  pa : PA p a' W
  mp : MVw g S W
  lv : BlkAt 40 L [.int .i64 a.v.st, .int .u64 a.v.mb, .int .u64 a.v.mt, .int .u64 a.v.tb, .int .u64 a.v.tt, .int .i64 a.v.n] W
  nv : BlkAt 40 V [.int .i64 a'.v.st, .int .u64 a'.v.mb, .int .u64 a'.v.mt, .int .u64 a'.v.tb, .int .u64 a'.v.tt, .int .i64 a'.v.n] W
  hb : Below w.heap.size w W
theorem hear_st {a : Ad} (hI : Inv a) (h : Hl) (hne : (hearA a h).v ≠ a.v) : 0 < (hearA a h).v.st := by
  unfold hearA at hne ⊢
  split at hne
  · rename_i hm
    rw [if_pos hm]
    unfold heedA at hne ⊢
    split at hne
    · exact absurd rfl hne
    · rename_i hs
      rw [if_neg hs]
      simp only
      rcases (upV_rest (nowV a.v h) h).2.2.2.2.2 with q | q
      · omega
      · rw [q]
        rcases nowV_st a.v h with e | ⟨e1, e2⟩
        · omega
        · rw [e2]; rcases hI.st with r | r | r <;> omega
  · exact absurd rfl hne
theorem tick_st {a : Ad} {s : Int} (hne : (tickA a s).v ≠ a.v) : (tickA a s).v.st = 0 := by
  unfold tickA at hne ⊢
  split at hne
  · rename_i q; rw [if_pos q]; rfl
  · exact absurd rfl hne
theorem drop_ne {a : Ad} (h0 : 0 ≤ a.v.mt) (h1 : a.v.mt ≤ 1000) : (dropA a).v ≠ a.v := by
  intro h
  have : (anV a.v).mt = a.v.mt := by
    have : (dropA a).v.mt = a.v.mt := by rw [h]
    exact this
  have e : (anV a.v).mt = a.v.mt + 1 := wrap_u h0 h1
  omega
theorem old_cell {w W : World} (h : Below w.heap.size w W) {b k : Nat} {v : Value} (hb : b < w.heap.size) (hc : w.cell? ⟨b, k, none⟩ = some v) : W.cell? ⟨b, k, none⟩ = some v := cell_later h hc
theorem lastSet {L : Nat} {u v : Vw} {w : World} (h : BlkAt 40 L [.int .i64 u.st, .int .u64 u.mb, .int .u64 u.mt, .int .u64 u.tb, .int .u64 u.tt, .int .i64 u.n] w) : BlkAt 40 L [.int .i64 v.st, .int .u64 v.mb, .int .u64 v.mt, .int .u64 v.tb, .int .u64 v.tt, .int .i64 v.n] ((((((w.setCell ⟨L, 0, none⟩ (.int .i64 v.st)).setCell ⟨L, 1, none⟩ (.int .u64 v.mb)).setCell ⟨L, 2, none⟩ (.int .u64 v.mt)).setCell ⟨L, 3, none⟩ (.int .u64 v.tb)).setCell ⟨L, 4, none⟩ (.int .u64 v.tt)).setCell ⟨L, 5, none⟩ (.int .i64 v.n)) :=
  (((((BlkAt.set h 0 _).set 1 _).set 2 _).set 3 _).set 4 _).set 5 _
theorem lastChg {L : Nat} {v : Vw} {w : World} : Chg [L] w ((((((w.setCell ⟨L, 0, none⟩ (.int .i64 v.st)).setCell ⟨L, 1, none⟩ (.int .u64 v.mb)).setCell ⟨L, 2, none⟩ (.int .u64 v.mt)).setCell ⟨L, 3, none⟩ (.int .u64 v.tb)).setCell ⟨L, 4, none⟩ (.int .u64 v.tt)).setCell ⟨L, 5, none⟩ (.int .i64 v.n)) :=
  (((((((Chg.refl [L] w).set (by simp) 0 _).set (by simp) 1 _).set (by simp) 2 _).set (by simp) 3 _).set (by simp) 4 _).set (by simp) 5 _)
theorem TgW.next {p g L : Nat} {a a' : Ad} {S : List Vw} {w wr w4 w6 : World} (h : TgW p g L a S w wr) (hP : PA p a' w4) (hc : Chg [p] wr w4) (hb : Below w4.heap.size w4 w6) (hpw : w.heap.size ≤ p) (hpg : p < g) (hgl : g < L) {V : Nat} (hv : BlkAt 40 V [.int .i64 a'.v.st, .int .u64 a'.v.mb, .int .u64 a'.v.mt, .int .u64 a'.v.tb, .int .u64 a'.v.tt, .int .i64 a'.v.n] w6) : TgN p g L V a a' S w w6 :=
  ⟨hP.later hb, (h.mp.chg hc (by simp; omega)).later hb, BlkAt.later (hc.blk h.lv (by simp; omega)) hb, hv, below_of (Chg.onA h.hb hc (by simp; omega)) hb⟩
theorem TgN.fin {p g L V : Nat} {a a' : Ad} {S : List Vw} {w W : World} (h : TgN p g L V a a' S w W) (hs : ∀ u ∈ S, lt4 u a'.v) (hpw : w.heap.size ≤ p) (hpg : p < g) (hgl : g < L) :
    TgW p g L a' S w ((((((W.setCell ⟨L, 0, none⟩ (.int .i64 a'.v.st)).setCell ⟨L, 1, none⟩ (.int .u64 a'.v.mb)).setCell ⟨L, 2, none⟩ (.int .u64 a'.v.mt)).setCell ⟨L, 3, none⟩ (.int .u64 a'.v.tb)).setCell ⟨L, 4, none⟩ (.int .u64 a'.v.tt)).setCell ⟨L, 5, none⟩ (.int .i64 a'.v.n)) :=
  ⟨h.pa.chg (lastChg (v := a'.v)) (by simp; omega), h.mp.chg (lastChg (v := a'.v)) (by simp; omega), lastSet h.lv, Chg.onA h.hb (lastChg (v := a'.v)) (by simp; omega), hs⟩
theorem TgN.over {p g L V : Nat} {a a' : Ad} {S S' : List Vw} {w W W' : World} (h : TgN p g L V a a' S w W) (hc : Chg [g] W W') (hm : MVw g S' W') (hpw : w.heap.size ≤ p) (hpg : p < g) (hgl : g < L) (hlv : L < V) : TgN p g L V a a' S' w W' :=
  ⟨h.pa.chg hc (by simp; omega), hm, hc.blk h.lv (by simp; omega), hc.blk h.nv (by simp; omega), Chg.onA h.hb hc (by simp; omega)⟩

set_option maxHeartbeats 64000000 in
set_option maxRecDepth 100000 in
theorem adjTags_walk (u0 : Value) (l : List AcA) (w : World) (hl : Rds 6 AcA.cs w u0 l) (hln : l.length ≤ 9223372036854775807) (hok : ∀ x ∈ l, x.Ok) :
    Calls Try.prog 4 #[u0] w fun e w' => e = .returned (.bool true) ∧ Below w.heap.size w w' := by
  obtain ⟨la, lc, rfl⟩ := hl.form
  have HL := Lib.hid hl
  have HK := Lib.hid hok
  clear hl hok
  by_cases hgo : l.length ≤ 200
  · have k1 : ¬ (200 : Int) < l.length := by omega
    have HLN := Lib.hid hgo
    clear hln
    have hmm := @run_makeMap Try.prog
    go_enter Try.func4, Try.ntmps4
    go_wp2_with fail
    refine (newW 1 5 w (by omega) (by omega) (by omega)).mono ?_
    rintro e w1 ⟨rfl, hP, hb⟩
    obtain ⟨w2, hw2⟩ : ∃ W, W = w1.alloc (.map #[] 0) := ⟨_, rfl⟩
    have hb2 : Below w1.heap.size w1 w2 := by rw [hw2]; exact (Below.refl _ _).alloc (Nat.le_refl _) _
    have hM : MVw w1.heap.size [] w2 := by rw [hw2]; exact MVw.new w1
    have HP2 := Lib.hid (hP.later hb2)
    have HB2 := Lib.hid (below_of hb hb2)
    have HM2 := Lib.hid hM
    have HPG : Hid (w.heap.size < w1.heap.size) := by
      have : w.heap.size < w1.heap.size := hP.lt
      exact this
    have HW2 := Lib.hid hw2
    have HV := Lib.hid (viewW HP2.out (by decide))
    clear hP hb hb2 hM k1 hw2
    go_wp2_with fail
    clear hmm
    rw [← HW2.out]
    refine HV.out.mono ?_
    rintro e w3 ⟨rfl, hb⟩
    obtain ⟨w4, hw4⟩ : ∃ W, W = w3.alloc (.cells #[.int .i64 0, .int .u64 5, .int .u64 1, .int .u64 0, .int .u64 0, .int .i64 0] 40) := ⟨_, rfl⟩
    have hb4 : Below w2.heap.size w2 w4 := by rw [hw4]; exact hb.alloc hb.size _
    have HT : Hid (TgW w.heap.size w1.heap.size w3.heap.size (newA 1 5) [] w w4) := by
      have : TgW w.heap.size w1.heap.size w3.heap.size (newA 1 5) [] w w4 := ⟨HP2.out.later hb4, HM2.out.later hb4, by rw [hw4]; exact BlkAt.new w3 _, below_of HB2.out hb4, by simp⟩
      exact this
    have HGL : Hid (w1.heap.size < w3.heap.size) := by
      have : w1.heap.size < w3.heap.size := Nat.lt_of_lt_of_le HM2.out.lt hb.size
      exact this
    have HW4 := Lib.hid hw4
    obtain ⟨p, hp⟩ : ∃ p, p = w.heap.size := ⟨_, rfl⟩
    obtain ⟨g, hg⟩ : ∃ g, g = w1.heap.size := ⟨_, rfl⟩
    have HPW : Hid (w.heap.size ≤ p) := by
      have : w.heap.size ≤ p := by rw [hp]; exact Nat.le_refl _
      exact this
    have HBD : Hid (Bd (newA 1 5) 0) := by
      have : Bd (newA 1 5) 0 := ⟨inv_new 1 5 (by omega), rfl, by decide, by decide, ⟨by decide, by decide, by decide, by decide⟩, by decide, by decide⟩
      exact this
    clear hb hb4 hw4
    go_wp2_with fail
    rw [show (newA 1 5).v.st = 0 from rfl, show (newA 1 5).v.mb = 5 from rfl, show (newA 1 5).v.mt = 1 from rfl, show (newA 1 5).v.tb = 0 from rfl, show (newA 1 5).v.tt = 0 from rfl, show (newA 1 5).v.n = 0 from rfl]
    rw [← HW4.out, ← hg, ← hp]
    rw [← hg, ← hp] at HT
    rw [← hg] at HGL
    rw [← hg, ← hp] at HPG
    clear hp hg
    obtain ⟨L, hL⟩ : ∃ L, L = w3.heap.size := ⟨_, rfl⟩
    rw [← hL]
    rw [← hL] at HT HGL
    clear hL
    go_loopw [7] (fun x wr => ∃ (i : Nat) (a : Ad) (S : List Vw), i ≤ l.length ∧ x = .int .i64 i ∧ Hid (TgW p g L a S w wr) ∧ Hid (Bd a i)) (fun x _ => l.length - (intOf x).toNat)
    case atStart => exact ⟨0, _, _, Nat.zero_le _, rfl, HT, HBD⟩
    case round =>
      obtain ⟨i, a, S, hi, rfl, HT, HBD⟩ := hrel
      cases hx : l[i]? with
      | none =>
        have e : i = l.length := by have := List.getElem?_eq_none_iff.1 hx; omega
        subst e
        clear hx hi
        go_wp2_with fail
        refine (knownA _).mono ?_
        rintro e w4 ⟨rfl, hb⟩
        have HBz := Lib.hid (below_of HT.out.hb hb)
        clear hb
        go_wp2_with fail
        go_ret
        exact ⟨rfl, HBz.out⟩
      | some c =>
        obtain ⟨b, o, rfl, hlt, hc⟩ := HL.out.at hx
        have k0 : (i : Int) < l.length := by have := (List.getElem?_eq_some_iff.1 hx).1; omega
        have HI : Hid (i < l.length) := (List.getElem?_eq_some_iff.1 hx).1
        have HOK := Lib.hid (HK.out c (List.mem_of_getElem? hx))
        have HC : Hid (∀ (W : World) (j : Nat) (u : Value), Below w.heap.size w W → c.cs[j]? = some u → W.cell? ⟨b, o + i * 6 + j, none⟩ = some u) := by
          have : ∀ (W : World) (j : Nat) (u : Value), Below w.heap.size w W → c.cs[j]? = some u → W.cell? ⟨b, o + i * 6 + j, none⟩ = some u := fun W j u h1 h2 => old_cell h1 hlt (hc j u h2)
          exact this
        have HLT := Lib.hid hlt
        clear hc hx hlt
        have c0 := HC.out wr 0 _ HT.out.hb rfl
        rw [Nat.add_zero] at c0
        by_cases k1 : c.k = 1
        · have t1 : (c.k == 1) = true := beq_iff_eq.2 k1
          obtain ⟨a', ha'⟩ : ∃ a', a' = actA a c 0 := ⟨_, rfl⟩
          obtain ⟨hbd, hst, hel⟩ := step_act HBD.out (by have := HI.out; have := HLN.out; omega) c HOK.out 0
          rw [← ha'] at hbd hst hel
          have HBD' := Lib.hid hbd
          have HST := Lib.hid hst
          have HE := Lib.hid (hel k1)
          have HST0 : Hid (a'.v ≠ a.v → 0 < a'.v.st) := by
            have : a'.v ≠ a.v → 0 < a'.v.st := by rw [ha', show actA a c 0 = hearA a c.h from if_pos k1]; exact hear_st HBD.out.inv c.h
            exact this
          rw [show actA a c 0 = hearA a c.h from if_pos k1] at ha'
          have HH := Lib.hid (hearT HT.out.pa HBD.out.inv c.h)
          rw [← ha'] at HH
          clear hbd hst hel ha'
          have g1 := HC.out wr 1 _ HT.out.hb rfl
          have g2 := HC.out wr 2 _ HT.out.hb rfl
          have g3 := HC.out wr 3 _ HT.out.hb rfl
          have g4 := HC.out wr 4 _ HT.out.hb rfl
          have g5 := HC.out wr 5 _ HT.out.hb rfl
          clear k1
          go_wp2_with fail
          refine HH.out.mono ?_
          rintro e w4 ⟨⟨ev, er, rfl⟩, hP, hC⟩
          have HP4 := Lib.hid hP
          have HC4 := Lib.hid hC
          clear hP hC HH c0 g1 g2 g3 g4 g5
          have HV := Lib.hid (viewW HP4.out HBD'.out.inv.nz)
          go_wp2_with fail
          refine HV.out.mono ?_
          rintro e w5 ⟨rfl, hb⟩
          obtain ⟨w6, hw6⟩ : ∃ W, W = w5.alloc (.cells #[.int .i64 a'.v.st, .int .u64 a'.v.mb, .int .u64 a'.v.mt, .int .u64 a'.v.tb, .int .u64 a'.v.tt, .int .i64 a'.v.n] 40) := ⟨_, rfl⟩
          have hb6 : Below w4.heap.size w4 w6 := by rw [hw6]; exact hb.alloc hb.size _
          have HN : Hid (TgN p g L w5.heap.size a a' S w w6) := by
            have : TgN p g L w5.heap.size a a' S w w6 := HT.out.next HP4.out HC4.out hb6 HPW.out HPG.out HGL.out (by rw [hw6]; exact BlkAt.new w5 _)
            exact this
          have HL5 : Hid (L < w5.heap.size) := by
            have : L < w5.heap.size := by have := HC4.out.size; have := hb.size; have := BlkAt.lt HT.out.lv; omega
            exact this
          have HW6 := Lib.hid hw6
          have HKN := Lib.hid (HBD'.out.key (by have := HI.out; have := HLN.out; omega))
          have HKL := Lib.hid (HBD.out.key (by have := HI.out; have := HLN.out; omega))
          have HLS : Hid (∀ u ∈ S, lt4 u a'.v) := by
            have : ∀ u ∈ S, lt4 u a'.v := fun u hu => by
              rcases HST.out.up with e | e
              · rw [e]; exact HT.out.lt u hu
              · exact (HT.out.lt u hu).trans e
            exact this
          have HNL : Hid (a.v ∉ S) := by
            have : a.v ∉ S := fun hu => (HT.out.lt _ hu).irrefl
            exact this
          have HNN : Hid (a'.v ∉ S) := by
            have : a'.v ∉ S := fun hu => (HLS.out _ hu).irrefl
            exact this
          have f0 : (a'.v.mb != 5) = false := by simp [HBD'.out.mb]
          have f1 : decide (a'.v.mt < a.v.mt) = false := decide_eq_false (by have := HST.out.m0; omega)
          clear hb hb6 hw6 HV
          (try dsimp only)
          go_at_K
          go_step; go_step; go_step; go_step; go_step; go_step
          rw [← HW6.out]
          by_cases hsame : a'.v = a.v
          · have b2 : sameVI a'.v.st a'.v.mb a'.v.mt a'.v.tb a'.v.tt a'.v.n a.v.st a.v.mb a.v.mt a.v.tb a.v.tt a.v.n = true := by rw [hsame]; exact sameVI_iff.2 ⟨rfl, rfl, rfl, rfl, rfl, rfl⟩
            have e1 : a'.v.st = a.v.st := by rw [hsame]
            have d3 : (a'.v.n == a.v.n) = true := beq_iff_eq.2 (by rw [hsame])
            have d4 : sameTI a'.v.tb a'.v.tt a.v.tb a.v.tt = true := sameTI_iff.2 (by rw [hsame]; exact ⟨rfl, rfl⟩)
            by_cases q3 : a.v.st = 2
            · have b3 : (a.v.st == 2) = true := beq_iff_eq.2 q3
              have b1 : (a'.v.st == 2) = true := beq_iff_eq.2 (by omega)
              have d1 : decide (0 < a.v.st) = true := decide_eq_true (by omega)
              have d2 : decide (0 < a'.v.st) = true := decide_eq_true (by omega)
              clear hsame e1 q3
              have hN := HN.out
              have hl6 := hN.lv
              have hn6 := hN.nv
              have hb6 := hN.hb
              have l0 := BlkAt.cell hl6 (j := 0) rfl; have l1 := BlkAt.cell hl6 (j := 1) rfl; have l2 := BlkAt.cell hl6 (j := 2) rfl; have l3 := BlkAt.cell hl6 (j := 3) rfl; have l4 := BlkAt.cell hl6 (j := 4) rfl; have l5 := BlkAt.cell hl6 (j := 5) rfl
              have n0 := BlkAt.cell hn6 (j := 0) rfl; have n1 := BlkAt.cell hn6 (j := 1) rfl; have n2 := BlkAt.cell hn6 (j := 2) rfl; have n3 := BlkAt.cell hn6 (j := 3) rfl; have n4 := BlkAt.cell hn6 (j := 4) rfl; have n5 := BlkAt.cell hn6 (j := 5) rfl
              have c6 := HC.out w6 0 _ hb6 rfl
              rw [Nat.add_zero] at c6
              have hfz : ∀ j, w6.frozen? ⟨L, j, none⟩ = false := fun j => BlkAt.frozen hl6 j
              clear hN hl6 hn6 hb6
              go_wp2_with fail
              obtain ⟨z, hz⟩ : ∃ W, W = (((((w6.setCell ⟨L, 0, none⟩ (.int .i64 a'.v.st)).setCell ⟨L, 1, none⟩ (.int .u64 a'.v.mb)).setCell ⟨L, 2, none⟩ (.int .u64 a'.v.mt)).setCell ⟨L, 3, none⟩ (.int .u64 a'.v.tb)).setCell ⟨L, 4, none⟩ (.int .u64 a'.v.tt)).setCell ⟨L, 5, none⟩ (.int .i64 a'.v.n) := ⟨_, rfl⟩
              rw [← hz]
              have HTz : Hid (TgW p g L a' S w z) := by
                have : TgW p g L a' S w z := by
                  rw [hz]; exact TgN.fin HN.out HLS.out HPW.out HPG.out HGL.out
                exact this
              clear hz
              go_roundw
              case rel => exact ⟨i + 1, _, _, by have := HI.out; omega, by go_num, HTz, HBD'⟩
              case measure => simp [intOf]; have := HI.out; omega
            · have b3 : (a.v.st == 2) = false := beq_eq_false_iff_ne.2 q3
              have b1 : (a'.v.st == 2) = false := beq_eq_false_iff_ne.2 (by omega)
              by_cases q1 : 0 < a.v.st
              · have d1 : decide (0 < a.v.st) = true := decide_eq_true q1
                have d2 : decide (0 < a'.v.st) = true := decide_eq_true (by omega)
                clear hsame e1 q3 q1
                have hN := HN.out
                have hl6 := hN.lv
                have hn6 := hN.nv
                have hb6 := hN.hb
                have l0 := BlkAt.cell hl6 (j := 0) rfl; have l1 := BlkAt.cell hl6 (j := 1) rfl; have l2 := BlkAt.cell hl6 (j := 2) rfl; have l3 := BlkAt.cell hl6 (j := 3) rfl; have l4 := BlkAt.cell hl6 (j := 4) rfl; have l5 := BlkAt.cell hl6 (j := 5) rfl
                have n0 := BlkAt.cell hn6 (j := 0) rfl; have n1 := BlkAt.cell hn6 (j := 1) rfl; have n2 := BlkAt.cell hn6 (j := 2) rfl; have n3 := BlkAt.cell hn6 (j := 3) rfl; have n4 := BlkAt.cell hn6 (j := 4) rfl; have n5 := BlkAt.cell hn6 (j := 5) rfl
                have c6 := HC.out w6 0 _ hb6 rfl
                rw [Nat.add_zero] at c6
                have hfz : ∀ j, w6.frozen? ⟨L, j, none⟩ = false := fun j => BlkAt.frozen hl6 j
                clear hN hl6 hn6 hb6
                go_wp2_with fail
                obtain ⟨z, hz⟩ : ∃ W, W = (((((w6.setCell ⟨L, 0, none⟩ (.int .i64 a'.v.st)).setCell ⟨L, 1, none⟩ (.int .u64 a'.v.mb)).setCell ⟨L, 2, none⟩ (.int .u64 a'.v.mt)).setCell ⟨L, 3, none⟩ (.int .u64 a'.v.tb)).setCell ⟨L, 4, none⟩ (.int .u64 a'.v.tt)).setCell ⟨L, 5, none⟩ (.int .i64 a'.v.n) := ⟨_, rfl⟩
                rw [← hz]
                have HTz : Hid (TgW p g L a' S w z) := by
                  have : TgW p g L a' S w z := by
                    rw [hz]; exact TgN.fin HN.out HLS.out HPW.out HPG.out HGL.out
                  exact this
                clear hz
                go_roundw
                case rel => exact ⟨i + 1, _, _, by have := HI.out; omega, by go_num, HTz, HBD'⟩
                case measure => simp [intOf]; have := HI.out; omega
              · have d1 : decide (0 < a.v.st) = false := decide_eq_false q1
                clear hsame e1 q3 q1
                have hN := HN.out
                have hl6 := hN.lv
                have hn6 := hN.nv
                have hb6 := hN.hb
                have l0 := BlkAt.cell hl6 (j := 0) rfl; have l1 := BlkAt.cell hl6 (j := 1) rfl; have l2 := BlkAt.cell hl6 (j := 2) rfl; have l3 := BlkAt.cell hl6 (j := 3) rfl; have l4 := BlkAt.cell hl6 (j := 4) rfl; have l5 := BlkAt.cell hl6 (j := 5) rfl
                have n0 := BlkAt.cell hn6 (j := 0) rfl; have n1 := BlkAt.cell hn6 (j := 1) rfl; have n2 := BlkAt.cell hn6 (j := 2) rfl; have n3 := BlkAt.cell hn6 (j := 3) rfl; have n4 := BlkAt.cell hn6 (j := 4) rfl; have n5 := BlkAt.cell hn6 (j := 5) rfl
                have c6 := HC.out w6 0 _ hb6 rfl
                rw [Nat.add_zero] at c6
                have hfz : ∀ j, w6.frozen? ⟨L, j, none⟩ = false := fun j => BlkAt.frozen hl6 j
                clear hN hl6 hn6 hb6
                go_wp2_with fail
                obtain ⟨z, hz⟩ : ∃ W, W = (((((w6.setCell ⟨L, 0, none⟩ (.int .i64 a'.v.st)).setCell ⟨L, 1, none⟩ (.int .u64 a'.v.mb)).setCell ⟨L, 2, none⟩ (.int .u64 a'.v.mt)).setCell ⟨L, 3, none⟩ (.int .u64 a'.v.tb)).setCell ⟨L, 4, none⟩ (.int .u64 a'.v.tt)).setCell ⟨L, 5, none⟩ (.int .i64 a'.v.n) := ⟨_, rfl⟩
                rw [← hz]
                have HTz : Hid (TgW p g L a' S w z) := by
                  have : TgW p g L a' S w z := by
                    rw [hz]; exact TgN.fin HN.out HLS.out HPW.out HPG.out HGL.out
                  exact this
                clear hz
                go_roundw
                case rel => exact ⟨i + 1, _, _, by have := HI.out; omega, by go_num, HTz, HBD'⟩
                case measure => simp [intOf]; have := HI.out; omega
          · have b2 : sameVI a'.v.st a'.v.mb a'.v.mt a'.v.tb a'.v.tt a'.v.n a.v.st a.v.mb a.v.mt a.v.tb a.v.tt a.v.n = false := Bool.eq_false_iff.2 fun q => hsame (sameVw_iff.1 q)
            have HZD : Hid (a'.v ≠ a.v) := hsame
            have HLU : Hid (∀ u ∈ S ++ [a.v], lt4 u a'.v) := by
              have : ∀ u ∈ S ++ [a.v], lt4 u a'.v := fun u hu => by
                have hup : lt4 a.v a'.v := by rcases HST.out.up with e | e; exact absurd e hsame; exact e
                rcases List.mem_append.1 hu with hu | hu
                · exact (HT.out.lt u hu).trans hup
                · rw [List.mem_singleton.1 hu]; exact hup
              exact this
            clear hsame
            by_cases q1 : a'.v.st = 2
            · have b1 : (a'.v.st == 2) = true := beq_iff_eq.2 q1
              by_cases q3 : a.v.st = 2
              · have b3 : (a.v.st == 2) = true := beq_iff_eq.2 q3
                have q4 : 0 < a.v.st := by omega
                have d1 : decide (0 < a.v.st) = true := decide_eq_true q4
                have q5 : 0 < a'.v.st := by omega
                have d2 : decide (0 < a'.v.st) = true := decide_eq_true q5
                by_cases q6 : a'.v.n = a.v.n
                rotate_left
                · skip
                  have d3 : (a'.v.n == a.v.n) = false := beq_eq_false_iff_ne.2 q6
                  clear q1 q3 q4 q5 q6
                  have hN := HN.out
                  have hl6 := hN.lv
                  have hn6 := hN.nv
                  have hb6 := hN.hb
                  have l0 := BlkAt.cell hl6 (j := 0) rfl; have l1 := BlkAt.cell hl6 (j := 1) rfl; have l2 := BlkAt.cell hl6 (j := 2) rfl; have l3 := BlkAt.cell hl6 (j := 3) rfl; have l4 := BlkAt.cell hl6 (j := 4) rfl; have l5 := BlkAt.cell hl6 (j := 5) rfl
                  have n0 := BlkAt.cell hn6 (j := 0) rfl; have n1 := BlkAt.cell hn6 (j := 1) rfl; have n2 := BlkAt.cell hn6 (j := 2) rfl; have n3 := BlkAt.cell hn6 (j := 3) rfl; have n4 := BlkAt.cell hn6 (j := 4) rfl; have n5 := BlkAt.cell hn6 (j := 5) rfl
                  have c6 := HC.out w6 0 _ hb6 rfl
                  rw [Nat.add_zero] at c6
                  have hlk : (Instr.lookup 46 (.map (some g)) (.agg #[.int .i64 a'.v.st, .int .u64 a'.v.mb, .int .u64 a'.v.mt, .int .u64 a'.v.tb, .int .u64 a'.v.tt, .int .i64 a'.v.n]) false).run Try.prog w6 = .ok (.agg #[.bool false]) w6 := run_lookV Try.underlying46 zero_is hN.mp HKN.out HNN.out
                  obtain ⟨w7, hup, hm7, hc7⟩ := run_updV Try.underlying46 hN.mp HKL.out HNL.out (.agg #[.bool true])
                  unfold vv at hup
                  have hN7 := hN.over hc7 hm7 HPW.out HPG.out HGL.out HL5.out
                  have HN7 := Lib.hid hN7
                  have hl7 := hN7.lv
                  have hn7 := hN7.nv
                  have hb7 := hN7.hb
                  have m0 := BlkAt.cell hl7 (j := 0) rfl; have m1 := BlkAt.cell hl7 (j := 1) rfl; have m2 := BlkAt.cell hl7 (j := 2) rfl; have m3 := BlkAt.cell hl7 (j := 3) rfl; have m4 := BlkAt.cell hl7 (j := 4) rfl; have m5 := BlkAt.cell hl7 (j := 5) rfl
                  have q0 := BlkAt.cell hn7 (j := 0) rfl; have q1 := BlkAt.cell hn7 (j := 1) rfl; have q2 := BlkAt.cell hn7 (j := 2) rfl; have q3 := BlkAt.cell hn7 (j := 3) rfl; have q4 := BlkAt.cell hn7 (j := 4) rfl; have q5 := BlkAt.cell hn7 (j := 5) rfl
                  have c7 := HC.out w7 0 _ hb7 rfl
                  rw [Nat.add_zero] at c7
                  have hfz : ∀ j, w7.frozen? ⟨L, j, none⟩ = false := fun j => BlkAt.frozen hl7 j
                  clear hN hl6 hn6 hb6 hm7 hc7 hN7 hl7 hn7 hb7
                  go_wp2_with fail
                  obtain ⟨z, hz⟩ : ∃ W, W = (((((w7.setCell ⟨L, 0, none⟩ (.int .i64 a'.v.st)).setCell ⟨L, 1, none⟩ (.int .u64 a'.v.mb)).setCell ⟨L, 2, none⟩ (.int .u64 a'.v.mt)).setCell ⟨L, 3, none⟩ (.int .u64 a'.v.tb)).setCell ⟨L, 4, none⟩ (.int .u64 a'.v.tt)).setCell ⟨L, 5, none⟩ (.int .i64 a'.v.n) := ⟨_, rfl⟩
                  rw [← hz]
                  have HTz : Hid (TgW p g L a' (S ++ [a.v]) w z) := by
                    have : TgW p g L a' (S ++ [a.v]) w z := by
                      rw [hz]; exact TgN.fin HN7.out HLU.out HPW.out HPG.out HGL.out
                    exact this
                  clear hz
                  go_roundw
                  case rel => exact ⟨i + 1, _, _, by have := HI.out; omega, by go_num, HTz, HBD'⟩
                  case measure => simp [intOf]; have := HI.out; omega
                have d3 : (a'.v.n == a.v.n) = true := beq_iff_eq.2 q6
                have hel := of_decide_eq_false (HE.out q4 q5 q6)
                cases d4 : sameTI a'.v.tb a'.v.tt a.v.tb a.v.tt with
                | true =>
                  clear q1 q3 q4 q5 q6 hel
                  have hN := HN.out
                  have hl6 := hN.lv
                  have hn6 := hN.nv
                  have hb6 := hN.hb
                  have l0 := BlkAt.cell hl6 (j := 0) rfl; have l1 := BlkAt.cell hl6 (j := 1) rfl; have l2 := BlkAt.cell hl6 (j := 2) rfl; have l3 := BlkAt.cell hl6 (j := 3) rfl; have l4 := BlkAt.cell hl6 (j := 4) rfl; have l5 := BlkAt.cell hl6 (j := 5) rfl
                  have n0 := BlkAt.cell hn6 (j := 0) rfl; have n1 := BlkAt.cell hn6 (j := 1) rfl; have n2 := BlkAt.cell hn6 (j := 2) rfl; have n3 := BlkAt.cell hn6 (j := 3) rfl; have n4 := BlkAt.cell hn6 (j := 4) rfl; have n5 := BlkAt.cell hn6 (j := 5) rfl
                  have c6 := HC.out w6 0 _ hb6 rfl
                  rw [Nat.add_zero] at c6
                  have hlk : (Instr.lookup 46 (.map (some g)) (.agg #[.int .i64 a'.v.st, .int .u64 a'.v.mb, .int .u64 a'.v.mt, .int .u64 a'.v.tb, .int .u64 a'.v.tt, .int .i64 a'.v.n]) false).run Try.prog w6 = .ok (.agg #[.bool false]) w6 := run_lookV Try.underlying46 zero_is hN.mp HKN.out HNN.out
                  obtain ⟨w7, hup, hm7, hc7⟩ := run_updV Try.underlying46 hN.mp HKL.out HNL.out (.agg #[.bool true])
                  unfold vv at hup
                  have hN7 := hN.over hc7 hm7 HPW.out HPG.out HGL.out HL5.out
                  have HN7 := Lib.hid hN7
                  have hl7 := hN7.lv
                  have hn7 := hN7.nv
                  have hb7 := hN7.hb
                  have m0 := BlkAt.cell hl7 (j := 0) rfl; have m1 := BlkAt.cell hl7 (j := 1) rfl; have m2 := BlkAt.cell hl7 (j := 2) rfl; have m3 := BlkAt.cell hl7 (j := 3) rfl; have m4 := BlkAt.cell hl7 (j := 4) rfl; have m5 := BlkAt.cell hl7 (j := 5) rfl
                  have q0 := BlkAt.cell hn7 (j := 0) rfl; have q1 := BlkAt.cell hn7 (j := 1) rfl; have q2 := BlkAt.cell hn7 (j := 2) rfl; have q3 := BlkAt.cell hn7 (j := 3) rfl; have q4 := BlkAt.cell hn7 (j := 4) rfl; have q5 := BlkAt.cell hn7 (j := 5) rfl
                  have c7 := HC.out w7 0 _ hb7 rfl
                  rw [Nat.add_zero] at c7
                  have hfz : ∀ j, w7.frozen? ⟨L, j, none⟩ = false := fun j => BlkAt.frozen hl7 j
                  clear hN hl6 hn6 hb6 hm7 hc7 hN7 hl7 hn7 hb7
                  go_wp2_with fail
                  obtain ⟨z, hz⟩ : ∃ W, W = (((((w7.setCell ⟨L, 0, none⟩ (.int .i64 a'.v.st)).setCell ⟨L, 1, none⟩ (.int .u64 a'.v.mb)).setCell ⟨L, 2, none⟩ (.int .u64 a'.v.mt)).setCell ⟨L, 3, none⟩ (.int .u64 a'.v.tb)).setCell ⟨L, 4, none⟩ (.int .u64 a'.v.tt)).setCell ⟨L, 5, none⟩ (.int .i64 a'.v.n) := ⟨_, rfl⟩
                  rw [← hz]
                  have HTz : Hid (TgW p g L a' (S ++ [a.v]) w z) := by
                    have : TgW p g L a' (S ++ [a.v]) w z := by
                      rw [hz]; exact TgN.fin HN7.out HLU.out HPW.out HPG.out HGL.out
                    exact this
                  clear hz
                  go_roundw
                  case rel => exact ⟨i + 1, _, _, by have := HI.out; omega, by go_num, HTz, HBD'⟩
                  case measure => simp [intOf]; have := HI.out; omega
                | false =>
                  have e1 : decide (a'.v.tb < a.v.tb) = false := decide_eq_false (by omega)
                  by_cases q7 : a'.v.tb = a.v.tb
                  · have e2 : (a'.v.tb == a.v.tb) = true := beq_iff_eq.2 q7
                    have e3 : decide (a'.v.tt < a.v.tt) = false := decide_eq_false (by omega)
                    clear q1 q3 q4 q5 q6 q7 hel
                    have hN := HN.out
                    have hl6 := hN.lv
                    have hn6 := hN.nv
                    have hb6 := hN.hb
                    have l0 := BlkAt.cell hl6 (j := 0) rfl; have l1 := BlkAt.cell hl6 (j := 1) rfl; have l2 := BlkAt.cell hl6 (j := 2) rfl; have l3 := BlkAt.cell hl6 (j := 3) rfl; have l4 := BlkAt.cell hl6 (j := 4) rfl; have l5 := BlkAt.cell hl6 (j := 5) rfl
                    have n0 := BlkAt.cell hn6 (j := 0) rfl; have n1 := BlkAt.cell hn6 (j := 1) rfl; have n2 := BlkAt.cell hn6 (j := 2) rfl; have n3 := BlkAt.cell hn6 (j := 3) rfl; have n4 := BlkAt.cell hn6 (j := 4) rfl; have n5 := BlkAt.cell hn6 (j := 5) rfl
                    have c6 := HC.out w6 0 _ hb6 rfl
                    rw [Nat.add_zero] at c6
                    have hlk : (Instr.lookup 46 (.map (some g)) (.agg #[.int .i64 a'.v.st, .int .u64 a'.v.mb, .int .u64 a'.v.mt, .int .u64 a'.v.tb, .int .u64 a'.v.tt, .int .i64 a'.v.n]) false).run Try.prog w6 = .ok (.agg #[.bool false]) w6 := run_lookV Try.underlying46 zero_is hN.mp HKN.out HNN.out
                    obtain ⟨w7, hup, hm7, hc7⟩ := run_updV Try.underlying46 hN.mp HKL.out HNL.out (.agg #[.bool true])
                    unfold vv at hup
                    have hN7 := hN.over hc7 hm7 HPW.out HPG.out HGL.out HL5.out
                    have HN7 := Lib.hid hN7
                    have hl7 := hN7.lv
                    have hn7 := hN7.nv
                    have hb7 := hN7.hb
                    have m0 := BlkAt.cell hl7 (j := 0) rfl; have m1 := BlkAt.cell hl7 (j := 1) rfl; have m2 := BlkAt.cell hl7 (j := 2) rfl; have m3 := BlkAt.cell hl7 (j := 3) rfl; have m4 := BlkAt.cell hl7 (j := 4) rfl; have m5 := BlkAt.cell hl7 (j := 5) rfl
                    have q0 := BlkAt.cell hn7 (j := 0) rfl; have q1 := BlkAt.cell hn7 (j := 1) rfl; have q2 := BlkAt.cell hn7 (j := 2) rfl; have q3 := BlkAt.cell hn7 (j := 3) rfl; have q4 := BlkAt.cell hn7 (j := 4) rfl; have q5 := BlkAt.cell hn7 (j := 5) rfl
                    have c7 := HC.out w7 0 _ hb7 rfl
                    rw [Nat.add_zero] at c7
                    have hfz : ∀ j, w7.frozen? ⟨L, j, none⟩ = false := fun j => BlkAt.frozen hl7 j
                    clear hN hl6 hn6 hb6 hm7 hc7 hN7 hl7 hn7 hb7
                    go_wp2_with fail
                    obtain ⟨z, hz⟩ : ∃ W, W = (((((w7.setCell ⟨L, 0, none⟩ (.int .i64 a'.v.st)).setCell ⟨L, 1, none⟩ (.int .u64 a'.v.mb)).setCell ⟨L, 2, none⟩ (.int .u64 a'.v.mt)).setCell ⟨L, 3, none⟩ (.int .u64 a'.v.tb)).setCell ⟨L, 4, none⟩ (.int .u64 a'.v.tt)).setCell ⟨L, 5, none⟩ (.int .i64 a'.v.n) := ⟨_, rfl⟩
                    rw [← hz]
                    have HTz : Hid (TgW p g L a' (S ++ [a.v]) w z) := by
                      have : TgW p g L a' (S ++ [a.v]) w z := by
                        rw [hz]; exact TgN.fin HN7.out HLU.out HPW.out HPG.out HGL.out
                      exact this
                    clear hz
                    go_roundw
                    case rel => exact ⟨i + 1, _, _, by have := HI.out; omega, by go_num, HTz, HBD'⟩
                    case measure => simp [intOf]; have := HI.out; omega
                  · have e2 : (a'.v.tb == a.v.tb) = false := beq_eq_false_iff_ne.2 q7
                    clear q1 q3 q4 q5 q6 q7 hel
                    have hN := HN.out
                    have hl6 := hN.lv
                    have hn6 := hN.nv
                    have hb6 := hN.hb
                    have l0 := BlkAt.cell hl6 (j := 0) rfl; have l1 := BlkAt.cell hl6 (j := 1) rfl; have l2 := BlkAt.cell hl6 (j := 2) rfl; have l3 := BlkAt.cell hl6 (j := 3) rfl; have l4 := BlkAt.cell hl6 (j := 4) rfl; have l5 := BlkAt.cell hl6 (j := 5) rfl
                    have n0 := BlkAt.cell hn6 (j := 0) rfl; have n1 := BlkAt.cell hn6 (j := 1) rfl; have n2 := BlkAt.cell hn6 (j := 2) rfl; have n3 := BlkAt.cell hn6 (j := 3) rfl; have n4 := BlkAt.cell hn6 (j := 4) rfl; have n5 := BlkAt.cell hn6 (j := 5) rfl
                    have c6 := HC.out w6 0 _ hb6 rfl
                    rw [Nat.add_zero] at c6
                    have hlk : (Instr.lookup 46 (.map (some g)) (.agg #[.int .i64 a'.v.st, .int .u64 a'.v.mb, .int .u64 a'.v.mt, .int .u64 a'.v.tb, .int .u64 a'.v.tt, .int .i64 a'.v.n]) false).run Try.prog w6 = .ok (.agg #[.bool false]) w6 := run_lookV Try.underlying46 zero_is hN.mp HKN.out HNN.out
                    obtain ⟨w7, hup, hm7, hc7⟩ := run_updV Try.underlying46 hN.mp HKL.out HNL.out (.agg #[.bool true])
                    unfold vv at hup
                    have hN7 := hN.over hc7 hm7 HPW.out HPG.out HGL.out HL5.out
                    have HN7 := Lib.hid hN7
                    have hl7 := hN7.lv
                    have hn7 := hN7.nv
                    have hb7 := hN7.hb
                    have m0 := BlkAt.cell hl7 (j := 0) rfl; have m1 := BlkAt.cell hl7 (j := 1) rfl; have m2 := BlkAt.cell hl7 (j := 2) rfl; have m3 := BlkAt.cell hl7 (j := 3) rfl; have m4 := BlkAt.cell hl7 (j := 4) rfl; have m5 := BlkAt.cell hl7 (j := 5) rfl
                    have q0 := BlkAt.cell hn7 (j := 0) rfl; have q1 := BlkAt.cell hn7 (j := 1) rfl; have q2 := BlkAt.cell hn7 (j := 2) rfl; have q3 := BlkAt.cell hn7 (j := 3) rfl; have q4 := BlkAt.cell hn7 (j := 4) rfl; have q5 := BlkAt.cell hn7 (j := 5) rfl
                    have c7 := HC.out w7 0 _ hb7 rfl
                    rw [Nat.add_zero] at c7
                    have hfz : ∀ j, w7.frozen? ⟨L, j, none⟩ = false := fun j => BlkAt.frozen hl7 j
                    clear hN hl6 hn6 hb6 hm7 hc7 hN7 hl7 hn7 hb7
                    go_wp2_with fail
                    obtain ⟨z, hz⟩ : ∃ W, W = (((((w7.setCell ⟨L, 0, none⟩ (.int .i64 a'.v.st)).setCell ⟨L, 1, none⟩ (.int .u64 a'.v.mb)).setCell ⟨L, 2, none⟩ (.int .u64 a'.v.mt)).setCell ⟨L, 3, none⟩ (.int .u64 a'.v.tb)).setCell ⟨L, 4, none⟩ (.int .u64 a'.v.tt)).setCell ⟨L, 5, none⟩ (.int .i64 a'.v.n) := ⟨_, rfl⟩
                    rw [← hz]
                    have HTz : Hid (TgW p g L a' (S ++ [a.v]) w z) := by
                      have : TgW p g L a' (S ++ [a.v]) w z := by
                        rw [hz]; exact TgN.fin HN7.out HLU.out HPW.out HPG.out HGL.out
                      exact this
                    clear hz
                    go_roundw
                    case rel => exact ⟨i + 1, _, _, by have := HI.out; omega, by go_num, HTz, HBD'⟩
                    case measure => simp [intOf]; have := HI.out; omega
              · have b3 : (a.v.st == 2) = false := beq_eq_false_iff_ne.2 q3
                by_cases q4 : 0 < a.v.st
                rotate_left
                · skip
                  have d1 : decide (0 < a.v.st) = false := decide_eq_false q4
                  clear q1 q3 q4
                  have hN := HN.out
                  have hl6 := hN.lv
                  have hn6 := hN.nv
                  have hb6 := hN.hb
                  have l0 := BlkAt.cell hl6 (j := 0) rfl; have l1 := BlkAt.cell hl6 (j := 1) rfl; have l2 := BlkAt.cell hl6 (j := 2) rfl; have l3 := BlkAt.cell hl6 (j := 3) rfl; have l4 := BlkAt.cell hl6 (j := 4) rfl; have l5 := BlkAt.cell hl6 (j := 5) rfl
                  have n0 := BlkAt.cell hn6 (j := 0) rfl; have n1 := BlkAt.cell hn6 (j := 1) rfl; have n2 := BlkAt.cell hn6 (j := 2) rfl; have n3 := BlkAt.cell hn6 (j := 3) rfl; have n4 := BlkAt.cell hn6 (j := 4) rfl; have n5 := BlkAt.cell hn6 (j := 5) rfl
                  have c6 := HC.out w6 0 _ hb6 rfl
                  rw [Nat.add_zero] at c6
                  have hlk : (Instr.lookup 46 (.map (some g)) (.agg #[.int .i64 a'.v.st, .int .u64 a'.v.mb, .int .u64 a'.v.mt, .int .u64 a'.v.tb, .int .u64 a'.v.tt, .int .i64 a'.v.n]) false).run Try.prog w6 = .ok (.agg #[.bool false]) w6 := run_lookV Try.underlying46 zero_is hN.mp HKN.out HNN.out
                  have hfz : ∀ j, w6.frozen? ⟨L, j, none⟩ = false := fun j => BlkAt.frozen hl6 j
                  clear hN hl6 hn6 hb6
                  go_wp2_with fail
                  obtain ⟨z, hz⟩ : ∃ W, W = (((((w6.setCell ⟨L, 0, none⟩ (.int .i64 a'.v.st)).setCell ⟨L, 1, none⟩ (.int .u64 a'.v.mb)).setCell ⟨L, 2, none⟩ (.int .u64 a'.v.mt)).setCell ⟨L, 3, none⟩ (.int .u64 a'.v.tb)).setCell ⟨L, 4, none⟩ (.int .u64 a'.v.tt)).setCell ⟨L, 5, none⟩ (.int .i64 a'.v.n) := ⟨_, rfl⟩
                  rw [← hz]
                  have HTz : Hid (TgW p g L a' S w z) := by
                    have : TgW p g L a' S w z := by
                      rw [hz]; exact TgN.fin HN.out HLS.out HPW.out HPG.out HGL.out
                    exact this
                  clear hz
                  go_roundw
                  case rel => exact ⟨i + 1, _, _, by have := HI.out; omega, by go_num, HTz, HBD'⟩
                  case measure => simp [intOf]; have := HI.out; omega
                have d1 : decide (0 < a.v.st) = true := decide_eq_true q4
                have q5 : 0 < a'.v.st := by omega
                have d2 : decide (0 < a'.v.st) = true := decide_eq_true q5
                by_cases q6 : a'.v.n = a.v.n
                rotate_left
                · skip
                  have d3 : (a'.v.n == a.v.n) = false := beq_eq_false_iff_ne.2 q6
                  clear q1 q3 q4 q5 q6
                  have hN := HN.out
                  have hl6 := hN.lv
                  have hn6 := hN.nv
                  have hb6 := hN.hb
                  have l0 := BlkAt.cell hl6 (j := 0) rfl; have l1 := BlkAt.cell hl6 (j := 1) rfl; have l2 := BlkAt.cell hl6 (j := 2) rfl; have l3 := BlkAt.cell hl6 (j := 3) rfl; have l4 := BlkAt.cell hl6 (j := 4) rfl; have l5 := BlkAt.cell hl6 (j := 5) rfl
                  have n0 := BlkAt.cell hn6 (j := 0) rfl; have n1 := BlkAt.cell hn6 (j := 1) rfl; have n2 := BlkAt.cell hn6 (j := 2) rfl; have n3 := BlkAt.cell hn6 (j := 3) rfl; have n4 := BlkAt.cell hn6 (j := 4) rfl; have n5 := BlkAt.cell hn6 (j := 5) rfl
                  have c6 := HC.out w6 0 _ hb6 rfl
                  rw [Nat.add_zero] at c6
                  have hlk : (Instr.lookup 46 (.map (some g)) (.agg #[.int .i64 a'.v.st, .int .u64 a'.v.mb, .int .u64 a'.v.mt, .int .u64 a'.v.tb, .int .u64 a'.v.tt, .int .i64 a'.v.n]) false).run Try.prog w6 = .ok (.agg #[.bool false]) w6 := run_lookV Try.underlying46 zero_is hN.mp HKN.out HNN.out
                  have hfz : ∀ j, w6.frozen? ⟨L, j, none⟩ = false := fun j => BlkAt.frozen hl6 j
                  clear hN hl6 hn6 hb6
                  go_wp2_with fail
                  obtain ⟨z, hz⟩ : ∃ W, W = (((((w6.setCell ⟨L, 0, none⟩ (.int .i64 a'.v.st)).setCell ⟨L, 1, none⟩ (.int .u64 a'.v.mb)).setCell ⟨L, 2, none⟩ (.int .u64 a'.v.mt)).setCell ⟨L, 3, none⟩ (.int .u64 a'.v.tb)).setCell ⟨L, 4, none⟩ (.int .u64 a'.v.tt)).setCell ⟨L, 5, none⟩ (.int .i64 a'.v.n) := ⟨_, rfl⟩
                  rw [← hz]
                  have HTz : Hid (TgW p g L a' S w z) := by
                    have : TgW p g L a' S w z := by
                      rw [hz]; exact TgN.fin HN.out HLS.out HPW.out HPG.out HGL.out
                    exact this
                  clear hz
                  go_roundw
                  case rel => exact ⟨i + 1, _, _, by have := HI.out; omega, by go_num, HTz, HBD'⟩
                  case measure => simp [intOf]; have := HI.out; omega
                have d3 : (a'.v.n == a.v.n) = true := beq_iff_eq.2 q6
                have hel := of_decide_eq_false (HE.out q4 q5 q6)
                cases d4 : sameTI a'.v.tb a'.v.tt a.v.tb a.v.tt with
                | true =>
                  clear q1 q3 q4 q5 q6 hel
                  have hN := HN.out
                  have hl6 := hN.lv
                  have hn6 := hN.nv
                  have hb6 := hN.hb
                  have l0 := BlkAt.cell hl6 (j := 0) rfl; have l1 := BlkAt.cell hl6 (j := 1) rfl; have l2 := BlkAt.cell hl6 (j := 2) rfl; have l3 := BlkAt.cell hl6 (j := 3) rfl; have l4 := BlkAt.cell hl6 (j := 4) rfl; have l5 := BlkAt.cell hl6 (j := 5) rfl
                  have n0 := BlkAt.cell hn6 (j := 0) rfl; have n1 := BlkAt.cell hn6 (j := 1) rfl; have n2 := BlkAt.cell hn6 (j := 2) rfl; have n3 := BlkAt.cell hn6 (j := 3) rfl; have n4 := BlkAt.cell hn6 (j := 4) rfl; have n5 := BlkAt.cell hn6 (j := 5) rfl
                  have c6 := HC.out w6 0 _ hb6 rfl
                  rw [Nat.add_zero] at c6
                  have hlk : (Instr.lookup 46 (.map (some g)) (.agg #[.int .i64 a'.v.st, .int .u64 a'.v.mb, .int .u64 a'.v.mt, .int .u64 a'.v.tb, .int .u64 a'.v.tt, .int .i64 a'.v.n]) false).run Try.prog w6 = .ok (.agg #[.bool false]) w6 := run_lookV Try.underlying46 zero_is hN.mp HKN.out HNN.out
                  have hfz : ∀ j, w6.frozen? ⟨L, j, none⟩ = false := fun j => BlkAt.frozen hl6 j
                  clear hN hl6 hn6 hb6
                  go_wp2_with fail
                  obtain ⟨z, hz⟩ : ∃ W, W = (((((w6.setCell ⟨L, 0, none⟩ (.int .i64 a'.v.st)).setCell ⟨L, 1, none⟩ (.int .u64 a'.v.mb)).setCell ⟨L, 2, none⟩ (.int .u64 a'.v.mt)).setCell ⟨L, 3, none⟩ (.int .u64 a'.v.tb)).setCell ⟨L, 4, none⟩ (.int .u64 a'.v.tt)).setCell ⟨L, 5, none⟩ (.int .i64 a'.v.n) := ⟨_, rfl⟩
                  rw [← hz]
                  have HTz : Hid (TgW p g L a' S w z) := by
                    have : TgW p g L a' S w z := by
                      rw [hz]; exact TgN.fin HN.out HLS.out HPW.out HPG.out HGL.out
                    exact this
                  clear hz
                  go_roundw
                  case rel => exact ⟨i + 1, _, _, by have := HI.out; omega, by go_num, HTz, HBD'⟩
                  case measure => simp [intOf]; have := HI.out; omega
                | false =>
                  have e1 : decide (a'.v.tb < a.v.tb) = false := decide_eq_false (by omega)
                  by_cases q7 : a'.v.tb = a.v.tb
                  · have e2 : (a'.v.tb == a.v.tb) = true := beq_iff_eq.2 q7
                    have e3 : decide (a'.v.tt < a.v.tt) = false := decide_eq_false (by omega)
                    clear q1 q3 q4 q5 q6 q7 hel
                    have hN := HN.out
                    have hl6 := hN.lv
                    have hn6 := hN.nv
                    have hb6 := hN.hb
                    have l0 := BlkAt.cell hl6 (j := 0) rfl; have l1 := BlkAt.cell hl6 (j := 1) rfl; have l2 := BlkAt.cell hl6 (j := 2) rfl; have l3 := BlkAt.cell hl6 (j := 3) rfl; have l4 := BlkAt.cell hl6 (j := 4) rfl; have l5 := BlkAt.cell hl6 (j := 5) rfl
                    have n0 := BlkAt.cell hn6 (j := 0) rfl; have n1 := BlkAt.cell hn6 (j := 1) rfl; have n2 := BlkAt.cell hn6 (j := 2) rfl; have n3 := BlkAt.cell hn6 (j := 3) rfl; have n4 := BlkAt.cell hn6 (j := 4) rfl; have n5 := BlkAt.cell hn6 (j := 5) rfl
                    have c6 := HC.out w6 0 _ hb6 rfl
                    rw [Nat.add_zero] at c6
                    have hlk : (Instr.lookup 46 (.map (some g)) (.agg #[.int .i64 a'.v.st, .int .u64 a'.v.mb, .int .u64 a'.v.mt, .int .u64 a'.v.tb, .int .u64 a'.v.tt, .int .i64 a'.v.n]) false).run Try.prog w6 = .ok (.agg #[.bool false]) w6 := run_lookV Try.underlying46 zero_is hN.mp HKN.out HNN.out
                    have hfz : ∀ j, w6.frozen? ⟨L, j, none⟩ = false := fun j => BlkAt.frozen hl6 j
                    clear hN hl6 hn6 hb6
                    go_wp2_with fail
                    obtain ⟨z, hz⟩ : ∃ W, W = (((((w6.setCell ⟨L, 0, none⟩ (.int .i64 a'.v.st)).setCell ⟨L, 1, none⟩ (.int .u64 a'.v.mb)).setCell ⟨L, 2, none⟩ (.int .u64 a'.v.mt)).setCell ⟨L, 3, none⟩ (.int .u64 a'.v.tb)).setCell ⟨L, 4, none⟩ (.int .u64 a'.v.tt)).setCell ⟨L, 5, none⟩ (.int .i64 a'.v.n) := ⟨_, rfl⟩
                    rw [← hz]
                    have HTz : Hid (TgW p g L a' S w z) := by
                      have : TgW p g L a' S w z := by
                        rw [hz]; exact TgN.fin HN.out HLS.out HPW.out HPG.out HGL.out
                      exact this
                    clear hz
                    go_roundw
                    case rel => exact ⟨i + 1, _, _, by have := HI.out; omega, by go_num, HTz, HBD'⟩
                    case measure => simp [intOf]; have := HI.out; omega
                  · have e2 : (a'.v.tb == a.v.tb) = false := beq_eq_false_iff_ne.2 q7
                    clear q1 q3 q4 q5 q6 q7 hel
                    have hN := HN.out
                    have hl6 := hN.lv
                    have hn6 := hN.nv
                    have hb6 := hN.hb
                    have l0 := BlkAt.cell hl6 (j := 0) rfl; have l1 := BlkAt.cell hl6 (j := 1) rfl; have l2 := BlkAt.cell hl6 (j := 2) rfl; have l3 := BlkAt.cell hl6 (j := 3) rfl; have l4 := BlkAt.cell hl6 (j := 4) rfl; have l5 := BlkAt.cell hl6 (j := 5) rfl
                    have n0 := BlkAt.cell hn6 (j := 0) rfl; have n1 := BlkAt.cell hn6 (j := 1) rfl; have n2 := BlkAt.cell hn6 (j := 2) rfl; have n3 := BlkAt.cell hn6 (j := 3) rfl; have n4 := BlkAt.cell hn6 (j := 4) rfl; have n5 := BlkAt.cell hn6 (j := 5) rfl
                    have c6 := HC.out w6 0 _ hb6 rfl
                    rw [Nat.add_zero] at c6
                    have hlk : (Instr.lookup 46 (.map (some g)) (.agg #[.int .i64 a'.v.st, .int .u64 a'.v.mb, .int .u64 a'.v.mt, .int .u64 a'.v.tb, .int .u64 a'.v.tt, .int .i64 a'.v.n]) false).run Try.prog w6 = .ok (.agg #[.bool false]) w6 := run_lookV Try.underlying46 zero_is hN.mp HKN.out HNN.out
                    have hfz : ∀ j, w6.frozen? ⟨L, j, none⟩ = false := fun j => BlkAt.frozen hl6 j
                    clear hN hl6 hn6 hb6
                    go_wp2_with fail
                    obtain ⟨z, hz⟩ : ∃ W, W = (((((w6.setCell ⟨L, 0, none⟩ (.int .i64 a'.v.st)).setCell ⟨L, 1, none⟩ (.int .u64 a'.v.mb)).setCell ⟨L, 2, none⟩ (.int .u64 a'.v.mt)).setCell ⟨L, 3, none⟩ (.int .u64 a'.v.tb)).setCell ⟨L, 4, none⟩ (.int .u64 a'.v.tt)).setCell ⟨L, 5, none⟩ (.int .i64 a'.v.n) := ⟨_, rfl⟩
                    rw [← hz]
                    have HTz : Hid (TgW p g L a' S w z) := by
                      have : TgW p g L a' S w z := by
                        rw [hz]; exact TgN.fin HN.out HLS.out HPW.out HPG.out HGL.out
                      exact this
                    clear hz
                    go_roundw
                    case rel => exact ⟨i + 1, _, _, by have := HI.out; omega, by go_num, HTz, HBD'⟩
                    case measure => simp [intOf]; have := HI.out; omega
            · have b1 : (a'.v.st == 2) = false := beq_eq_false_iff_ne.2 q1
              by_cases q3 : a.v.st = 2
              · have b3 : (a.v.st == 2) = true := beq_iff_eq.2 q3
                have q4 : 0 < a.v.st := by omega
                have d1 : decide (0 < a.v.st) = true := decide_eq_true q4
                have q5 : 0 < a'.v.st := HST0.out HZD.out
                have d2 : decide (0 < a'.v.st) = true := decide_eq_true q5
                by_cases q6 : a'.v.n = a.v.n
                rotate_left
                · skip
                  have d3 : (a'.v.n == a.v.n) = false := beq_eq_false_iff_ne.2 q6
                  clear q1 q3 q4 q5 q6
                  have hN := HN.out
                  have hl6 := hN.lv
                  have hn6 := hN.nv
                  have hb6 := hN.hb
                  have l0 := BlkAt.cell hl6 (j := 0) rfl; have l1 := BlkAt.cell hl6 (j := 1) rfl; have l2 := BlkAt.cell hl6 (j := 2) rfl; have l3 := BlkAt.cell hl6 (j := 3) rfl; have l4 := BlkAt.cell hl6 (j := 4) rfl; have l5 := BlkAt.cell hl6 (j := 5) rfl
                  have n0 := BlkAt.cell hn6 (j := 0) rfl; have n1 := BlkAt.cell hn6 (j := 1) rfl; have n2 := BlkAt.cell hn6 (j := 2) rfl; have n3 := BlkAt.cell hn6 (j := 3) rfl; have n4 := BlkAt.cell hn6 (j := 4) rfl; have n5 := BlkAt.cell hn6 (j := 5) rfl
                  have c6 := HC.out w6 0 _ hb6 rfl
                  rw [Nat.add_zero] at c6
                  obtain ⟨w7, hup, hm7, hc7⟩ := run_updV Try.underlying46 hN.mp HKL.out HNL.out (.agg #[.bool true])
                  unfold vv at hup
                  have hN7 := hN.over hc7 hm7 HPW.out HPG.out HGL.out HL5.out
                  have HN7 := Lib.hid hN7
                  have hl7 := hN7.lv
                  have hn7 := hN7.nv
                  have hb7 := hN7.hb
                  have m0 := BlkAt.cell hl7 (j := 0) rfl; have m1 := BlkAt.cell hl7 (j := 1) rfl; have m2 := BlkAt.cell hl7 (j := 2) rfl; have m3 := BlkAt.cell hl7 (j := 3) rfl; have m4 := BlkAt.cell hl7 (j := 4) rfl; have m5 := BlkAt.cell hl7 (j := 5) rfl
                  have q0 := BlkAt.cell hn7 (j := 0) rfl; have q1 := BlkAt.cell hn7 (j := 1) rfl; have q2 := BlkAt.cell hn7 (j := 2) rfl; have q3 := BlkAt.cell hn7 (j := 3) rfl; have q4 := BlkAt.cell hn7 (j := 4) rfl; have q5 := BlkAt.cell hn7 (j := 5) rfl
                  have c7 := HC.out w7 0 _ hb7 rfl
                  rw [Nat.add_zero] at c7
                  have hfz : ∀ j, w7.frozen? ⟨L, j, none⟩ = false := fun j => BlkAt.frozen hl7 j
                  clear hN hl6 hn6 hb6 hm7 hc7 hN7 hl7 hn7 hb7
                  go_wp2_with fail
                  obtain ⟨z, hz⟩ : ∃ W, W = (((((w7.setCell ⟨L, 0, none⟩ (.int .i64 a'.v.st)).setCell ⟨L, 1, none⟩ (.int .u64 a'.v.mb)).setCell ⟨L, 2, none⟩ (.int .u64 a'.v.mt)).setCell ⟨L, 3, none⟩ (.int .u64 a'.v.tb)).setCell ⟨L, 4, none⟩ (.int .u64 a'.v.tt)).setCell ⟨L, 5, none⟩ (.int .i64 a'.v.n) := ⟨_, rfl⟩
                  rw [← hz]
                  have HTz : Hid (TgW p g L a' (S ++ [a.v]) w z) := by
                    have : TgW p g L a' (S ++ [a.v]) w z := by
                      rw [hz]; exact TgN.fin HN7.out HLU.out HPW.out HPG.out HGL.out
                    exact this
                  clear hz
                  go_roundw
                  case rel => exact ⟨i + 1, _, _, by have := HI.out; omega, by go_num, HTz, HBD'⟩
                  case measure => simp [intOf]; have := HI.out; omega
                have d3 : (a'.v.n == a.v.n) = true := beq_iff_eq.2 q6
                have hel := of_decide_eq_false (HE.out q4 q5 q6)
                cases d4 : sameTI a'.v.tb a'.v.tt a.v.tb a.v.tt with
                | true =>
                  clear q1 q3 q4 q5 q6 hel
                  have hN := HN.out
                  have hl6 := hN.lv
                  have hn6 := hN.nv
                  have hb6 := hN.hb
                  have l0 := BlkAt.cell hl6 (j := 0) rfl; have l1 := BlkAt.cell hl6 (j := 1) rfl; have l2 := BlkAt.cell hl6 (j := 2) rfl; have l3 := BlkAt.cell hl6 (j := 3) rfl; have l4 := BlkAt.cell hl6 (j := 4) rfl; have l5 := BlkAt.cell hl6 (j := 5) rfl
                  have n0 := BlkAt.cell hn6 (j := 0) rfl; have n1 := BlkAt.cell hn6 (j := 1) rfl; have n2 := BlkAt.cell hn6 (j := 2) rfl; have n3 := BlkAt.cell hn6 (j := 3) rfl; have n4 := BlkAt.cell hn6 (j := 4) rfl; have n5 := BlkAt.cell hn6 (j := 5) rfl
                  have c6 := HC.out w6 0 _ hb6 rfl
                  rw [Nat.add_zero] at c6
                  obtain ⟨w7, hup, hm7, hc7⟩ := run_updV Try.underlying46 hN.mp HKL.out HNL.out (.agg #[.bool true])
                  unfold vv at hup
                  have hN7 := hN.over hc7 hm7 HPW.out HPG.out HGL.out HL5.out
                  have HN7 := Lib.hid hN7
                  have hl7 := hN7.lv
                  have hn7 := hN7.nv
                  have hb7 := hN7.hb
                  have m0 := BlkAt.cell hl7 (j := 0) rfl; have m1 := BlkAt.cell hl7 (j := 1) rfl; have m2 := BlkAt.cell hl7 (j := 2) rfl; have m3 := BlkAt.cell hl7 (j := 3) rfl; have m4 := BlkAt.cell hl7 (j := 4) rfl; have m5 := BlkAt.cell hl7 (j := 5) rfl
                  have q0 := BlkAt.cell hn7 (j := 0) rfl; have q1 := BlkAt.cell hn7 (j := 1) rfl; have q2 := BlkAt.cell hn7 (j := 2) rfl; have q3 := BlkAt.cell hn7 (j := 3) rfl; have q4 := BlkAt.cell hn7 (j := 4) rfl; have q5 := BlkAt.cell hn7 (j := 5) rfl
                  have c7 := HC.out w7 0 _ hb7 rfl
                  rw [Nat.add_zero] at c7
                  have hfz : ∀ j, w7.frozen? ⟨L, j, none⟩ = false := fun j => BlkAt.frozen hl7 j
                  clear hN hl6 hn6 hb6 hm7 hc7 hN7 hl7 hn7 hb7
                  go_wp2_with fail
                  obtain ⟨z, hz⟩ : ∃ W, W = (((((w7.setCell ⟨L, 0, none⟩ (.int .i64 a'.v.st)).setCell ⟨L, 1, none⟩ (.int .u64 a'.v.mb)).setCell ⟨L, 2, none⟩ (.int .u64 a'.v.mt)).setCell ⟨L, 3, none⟩ (.int .u64 a'.v.tb)).setCell ⟨L, 4, none⟩ (.int .u64 a'.v.tt)).setCell ⟨L, 5, none⟩ (.int .i64 a'.v.n) := ⟨_, rfl⟩
                  rw [← hz]
                  have HTz : Hid (TgW p g L a' (S ++ [a.v]) w z) := by
                    have : TgW p g L a' (S ++ [a.v]) w z := by
                      rw [hz]; exact TgN.fin HN7.out HLU.out HPW.out HPG.out HGL.out
                    exact this
                  clear hz
                  go_roundw
                  case rel => exact ⟨i + 1, _, _, by have := HI.out; omega, by go_num, HTz, HBD'⟩
                  case measure => simp [intOf]; have := HI.out; omega
                | false =>
                  have e1 : decide (a'.v.tb < a.v.tb) = false := decide_eq_false (by omega)
                  by_cases q7 : a'.v.tb = a.v.tb
                  · have e2 : (a'.v.tb == a.v.tb) = true := beq_iff_eq.2 q7
                    have e3 : decide (a'.v.tt < a.v.tt) = false := decide_eq_false (by omega)
                    clear q1 q3 q4 q5 q6 q7 hel
                    have hN := HN.out
                    have hl6 := hN.lv
                    have hn6 := hN.nv
                    have hb6 := hN.hb
                    have l0 := BlkAt.cell hl6 (j := 0) rfl; have l1 := BlkAt.cell hl6 (j := 1) rfl; have l2 := BlkAt.cell hl6 (j := 2) rfl; have l3 := BlkAt.cell hl6 (j := 3) rfl; have l4 := BlkAt.cell hl6 (j := 4) rfl; have l5 := BlkAt.cell hl6 (j := 5) rfl
                    have n0 := BlkAt.cell hn6 (j := 0) rfl; have n1 := BlkAt.cell hn6 (j := 1) rfl; have n2 := BlkAt.cell hn6 (j := 2) rfl; have n3 := BlkAt.cell hn6 (j := 3) rfl; have n4 := BlkAt.cell hn6 (j := 4) rfl; have n5 := BlkAt.cell hn6 (j := 5) rfl
                    have c6 := HC.out w6 0 _ hb6 rfl
                    rw [Nat.add_zero] at c6
                    obtain ⟨w7, hup, hm7, hc7⟩ := run_updV Try.underlying46 hN.mp HKL.out HNL.out (.agg #[.bool true])
                    unfold vv at hup
                    have hN7 := hN.over hc7 hm7 HPW.out HPG.out HGL.out HL5.out
                    have HN7 := Lib.hid hN7
                    have hl7 := hN7.lv
                    have hn7 := hN7.nv
                    have hb7 := hN7.hb
                    have m0 := BlkAt.cell hl7 (j := 0) rfl; have m1 := BlkAt.cell hl7 (j := 1) rfl; have m2 := BlkAt.cell hl7 (j := 2) rfl; have m3 := BlkAt.cell hl7 (j := 3) rfl; have m4 := BlkAt.cell hl7 (j := 4) rfl; have m5 := BlkAt.cell hl7 (j := 5) rfl
                    have q0 := BlkAt.cell hn7 (j := 0) rfl; have q1 := BlkAt.cell hn7 (j := 1) rfl; have q2 := BlkAt.cell hn7 (j := 2) rfl; have q3 := BlkAt.cell hn7 (j := 3) rfl; have q4 := BlkAt.cell hn7 (j := 4) rfl; have q5 := BlkAt.cell hn7 (j := 5) rfl
                    have c7 := HC.out w7 0 _ hb7 rfl
                    rw [Nat.add_zero] at c7
                    have hfz : ∀ j, w7.frozen? ⟨L, j, none⟩ = false := fun j => BlkAt.frozen hl7 j
                    clear hN hl6 hn6 hb6 hm7 hc7 hN7 hl7 hn7 hb7
                    go_wp2_with fail
                    obtain ⟨z, hz⟩ : ∃ W, W = (((((w7.setCell ⟨L, 0, none⟩ (.int .i64 a'.v.st)).setCell ⟨L, 1, none⟩ (.int .u64 a'.v.mb)).setCell ⟨L, 2, none⟩ (.int .u64 a'.v.mt)).setCell ⟨L, 3, none⟩ (.int .u64 a'.v.tb)).setCell ⟨L, 4, none⟩ (.int .u64 a'.v.tt)).setCell ⟨L, 5, none⟩ (.int .i64 a'.v.n) := ⟨_, rfl⟩
                    rw [← hz]
                    have HTz : Hid (TgW p g L a' (S ++ [a.v]) w z) := by
                      have : TgW p g L a' (S ++ [a.v]) w z := by
                        rw [hz]; exact TgN.fin HN7.out HLU.out HPW.out HPG.out HGL.out
                      exact this
                    clear hz
                    go_roundw
                    case rel => exact ⟨i + 1, _, _, by have := HI.out; omega, by go_num, HTz, HBD'⟩
                    case measure => simp [intOf]; have := HI.out; omega
                  · have e2 : (a'.v.tb == a.v.tb) = false := beq_eq_false_iff_ne.2 q7
                    clear q1 q3 q4 q5 q6 q7 hel
                    have hN := HN.out
                    have hl6 := hN.lv
                    have hn6 := hN.nv
                    have hb6 := hN.hb
                    have l0 := BlkAt.cell hl6 (j := 0) rfl; have l1 := BlkAt.cell hl6 (j := 1) rfl; have l2 := BlkAt.cell hl6 (j := 2) rfl; have l3 := BlkAt.cell hl6 (j := 3) rfl; have l4 := BlkAt.cell hl6 (j := 4) rfl; have l5 := BlkAt.cell hl6 (j := 5) rfl
                    have n0 := BlkAt.cell hn6 (j := 0) rfl; have n1 := BlkAt.cell hn6 (j := 1) rfl; have n2 := BlkAt.cell hn6 (j := 2) rfl; have n3 := BlkAt.cell hn6 (j := 3) rfl; have n4 := BlkAt.cell hn6 (j := 4) rfl; have n5 := BlkAt.cell hn6 (j := 5) rfl
                    have c6 := HC.out w6 0 _ hb6 rfl
                    rw [Nat.add_zero] at c6
                    obtain ⟨w7, hup, hm7, hc7⟩ := run_updV Try.underlying46 hN.mp HKL.out HNL.out (.agg #[.bool true])
                    unfold vv at hup
                    have hN7 := hN.over hc7 hm7 HPW.out HPG.out HGL.out HL5.out
                    have HN7 := Lib.hid hN7
                    have hl7 := hN7.lv
                    have hn7 := hN7.nv
                    have hb7 := hN7.hb
                    have m0 := BlkAt.cell hl7 (j := 0) rfl; have m1 := BlkAt.cell hl7 (j := 1) rfl; have m2 := BlkAt.cell hl7 (j := 2) rfl; have m3 := BlkAt.cell hl7 (j := 3) rfl; have m4 := BlkAt.cell hl7 (j := 4) rfl; have m5 := BlkAt.cell hl7 (j := 5) rfl
                    have q0 := BlkAt.cell hn7 (j := 0) rfl; have q1 := BlkAt.cell hn7 (j := 1) rfl; have q2 := BlkAt.cell hn7 (j := 2) rfl; have q3 := BlkAt.cell hn7 (j := 3) rfl; have q4 := BlkAt.cell hn7 (j := 4) rfl; have q5 := BlkAt.cell hn7 (j := 5) rfl
                    have c7 := HC.out w7 0 _ hb7 rfl
                    rw [Nat.add_zero] at c7
                    have hfz : ∀ j, w7.frozen? ⟨L, j, none⟩ = false := fun j => BlkAt.frozen hl7 j
                    clear hN hl6 hn6 hb6 hm7 hc7 hN7 hl7 hn7 hb7
                    go_wp2_with fail
                    obtain ⟨z, hz⟩ : ∃ W, W = (((((w7.setCell ⟨L, 0, none⟩ (.int .i64 a'.v.st)).setCell ⟨L, 1, none⟩ (.int .u64 a'.v.mb)).setCell ⟨L, 2, none⟩ (.int .u64 a'.v.mt)).setCell ⟨L, 3, none⟩ (.int .u64 a'.v.tb)).setCell ⟨L, 4, none⟩ (.int .u64 a'.v.tt)).setCell ⟨L, 5, none⟩ (.int .i64 a'.v.n) := ⟨_, rfl⟩
                    rw [← hz]
                    have HTz : Hid (TgW p g L a' (S ++ [a.v]) w z) := by
                      have : TgW p g L a' (S ++ [a.v]) w z := by
                        rw [hz]; exact TgN.fin HN7.out HLU.out HPW.out HPG.out HGL.out
                      exact this
                    clear hz
                    go_roundw
                    case rel => exact ⟨i + 1, _, _, by have := HI.out; omega, by go_num, HTz, HBD'⟩
                    case measure => simp [intOf]; have := HI.out; omega
              · have b3 : (a.v.st == 2) = false := beq_eq_false_iff_ne.2 q3
                by_cases q4 : 0 < a.v.st
                rotate_left
                · skip
                  have d1 : decide (0 < a.v.st) = false := decide_eq_false q4
                  clear q1 q3 q4
                  have hN := HN.out
                  have hl6 := hN.lv
                  have hn6 := hN.nv
                  have hb6 := hN.hb
                  have l0 := BlkAt.cell hl6 (j := 0) rfl; have l1 := BlkAt.cell hl6 (j := 1) rfl; have l2 := BlkAt.cell hl6 (j := 2) rfl; have l3 := BlkAt.cell hl6 (j := 3) rfl; have l4 := BlkAt.cell hl6 (j := 4) rfl; have l5 := BlkAt.cell hl6 (j := 5) rfl
                  have n0 := BlkAt.cell hn6 (j := 0) rfl; have n1 := BlkAt.cell hn6 (j := 1) rfl; have n2 := BlkAt.cell hn6 (j := 2) rfl; have n3 := BlkAt.cell hn6 (j := 3) rfl; have n4 := BlkAt.cell hn6 (j := 4) rfl; have n5 := BlkAt.cell hn6 (j := 5) rfl
                  have c6 := HC.out w6 0 _ hb6 rfl
                  rw [Nat.add_zero] at c6
                  have hfz : ∀ j, w6.frozen? ⟨L, j, none⟩ = false := fun j => BlkAt.frozen hl6 j
                  clear hN hl6 hn6 hb6
                  go_wp2_with fail
                  obtain ⟨z, hz⟩ : ∃ W, W = (((((w6.setCell ⟨L, 0, none⟩ (.int .i64 a'.v.st)).setCell ⟨L, 1, none⟩ (.int .u64 a'.v.mb)).setCell ⟨L, 2, none⟩ (.int .u64 a'.v.mt)).setCell ⟨L, 3, none⟩ (.int .u64 a'.v.tb)).setCell ⟨L, 4, none⟩ (.int .u64 a'.v.tt)).setCell ⟨L, 5, none⟩ (.int .i64 a'.v.n) := ⟨_, rfl⟩
                  rw [← hz]
                  have HTz : Hid (TgW p g L a' S w z) := by
                    have : TgW p g L a' S w z := by
                      rw [hz]; exact TgN.fin HN.out HLS.out HPW.out HPG.out HGL.out
                    exact this
                  clear hz
                  go_roundw
                  case rel => exact ⟨i + 1, _, _, by have := HI.out; omega, by go_num, HTz, HBD'⟩
                  case measure => simp [intOf]; have := HI.out; omega
                have d1 : decide (0 < a.v.st) = true := decide_eq_true q4
                have q5 : 0 < a'.v.st := HST0.out HZD.out
                have d2 : decide (0 < a'.v.st) = true := decide_eq_true q5
                by_cases q6 : a'.v.n = a.v.n
                rotate_left
                · skip
                  have d3 : (a'.v.n == a.v.n) = false := beq_eq_false_iff_ne.2 q6
                  clear q1 q3 q4 q5 q6
                  have hN := HN.out
                  have hl6 := hN.lv
                  have hn6 := hN.nv
                  have hb6 := hN.hb
                  have l0 := BlkAt.cell hl6 (j := 0) rfl; have l1 := BlkAt.cell hl6 (j := 1) rfl; have l2 := BlkAt.cell hl6 (j := 2) rfl; have l3 := BlkAt.cell hl6 (j := 3) rfl; have l4 := BlkAt.cell hl6 (j := 4) rfl; have l5 := BlkAt.cell hl6 (j := 5) rfl
                  have n0 := BlkAt.cell hn6 (j := 0) rfl; have n1 := BlkAt.cell hn6 (j := 1) rfl; have n2 := BlkAt.cell hn6 (j := 2) rfl; have n3 := BlkAt.cell hn6 (j := 3) rfl; have n4 := BlkAt.cell hn6 (j := 4) rfl; have n5 := BlkAt.cell hn6 (j := 5) rfl
                  have c6 := HC.out w6 0 _ hb6 rfl
                  rw [Nat.add_zero] at c6
                  have hfz : ∀ j, w6.frozen? ⟨L, j, none⟩ = false := fun j => BlkAt.frozen hl6 j
                  clear hN hl6 hn6 hb6
                  go_wp2_with fail
                  obtain ⟨z, hz⟩ : ∃ W, W = (((((w6.setCell ⟨L, 0, none⟩ (.int .i64 a'.v.st)).setCell ⟨L, 1, none⟩ (.int .u64 a'.v.mb)).setCell ⟨L, 2, none⟩ (.int .u64 a'.v.mt)).setCell ⟨L, 3, none⟩ (.int .u64 a'.v.tb)).setCell ⟨L, 4, none⟩ (.int .u64 a'.v.tt)).setCell ⟨L, 5, none⟩ (.int .i64 a'.v.n) := ⟨_, rfl⟩
                  rw [← hz]
                  have HTz : Hid (TgW p g L a' S w z) := by
                    have : TgW p g L a' S w z := by
                      rw [hz]; exact TgN.fin HN.out HLS.out HPW.out HPG.out HGL.out
                    exact this
                  clear hz
                  go_roundw
                  case rel => exact ⟨i + 1, _, _, by have := HI.out; omega, by go_num, HTz, HBD'⟩
                  case measure => simp [intOf]; have := HI.out; omega
                have d3 : (a'.v.n == a.v.n) = true := beq_iff_eq.2 q6
                have hel := of_decide_eq_false (HE.out q4 q5 q6)
                cases d4 : sameTI a'.v.tb a'.v.tt a.v.tb a.v.tt with
                | true =>
                  clear q1 q3 q4 q5 q6 hel
                  have hN := HN.out
                  have hl6 := hN.lv
                  have hn6 := hN.nv
                  have hb6 := hN.hb
                  have l0 := BlkAt.cell hl6 (j := 0) rfl; have l1 := BlkAt.cell hl6 (j := 1) rfl; have l2 := BlkAt.cell hl6 (j := 2) rfl; have l3 := BlkAt.cell hl6 (j := 3) rfl; have l4 := BlkAt.cell hl6 (j := 4) rfl; have l5 := BlkAt.cell hl6 (j := 5) rfl
                  have n0 := BlkAt.cell hn6 (j := 0) rfl; have n1 := BlkAt.cell hn6 (j := 1) rfl; have n2 := BlkAt.cell hn6 (j := 2) rfl; have n3 := BlkAt.cell hn6 (j := 3) rfl; have n4 := BlkAt.cell hn6 (j := 4) rfl; have n5 := BlkAt.cell hn6 (j := 5) rfl
                  have c6 := HC.out w6 0 _ hb6 rfl
                  rw [Nat.add_zero] at c6
                  have hfz : ∀ j, w6.frozen? ⟨L, j, none⟩ = false := fun j => BlkAt.frozen hl6 j
                  clear hN hl6 hn6 hb6
                  go_wp2_with fail
                  obtain ⟨z, hz⟩ : ∃ W, W = (((((w6.setCell ⟨L, 0, none⟩ (.int .i64 a'.v.st)).setCell ⟨L, 1, none⟩ (.int .u64 a'.v.mb)).setCell ⟨L, 2, none⟩ (.int .u64 a'.v.mt)).setCell ⟨L, 3, none⟩ (.int .u64 a'.v.tb)).setCell ⟨L, 4, none⟩ (.int .u64 a'.v.tt)).setCell ⟨L, 5, none⟩ (.int .i64 a'.v.n) := ⟨_, rfl⟩
                  rw [← hz]
                  have HTz : Hid (TgW p g L a' S w z) := by
                    have : TgW p g L a' S w z := by
                      rw [hz]; exact TgN.fin HN.out HLS.out HPW.out HPG.out HGL.out
                    exact this
                  clear hz
                  go_roundw
                  case rel => exact ⟨i + 1, _, _, by have := HI.out; omega, by go_num, HTz, HBD'⟩
                  case measure => simp [intOf]; have := HI.out; omega
                | false =>
                  have e1 : decide (a'.v.tb < a.v.tb) = false := decide_eq_false (by omega)
                  by_cases q7 : a'.v.tb = a.v.tb
                  · have e2 : (a'.v.tb == a.v.tb) = true := beq_iff_eq.2 q7
                    have e3 : decide (a'.v.tt < a.v.tt) = false := decide_eq_false (by omega)
                    clear q1 q3 q4 q5 q6 q7 hel
                    have hN := HN.out
                    have hl6 := hN.lv
                    have hn6 := hN.nv
                    have hb6 := hN.hb
                    have l0 := BlkAt.cell hl6 (j := 0) rfl; have l1 := BlkAt.cell hl6 (j := 1) rfl; have l2 := BlkAt.cell hl6 (j := 2) rfl; have l3 := BlkAt.cell hl6 (j := 3) rfl; have l4 := BlkAt.cell hl6 (j := 4) rfl; have l5 := BlkAt.cell hl6 (j := 5) rfl
                    have n0 := BlkAt.cell hn6 (j := 0) rfl; have n1 := BlkAt.cell hn6 (j := 1) rfl; have n2 := BlkAt.cell hn6 (j := 2) rfl; have n3 := BlkAt.cell hn6 (j := 3) rfl; have n4 := BlkAt.cell hn6 (j := 4) rfl; have n5 := BlkAt.cell hn6 (j := 5) rfl
                    have c6 := HC.out w6 0 _ hb6 rfl
                    rw [Nat.add_zero] at c6
                    have hfz : ∀ j, w6.frozen? ⟨L, j, none⟩ = false := fun j => BlkAt.frozen hl6 j
                    clear hN hl6 hn6 hb6
                    go_wp2_with fail
                    obtain ⟨z, hz⟩ : ∃ W, W = (((((w6.setCell ⟨L, 0, none⟩ (.int .i64 a'.v.st)).setCell ⟨L, 1, none⟩ (.int .u64 a'.v.mb)).setCell ⟨L, 2, none⟩ (.int .u64 a'.v.mt)).setCell ⟨L, 3, none⟩ (.int .u64 a'.v.tb)).setCell ⟨L, 4, none⟩ (.int .u64 a'.v.tt)).setCell ⟨L, 5, none⟩ (.int .i64 a'.v.n) := ⟨_, rfl⟩
                    rw [← hz]
                    have HTz : Hid (TgW p g L a' S w z) := by
                      have : TgW p g L a' S w z := by
                        rw [hz]; exact TgN.fin HN.out HLS.out HPW.out HPG.out HGL.out
                      exact this
                    clear hz
                    go_roundw
                    case rel => exact ⟨i + 1, _, _, by have := HI.out; omega, by go_num, HTz, HBD'⟩
                    case measure => simp [intOf]; have := HI.out; omega
                  · have e2 : (a'.v.tb == a.v.tb) = false := beq_eq_false_iff_ne.2 q7
                    clear q1 q3 q4 q5 q6 q7 hel
                    have hN := HN.out
                    have hl6 := hN.lv
                    have hn6 := hN.nv
                    have hb6 := hN.hb
                    have l0 := BlkAt.cell hl6 (j := 0) rfl; have l1 := BlkAt.cell hl6 (j := 1) rfl; have l2 := BlkAt.cell hl6 (j := 2) rfl; have l3 := BlkAt.cell hl6 (j := 3) rfl; have l4 := BlkAt.cell hl6 (j := 4) rfl; have l5 := BlkAt.cell hl6 (j := 5) rfl
                    have n0 := BlkAt.cell hn6 (j := 0) rfl; have n1 := BlkAt.cell hn6 (j := 1) rfl; have n2 := BlkAt.cell hn6 (j := 2) rfl; have n3 := BlkAt.cell hn6 (j := 3) rfl; have n4 := BlkAt.cell hn6 (j := 4) rfl; have n5 := BlkAt.cell hn6 (j := 5) rfl
                    have c6 := HC.out w6 0 _ hb6 rfl
                    rw [Nat.add_zero] at c6
                    have hfz : ∀ j, w6.frozen? ⟨L, j, none⟩ = false := fun j => BlkAt.frozen hl6 j
                    clear hN hl6 hn6 hb6
                    go_wp2_with fail
                    obtain ⟨z, hz⟩ : ∃ W, W = (((((w6.setCell ⟨L, 0, none⟩ (.int .i64 a'.v.st)).setCell ⟨L, 1, none⟩ (.int .u64 a'.v.mb)).setCell ⟨L, 2, none⟩ (.int .u64 a'.v.mt)).setCell ⟨L, 3, none⟩ (.int .u64 a'.v.tb)).setCell ⟨L, 4, none⟩ (.int .u64 a'.v.tt)).setCell ⟨L, 5, none⟩ (.int .i64 a'.v.n) := ⟨_, rfl⟩
                    rw [← hz]
                    have HTz : Hid (TgW p g L a' S w z) := by
                      have : TgW p g L a' S w z := by
                        rw [hz]; exact TgN.fin HN.out HLS.out HPW.out HPG.out HGL.out
                      exact this
                    clear hz
                    go_roundw
                    case rel => exact ⟨i + 1, _, _, by have := HI.out; omega, by go_num, HTz, HBD'⟩
                    case measure => simp [intOf]; have := HI.out; omega
        have t1 : (c.k == 1) = false := beq_eq_false_iff_ne.2 k1
        by_cases k2 : c.k = 2
        · have t2 : (c.k == 2) = true := beq_iff_eq.2 k2
          have HH := Lib.hid (tickW HT.out.pa HBD.out.inv.nz)
          unfold TkA at HH
          have HA2 : Hid (∀ s, actA a c s = tickA a s) := by
            have : ∀ s, actA a c s = tickA a s := fun s => by unfold actA; rw [if_neg k1, if_pos k2]
            exact this
          clear k1 k2
          go_wp2_with fail
          refine HH.out.mono ?_
          rintro e w4 ⟨ev, er, s, rfl, hP, hC⟩
          rw [← HA2.out s] at hP
          obtain ⟨a', ha'⟩ : ∃ a', a' = actA a c s := ⟨_, rfl⟩
          obtain ⟨hbd, hst, hel⟩ := step_act HBD.out (by have := HI.out; have := HLN.out; omega) c HOK.out s
          rw [← ha'] at hbd hst hel
          have HBD' := Lib.hid hbd
          have HST := Lib.hid hst
          rw [← ha'] at hP
          have HP4 := Lib.hid hP
          have HC4 := Lib.hid hC
          clear hP hC HH c0
          have HST0 : Hid (a'.v ≠ a.v → a'.v.st = 0) := by
            have : a'.v ≠ a.v → a'.v.st = 0 := by rw [ha', HA2.out s]; exact tick_st
            exact this
          clear hbd hst hel ha'
          have HV := Lib.hid (viewW HP4.out HBD'.out.inv.nz)
          go_wp2_with fail
          refine HV.out.mono ?_
          rintro e w5 ⟨rfl, hb⟩
          obtain ⟨w6, hw6⟩ : ∃ W, W = w5.alloc (.cells #[.int .i64 a'.v.st, .int .u64 a'.v.mb, .int .u64 a'.v.mt, .int .u64 a'.v.tb, .int .u64 a'.v.tt, .int .i64 a'.v.n] 40) := ⟨_, rfl⟩
          have hb6 : Below w4.heap.size w4 w6 := by rw [hw6]; exact hb.alloc hb.size _
          have HN : Hid (TgN p g L w5.heap.size a a' S w w6) := by
            have : TgN p g L w5.heap.size a a' S w w6 := HT.out.next HP4.out HC4.out hb6 HPW.out HPG.out HGL.out (by rw [hw6]; exact BlkAt.new w5 _)
            exact this
          have HL5 : Hid (L < w5.heap.size) := by
            have : L < w5.heap.size := by have := HC4.out.size; have := hb.size; have := BlkAt.lt HT.out.lv; omega
            exact this
          have HW6 := Lib.hid hw6
          have HKN := Lib.hid (HBD'.out.key (by have := HI.out; have := HLN.out; omega))
          have HKL := Lib.hid (HBD.out.key (by have := HI.out; have := HLN.out; omega))
          have HLS : Hid (∀ u ∈ S, lt4 u a'.v) := by
            have : ∀ u ∈ S, lt4 u a'.v := fun u hu => by
              rcases HST.out.up with e | e
              · rw [e]; exact HT.out.lt u hu
              · exact (HT.out.lt u hu).trans e
            exact this
          have HNL : Hid (a.v ∉ S) := by
            have : a.v ∉ S := fun hu => (HT.out.lt _ hu).irrefl
            exact this
          have HNN : Hid (a'.v ∉ S) := by
            have : a'.v ∉ S := fun hu => (HLS.out _ hu).irrefl
            exact this
          have f0 : (a'.v.mb != 5) = false := by simp [HBD'.out.mb]
          have f1 : decide (a'.v.mt < a.v.mt) = false := decide_eq_false (by have := HST.out.m0; omega)
          clear hb hb6 hw6 HV
          (try dsimp only)
          go_at_K
          go_step; go_step; go_step; go_step; go_step; go_step
          rw [← HW6.out]
          by_cases hsame : a'.v = a.v
          · have b2 : sameVI a'.v.st a'.v.mb a'.v.mt a'.v.tb a'.v.tt a'.v.n a.v.st a.v.mb a.v.mt a.v.tb a.v.tt a.v.n = true := by rw [hsame]; exact sameVI_iff.2 ⟨rfl, rfl, rfl, rfl, rfl, rfl⟩
            have e1 : a'.v.st = a.v.st := by rw [hsame]
            by_cases q3 : a.v.st = 2
            · have b3 : (a.v.st == 2) = true := beq_iff_eq.2 q3
              have b1 : (a'.v.st == 2) = true := beq_iff_eq.2 (by omega)
              clear hsame e1 q3
              have hN := HN.out
              have hl6 := hN.lv
              have hn6 := hN.nv
              have hb6 := hN.hb
              have l0 := BlkAt.cell hl6 (j := 0) rfl; have l1 := BlkAt.cell hl6 (j := 1) rfl; have l2 := BlkAt.cell hl6 (j := 2) rfl; have l3 := BlkAt.cell hl6 (j := 3) rfl; have l4 := BlkAt.cell hl6 (j := 4) rfl; have l5 := BlkAt.cell hl6 (j := 5) rfl
              have n0 := BlkAt.cell hn6 (j := 0) rfl; have n1 := BlkAt.cell hn6 (j := 1) rfl; have n2 := BlkAt.cell hn6 (j := 2) rfl; have n3 := BlkAt.cell hn6 (j := 3) rfl; have n4 := BlkAt.cell hn6 (j := 4) rfl; have n5 := BlkAt.cell hn6 (j := 5) rfl
              have c6 := HC.out w6 0 _ hb6 rfl
              rw [Nat.add_zero] at c6
              have hfz : ∀ j, w6.frozen? ⟨L, j, none⟩ = false := fun j => BlkAt.frozen hl6 j
              clear hN hl6 hn6 hb6
              go_wp2_with fail
              obtain ⟨z, hz⟩ : ∃ W, W = (((((w6.setCell ⟨L, 0, none⟩ (.int .i64 a'.v.st)).setCell ⟨L, 1, none⟩ (.int .u64 a'.v.mb)).setCell ⟨L, 2, none⟩ (.int .u64 a'.v.mt)).setCell ⟨L, 3, none⟩ (.int .u64 a'.v.tb)).setCell ⟨L, 4, none⟩ (.int .u64 a'.v.tt)).setCell ⟨L, 5, none⟩ (.int .i64 a'.v.n) := ⟨_, rfl⟩
              rw [← hz]
              have HTz : Hid (TgW p g L a' S w z) := by
                have : TgW p g L a' S w z := by
                  rw [hz]; exact TgN.fin HN.out HLS.out HPW.out HPG.out HGL.out
                exact this
              clear hz
              go_roundw
              case rel => exact ⟨i + 1, _, _, by have := HI.out; omega, by go_num, HTz, HBD'⟩
              case measure => simp [intOf]; have := HI.out; omega
            · have b3 : (a.v.st == 2) = false := beq_eq_false_iff_ne.2 q3
              have b1 : (a'.v.st == 2) = false := beq_eq_false_iff_ne.2 (by omega)
              clear hsame e1 q3
              have hN := HN.out
              have hl6 := hN.lv
              have hn6 := hN.nv
              have hb6 := hN.hb
              have l0 := BlkAt.cell hl6 (j := 0) rfl; have l1 := BlkAt.cell hl6 (j := 1) rfl; have l2 := BlkAt.cell hl6 (j := 2) rfl; have l3 := BlkAt.cell hl6 (j := 3) rfl; have l4 := BlkAt.cell hl6 (j := 4) rfl; have l5 := BlkAt.cell hl6 (j := 5) rfl
              have n0 := BlkAt.cell hn6 (j := 0) rfl; have n1 := BlkAt.cell hn6 (j := 1) rfl; have n2 := BlkAt.cell hn6 (j := 2) rfl; have n3 := BlkAt.cell hn6 (j := 3) rfl; have n4 := BlkAt.cell hn6 (j := 4) rfl; have n5 := BlkAt.cell hn6 (j := 5) rfl
              have c6 := HC.out w6 0 _ hb6 rfl
              rw [Nat.add_zero] at c6
              have hfz : ∀ j, w6.frozen? ⟨L, j, none⟩ = false := fun j => BlkAt.frozen hl6 j
              clear hN hl6 hn6 hb6
              go_wp2_with fail
              obtain ⟨z, hz⟩ : ∃ W, W = (((((w6.setCell ⟨L, 0, none⟩ (.int .i64 a'.v.st)).setCell ⟨L, 1, none⟩ (.int .u64 a'.v.mb)).setCell ⟨L, 2, none⟩ (.int .u64 a'.v.mt)).setCell ⟨L, 3, none⟩ (.int .u64 a'.v.tb)).setCell ⟨L, 4, none⟩ (.int .u64 a'.v.tt)).setCell ⟨L, 5, none⟩ (.int .i64 a'.v.n) := ⟨_, rfl⟩
              rw [← hz]
              have HTz : Hid (TgW p g L a' S w z) := by
                have : TgW p g L a' S w z := by
                  rw [hz]; exact TgN.fin HN.out HLS.out HPW.out HPG.out HGL.out
                exact this
              clear hz
              go_roundw
              case rel => exact ⟨i + 1, _, _, by have := HI.out; omega, by go_num, HTz, HBD'⟩
              case measure => simp [intOf]; have := HI.out; omega
          · have b2 : sameVI a'.v.st a'.v.mb a'.v.mt a'.v.tb a'.v.tt a'.v.n a.v.st a.v.mb a.v.mt a.v.tb a.v.tt a.v.n = false := Bool.eq_false_iff.2 fun q => hsame (sameVw_iff.1 q)
            have HZD : Hid (a'.v ≠ a.v) := hsame
            have HLU : Hid (∀ u ∈ S ++ [a.v], lt4 u a'.v) := by
              have : ∀ u ∈ S ++ [a.v], lt4 u a'.v := fun u hu => by
                have hup : lt4 a.v a'.v := by rcases HST.out.up with e | e; exact absurd e hsame; exact e
                rcases List.mem_append.1 hu with hu | hu
                · exact (HT.out.lt u hu).trans hup
                · rw [List.mem_singleton.1 hu]; exact hup
              exact this
            clear hsame
            have q1 : ¬ a'.v.st = 2 := by have := HST0.out HZD.out; omega
            · have b1 : (a'.v.st == 2) = false := beq_eq_false_iff_ne.2 q1
              by_cases q3 : a.v.st = 2
              · have b3 : (a.v.st == 2) = true := beq_iff_eq.2 q3
                clear q1 q3
                have hN := HN.out
                have hl6 := hN.lv
                have hn6 := hN.nv
                have hb6 := hN.hb
                have l0 := BlkAt.cell hl6 (j := 0) rfl; have l1 := BlkAt.cell hl6 (j := 1) rfl; have l2 := BlkAt.cell hl6 (j := 2) rfl; have l3 := BlkAt.cell hl6 (j := 3) rfl; have l4 := BlkAt.cell hl6 (j := 4) rfl; have l5 := BlkAt.cell hl6 (j := 5) rfl
                have n0 := BlkAt.cell hn6 (j := 0) rfl; have n1 := BlkAt.cell hn6 (j := 1) rfl; have n2 := BlkAt.cell hn6 (j := 2) rfl; have n3 := BlkAt.cell hn6 (j := 3) rfl; have n4 := BlkAt.cell hn6 (j := 4) rfl; have n5 := BlkAt.cell hn6 (j := 5) rfl
                have c6 := HC.out w6 0 _ hb6 rfl
                rw [Nat.add_zero] at c6
                obtain ⟨w7, hup, hm7, hc7⟩ := run_updV Try.underlying46 hN.mp HKL.out HNL.out (.agg #[.bool true])
                unfold vv at hup
                have hN7 := hN.over hc7 hm7 HPW.out HPG.out HGL.out HL5.out
                have HN7 := Lib.hid hN7
                have hl7 := hN7.lv
                have hn7 := hN7.nv
                have hb7 := hN7.hb
                have m0 := BlkAt.cell hl7 (j := 0) rfl; have m1 := BlkAt.cell hl7 (j := 1) rfl; have m2 := BlkAt.cell hl7 (j := 2) rfl; have m3 := BlkAt.cell hl7 (j := 3) rfl; have m4 := BlkAt.cell hl7 (j := 4) rfl; have m5 := BlkAt.cell hl7 (j := 5) rfl
                have q0 := BlkAt.cell hn7 (j := 0) rfl; have q1 := BlkAt.cell hn7 (j := 1) rfl; have q2 := BlkAt.cell hn7 (j := 2) rfl; have q3 := BlkAt.cell hn7 (j := 3) rfl; have q4 := BlkAt.cell hn7 (j := 4) rfl; have q5 := BlkAt.cell hn7 (j := 5) rfl
                have c7 := HC.out w7 0 _ hb7 rfl
                rw [Nat.add_zero] at c7
                have hfz : ∀ j, w7.frozen? ⟨L, j, none⟩ = false := fun j => BlkAt.frozen hl7 j
                clear hN hl6 hn6 hb6 hm7 hc7 hN7 hl7 hn7 hb7
                go_wp2_with fail
                obtain ⟨z, hz⟩ : ∃ W, W = (((((w7.setCell ⟨L, 0, none⟩ (.int .i64 a'.v.st)).setCell ⟨L, 1, none⟩ (.int .u64 a'.v.mb)).setCell ⟨L, 2, none⟩ (.int .u64 a'.v.mt)).setCell ⟨L, 3, none⟩ (.int .u64 a'.v.tb)).setCell ⟨L, 4, none⟩ (.int .u64 a'.v.tt)).setCell ⟨L, 5, none⟩ (.int .i64 a'.v.n) := ⟨_, rfl⟩
                rw [← hz]
                have HTz : Hid (TgW p g L a' (S ++ [a.v]) w z) := by
                  have : TgW p g L a' (S ++ [a.v]) w z := by
                    rw [hz]; exact TgN.fin HN7.out HLU.out HPW.out HPG.out HGL.out
                  exact this
                clear hz
                go_roundw
                case rel => exact ⟨i + 1, _, _, by have := HI.out; omega, by go_num, HTz, HBD'⟩
                case measure => simp [intOf]; have := HI.out; omega
              · have b3 : (a.v.st == 2) = false := beq_eq_false_iff_ne.2 q3
                clear q1 q3
                have hN := HN.out
                have hl6 := hN.lv
                have hn6 := hN.nv
                have hb6 := hN.hb
                have l0 := BlkAt.cell hl6 (j := 0) rfl; have l1 := BlkAt.cell hl6 (j := 1) rfl; have l2 := BlkAt.cell hl6 (j := 2) rfl; have l3 := BlkAt.cell hl6 (j := 3) rfl; have l4 := BlkAt.cell hl6 (j := 4) rfl; have l5 := BlkAt.cell hl6 (j := 5) rfl
                have n0 := BlkAt.cell hn6 (j := 0) rfl; have n1 := BlkAt.cell hn6 (j := 1) rfl; have n2 := BlkAt.cell hn6 (j := 2) rfl; have n3 := BlkAt.cell hn6 (j := 3) rfl; have n4 := BlkAt.cell hn6 (j := 4) rfl; have n5 := BlkAt.cell hn6 (j := 5) rfl
                have c6 := HC.out w6 0 _ hb6 rfl
                rw [Nat.add_zero] at c6
                have hfz : ∀ j, w6.frozen? ⟨L, j, none⟩ = false := fun j => BlkAt.frozen hl6 j
                clear hN hl6 hn6 hb6
                go_wp2_with fail
                obtain ⟨z, hz⟩ : ∃ W, W = (((((w6.setCell ⟨L, 0, none⟩ (.int .i64 a'.v.st)).setCell ⟨L, 1, none⟩ (.int .u64 a'.v.mb)).setCell ⟨L, 2, none⟩ (.int .u64 a'.v.mt)).setCell ⟨L, 3, none⟩ (.int .u64 a'.v.tb)).setCell ⟨L, 4, none⟩ (.int .u64 a'.v.tt)).setCell ⟨L, 5, none⟩ (.int .i64 a'.v.n) := ⟨_, rfl⟩
                rw [← hz]
                have HTz : Hid (TgW p g L a' S w z) := by
                  have : TgW p g L a' S w z := by
                    rw [hz]; exact TgN.fin HN.out HLS.out HPW.out HPG.out HGL.out
                  exact this
                clear hz
                go_roundw
                case rel => exact ⟨i + 1, _, _, by have := HI.out; omega, by go_num, HTz, HBD'⟩
                case measure => simp [intOf]; have := HI.out; omega
        have t2 : (c.k == 2) = false := beq_eq_false_iff_ne.2 k2
        by_cases k3 : c.k = 3
        · have t3 : (c.k == 3) = true := beq_iff_eq.2 k3
          have HH := Lib.hid (dropW HT.out.pa HBD.out.inv.nz)
          obtain ⟨a', ha'⟩ : ∃ a', a' = actA a c 0 := ⟨_, rfl⟩
          obtain ⟨hbd, hst, hel⟩ := step_act HBD.out (by have := HI.out; have := HLN.out; omega) c HOK.out 0
          rw [← ha'] at hbd hst hel
          have HBD' := Lib.hid hbd
          have HST := Lib.hid hst
          rw [show actA a c 0 = dropA a by unfold actA; rw [if_neg k1, if_neg k2, if_pos k3]] at ha'
          rw [← ha'] at HH
          have HDF : Hid (¬ a'.v = a.v) := by
            have : ¬ a'.v = a.v := by rw [ha']; exact drop_ne (by have := HBD.out.m0; omega) (by have := HBD.out.m1; have := HI.out; have := HLN.out; omega)
            exact this
          have HST0 : Hid (a'.v ≠ a.v → a'.v.st = 0) := by
            have : a'.v ≠ a.v → a'.v.st = 0 := fun _ => by rw [ha']; rfl
            exact this
          clear hbd hst hel ha'
          clear k1 k2 k3
          go_wp2_with fail
          refine HH.out.mono ?_
          rintro e w4 ⟨rfl, hP, hC⟩
          have HP4 := Lib.hid hP
          have HC4 := Lib.hid hC
          clear hP hC HH c0
          have HV := Lib.hid (viewW HP4.out HBD'.out.inv.nz)
          go_wp2_with fail
          refine HV.out.mono ?_
          rintro e w5 ⟨rfl, hb⟩
          obtain ⟨w6, hw6⟩ : ∃ W, W = w5.alloc (.cells #[.int .i64 a'.v.st, .int .u64 a'.v.mb, .int .u64 a'.v.mt, .int .u64 a'.v.tb, .int .u64 a'.v.tt, .int .i64 a'.v.n] 40) := ⟨_, rfl⟩
          have hb6 : Below w4.heap.size w4 w6 := by rw [hw6]; exact hb.alloc hb.size _
          have HN : Hid (TgN p g L w5.heap.size a a' S w w6) := by
            have : TgN p g L w5.heap.size a a' S w w6 := HT.out.next HP4.out HC4.out hb6 HPW.out HPG.out HGL.out (by rw [hw6]; exact BlkAt.new w5 _)
            exact this
          have HL5 : Hid (L < w5.heap.size) := by
            have : L < w5.heap.size := by have := HC4.out.size; have := hb.size; have := BlkAt.lt HT.out.lv; omega
            exact this
          have HW6 := Lib.hid hw6
          have HKN := Lib.hid (HBD'.out.key (by have := HI.out; have := HLN.out; omega))
          have HKL := Lib.hid (HBD.out.key (by have := HI.out; have := HLN.out; omega))
          have HLS : Hid (∀ u ∈ S, lt4 u a'.v) := by
            have : ∀ u ∈ S, lt4 u a'.v := fun u hu => by
              rcases HST.out.up with e | e
              · rw [e]; exact HT.out.lt u hu
              · exact (HT.out.lt u hu).trans e
            exact this
          have HNL : Hid (a.v ∉ S) := by
            have : a.v ∉ S := fun hu => (HT.out.lt _ hu).irrefl
            exact this
          have HNN : Hid (a'.v ∉ S) := by
            have : a'.v ∉ S := fun hu => (HLS.out _ hu).irrefl
            exact this
          have f0 : (a'.v.mb != 5) = false := by simp [HBD'.out.mb]
          have f1 : decide (a'.v.mt < a.v.mt) = false := decide_eq_false (by have := HST.out.m0; omega)
          clear hb hb6 hw6 HV
          (try dsimp only)
          go_at_K
          go_step; go_step; go_step; go_step; go_step; go_step
          rw [← HW6.out]
          have hsame : ¬ a'.v = a.v := HDF.out
          · have b2 : sameVI a'.v.st a'.v.mb a'.v.mt a'.v.tb a'.v.tt a'.v.n a.v.st a.v.mb a.v.mt a.v.tb a.v.tt a.v.n = false := Bool.eq_false_iff.2 fun q => hsame (sameVw_iff.1 q)
            have HZD : Hid (a'.v ≠ a.v) := hsame
            have HLU : Hid (∀ u ∈ S ++ [a.v], lt4 u a'.v) := by
              have : ∀ u ∈ S ++ [a.v], lt4 u a'.v := fun u hu => by
                have hup : lt4 a.v a'.v := by rcases HST.out.up with e | e; exact absurd e hsame; exact e
                rcases List.mem_append.1 hu with hu | hu
                · exact (HT.out.lt u hu).trans hup
                · rw [List.mem_singleton.1 hu]; exact hup
              exact this
            clear hsame
            have q1 : ¬ a'.v.st = 2 := by have := HST0.out HZD.out; omega
            · have b1 : (a'.v.st == 2) = false := beq_eq_false_iff_ne.2 q1
              by_cases q3 : a.v.st = 2
              · have b3 : (a.v.st == 2) = true := beq_iff_eq.2 q3
                clear q1 q3
                have hN := HN.out
                have hl6 := hN.lv
                have hn6 := hN.nv
                have hb6 := hN.hb
                have l0 := BlkAt.cell hl6 (j := 0) rfl; have l1 := BlkAt.cell hl6 (j := 1) rfl; have l2 := BlkAt.cell hl6 (j := 2) rfl; have l3 := BlkAt.cell hl6 (j := 3) rfl; have l4 := BlkAt.cell hl6 (j := 4) rfl; have l5 := BlkAt.cell hl6 (j := 5) rfl
                have n0 := BlkAt.cell hn6 (j := 0) rfl; have n1 := BlkAt.cell hn6 (j := 1) rfl; have n2 := BlkAt.cell hn6 (j := 2) rfl; have n3 := BlkAt.cell hn6 (j := 3) rfl; have n4 := BlkAt.cell hn6 (j := 4) rfl; have n5 := BlkAt.cell hn6 (j := 5) rfl
                have c6 := HC.out w6 0 _ hb6 rfl
                rw [Nat.add_zero] at c6
                obtain ⟨w7, hup, hm7, hc7⟩ := run_updV Try.underlying46 hN.mp HKL.out HNL.out (.agg #[.bool true])
                unfold vv at hup
                have hN7 := hN.over hc7 hm7 HPW.out HPG.out HGL.out HL5.out
                have HN7 := Lib.hid hN7
                have hl7 := hN7.lv
                have hn7 := hN7.nv
                have hb7 := hN7.hb
                have m0 := BlkAt.cell hl7 (j := 0) rfl; have m1 := BlkAt.cell hl7 (j := 1) rfl; have m2 := BlkAt.cell hl7 (j := 2) rfl; have m3 := BlkAt.cell hl7 (j := 3) rfl; have m4 := BlkAt.cell hl7 (j := 4) rfl; have m5 := BlkAt.cell hl7 (j := 5) rfl
                have q0 := BlkAt.cell hn7 (j := 0) rfl; have q1 := BlkAt.cell hn7 (j := 1) rfl; have q2 := BlkAt.cell hn7 (j := 2) rfl; have q3 := BlkAt.cell hn7 (j := 3) rfl; have q4 := BlkAt.cell hn7 (j := 4) rfl; have q5 := BlkAt.cell hn7 (j := 5) rfl
                have c7 := HC.out w7 0 _ hb7 rfl
                rw [Nat.add_zero] at c7
                have hfz : ∀ j, w7.frozen? ⟨L, j, none⟩ = false := fun j => BlkAt.frozen hl7 j
                clear hN hl6 hn6 hb6 hm7 hc7 hN7 hl7 hn7 hb7
                go_wp2_with fail
                obtain ⟨z, hz⟩ : ∃ W, W = (((((w7.setCell ⟨L, 0, none⟩ (.int .i64 a'.v.st)).setCell ⟨L, 1, none⟩ (.int .u64 a'.v.mb)).setCell ⟨L, 2, none⟩ (.int .u64 a'.v.mt)).setCell ⟨L, 3, none⟩ (.int .u64 a'.v.tb)).setCell ⟨L, 4, none⟩ (.int .u64 a'.v.tt)).setCell ⟨L, 5, none⟩ (.int .i64 a'.v.n) := ⟨_, rfl⟩
                rw [← hz]
                have HTz : Hid (TgW p g L a' (S ++ [a.v]) w z) := by
                  have : TgW p g L a' (S ++ [a.v]) w z := by
                    rw [hz]; exact TgN.fin HN7.out HLU.out HPW.out HPG.out HGL.out
                  exact this
                clear hz
                go_roundw
                case rel => exact ⟨i + 1, _, _, by have := HI.out; omega, by go_num, HTz, HBD'⟩
                case measure => simp [intOf]; have := HI.out; omega
              · have b3 : (a.v.st == 2) = false := beq_eq_false_iff_ne.2 q3
                clear q1 q3
                have hN := HN.out
                have hl6 := hN.lv
                have hn6 := hN.nv
                have hb6 := hN.hb
                have l0 := BlkAt.cell hl6 (j := 0) rfl; have l1 := BlkAt.cell hl6 (j := 1) rfl; have l2 := BlkAt.cell hl6 (j := 2) rfl; have l3 := BlkAt.cell hl6 (j := 3) rfl; have l4 := BlkAt.cell hl6 (j := 4) rfl; have l5 := BlkAt.cell hl6 (j := 5) rfl
                have n0 := BlkAt.cell hn6 (j := 0) rfl; have n1 := BlkAt.cell hn6 (j := 1) rfl; have n2 := BlkAt.cell hn6 (j := 2) rfl; have n3 := BlkAt.cell hn6 (j := 3) rfl; have n4 := BlkAt.cell hn6 (j := 4) rfl; have n5 := BlkAt.cell hn6 (j := 5) rfl
                have c6 := HC.out w6 0 _ hb6 rfl
                rw [Nat.add_zero] at c6
                have hfz : ∀ j, w6.frozen? ⟨L, j, none⟩ = false := fun j => BlkAt.frozen hl6 j
                clear hN hl6 hn6 hb6
                go_wp2_with fail
                obtain ⟨z, hz⟩ : ∃ W, W = (((((w6.setCell ⟨L, 0, none⟩ (.int .i64 a'.v.st)).setCell ⟨L, 1, none⟩ (.int .u64 a'.v.mb)).setCell ⟨L, 2, none⟩ (.int .u64 a'.v.mt)).setCell ⟨L, 3, none⟩ (.int .u64 a'.v.tb)).setCell ⟨L, 4, none⟩ (.int .u64 a'.v.tt)).setCell ⟨L, 5, none⟩ (.int .i64 a'.v.n) := ⟨_, rfl⟩
                rw [← hz]
                have HTz : Hid (TgW p g L a' S w z) := by
                  have : TgW p g L a' S w z := by
                    rw [hz]; exact TgN.fin HN.out HLS.out HPW.out HPG.out HGL.out
                  exact this
                clear hz
                go_roundw
                case rel => exact ⟨i + 1, _, _, by have := HI.out; omega, by go_num, HTz, HBD'⟩
                case measure => simp [intOf]; have := HI.out; omega
        · have t3 : (c.k == 3) = false := beq_eq_false_iff_ne.2 k3
          obtain ⟨a', ha'⟩ : ∃ a', a' = actA a c 0 := ⟨_, rfl⟩
          obtain ⟨hbd, hst, hel⟩ := step_act HBD.out (by have := HI.out; have := HLN.out; omega) c HOK.out 0
          rw [← ha'] at hbd hst hel
          have HBD' := Lib.hid hbd
          have HST := Lib.hid hst
          have hq : a' = a := by rw [ha']; unfold actA; rw [if_neg k1, if_neg k2, if_neg k3]
          have HP4 : Hid (PA p a' wr) := by
            have : PA p a' wr := by rw [hq]; exact HT.out.pa
            exact this
          have HC4 : Hid (Chg [p] wr wr) := Chg.refl _ _
          have HSM : Hid (a'.v = a.v) := by
            have : a'.v = a.v := by rw [hq]
            exact this
          clear hbd hst hel ha'
          clear hq k1 k2 k3
          have HV := Lib.hid (viewW HP4.out HBD'.out.inv.nz)
          go_wp2_with fail
          refine HV.out.mono ?_
          rintro e w5 ⟨rfl, hb⟩
          obtain ⟨w6, hw6⟩ : ∃ W, W = w5.alloc (.cells #[.int .i64 a'.v.st, .int .u64 a'.v.mb, .int .u64 a'.v.mt, .int .u64 a'.v.tb, .int .u64 a'.v.tt, .int .i64 a'.v.n] 40) := ⟨_, rfl⟩
          have hb6 : Below wr.heap.size wr w6 := by rw [hw6]; exact hb.alloc hb.size _
          have HN : Hid (TgN p g L w5.heap.size a a' S w w6) := by
            have : TgN p g L w5.heap.size a a' S w w6 := HT.out.next HP4.out HC4.out hb6 HPW.out HPG.out HGL.out (by rw [hw6]; exact BlkAt.new w5 _)
            exact this
          have HL5 : Hid (L < w5.heap.size) := by
            have : L < w5.heap.size := by have := HC4.out.size; have := hb.size; have := BlkAt.lt HT.out.lv; omega
            exact this
          have HW6 := Lib.hid hw6
          have HKN := Lib.hid (HBD'.out.key (by have := HI.out; have := HLN.out; omega))
          have HKL := Lib.hid (HBD.out.key (by have := HI.out; have := HLN.out; omega))
          have HLS : Hid (∀ u ∈ S, lt4 u a'.v) := by
            have : ∀ u ∈ S, lt4 u a'.v := fun u hu => by
              rcases HST.out.up with e | e
              · rw [e]; exact HT.out.lt u hu
              · exact (HT.out.lt u hu).trans e
            exact this
          have HNL : Hid (a.v ∉ S) := by
            have : a.v ∉ S := fun hu => (HT.out.lt _ hu).irrefl
            exact this
          have HNN : Hid (a'.v ∉ S) := by
            have : a'.v ∉ S := fun hu => (HLS.out _ hu).irrefl
            exact this
          have f0 : (a'.v.mb != 5) = false := by simp [HBD'.out.mb]
          have f1 : decide (a'.v.mt < a.v.mt) = false := decide_eq_false (by have := HST.out.m0; omega)
          clear hb hb6 hw6 HV
          (try dsimp only)
          go_at_K
          go_step; go_step; go_step; go_step; go_step; go_step
          rw [← HW6.out]
          have hsame : a'.v = a.v := HSM.out
          · have b2 : sameVI a'.v.st a'.v.mb a'.v.mt a'.v.tb a'.v.tt a'.v.n a.v.st a.v.mb a.v.mt a.v.tb a.v.tt a.v.n = true := by rw [hsame]; exact sameVI_iff.2 ⟨rfl, rfl, rfl, rfl, rfl, rfl⟩
            have e1 : a'.v.st = a.v.st := by rw [hsame]
            by_cases q3 : a.v.st = 2
            · have b3 : (a.v.st == 2) = true := beq_iff_eq.2 q3
              have b1 : (a'.v.st == 2) = true := beq_iff_eq.2 (by omega)
              clear hsame e1 q3
              have hN := HN.out
              have hl6 := hN.lv
              have hn6 := hN.nv
              have hb6 := hN.hb
              have l0 := BlkAt.cell hl6 (j := 0) rfl; have l1 := BlkAt.cell hl6 (j := 1) rfl; have l2 := BlkAt.cell hl6 (j := 2) rfl; have l3 := BlkAt.cell hl6 (j := 3) rfl; have l4 := BlkAt.cell hl6 (j := 4) rfl; have l5 := BlkAt.cell hl6 (j := 5) rfl
              have n0 := BlkAt.cell hn6 (j := 0) rfl; have n1 := BlkAt.cell hn6 (j := 1) rfl; have n2 := BlkAt.cell hn6 (j := 2) rfl; have n3 := BlkAt.cell hn6 (j := 3) rfl; have n4 := BlkAt.cell hn6 (j := 4) rfl; have n5 := BlkAt.cell hn6 (j := 5) rfl
              have c6 := HC.out w6 0 _ hb6 rfl
              rw [Nat.add_zero] at c6
              have hfz : ∀ j, w6.frozen? ⟨L, j, none⟩ = false := fun j => BlkAt.frozen hl6 j
              clear hN hl6 hn6 hb6
              go_wp2_with fail
              obtain ⟨z, hz⟩ : ∃ W, W = (((((w6.setCell ⟨L, 0, none⟩ (.int .i64 a'.v.st)).setCell ⟨L, 1, none⟩ (.int .u64 a'.v.mb)).setCell ⟨L, 2, none⟩ (.int .u64 a'.v.mt)).setCell ⟨L, 3, none⟩ (.int .u64 a'.v.tb)).setCell ⟨L, 4, none⟩ (.int .u64 a'.v.tt)).setCell ⟨L, 5, none⟩ (.int .i64 a'.v.n) := ⟨_, rfl⟩
              rw [← hz]
              have HTz : Hid (TgW p g L a' S w z) := by
                have : TgW p g L a' S w z := by
                  rw [hz]; exact TgN.fin HN.out HLS.out HPW.out HPG.out HGL.out
                exact this
              clear hz
              go_roundw
              case rel => exact ⟨i + 1, _, _, by have := HI.out; omega, by go_num, HTz, HBD'⟩
              case measure => simp [intOf]; have := HI.out; omega
            · have b3 : (a.v.st == 2) = false := beq_eq_false_iff_ne.2 q3
              have b1 : (a'.v.st == 2) = false := beq_eq_false_iff_ne.2 (by omega)
              clear hsame e1 q3
              have hN := HN.out
              have hl6 := hN.lv
              have hn6 := hN.nv
              have hb6 := hN.hb
              have l0 := BlkAt.cell hl6 (j := 0) rfl; have l1 := BlkAt.cell hl6 (j := 1) rfl; have l2 := BlkAt.cell hl6 (j := 2) rfl; have l3 := BlkAt.cell hl6 (j := 3) rfl; have l4 := BlkAt.cell hl6 (j := 4) rfl; have l5 := BlkAt.cell hl6 (j := 5) rfl
              have n0 := BlkAt.cell hn6 (j := 0) rfl; have n1 := BlkAt.cell hn6 (j := 1) rfl; have n2 := BlkAt.cell hn6 (j := 2) rfl; have n3 := BlkAt.cell hn6 (j := 3) rfl; have n4 := BlkAt.cell hn6 (j := 4) rfl; have n5 := BlkAt.cell hn6 (j := 5) rfl
              have c6 := HC.out w6 0 _ hb6 rfl
              rw [Nat.add_zero] at c6
              have hfz : ∀ j, w6.frozen? ⟨L, j, none⟩ = false := fun j => BlkAt.frozen hl6 j
              clear hN hl6 hn6 hb6
              go_wp2_with fail
              obtain ⟨z, hz⟩ : ∃ W, W = (((((w6.setCell ⟨L, 0, none⟩ (.int .i64 a'.v.st)).setCell ⟨L, 1, none⟩ (.int .u64 a'.v.mb)).setCell ⟨L, 2, none⟩ (.int .u64 a'.v.mt)).setCell ⟨L, 3, none⟩ (.int .u64 a'.v.tb)).setCell ⟨L, 4, none⟩ (.int .u64 a'.v.tt)).setCell ⟨L, 5, none⟩ (.int .i64 a'.v.n) := ⟨_, rfl⟩
              rw [← hz]
              have HTz : Hid (TgW p g L a' S w z) := by
                have : TgW p g L a' S w z := by
                  rw [hz]; exact TgN.fin HN.out HLS.out HPW.out HPG.out HGL.out
                exact this
              clear hz
              go_roundw
              case rel => exact ⟨i + 1, _, _, by have := HI.out; omega, by go_num, HTz, HBD'⟩
              case measure => simp [intOf]; have := HI.out; omega
  · have k1 : (200 : Int) < l.length := by omega
    clear hln
    go_enter Try.func4, Try.ntmps4
    go_wp2_with fail
    refine (knownA _).mono ?_
    rintro e w2 ⟨rfl, hb⟩
    have HB2 := Lib.hid hb
    clear hb
    go_wp2_with fail
    go_ret
    exact ⟨rfl, HB2.out⟩
end Go.Proofs.Ytcedninipbafaaa
