/- The walk of ip.Options (in a round: onlyN). -/
import Derived.Test.YtccfebaifgnodaaIc
import Derived.Test.YtccfebaifgnodaaOl
import Derived.Test.YtccfebaifgnodaaRg
import Derived.Test.YtccfebaifgnodaaRr
import Derived.Test.YtccfebaifgnodaaCl
namespace Go.Proofs.Ytccfebaifgnodaa
open Go.RowKit Go.Shelf
attribute [local go_sem] Oper.semAt_some

theorem Boxed.below {W W' : World} {B : Nat} {t : TypeId} {v : Value} (h : Boxed W B t v) (hb : Below W.heap.size W W') : Boxed W' B t v := (hb.block B h.lt).trans h
theorem KeepsOthers.of_below {W W' : World} (hb : Below W.heap.size W W') : KeepsOthers W W' := ⟨hb.size, fun k o h _ => (hb.block k (Array.getElem?_eq_some_iff.1 h).1).trans h⟩

/-- The options among what is told. -/
def rawsOf (s : List (Option (List UInt8))) : List (List UInt8) := s.filterMap id
theorem rawsOf_snoc (s : List (Option (List UInt8))) (r : List UInt8) : rawsOf (s ++ [some r]) = rawsOf s ++ [r] := by unfold rawsOf; simp
theorem rawsOf_len (s : List (Option (List UInt8))) : (rawsOf s).length ≤ s.length := List.length_filterMap_le _ _

set_option maxRecDepth 100000 in
set_option maxHeartbeats 8000000 in
theorem options_in (n : Nat) (hn : 3 ≤ n) (a : Option Addr) (c : Nat) (L : List UInt8) (hL : L.length ≤ 1000000) (w : World) (hv : Bytes w (.slice a L.length c) L) :
    CallsIn Fence.wide n Try.prog 25 #[.slice a L.length c] w fun e W' => ∃ v, e = .returned (.tuple #[v, .bool (Om.ok L)]) ∧ OptL W' w.heap.size v (Om.raws L) ∧ Below w.heap.size w W' := by
  have h1 : 1 ≤ n := by omega
  refine callsIn_of_wp_marks Try.func25 rfl trivial ?_ rfl
  simp only [Try.ntmps25, List.size_toArray, List.length_cons, List.length_nil, Nat.reduceAdd, Nat.reduceSub, Array.replicate_succ, Array.replicate_zero, List.push_toArray, List.append_toArray, List.nil_append, List.cons_append]
  have HV := Lib.hid hv
  clear hv
  gi_wp2_with fail
  refine ⟨trivial, (callsIn_wide.2 (each_any a L.length c _)).mono ?_⟩
  rintro e w' ⟨rfl, rfl⟩
  gi_wp2_with fail
  have bR := Boxed.new w 44 (.slice none 0 0)
  have bS := Boxed.new (w.alloc (.cells #[.slice none 0 0] 44)) 4 (.bool false)
  have bO := Boxed.new ((w.alloc (.cells #[.slice none 0 0] 44)).alloc (.cells #[.bool false] 4)) 44 (.slice none 0 0)
  have bN := Boxed.new (((w.alloc (.cells #[.slice none 0 0] 44)).alloc (.cells #[.bool false] 4)).alloc (.cells #[.slice none 0 0] 44)) 22 (.slice a L.length c)
  simp only [World.size_alloc] at bS bO bN
  have hB0 : Below w.heap.size w ((((w.alloc (.cells #[.slice none 0 0] 44)).alloc (.cells #[.bool false] 4)).alloc (.cells #[.slice none 0 0] 44)).alloc (.cells #[.slice a L.length c] 22)) := ((((Below.refl _ w).alloc (Nat.le_refl _) _).alloc (by simp) _).alloc (by simp; omega) _).alloc (by simp; omega) _
  refine wpIn_rangeFunc_ownG rfl h1 (gf := 64) (lb := #[.pointer (some ⟨w.heap.size + 1 + 1 + 1, 0, none⟩)]) rfl trivial (enters_of Try.func64 (by kernel_rfl) rfl)
    (each_stops (n - 1) (by omega) w _ (w.heap.size + 1 + 1 + 1) _ L hL (by simp) bN.cell HV.out hB0) belowK_t (belowK_b (by simp; omega)) (Below.refl _ _) (fun _ => rfl)
    (fun pre W => ((∃ v, Boxed W (w.heap.size + 1 + 1) 44 v ∧ OptL W w.heap.size v (rawsOf (pre.map Opt.raw)) ∧ (∀ p ∈ pre, p.raw ≠ none)) ∧ Boxed W w.heap.size 44 (.slice none 0 0) ∧ Boxed W (w.heap.size + 1) 4 (.bool false)) ∧ Below w.heap.size w W)
    (fun c pre W => (c = .ret ∧ (∃ p ∈ pre, p.raw = none) ∧ W.cell? ⟨w.heap.size, 0, none⟩ = some (.slice none 0 0) ∧ W.cell? ⟨w.heap.size + 1, 0, none⟩ = some (.bool false)) ∧ Below w.heap.size w W)
    (OwnFrom.and (Own.from (fun s A B row hs hg hr => ⟨optl_own w.heap.size (w.heap.size + 1 + 1) 44 (fun pre : List (Opt w) => rawsOf (pre.map Opt.raw)) (fun pre => ∀ p ∈ pre, p.raw ≠ none) s A B row hs.1 hg hr, boxed_own w.heap.size 44 (fun _ : List (Opt w) => .slice none 0 0) s A B row hs.2.1 hg hr, boxed_own (w.heap.size + 1) 4 (fun _ : List (Opt w) => .bool false) s A B row hs.2.2 hg hr⟩) _) (ownFrom_below (Nat.le_refl _) (by simp; omega)))
    (fun c => OwnFrom.and (Own.from (fun s A B row hs hg hr => ⟨hs.1, hs.2.1, cell_kept hs.2.2.1 hg hr, cell_kept hs.2.2.2 hg hr⟩) _) (ownFrom_below (Nat.le_refl _) (by simp; omega)))
    ⟨⟨⟨_, bO.alloc _, OptL.nil _ _, by simp⟩, ((bR.alloc _).alloc _).alloc _, (bS.alloc _).alloc _⟩, hB0⟩
    (fun x => { tmps := #[.slice a L.length c, undef, .pointer (some ⟨w.heap.size, 0, none⟩), .pointer (some ⟨w.heap.size + 1, 0, none⟩), .pointer (some ⟨w.heap.size + 1 + 1, 0, none⟩), x.val, .slice a L.length c, .func (.func 64) #[] #[.pointer (some ⟨w.heap.size + 1 + 1 + 1, 0, none⟩)], x.val, undef, undef, undef, undef, undef, undef, undef, undef, undef, undef, undef, undef, undef], defers := [] }) ?assign ?body ?done ?stop
  case assign =>
    intro l x W K hK
    gi_wp2
    exact hK
  case body =>
    rintro l pre x W ⟨⟨⟨v, hvb, hrow, hne⟩, hRb, hSb⟩, hB⟩ hlt
    obtain ⟨u, hu⟩ : ∃ u, u = x.val := ⟨_, rfl⟩
    obtain ⟨oo, ho⟩ : ∃ o, o = x.raw := ⟨_, rfl⟩
    have hov : OptV w u oo := by rw [hu, ho]; exact x.2
    rw [← hu]
    have HO := Lib.hid ho
    clear hu ho
    cases oo with
    | none =>
      obtain rfl : u = .slice none 0 0 := hov
      have hnn := nil_nil W
      have hcr := hRb.cell
      have hfr := hRb.frozen
      have hcs := hSb.cell
      have hfs := hSb.frozen
      clear hrow hvb
      gi_wp2
      exact ⟨((KeepsOthers.setCell _ _ _).trans (KeepsOthers.setCell _ _ _)).from _, ⟨rfl, ⟨_, List.mem_append_right _ (List.mem_singleton.2 rfl), HO.out.symm⟩, by simp [go_sem, hcr], by simp [go_sem, hcs]⟩, (hB.setCell (p := ⟨w.heap.size, 0, none⟩) (Nat.le_refl _) _).setCell (p := ⟨w.heap.size + 1, 0, none⟩) (Nat.le_succ _) _⟩
    | some r =>
      obtain ⟨b, o, c', rfl, hb, hr2, hr256, hby⟩ := hov
      have hsn := some_nil W ⟨b, o, none⟩ r.length c'
      obtain ⟨b2, o2, e1, _, hcell⟩ := hby.at1 (i := 0) (by omega)
      simp only [Option.some.injEq, Addr.mk.injEq, and_true] at e1
      obtain ⟨rfl, rfl⟩ := e1
      have hcell0 : w.cell? ⟨b, o, none⟩ = some (.int .u8 (Sm.at0 r 0 : Nat)) := hcell
      obtain ⟨y, hx⟩ : ∃ y, y = Sm.at0 r 0 := ⟨_, rfl⟩
      rw [← hx] at hcell0
      have hsnoc := rawsOf_snoc (pre.map Opt.raw) r
      have hmap : (pre ++ [x]).map Opt.raw = pre.map Opt.raw ++ [some r] := by rw [raw_snoc, ← HO.out]
      rw [← hmap] at hsnoc
      have hne' := ne_snoc hne HO.out
      obtain ⟨a', hs, hb2⟩ := (hby.later hB).cut_l 2 2 rfl hr2
      have hRl : (rawsOf (pre.map Opt.raw)).length ≤ 2000000 := by
        have := rawsOf_len (pre.map Opt.raw); simp at this; omega
      obtain ⟨R, hR⟩ : ∃ R, R = rawsOf (pre.map Opt.raw) := ⟨_, rfl⟩
      rw [← hR] at hsnoc hrow hRl
      have HLR : Hid (2 ≤ r.length ∧ r.length < 256) := ⟨hr2, hr256⟩
      have HRL := Lib.hid hRl
      have HS := Lib.hid hsnoc
      have HNE := Lib.hid hne'
      have HVB : Hid (Boxed W (w.heap.size + 1 + 1) 44 v) := hvb
      have HRB : Hid (Boxed W w.heap.size 44 (.slice none 0 0)) := hRb
      have HSB : Hid (Boxed W (w.heap.size + 1) 4 (.bool false)) := hSb
      have HROW : Hid (OptL W w.heap.size v R) := hrow
      have HX := Lib.hid hx
      obtain ⟨m, hm⟩ : ∃ m, m = r.length := ⟨_, rfl⟩
      rw [← hm] at hs hb2 hsn ⊢
      have HM := Lib.hid hm
      have HB2 := Lib.hid hb2
      have g0 : 0 < (m : Int) := by omega
      have g0n : 0 < m := by omega
      have HBW := Lib.hid hB
      have HG0 : Hid (Below W.heap.size W W.drew) := (Below.refl _ _).drew
      clear hby hcell hx hmap hsnoc hne hne' hvb hRb hSb hrow hR hRl hr2 hr256 hm hb2
      gi_wp2_with fail
      refine wpIn_region_fin (S := fun w' => Below w.heap.size w w') (I := fun w3 => ∃ v', Boxed w3 (w.heap.size + 1 + 1) 44 v' ∧ OptL w3 w.heap.size v' (rawsOf ((pre ++ [x]).map Opt.raw)) ∧ Boxed w3 w.heap.size 44 (.slice none 0 0) ∧ Boxed w3 (w.heap.size + 1) 4 (.bool false) ∧ KeepsOthers W w3 ∧ Below w.heap.size w w3 ∧ Below w.heap.size W w3) (by kernel_rfl) (by kernel_rfl) HBW.out.drew ?fin (fun hfin hHeld => ?_)
      case fin =>
        rintro A w3 ⟨v', F1, F2, F3, F4, F5, F6, F7⟩
        clear hs hsn hcell0
        gi_wp2
        exact ⟨F5.from _, F7, ⟨⟨v', F1, F2, HNE.out⟩, F3, F4⟩, F6⟩
      refine wpAnyH_cut #[true, true, true, true, true, true, true, true, true, false, false] 2 (fun A w1 => ∃ (a17 : Option Addr) (n17 c17 : Nat) (g : Nat), A = ⟨#[.slice a L.length c, undef, .pointer (some ⟨w.heap.size, 0, none⟩), .pointer (some ⟨w.heap.size + 1, 0, none⟩), .pointer (some ⟨w.heap.size + 1 + 1, 0, none⟩), .slice (some ⟨b, o, none⟩) m c', .slice a L.length c, .func (.func 64) #[] #[.pointer (some ⟨w.heap.size + 1 + 1 + 1, 0, none⟩)], .slice (some ⟨b, o, none⟩) m c', .slice (some ⟨b, o, none⟩) m c', .bool false, v, .slice (some ⟨b, o, none⟩) m c', .pointer (some ⟨b, o, none⟩), .int .u8 (y : Nat), .slice (some ⟨b, o, none⟩) m c', .slice a' (m - 2) (c' - 2), .slice a17 n17 c17, .agg #[.int .u8 (y : Nat), .slice a17 n17 c17], .slice (some ⟨g, 0, none⟩) 1 1, undef, undef], []⟩ ∧ Hid (Below W.heap.size W w1) ∧ Hid (OwnB w1 w.heap.size (.slice a17 n17 c17) (r.drop 2)) ∧ Hid (w1.cell? ⟨g, 0, none⟩ = some (.int .u8 (y : Nat)) ∧ w1.cell? ⟨g, 1, none⟩ = some (.slice a17 n17 c17))) ?_ (fun sM => ?_)
      · rintro l1 A w1 rfl ⟨a17, n17, c17, g, rfl, HG, HU, HC⟩ hHeld
        refine wpAnyH_ready (rs := [9]) (by kernel_rfl) (by simp) ?_
        refine AllReadyH.cons rfl (fun K hK => ?_) AllReadyH.nil
        refine step_appO rfl (.tmp 11) (.tmp 19) rfl w.heap.size v (.slice a17 n17 c17) R r g rfl rfl (OptL.later HROW.out HG.out) HU.out (by rw [← HX.out]; exact HC.out.1) HC.out.2 HRL.out hHeld.size ?_
        intro v' w2 hown' hbel hgrow
        obtain ⟨a20, c20, rfl⟩ := hown'.form
        obtain ⟨Z, hZ⟩ : ∃ Z, Z = R ++ [r] := ⟨_, rfl⟩
        rw [← hZ] at hown' ⊢
        have hpre : OptL w1 w.heap.size v R := OptL.later HROW.out HG.out
        obtain ⟨us0, _, hpo, _⟩ := hpre
        have bL1 := Boxed.below HVB.out HG.out
        have bR1 := Boxed.below HRB.out HG.out
        have bS1 := Boxed.below HSB.out HG.out
        have bL2 : Boxed w2 (w.heap.size + 1 + 1) 44 v := bL1.kept hgrow (bL1.not_row (by decide) hpo)
        have bR2 : Boxed w2 w.heap.size 44 (.slice none 0 0) := bR1.kept hgrow (bR1.not_row (by decide) hpo)
        have bS2 : Boxed w2 (w.heap.size + 1) 4 (.bool false) := bS1.kept hgrow (bS1.not_row (by decide) hpo)
        have hKO : KeepsOthers W w2 := (KeepsOthers.of_below HG.out).trans (KeepsOthers.of_grownBy hgrow fun j ob ej hj => by obtain ⟨cur, hc⟩ := own_block hpo ej; rw [hc] at hj; cases hj; rfl)
        have hH2 := hHeld.trans hbel
        have hc1 := bL2.cell
        have hf1 := bL2.frozen
        have F1 : Hid (Boxed (w2.setCell ⟨w.heap.size + 1 + 1, 0, none⟩ (.slice a20 Z.length c20)) (w.heap.size + 1 + 1) 44 (.slice a20 Z.length c20)) := bL2.set _
        have F2 : Hid (Boxed (w2.setCell ⟨w.heap.size + 1 + 1, 0, none⟩ (.slice a20 Z.length c20)) w.heap.size 44 (.slice none 0 0)) := bR2.other (by omega) _
        have F3 : Hid (Boxed (w2.setCell ⟨w.heap.size + 1 + 1, 0, none⟩ (.slice a20 Z.length c20)) (w.heap.size + 1) 4 (.bool false)) := bS2.other (by omega) _
        have F4 : Hid (OptL (w2.setCell ⟨w.heap.size + 1 + 1, 0, none⟩ (.slice a20 Z.length c20)) w.heap.size (.slice a20 Z.length c20) Z) := hown'.set bL2 (by decide) (by decide)
        have F5 := Lib.hid (hKO.trans (KeepsOthers.setCell w2 ⟨w.heap.size + 1 + 1, 0, none⟩ (.slice a20 Z.length c20)))
        have F6 := Lib.hid (hH2.setCell (p := ⟨w.heap.size + 1 + 1, 0, none⟩) (by show w.heap.size ≤ w.heap.size + 1 + 1; omega) (.slice a20 Z.length c20))
        have F7 := Lib.hid (((HG.out.mono HBW.out.size).trans hbel).setCell (p := ⟨w.heap.size + 1 + 1, 0, none⟩) (by show w.heap.size ≤ w.heap.size + 1 + 1; omega) (.slice a20 Z.length c20))
        have HZ := Lib.hid hZ
        have HH := Lib.hid hHeld
        clear hown' hbel hgrow hpo bL1 bR1 bS1 bL2 bR2 bS2 hKO hZ
        refine hK.out _ _ hH2 (fun hHeldN => ?_)
        (try simp only [Act.put, List.setIfInBounds_toArray, List.set_cons_zero, List.set_cons_succ, List.getElem_toArray, List.getElem_cons_zero, List.getElem_cons_succ])
        refine wpAnyH_ready (rs := [10]) (by kernel_rfl) (by simp) ?_
        refine AllReadyH.cons rfl (fun K2 hK2 => ?_) AllReadyH.nil
        go_simp
        refine hK2.out _ _ F6.out (fun hHeldN2 => ?_)
        refine wpAnyH_done (by kernel_rfl) ?_ _
        exact hfin _ _ ⟨.slice a20 Z.length c20, F1.out, by rw [HS.out, ← HZ.out]; exact F4.out, F2.out, F3.out, F5.out, F6.out, F7.out⟩
      refine wpAnyH_cut #[true, true, true, true, true, true, true, true, false, false, false] 3 (fun A w1 => ∃ (a17 : Option Addr) (n17 c17 : Nat), A = ⟨#[.slice a L.length c, undef, .pointer (some ⟨w.heap.size, 0, none⟩), .pointer (some ⟨w.heap.size + 1, 0, none⟩), .pointer (some ⟨w.heap.size + 1 + 1, 0, none⟩), .slice (some ⟨b, o, none⟩) m c', .slice a L.length c, .func (.func 64) #[] #[.pointer (some ⟨w.heap.size + 1 + 1 + 1, 0, none⟩)], .slice (some ⟨b, o, none⟩) m c', .slice (some ⟨b, o, none⟩) m c', .bool false, v, .slice (some ⟨b, o, none⟩) m c', .pointer (some ⟨b, o, none⟩), .int .u8 (y : Nat), .slice (some ⟨b, o, none⟩) m c', .slice a' (m - 2) (c' - 2), .slice a17 n17 c17, .agg #[.int .u8 (y : Nat), .slice a17 n17 c17], undef, undef, undef], []⟩ ∧ Hid (Below W.heap.size W w1) ∧ Hid (OwnB w1 w.heap.size (.slice a17 n17 c17) (r.drop 2))) ?_ (fun sAB => ?_)
      · rintro l1 A w1 rfl ⟨a17, n17, c17, rfl, HG, HU⟩ hHeld
        refine wpAnyH_ready (rs := [8]) (by kernel_rfl) (by simp) ?_
        refine AllReadyH.cons rfl (fun K hK => ?_) AllReadyH.nil
        go_simp
        have hA : Below (World.heap w1).size w1 (w1.alloc (.cells #[.int .u8 (y : Nat), .slice a17 n17 c17] 50)) := (Below.refl _ _).alloc (Nat.le_refl _) _
        have HU2 := Lib.hid (OwnB.later HU.out hA)
        have HG2 := Lib.hid (HG.out.trans (hA.mono HG.out.size))
        have hH2 := hHeld.trans (hA.mono hHeld.size)
        refine hK.out _ _ hH2 (fun hHeldN => ?_)
        (try simp only [Act.put, List.setIfInBounds_toArray, List.set_cons_zero, List.set_cons_succ, List.getElem_toArray, List.getElem_cons_zero, List.getElem_cons_succ])
        exact sM _ _ _ (by kernel_rfl) ⟨_, _, _, w1.heap.size, rfl, HG2, HU2, ⟨by simp, by simp⟩⟩ hHeldN
      refine wpAnyH_cut #[false, true, true, true, true, true, true, true, true, false, false] 3 (fun A w1 => ∃ (a17 : Option Addr) (n17 c17 : Nat) (g : Nat), A = ⟨#[.slice a L.length c, undef, .pointer (some ⟨w.heap.size, 0, none⟩), .pointer (some ⟨w.heap.size + 1, 0, none⟩), .pointer (some ⟨w.heap.size + 1 + 1, 0, none⟩), .slice (some ⟨b, o, none⟩) m c', .slice a L.length c, .func (.func 64) #[] #[.pointer (some ⟨w.heap.size + 1 + 1 + 1, 0, none⟩)], .slice (some ⟨b, o, none⟩) m c', .slice (some ⟨b, o, none⟩) m c', .bool false, undef, .slice (some ⟨b, o, none⟩) m c', .pointer (some ⟨b, o, none⟩), .int .u8 (y : Nat), .slice (some ⟨b, o, none⟩) m c', .slice a' (m - 2) (c' - 2), .slice a17 n17 c17, .agg #[.int .u8 (y : Nat), .slice a17 n17 c17], .slice (some ⟨g, 0, none⟩) 1 1, undef, undef], []⟩ ∧ Hid (Below W.heap.size W w1) ∧ Hid (OwnB w1 w.heap.size (.slice a17 n17 c17) (r.drop 2)) ∧ Hid (w1.cell? ⟨g, 0, none⟩ = some (.int .u8 (y : Nat)) ∧ w1.cell? ⟨g, 1, none⟩ = some (.slice a17 n17 c17))) ?_ (fun sBC => ?_)
      · rintro l1 A w1 rfl ⟨a17, n17, c17, g, rfl, HG, HU, HC⟩ hHeld
        refine wpAnyH_ready (rs := [0]) (by kernel_rfl) (by simp) ?_
        refine AllReadyH.cons rfl (fun K hK => ?_) AllReadyH.nil
        have hc1 := Boxed.cell (Boxed.below HVB.out HG.out)
        go_simp
        refine hK.out _ _ hHeld (fun hHeldN => ?_)
        (try simp only [Act.put, List.setIfInBounds_toArray, List.set_cons_zero, List.set_cons_succ, List.getElem_toArray, List.getElem_cons_zero])
        exact sM _ _ _ (by kernel_rfl) ⟨_, _, _, _, rfl, HG, HU, HC⟩ hHeldN
      refine wpAnyH_cut #[true, true, true, true, true, true, false, false, false, false, false] 5 (fun A w1 => A = ⟨#[.slice a L.length c, undef, .pointer (some ⟨w.heap.size, 0, none⟩), .pointer (some ⟨w.heap.size + 1, 0, none⟩), .pointer (some ⟨w.heap.size + 1 + 1, 0, none⟩), .slice (some ⟨b, o, none⟩) m c', .slice a L.length c, .func (.func 64) #[] #[.pointer (some ⟨w.heap.size + 1 + 1 + 1, 0, none⟩)], .slice (some ⟨b, o, none⟩) m c', .slice (some ⟨b, o, none⟩) m c', .bool false, v, .slice (some ⟨b, o, none⟩) m c', .pointer (some ⟨b, o, none⟩), .int .u8 (y : Nat), .slice (some ⟨b, o, none⟩) m c', .slice a' (m - 2) (c' - 2), undef, undef, undef, undef, undef], []⟩ ∧ Hid (Below W.heap.size W w1)) ?_ (fun sA => ?_)
      · rintro l1 A w1 rfl ⟨rfl, HG⟩ hHeld
        refine wpAnyH_ready (rs := [6]) (by kernel_rfl) (by simp) ?_
        refine AllReadyH.cons rfl (fun K hK => ?_) AllReadyH.nil
        go_simp
        refine (clone_any _ (r.drop 2) _ ((show Bytes W _ _ from HB2.out).later HG.out) (by have := HLR.out; simp; omega)).mono ?_
        rintro e w2 ⟨v2, rfl, ho2, hb2⟩
        obtain ⟨a17, c17, rfl⟩ := ho2.form
        obtain ⟨n17, hn17⟩ : ∃ k, k = (r.drop 2).length := ⟨_, rfl⟩
        rw [← hn17] at ho2 ⊢
        have HU2 : Hid (OwnB w2 w.heap.size (.slice a17 n17 c17) (r.drop 2)) := ho2.weak hHeld.size
        have HG2 : Hid (Below W.heap.size W w2) := HG.out.trans (hb2.mono HG.out.size)
        have hH2 := hHeld.trans (hb2.mono hHeld.size)
        clear ho2 hb2 hn17
        refine hK.out _ _ hH2 (fun hHeldN => ?_)
        (try simp only [Act.put, List.setIfInBounds_toArray, List.set_cons_zero, List.set_cons_succ, List.getElem_toArray, List.getElem_cons_zero, List.getElem_cons_succ])
        (clear hHeld; have hHeld := hHeldN)
        (refine wpAnyH_take (i := 7) (v := ?_) rfl (by kernel_rfl) (by kernel_rfl) (by kernel_rfl) (fun _ _ _ h => False.elim h) (Or.inl ⟨by rfl, ?_⟩) hHeld ?_; rotate_left; (focus (intro w hSw; (try dsimp only at hSw); go_simp; try with_reducible rfl)); (try simp only [Act.put, List.setIfInBounds_toArray, List.set_cons_zero, List.set_cons_succ, List.getElem_toArray, List.getElem_cons_zero, List.getElem_cons_succ]))
        exact sAB _ _ _ (by kernel_rfl) ⟨_, _, _, rfl, HG2, HU2⟩ hHeldN
      refine wpAnyH_cut #[false, true, true, true, true, true, true, true, false, false, false] 4 (fun A w1 => ∃ (a17 : Option Addr) (n17 c17 : Nat), A = ⟨#[.slice a L.length c, undef, .pointer (some ⟨w.heap.size, 0, none⟩), .pointer (some ⟨w.heap.size + 1, 0, none⟩), .pointer (some ⟨w.heap.size + 1 + 1, 0, none⟩), .slice (some ⟨b, o, none⟩) m c', .slice a L.length c, .func (.func 64) #[] #[.pointer (some ⟨w.heap.size + 1 + 1 + 1, 0, none⟩)], .slice (some ⟨b, o, none⟩) m c', .slice (some ⟨b, o, none⟩) m c', .bool false, undef, .slice (some ⟨b, o, none⟩) m c', .pointer (some ⟨b, o, none⟩), .int .u8 (y : Nat), .slice (some ⟨b, o, none⟩) m c', .slice a' (m - 2) (c' - 2), .slice a17 n17 c17, .agg #[.int .u8 (y : Nat), .slice a17 n17 c17], undef, undef, undef], []⟩ ∧ Hid (Below W.heap.size W w1) ∧ Hid (OwnB w1 w.heap.size (.slice a17 n17 c17) (r.drop 2))) ?_ (fun sB => ?_)
      · rintro l1 A w1 rfl ⟨a17, n17, c17, rfl, HG, HU⟩ hHeld
        refine wpAnyH_ready (rs := [0, 8]) (by kernel_rfl) (by simp) ?_
        refine AllReadyH.cons rfl (fun K hK => ?_) (AllReadyH.cons rfl (fun K hK => ?_) AllReadyH.nil)
        · have hc1 := Boxed.cell (Boxed.below HVB.out HG.out)
          go_simp
          refine hK.out _ _ hHeld (fun hHeldN => ?_)
          (try simp only [Act.put, List.setIfInBounds_toArray, List.set_cons_zero, List.set_cons_succ, List.getElem_toArray, List.getElem_cons_zero])
          exact sAB _ _ _ (by kernel_rfl) ⟨_, _, _, rfl, HG, HU⟩ hHeldN
        · go_simp
          have hA : Below (World.heap w1).size w1 (w1.alloc (.cells #[.int .u8 (y : Nat), .slice a17 n17 c17] 50)) := (Below.refl _ _).alloc (Nat.le_refl _) _
          have HU2 := Lib.hid (OwnB.later HU.out hA)
          have HG2 := Lib.hid (HG.out.trans (hA.mono HG.out.size))
          have hH2 := hHeld.trans (hA.mono hHeld.size)
          refine hK.out _ _ hH2 (fun hHeldN => ?_)
          (try simp only [Act.put, List.setIfInBounds_toArray, List.set_cons_zero, List.set_cons_succ, List.getElem_toArray, List.getElem_cons_zero, List.getElem_cons_succ])
          exact sBC _ _ _ (by kernel_rfl) ⟨_, _, _, w1.heap.size, rfl, HG2, HU2, ⟨by simp, by simp⟩⟩ hHeldN
      change wpAnyH _ _ _ _ _ 11 _ _ _
      (refine wpAnyH_take (i := 1) (v := ?_) rfl (by kernel_rfl) (by kernel_rfl) (by kernel_rfl) (fun _ _ _ h => False.elim h) (Or.inl ⟨by rfl, ?_⟩) hHeld ?_; rotate_left; (focus (intro w hSw; (try dsimp only at hSw); go_simp; try with_reducible rfl)); (try simp only [Act.put, List.setIfInBounds_toArray, List.set_cons_zero, List.set_cons_succ, List.getElem_toArray, List.getElem_cons_zero, List.getElem_cons_succ])); (refine wpAnyH_take (i := 2) (v := ?_) rfl (by kernel_rfl) (by kernel_rfl) (by kernel_rfl) (fun _ _ _ h => False.elim h) (Or.inl ⟨by rfl, ?_⟩) hHeld ?_; rotate_left; (focus (intro w hSw; (try dsimp only at hSw); go_simp; try with_reducible rfl)); (try simp only [Act.put, List.setIfInBounds_toArray, List.set_cons_zero, List.set_cons_succ, List.getElem_toArray, List.getElem_cons_zero, List.getElem_cons_succ]))
      (refine wpAnyH_take (i := 3) (v := ?_) rfl (by kernel_rfl) (by kernel_rfl) (by kernel_rfl) (fun _ _ _ h => False.elim h) (Or.inl ⟨by rfl, ?_⟩) hHeld ?_; rotate_left; (focus (intro w hSw; (try dsimp only at hSw); go_simp; (have hcc := cell_later' hSw hb hcell0; go_simp; try with_reducible rfl))); (try simp only [Act.put, List.setIfInBounds_toArray, List.set_cons_zero, List.set_cons_succ, List.getElem_toArray, List.getElem_cons_zero, List.getElem_cons_succ]))
      (refine wpAnyH_take (i := 4) (v := ?_) rfl (by kernel_rfl) (by kernel_rfl) (by kernel_rfl) (fun _ _ _ h => False.elim h) (Or.inl ⟨by rfl, ?_⟩) hHeld ?_; rotate_left; (focus (intro w hSw; (try dsimp only at hSw); go_simp; try with_reducible rfl)); (try simp only [Act.put, List.setIfInBounds_toArray, List.set_cons_zero, List.set_cons_succ, List.getElem_toArray, List.getElem_cons_zero, List.getElem_cons_succ])); (refine wpAnyH_take (i := 5) (v := ?_) rfl (by kernel_rfl) (by kernel_rfl) (by kernel_rfl) (fun _ _ _ h => False.elim h) (Or.inl ⟨by rfl, ?_⟩) hHeld ?_; rotate_left; (focus (intro w hSw; (try dsimp only at hSw); go_simp; try with_reducible rfl)); (try simp only [Act.put, List.setIfInBounds_toArray, List.set_cons_zero, List.set_cons_succ, List.getElem_toArray, List.getElem_cons_zero, List.getElem_cons_succ]))
      have HG := HG0
      refine wpAnyH_ready (rs := [0, 6]) (by kernel_rfl) (by simp) ?_
      refine AllReadyH.cons rfl (fun K hK => ?_) (AllReadyH.cons rfl (fun K hK => ?_) AllReadyH.nil)
      · have hc1 := Boxed.cell (Boxed.below HVB.out HG.out)
        go_simp
        refine hK.out _ _ hHeld (fun hHeldN => ?_)
        (try simp only [Act.put, List.setIfInBounds_toArray, List.set_cons_zero, List.set_cons_succ, List.getElem_toArray, List.getElem_cons_zero])
        exact sA _ _ _ (by kernel_rfl) ⟨rfl, HG⟩ hHeldN
      · go_simp
        refine (clone_any _ (r.drop 2) _ ((show Bytes W _ _ from HB2.out).later HG.out) (by have := HLR.out; simp; omega)).mono ?_
        rintro e w2 ⟨v2, rfl, ho2, hb2⟩
        obtain ⟨a17, c17, rfl⟩ := ho2.form
        obtain ⟨n17, hn17⟩ : ∃ k, k = (r.drop 2).length := ⟨_, rfl⟩
        rw [← hn17] at ho2 ⊢
        have HU2 : Hid (OwnB w2 w.heap.size (.slice a17 n17 c17) (r.drop 2)) := ho2.weak hHeld.size
        have HG2 : Hid (Below W.heap.size W w2) := HG.out.trans (hb2.mono HG.out.size)
        have hH2 := hHeld.trans (hb2.mono hHeld.size)
        clear ho2 hb2 hn17
        refine hK.out _ _ hH2 (fun hHeldN => ?_)
        (try simp only [Act.put, List.setIfInBounds_toArray, List.set_cons_zero, List.set_cons_succ, List.getElem_toArray, List.getElem_cons_zero, List.getElem_cons_succ])
        (clear hHeld; have hHeld := hHeldN)
        (refine wpAnyH_take (i := 7) (v := ?_) rfl (by kernel_rfl) (by kernel_rfl) (by kernel_rfl) (fun _ _ _ h => False.elim h) (Or.inl ⟨by rfl, ?_⟩) hHeld ?_; rotate_left; (focus (intro w hSw; (try dsimp only at hSw); go_simp; try with_reducible rfl)); (try simp only [Act.put, List.setIfInBounds_toArray, List.set_cons_zero, List.set_cons_succ, List.getElem_toArray, List.getElem_cons_zero, List.getElem_cons_succ]))
        exact sB _ _ _ (by kernel_rfl) ⟨_, _, _, rfl, HG2, HU2⟩ hHeldN
  case done =>
    rintro D ys W hD hys ⟨⟨⟨v, hvb, hrow, hne⟩, hRb, hSb⟩, hB⟩ hK
    have hok := ok_all hys (fun p hp => by obtain ⟨q, hq, rfl⟩ := List.mem_map.1 hp; exact hne q hq)
    have hraws : Om.raws L = rawsOf (ys.map Opt.raw) := by unfold Om.raws; rw [hok, ← hys]; rfl
    obtain ⟨Z, hZ⟩ : ∃ Z, Z = rawsOf (ys.map Opt.raw) := ⟨_, rfl⟩
    rw [← hZ] at hraws hrow
    obtain ⟨a1, c1, rfl⟩ := hrow.form
    have hc := hvb.cell
    have hcr := hRb.cell
    have hfr := hRb.frozen
    have hcs := hSb.cell
    have hfs := hSb.frozen
    have HROW : Hid (OptL W w.heap.size (.slice a1 Z.length c1) Z) := hrow
    have HRB : Hid (Boxed W w.heap.size 44 (.slice none 0 0)) := hRb
    have HSB : Hid (Boxed W (w.heap.size + 1) 4 (.bool false)) := hSb
    have HOK := Lib.hid hok
    have HRAW := Lib.hid hraws
    have hD2 : w.heap.size + 4 ≤ D := by simp at hD; omega
    clear hok hraws hZ hrow hRb hSb hvb hne hys
    gi_wp2
    have k1 := KeepsOthers.setCell W ⟨w.heap.size, 0, none⟩ (.slice a1 Z.length c1)
    have k2 := KeepsOthers.setCell (W.setCell ⟨w.heap.size, 0, none⟩ (.slice a1 Z.length c1)) ⟨w.heap.size + 1, 0, none⟩ (.bool true)
    have hK' := (k1.trans k2).same D _ hK rfl
    have b1 : Boxed (W.setCell ⟨w.heap.size, 0, none⟩ (.slice a1 Z.length c1)) w.heap.size 44 (.slice a1 Z.length c1) := Boxed.set _ HRB.out
    have b2 : Boxed ((W.setCell ⟨w.heap.size, 0, none⟩ (.slice a1 Z.length c1)).setCell ⟨w.heap.size + 1, 0, none⟩ (.bool true)) w.heap.size 44 (.slice a1 Z.length c1) := b1.other (by omega) _
    have b3 : Boxed ((W.setCell ⟨w.heap.size, 0, none⟩ (.slice a1 Z.length c1)).setCell ⟨w.heap.size + 1, 0, none⟩ (.bool true)) (w.heap.size + 1) 4 (.bool true) := Boxed.set _ (Boxed.other HSB.out (by omega) _)
    have o1 : OptL (W.setCell ⟨w.heap.size, 0, none⟩ (.slice a1 Z.length c1)) w.heap.size (.slice a1 Z.length c1) Z := OptL.set HROW.out HRB.out (by decide) (by decide)
    have o2 : OptL ((W.setCell ⟨w.heap.size, 0, none⟩ (.slice a1 Z.length c1)).setCell ⟨w.heap.size + 1, 0, none⟩ (.bool true)) w.heap.size (.slice a1 Z.length c1) Z := OptL.set o1 (Boxed.other HSB.out (by omega) _) (by decide) (by decide)
    have hc5 := cell_kept b2.cell (grownBy_putObj' _ D (.deferred none)) (fun r e => by cases e; exact ⟨_, hK', rfl⟩)
    have hc6 := cell_kept b3.cell (grownBy_putObj' _ D (.deferred none)) (fun r e => by cases e; exact ⟨_, hK', rfl⟩)
    refine ⟨by simp, .inl ⟨_, _, rfl, run_takeDeferred hK', ?_⟩⟩
    refine ⟨.tuple #[.slice a1 Z.length c1, .bool true], ?_, .slice a1 Z.length c1, by rw [HOK.out], ?_, ((hB.setCell (p := ⟨w.heap.size, 0, none⟩) (Nat.le_refl _) _).setCell (p := ⟨w.heap.size + 1, 0, none⟩) (Nat.le_succ _) _).trans (belowK_b (w := w) (Nat.le_refl _) _ D _ _ (by omega) hK' rfl rfl)⟩
    · simp [results, Try.f25, go_sem, hc5, hc6]
    · rw [HRAW.out]
      exact o2.kept (grownBy_putObj' _ D (.deferred none)) (fun r e => by cases e; exact ⟨_, hK', ⟨fun cs p e => (by cases e), fun cs p e => (by cases e)⟩⟩)
  case stop =>
    rintro D c pre W hD hpre ⟨⟨rfl, ⟨p, hp, hpr⟩, hcr, hcs⟩, hB⟩ hK
    gi_wp2
    refine ⟨by simp, .inl ⟨_, _, rfl, run_takeDeferred hK, ?_⟩⟩
    have hc5 := cell_kept hcr (grownBy_putObj' _ D (.deferred none)) (fun r e => by cases e; exact ⟨_, hK, rfl⟩)
    have hc6 := cell_kept hcs (grownBy_putObj' _ D (.deferred none)) (fun r e => by cases e; exact ⟨_, hK, rfl⟩)
    have hok := ok_none (hpre.subset (List.mem_map.2 ⟨p, hp, hpr⟩))
    have hraws : Om.raws L = [] := by unfold Om.raws; rw [hok]; rfl
    refine ⟨.tuple #[.slice none 0 0, .bool false], ?_, .slice none 0 0, by rw [hok], by rw [hraws]; exact OptL.nil _ _, hB.trans (belowK_b (w := w) (Nat.le_refl _) W D _ _ (by simp at hD; omega) hK rfl rfl)⟩
    simp [results, Try.f25, go_sem, hc5, hc6]
theorem optionsW_any (v : Value) (L : List UInt8) (hL : L.length ≤ 1000000) (w : World) (hv : Bytes w v L) :
    Calls Try.prog 25 #[v] w fun e W' => ∃ v, e = .returned (.tuple #[v, .bool (Om.ok L)]) ∧ OptL W' w.heap.size v (Om.raws L) ∧ Below w.heap.size w W' := by
  obtain ⟨a, c, rfl⟩ := hv.form
  exact callsIn_wide.1 (options_in 3 (by omega) a c L hL w hv)
end Go.Proofs.Ytccfebaifgnodaa
