/- A number of some bytes, read by the reference.
   The walks of the reference's Room, Put and Get.
   The walk of ref03.Routed.
   Options told whole: plain mathematics.
   The walks of ip.Routed, and of the reference's SameOptions where both are the same.
   The walk of ip.Options (in a round: onlyN). -/
import Derived.Test.YtnhkkpcepppgoaaZ01
import Derived.Test.YtnhkkpcepppgoaaZ02
import Derived.Test.YtnhkkpcepppgoaaZ03
import Derived.Test.YtnhkkpcepppgoaaZ04
import Derived.Test.YtnhkkpcepppgoaaZ08

set_option linter.unusedSimpArgs false
set_option linter.unusedVariables false
namespace Go.Proofs.Ytnhkkpcepppgoaa
open Go.RowKit Go.Shelf
attribute [local go_sem] Oper.semAt_some

theorem Boxed.below {W W' : World} {B : Nat} {t : TypeId} {v : Value} (h : Boxed W B t v) (hb : Below W.heap.size W W') : Boxed W' B t v := (hb.block B h.lt).trans h
theorem KeepsOthers.of_below {W W' : World} (hb : Below W.heap.size W W') : KeepsOthers W W' := ⟨hb.size, fun k o h _ => (hb.block k (Array.getElem?_eq_some_iff.1 h).1).trans h⟩

/-- The options among what is told. -/
def rawsOf (s : List (Option (List UInt8))) : List (List UInt8) := s.filterMap id
theorem rawsOf_snoc (s : List (Option (List UInt8))) (r : List UInt8) : rawsOf (s ++ [some r]) = rawsOf s ++ [r] := by unfold rawsOf; simp
theorem rawsOf_len (s : List (Option (List UInt8))) : (rawsOf s).length ≤ s.length := List.length_filterMap_le _ _

set_option maxRecDepth 100000 in
set_option maxHeartbeats 8000000 in
theorem options_in (n : Nat) (hn : 3 ≤ n) (a : Option Addr) (c : Nat) (L : List UInt8) (hL : L.length ≤ 1000000) (w : World) (hv : Bytes w (.slice a L.length c) L) :
    CallsIn Fence.wide n Try.prog 47 #[.slice a L.length c] w fun e W' => ∃ v, e = .returned (.tuple #[v, .bool (Om.ok L)]) ∧ OptL W' w.heap.size v (Om.raws L) ∧ Below w.heap.size w W' := by
  have h1 : 1 ≤ n := by omega
  refine callsIn_of_wp_marks Try.func47 rfl trivial ?_ rfl
  simp only [Try.ntmps47, List.size_toArray, List.length_cons, List.length_nil, Nat.reduceAdd, Nat.reduceSub, Array.replicate_succ, Array.replicate_zero, List.push_toArray, List.append_toArray, List.nil_append, List.cons_append]
  have HV := Lib.hid hv
  clear hv
  gi_wp2_with fail
  refine ⟨trivial, (callsIn_wide.2 (each_any a L.length c _)).mono ?_⟩
  rintro e w' ⟨rfl, rfl⟩
  gi_wp2_with fail
  have bR := Boxed.new w 65 (.slice none 0 0)
  have bS := Boxed.new (w.alloc (.cells #[.slice none 0 0] 65)) 4 (.bool false)
  have bO := Boxed.new ((w.alloc (.cells #[.slice none 0 0] 65)).alloc (.cells #[.bool false] 4)) 65 (.slice none 0 0)
  have bN := Boxed.new (((w.alloc (.cells #[.slice none 0 0] 65)).alloc (.cells #[.bool false] 4)).alloc (.cells #[.slice none 0 0] 65)) 22 (.slice a L.length c)
  simp only [World.size_alloc] at bS bO bN
  have hB0 : Below w.heap.size w ((((w.alloc (.cells #[.slice none 0 0] 65)).alloc (.cells #[.bool false] 4)).alloc (.cells #[.slice none 0 0] 65)).alloc (.cells #[.slice a L.length c] 22)) := ((((Below.refl _ w).alloc (Nat.le_refl _) _).alloc (by simp) _).alloc (by simp; omega) _).alloc (by simp; omega) _
  refine wpIn_rangeFunc_ownG rfl h1 (gf := 85) (lb := #[.pointer (some ⟨w.heap.size + 1 + 1 + 1, 0, none⟩)]) rfl trivial (enters_of Try.func85 (by kernel_rfl) rfl)
    (each_stops (n - 1) (by omega) w _ (w.heap.size + 1 + 1 + 1) _ L hL (by simp) bN.cell HV.out hB0) belowK_t (belowK_b (by simp; omega)) (Below.refl _ _) (fun _ => rfl)
    (fun pre W => ((∃ v, Boxed W (w.heap.size + 1 + 1) 65 v ∧ OptL W w.heap.size v (rawsOf (pre.map Opt.raw)) ∧ (∀ p ∈ pre, p.raw ≠ none)) ∧ Boxed W w.heap.size 65 (.slice none 0 0) ∧ Boxed W (w.heap.size + 1) 4 (.bool false)) ∧ Below w.heap.size w W)
    (fun c pre W => (c = .ret ∧ (∃ p ∈ pre, p.raw = none) ∧ W.cell? ⟨w.heap.size, 0, none⟩ = some (.slice none 0 0) ∧ W.cell? ⟨w.heap.size + 1, 0, none⟩ = some (.bool false)) ∧ Below w.heap.size w W)
    (OwnFrom.and (Own.from (fun s A B row hs hg hr => ⟨optl_own w.heap.size (w.heap.size + 1 + 1) 65 (fun pre : List (Opt w) => rawsOf (pre.map Opt.raw)) (fun pre => ∀ p ∈ pre, p.raw ≠ none) s A B row hs.1 hg hr, boxed_own w.heap.size 65 (fun _ : List (Opt w) => .slice none 0 0) s A B row hs.2.1 hg hr, boxed_own (w.heap.size + 1) 4 (fun _ : List (Opt w) => .bool false) s A B row hs.2.2 hg hr⟩) _) (ownFrom_below (Nat.le_refl _) (by simp; omega)))
    (fun c => OwnFrom.and (Own.from (fun s A B row hs hg hr => ⟨hs.1, hs.2.1, cell_kept hs.2.2.1 hg hr, cell_kept hs.2.2.2 hg hr⟩) _) (ownFrom_below (Nat.le_refl _) (by simp; omega)))
    ⟨⟨⟨_, bO.alloc _, OptL.nil _ _, by simp⟩, ((bR.alloc _).alloc _).alloc _, (bS.alloc _).alloc _⟩, hB0⟩
    (fun x => { tmps := #[.slice a L.length c, undef, .pointer (some ⟨w.heap.size, 0, none⟩), .pointer (some ⟨w.heap.size + 1, 0, none⟩), .pointer (some ⟨w.heap.size + 1 + 1, 0, none⟩), x.val, .slice a L.length c, .func (.func 85) #[] #[.pointer (some ⟨w.heap.size + 1 + 1 + 1, 0, none⟩)], x.val, undef, undef, undef, undef, undef, undef, undef, undef, undef, undef, undef, undef, undef], defers := [] }) ?assign ?body ?done ?stop
  case assign =>
    intro l x W K hK
    gi_wp2
    exact hK
  case body =>
    rintro l pre x W ⟨⟨⟨v, hvb, hrow, hne⟩, hRb, hSb⟩, hB⟩ hlt
    obtain ⟨u, hu⟩ : ∃ u, u = x.val := ⟨_, rfl⟩
    obtain ⟨oo, ho⟩ : ∃ o, o = x.raw := ⟨_, rfl⟩
    have hov : OptV w u oo := by rw [hu, ho]; exact x.2
    rw [← hu]
    have HO := Lib.hid ho
    clear hu ho
    cases oo with
    | none =>
      obtain rfl : u = .slice none 0 0 := hov
      have hnn := nil_nil W
      have hcr := hRb.cell
      have hfr := hRb.frozen
      have hcs := hSb.cell
      have hfs := hSb.frozen
      clear hrow hvb
      gi_wp2
      exact ⟨((KeepsOthers.setCell _ _ _).trans (KeepsOthers.setCell _ _ _)).from _, ⟨rfl, ⟨_, List.mem_append_right _ (List.mem_singleton.2 rfl), HO.out.symm⟩, by simp [go_sem, hcr], by simp [go_sem, hcs]⟩, (hB.setCell (p := ⟨w.heap.size, 0, none⟩) (Nat.le_refl _) _).setCell (p := ⟨w.heap.size + 1, 0, none⟩) (Nat.le_succ _) _⟩
    | some r =>
      obtain ⟨b, o, c', rfl, hb, hr2, hr256, hby⟩ := hov
      have hsn := some_nil W ⟨b, o, none⟩ r.length c'
      obtain ⟨b2, o2, e1, _, hcell⟩ := hby.at1 (i := 0) (by omega)
      simp only [Option.some.injEq, Addr.mk.injEq, and_true] at e1
      obtain ⟨rfl, rfl⟩ := e1
      have hcell0 : w.cell? ⟨b, o, none⟩ = some (.int .u8 (Sm.at0 r 0 : Nat)) := hcell
      obtain ⟨y, hx⟩ : ∃ y, y = Sm.at0 r 0 := ⟨_, rfl⟩
      rw [← hx] at hcell0
      have hsnoc := rawsOf_snoc (pre.map Opt.raw) r
      have hmap : (pre ++ [x]).map Opt.raw = pre.map Opt.raw ++ [some r] := by rw [raw_snoc, ← HO.out]
      rw [← hmap] at hsnoc
      have hne' := ne_snoc hne HO.out
      obtain ⟨a', hs, hb2⟩ := (hby.later hB).cut_l 2 2 rfl hr2
      have hRl : (rawsOf (pre.map Opt.raw)).length ≤ 2000000 := by
        have := rawsOf_len (pre.map Opt.raw); simp at this; omega
      obtain ⟨R, hR⟩ : ∃ R, R = rawsOf (pre.map Opt.raw) := ⟨_, rfl⟩
      rw [← hR] at hsnoc hrow hRl
      have HLR : Hid (2 ≤ r.length ∧ r.length < 256) := ⟨hr2, hr256⟩
      have HRL := Lib.hid hRl
      have HS := Lib.hid hsnoc
      have HNE := Lib.hid hne'
      have HVB : Hid (Boxed W (w.heap.size + 1 + 1) 65 v) := hvb
      have HRB : Hid (Boxed W w.heap.size 65 (.slice none 0 0)) := hRb
      have HSB : Hid (Boxed W (w.heap.size + 1) 4 (.bool false)) := hSb
      have HROW : Hid (OptL W w.heap.size v R) := hrow
      have HX := Lib.hid hx
      obtain ⟨m, hm⟩ : ∃ m, m = r.length := ⟨_, rfl⟩
      rw [← hm] at hs hb2 hsn ⊢
      have HM := Lib.hid hm
      have HB2 := Lib.hid hb2
      have g0 : 0 < (m : Int) := by omega
      have g0n : 0 < m := by omega
      have HBW := Lib.hid hB
      have HG0 : Hid (Below W.heap.size W W.drew) := (Below.refl _ _).drew
      clear hby hcell hx hmap hsnoc hne hne' hvb hRb hSb hrow hR hRl hr2 hr256 hm hb2
      gi_wp2_with fail
      refine wpIn_region_fin (S := fun w' => Below w.heap.size w w') (I := fun w3 => ∃ v', Boxed w3 (w.heap.size + 1 + 1) 65 v' ∧ OptL w3 w.heap.size v' (rawsOf ((pre ++ [x]).map Opt.raw)) ∧ Boxed w3 w.heap.size 65 (.slice none 0 0) ∧ Boxed w3 (w.heap.size + 1) 4 (.bool false) ∧ KeepsOthers W w3 ∧ Below w.heap.size w w3 ∧ Below w.heap.size W w3) (by kernel_rfl) (by kernel_rfl) HBW.out.drew ?fin (fun hfin hHeld => ?_)
      case fin =>
        rintro A w3 ⟨v', F1, F2, F3, F4, F5, F6, F7⟩
        clear hs hsn hcell0
        gi_wp2
        exact ⟨F5.from _, F7, ⟨⟨v', F1, F2, HNE.out⟩, F3, F4⟩, F6⟩
      refine wpAnyH_cut #[true, true, true, true, true, true, true, true, true, false, false] 2 (fun A w1 => ∃ (a17 : Option Addr) (n17 c17 : Nat) (g : Nat), A = ⟨#[.slice a L.length c, undef, .pointer (some ⟨w.heap.size, 0, none⟩), .pointer (some ⟨w.heap.size + 1, 0, none⟩), .pointer (some ⟨w.heap.size + 1 + 1, 0, none⟩), .slice (some ⟨b, o, none⟩) m c', .slice a L.length c, .func (.func 85) #[] #[.pointer (some ⟨w.heap.size + 1 + 1 + 1, 0, none⟩)], .slice (some ⟨b, o, none⟩) m c', .slice (some ⟨b, o, none⟩) m c', .bool false, v, .slice (some ⟨b, o, none⟩) m c', .pointer (some ⟨b, o, none⟩), .int .u8 (y : Nat), .slice (some ⟨b, o, none⟩) m c', .slice a' (m - 2) (c' - 2), .slice a17 n17 c17, .agg #[.int .u8 (y : Nat), .slice a17 n17 c17], .slice (some ⟨g, 0, none⟩) 1 1, undef, undef], []⟩ ∧ Hid (Below W.heap.size W w1) ∧ Hid (OwnB w1 w.heap.size (.slice a17 n17 c17) (r.drop 2)) ∧ Hid (w1.cell? ⟨g, 0, none⟩ = some (.int .u8 (y : Nat)) ∧ w1.cell? ⟨g, 1, none⟩ = some (.slice a17 n17 c17))) ?_ (fun sM => ?_)
      · rintro l1 A w1 rfl ⟨a17, n17, c17, g, rfl, HG, HU, HC⟩ hHeld
        refine wpAnyH_ready (rs := [9]) (by kernel_rfl) (by simp) ?_
        refine AllReadyH.cons rfl (fun K hK => ?_) AllReadyH.nil
        refine step_appO rfl (.tmp 11) (.tmp 19) rfl w.heap.size v (.slice a17 n17 c17) R r g rfl rfl (OptL.later HROW.out HG.out) HU.out (by rw [← HX.out]; exact HC.out.1) HC.out.2 HRL.out hHeld.size ?_
        intro v' w2 hown' hbel hgrow
        obtain ⟨a20, c20, rfl⟩ := hown'.form
        obtain ⟨Z, hZ⟩ : ∃ Z, Z = R ++ [r] := ⟨_, rfl⟩
        rw [← hZ] at hown' ⊢
        have hpre : OptL w1 w.heap.size v R := OptL.later HROW.out HG.out
        obtain ⟨us0, _, hpo, _⟩ := hpre
        have bL1 := Boxed.below HVB.out HG.out
        have bR1 := Boxed.below HRB.out HG.out
        have bS1 := Boxed.below HSB.out HG.out
        have bL2 : Boxed w2 (w.heap.size + 1 + 1) 65 v := bL1.kept hgrow (bL1.not_row (by decide) hpo)
        have bR2 : Boxed w2 w.heap.size 65 (.slice none 0 0) := bR1.kept hgrow (bR1.not_row (by decide) hpo)
        have bS2 : Boxed w2 (w.heap.size + 1) 4 (.bool false) := bS1.kept hgrow (bS1.not_row (by decide) hpo)
        have hKO : KeepsOthers W w2 := (KeepsOthers.of_below HG.out).trans (KeepsOthers.of_grownBy hgrow fun j ob ej hj => by obtain ⟨cur, hc⟩ := own_block hpo ej; rw [hc] at hj; cases hj; rfl)
        have hH2 := hHeld.trans hbel
        have hc1 := bL2.cell
        have hf1 := bL2.frozen
        have F1 : Hid (Boxed (w2.setCell ⟨w.heap.size + 1 + 1, 0, none⟩ (.slice a20 Z.length c20)) (w.heap.size + 1 + 1) 65 (.slice a20 Z.length c20)) := bL2.set _
        have F2 : Hid (Boxed (w2.setCell ⟨w.heap.size + 1 + 1, 0, none⟩ (.slice a20 Z.length c20)) w.heap.size 65 (.slice none 0 0)) := bR2.other (by omega) _
        have F3 : Hid (Boxed (w2.setCell ⟨w.heap.size + 1 + 1, 0, none⟩ (.slice a20 Z.length c20)) (w.heap.size + 1) 4 (.bool false)) := bS2.other (by omega) _
        have F4 : Hid (OptL (w2.setCell ⟨w.heap.size + 1 + 1, 0, none⟩ (.slice a20 Z.length c20)) w.heap.size (.slice a20 Z.length c20) Z) := hown'.set bL2 (by decide) (by decide)
        have F5 := Lib.hid (hKO.trans (KeepsOthers.setCell w2 ⟨w.heap.size + 1 + 1, 0, none⟩ (.slice a20 Z.length c20)))
        have F6 := Lib.hid (hH2.setCell (p := ⟨w.heap.size + 1 + 1, 0, none⟩) (by show w.heap.size ≤ w.heap.size + 1 + 1; omega) (.slice a20 Z.length c20))
        have F7 := Lib.hid (((HG.out.mono HBW.out.size).trans hbel).setCell (p := ⟨w.heap.size + 1 + 1, 0, none⟩) (by show w.heap.size ≤ w.heap.size + 1 + 1; omega) (.slice a20 Z.length c20))
        have HZ := Lib.hid hZ
        have HH := Lib.hid hHeld
        clear hown' hbel hgrow hpo bL1 bR1 bS1 bL2 bR2 bS2 hKO hZ
        refine hK.out _ _ hH2 (fun hHeldN => ?_)
        (try simp only [Act.put, List.setIfInBounds_toArray, List.set_cons_zero, List.set_cons_succ, List.getElem_toArray, List.getElem_cons_zero, List.getElem_cons_succ])
        refine wpAnyH_ready (rs := [10]) (by kernel_rfl) (by simp) ?_
        refine AllReadyH.cons rfl (fun K2 hK2 => ?_) AllReadyH.nil
        go_simp
        refine hK2.out _ _ F6.out (fun hHeldN2 => ?_)
        refine wpAnyH_done (by kernel_rfl) ?_ _
        exact hfin _ _ ⟨.slice a20 Z.length c20, F1.out, by rw [HS.out, ← HZ.out]; exact F4.out, F2.out, F3.out, F5.out, F6.out, F7.out⟩
      refine wpAnyH_cut #[true, true, true, true, true, true, true, true, false, false, false] 3 (fun A w1 => ∃ (a17 : Option Addr) (n17 c17 : Nat), A = ⟨#[.slice a L.length c, undef, .pointer (some ⟨w.heap.size, 0, none⟩), .pointer (some ⟨w.heap.size + 1, 0, none⟩), .pointer (some ⟨w.heap.size + 1 + 1, 0, none⟩), .slice (some ⟨b, o, none⟩) m c', .slice a L.length c, .func (.func 85) #[] #[.pointer (some ⟨w.heap.size + 1 + 1 + 1, 0, none⟩)], .slice (some ⟨b, o, none⟩) m c', .slice (some ⟨b, o, none⟩) m c', .bool false, v, .slice (some ⟨b, o, none⟩) m c', .pointer (some ⟨b, o, none⟩), .int .u8 (y : Nat), .slice (some ⟨b, o, none⟩) m c', .slice a' (m - 2) (c' - 2), .slice a17 n17 c17, .agg #[.int .u8 (y : Nat), .slice a17 n17 c17], undef, undef, undef], []⟩ ∧ Hid (Below W.heap.size W w1) ∧ Hid (OwnB w1 w.heap.size (.slice a17 n17 c17) (r.drop 2))) ?_ (fun sAB => ?_)
      · rintro l1 A w1 rfl ⟨a17, n17, c17, rfl, HG, HU⟩ hHeld
        refine wpAnyH_ready (rs := [8]) (by kernel_rfl) (by simp) ?_
        refine AllReadyH.cons rfl (fun K hK => ?_) AllReadyH.nil
        go_simp
        have hA : Below (World.heap w1).size w1 (w1.alloc (.cells #[.int .u8 (y : Nat), .slice a17 n17 c17] 70)) := (Below.refl _ _).alloc (Nat.le_refl _) _
        have HU2 := Lib.hid (OwnB.later HU.out hA)
        have HG2 := Lib.hid (HG.out.trans (hA.mono HG.out.size))
        have hH2 := hHeld.trans (hA.mono hHeld.size)
        refine hK.out _ _ hH2 (fun hHeldN => ?_)
        (try simp only [Act.put, List.setIfInBounds_toArray, List.set_cons_zero, List.set_cons_succ, List.getElem_toArray, List.getElem_cons_zero, List.getElem_cons_succ])
        exact sM _ _ _ (by kernel_rfl) ⟨_, _, _, w1.heap.size, rfl, HG2, HU2, ⟨by simp, by simp⟩⟩ hHeldN
      refine wpAnyH_cut #[false, true, true, true, true, true, true, true, true, false, false] 3 (fun A w1 => ∃ (a17 : Option Addr) (n17 c17 : Nat) (g : Nat), A = ⟨#[.slice a L.length c, undef, .pointer (some ⟨w.heap.size, 0, none⟩), .pointer (some ⟨w.heap.size + 1, 0, none⟩), .pointer (some ⟨w.heap.size + 1 + 1, 0, none⟩), .slice (some ⟨b, o, none⟩) m c', .slice a L.length c, .func (.func 85) #[] #[.pointer (some ⟨w.heap.size + 1 + 1 + 1, 0, none⟩)], .slice (some ⟨b, o, none⟩) m c', .slice (some ⟨b, o, none⟩) m c', .bool false, undef, .slice (some ⟨b, o, none⟩) m c', .pointer (some ⟨b, o, none⟩), .int .u8 (y : Nat), .slice (some ⟨b, o, none⟩) m c', .slice a' (m - 2) (c' - 2), .slice a17 n17 c17, .agg #[.int .u8 (y : Nat), .slice a17 n17 c17], .slice (some ⟨g, 0, none⟩) 1 1, undef, undef], []⟩ ∧ Hid (Below W.heap.size W w1) ∧ Hid (OwnB w1 w.heap.size (.slice a17 n17 c17) (r.drop 2)) ∧ Hid (w1.cell? ⟨g, 0, none⟩ = some (.int .u8 (y : Nat)) ∧ w1.cell? ⟨g, 1, none⟩ = some (.slice a17 n17 c17))) ?_ (fun sBC => ?_)
      · rintro l1 A w1 rfl ⟨a17, n17, c17, g, rfl, HG, HU, HC⟩ hHeld
        refine wpAnyH_ready (rs := [0]) (by kernel_rfl) (by simp) ?_
        refine AllReadyH.cons rfl (fun K hK => ?_) AllReadyH.nil
        have hc1 := Boxed.cell (Boxed.below HVB.out HG.out)
        go_simp
        refine hK.out _ _ hHeld (fun hHeldN => ?_)
        (try simp only [Act.put, List.setIfInBounds_toArray, List.set_cons_zero, List.set_cons_succ, List.getElem_toArray, List.getElem_cons_zero])
        exact sM _ _ _ (by kernel_rfl) ⟨_, _, _, _, rfl, HG, HU, HC⟩ hHeldN
      refine wpAnyH_cut #[true, true, true, true, true, true, false, false, false, false, false] 5 (fun A w1 => A = ⟨#[.slice a L.length c, undef, .pointer (some ⟨w.heap.size, 0, none⟩), .pointer (some ⟨w.heap.size + 1, 0, none⟩), .pointer (some ⟨w.heap.size + 1 + 1, 0, none⟩), .slice (some ⟨b, o, none⟩) m c', .slice a L.length c, .func (.func 85) #[] #[.pointer (some ⟨w.heap.size + 1 + 1 + 1, 0, none⟩)], .slice (some ⟨b, o, none⟩) m c', .slice (some ⟨b, o, none⟩) m c', .bool false, v, .slice (some ⟨b, o, none⟩) m c', .pointer (some ⟨b, o, none⟩), .int .u8 (y : Nat), .slice (some ⟨b, o, none⟩) m c', .slice a' (m - 2) (c' - 2), undef, undef, undef, undef, undef], []⟩ ∧ Hid (Below W.heap.size W w1)) ?_ (fun sA => ?_)
      · rintro l1 A w1 rfl ⟨rfl, HG⟩ hHeld
        refine wpAnyH_ready (rs := [6]) (by kernel_rfl) (by simp) ?_
        refine AllReadyH.cons rfl (fun K hK => ?_) AllReadyH.nil
        go_simp
        refine (clone_any _ (r.drop 2) _ ((show Bytes W _ _ from HB2.out).later HG.out) (by have := HLR.out; simp; omega)).mono ?_
        rintro e w2 ⟨v2, rfl, ho2, hb2⟩
        obtain ⟨a17, c17, rfl⟩ := ho2.form
        obtain ⟨n17, hn17⟩ : ∃ k, k = (r.drop 2).length := ⟨_, rfl⟩
        rw [← hn17] at ho2 ⊢
        have HU2 : Hid (OwnB w2 w.heap.size (.slice a17 n17 c17) (r.drop 2)) := ho2.weak hHeld.size
        have HG2 : Hid (Below W.heap.size W w2) := HG.out.trans (hb2.mono HG.out.size)
        have hH2 := hHeld.trans (hb2.mono hHeld.size)
        clear ho2 hb2 hn17
        refine hK.out _ _ hH2 (fun hHeldN => ?_)
        (try simp only [Act.put, List.setIfInBounds_toArray, List.set_cons_zero, List.set_cons_succ, List.getElem_toArray, List.getElem_cons_zero, List.getElem_cons_succ])
        (clear hHeld; have hHeld := hHeldN)
        (refine wpAnyH_take (i := 7) (v := ?_) rfl (by kernel_rfl) (by kernel_rfl) (by kernel_rfl) (fun _ _ _ h => False.elim h) (Or.inl ⟨by rfl, ?_⟩) hHeld ?_; rotate_left; (focus (intro w hSw; (try dsimp only at hSw); go_simp; try with_reducible rfl)); (try simp only [Act.put, List.setIfInBounds_toArray, List.set_cons_zero, List.set_cons_succ, List.getElem_toArray, List.getElem_cons_zero, List.getElem_cons_succ]))
        exact sAB _ _ _ (by kernel_rfl) ⟨_, _, _, rfl, HG2, HU2⟩ hHeldN
      refine wpAnyH_cut #[false, true, true, true, true, true, true, true, false, false, false] 4 (fun A w1 => ∃ (a17 : Option Addr) (n17 c17 : Nat), A = ⟨#[.slice a L.length c, undef, .pointer (some ⟨w.heap.size, 0, none⟩), .pointer (some ⟨w.heap.size + 1, 0, none⟩), .pointer (some ⟨w.heap.size + 1 + 1, 0, none⟩), .slice (some ⟨b, o, none⟩) m c', .slice a L.length c, .func (.func 85) #[] #[.pointer (some ⟨w.heap.size + 1 + 1 + 1, 0, none⟩)], .slice (some ⟨b, o, none⟩) m c', .slice (some ⟨b, o, none⟩) m c', .bool false, undef, .slice (some ⟨b, o, none⟩) m c', .pointer (some ⟨b, o, none⟩), .int .u8 (y : Nat), .slice (some ⟨b, o, none⟩) m c', .slice a' (m - 2) (c' - 2), .slice a17 n17 c17, .agg #[.int .u8 (y : Nat), .slice a17 n17 c17], undef, undef, undef], []⟩ ∧ Hid (Below W.heap.size W w1) ∧ Hid (OwnB w1 w.heap.size (.slice a17 n17 c17) (r.drop 2))) ?_ (fun sB => ?_)
      · rintro l1 A w1 rfl ⟨a17, n17, c17, rfl, HG, HU⟩ hHeld
        refine wpAnyH_ready (rs := [0, 8]) (by kernel_rfl) (by simp) ?_
        refine AllReadyH.cons rfl (fun K hK => ?_) (AllReadyH.cons rfl (fun K hK => ?_) AllReadyH.nil)
        · have hc1 := Boxed.cell (Boxed.below HVB.out HG.out)
          go_simp
          refine hK.out _ _ hHeld (fun hHeldN => ?_)
          (try simp only [Act.put, List.setIfInBounds_toArray, List.set_cons_zero, List.set_cons_succ, List.getElem_toArray, List.getElem_cons_zero])
          exact sAB _ _ _ (by kernel_rfl) ⟨_, _, _, rfl, HG, HU⟩ hHeldN
        · go_simp
          have hA : Below (World.heap w1).size w1 (w1.alloc (.cells #[.int .u8 (y : Nat), .slice a17 n17 c17] 70)) := (Below.refl _ _).alloc (Nat.le_refl _) _
          have HU2 := Lib.hid (OwnB.later HU.out hA)
          have HG2 := Lib.hid (HG.out.trans (hA.mono HG.out.size))
          have hH2 := hHeld.trans (hA.mono hHeld.size)
          refine hK.out _ _ hH2 (fun hHeldN => ?_)
          (try simp only [Act.put, List.setIfInBounds_toArray, List.set_cons_zero, List.set_cons_succ, List.getElem_toArray, List.getElem_cons_zero, List.getElem_cons_succ])
          exact sBC _ _ _ (by kernel_rfl) ⟨_, _, _, w1.heap.size, rfl, HG2, HU2, ⟨by simp, by simp⟩⟩ hHeldN
      change wpAnyH _ _ _ _ _ 11 _ _ _
      (refine wpAnyH_take (i := 1) (v := ?_) rfl (by kernel_rfl) (by kernel_rfl) (by kernel_rfl) (fun _ _ _ h => False.elim h) (Or.inl ⟨by rfl, ?_⟩) hHeld ?_; rotate_left; (focus (intro w hSw; (try dsimp only at hSw); go_simp; try with_reducible rfl)); (try simp only [Act.put, List.setIfInBounds_toArray, List.set_cons_zero, List.set_cons_succ, List.getElem_toArray, List.getElem_cons_zero, List.getElem_cons_succ])); (refine wpAnyH_take (i := 2) (v := ?_) rfl (by kernel_rfl) (by kernel_rfl) (by kernel_rfl) (fun _ _ _ h => False.elim h) (Or.inl ⟨by rfl, ?_⟩) hHeld ?_; rotate_left; (focus (intro w hSw; (try dsimp only at hSw); go_simp; try with_reducible rfl)); (try simp only [Act.put, List.setIfInBounds_toArray, List.set_cons_zero, List.set_cons_succ, List.getElem_toArray, List.getElem_cons_zero, List.getElem_cons_succ]))
      (refine wpAnyH_take (i := 3) (v := ?_) rfl (by kernel_rfl) (by kernel_rfl) (by kernel_rfl) (fun _ _ _ h => False.elim h) (Or.inl ⟨by rfl, ?_⟩) hHeld ?_; rotate_left; (focus (intro w hSw; (try dsimp only at hSw); go_simp; (have hcc := cell_later' hSw hb hcell0; go_simp; try with_reducible rfl))); (try simp only [Act.put, List.setIfInBounds_toArray, List.set_cons_zero, List.set_cons_succ, List.getElem_toArray, List.getElem_cons_zero, List.getElem_cons_succ]))
      (refine wpAnyH_take (i := 4) (v := ?_) rfl (by kernel_rfl) (by kernel_rfl) (by kernel_rfl) (fun _ _ _ h => False.elim h) (Or.inl ⟨by rfl, ?_⟩) hHeld ?_; rotate_left; (focus (intro w hSw; (try dsimp only at hSw); go_simp; try with_reducible rfl)); (try simp only [Act.put, List.setIfInBounds_toArray, List.set_cons_zero, List.set_cons_succ, List.getElem_toArray, List.getElem_cons_zero, List.getElem_cons_succ])); (refine wpAnyH_take (i := 5) (v := ?_) rfl (by kernel_rfl) (by kernel_rfl) (by kernel_rfl) (fun _ _ _ h => False.elim h) (Or.inl ⟨by rfl, ?_⟩) hHeld ?_; rotate_left; (focus (intro w hSw; (try dsimp only at hSw); go_simp; try with_reducible rfl)); (try simp only [Act.put, List.setIfInBounds_toArray, List.set_cons_zero, List.set_cons_succ, List.getElem_toArray, List.getElem_cons_zero, List.getElem_cons_succ]))
      have HG := HG0
      refine wpAnyH_ready (rs := [0, 6]) (by kernel_rfl) (by simp) ?_
      refine AllReadyH.cons rfl (fun K hK => ?_) (AllReadyH.cons rfl (fun K hK => ?_) AllReadyH.nil)
      · have hc1 := Boxed.cell (Boxed.below HVB.out HG.out)
        go_simp
        refine hK.out _ _ hHeld (fun hHeldN => ?_)
        (try simp only [Act.put, List.setIfInBounds_toArray, List.set_cons_zero, List.set_cons_succ, List.getElem_toArray, List.getElem_cons_zero])
        exact sA _ _ _ (by kernel_rfl) ⟨rfl, HG⟩ hHeldN
      · go_simp
        refine (clone_any _ (r.drop 2) _ ((show Bytes W _ _ from HB2.out).later HG.out) (by have := HLR.out; simp; omega)).mono ?_
        rintro e w2 ⟨v2, rfl, ho2, hb2⟩
        obtain ⟨a17, c17, rfl⟩ := ho2.form
        obtain ⟨n17, hn17⟩ : ∃ k, k = (r.drop 2).length := ⟨_, rfl⟩
        rw [← hn17] at ho2 ⊢
        have HU2 : Hid (OwnB w2 w.heap.size (.slice a17 n17 c17) (r.drop 2)) := ho2.weak hHeld.size
        have HG2 : Hid (Below W.heap.size W w2) := HG.out.trans (hb2.mono HG.out.size)
        have hH2 := hHeld.trans (hb2.mono hHeld.size)
        clear ho2 hb2 hn17
        refine hK.out _ _ hH2 (fun hHeldN => ?_)
        (try simp only [Act.put, List.setIfInBounds_toArray, List.set_cons_zero, List.set_cons_succ, List.getElem_toArray, List.getElem_cons_zero, List.getElem_cons_succ])
        (clear hHeld; have hHeld := hHeldN)
        (refine wpAnyH_take (i := 7) (v := ?_) rfl (by kernel_rfl) (by kernel_rfl) (by kernel_rfl) (fun _ _ _ h => False.elim h) (Or.inl ⟨by rfl, ?_⟩) hHeld ?_; rotate_left; (focus (intro w hSw; (try dsimp only at hSw); go_simp; try with_reducible rfl)); (try simp only [Act.put, List.setIfInBounds_toArray, List.set_cons_zero, List.set_cons_succ, List.getElem_toArray, List.getElem_cons_zero, List.getElem_cons_succ]))
        exact sB _ _ _ (by kernel_rfl) ⟨_, _, _, rfl, HG2, HU2⟩ hHeldN
  case done =>
    rintro D ys W hD hys ⟨⟨⟨v, hvb, hrow, hne⟩, hRb, hSb⟩, hB⟩ hK
    have hok := ok_all hys (fun p hp => by obtain ⟨q, hq, rfl⟩ := List.mem_map.1 hp; exact hne q hq)
    have hraws : Om.raws L = rawsOf (ys.map Opt.raw) := by unfold Om.raws; rw [hok, ← hys]; rfl
    obtain ⟨Z, hZ⟩ : ∃ Z, Z = rawsOf (ys.map Opt.raw) := ⟨_, rfl⟩
    rw [← hZ] at hraws hrow
    obtain ⟨a1, c1, rfl⟩ := hrow.form
    have hc := hvb.cell
    have hcr := hRb.cell
    have hfr := hRb.frozen
    have hcs := hSb.cell
    have hfs := hSb.frozen
    have HROW : Hid (OptL W w.heap.size (.slice a1 Z.length c1) Z) := hrow
    have HRB : Hid (Boxed W w.heap.size 65 (.slice none 0 0)) := hRb
    have HSB : Hid (Boxed W (w.heap.size + 1) 4 (.bool false)) := hSb
    have HOK := Lib.hid hok
    have HRAW := Lib.hid hraws
    have hD2 : w.heap.size + 4 ≤ D := by simp at hD; omega
    clear hok hraws hZ hrow hRb hSb hvb hne hys
    gi_wp2
    have k1 := KeepsOthers.setCell W ⟨w.heap.size, 0, none⟩ (.slice a1 Z.length c1)
    have k2 := KeepsOthers.setCell (W.setCell ⟨w.heap.size, 0, none⟩ (.slice a1 Z.length c1)) ⟨w.heap.size + 1, 0, none⟩ (.bool true)
    have hK' := (k1.trans k2).same D _ hK rfl
    have b1 : Boxed (W.setCell ⟨w.heap.size, 0, none⟩ (.slice a1 Z.length c1)) w.heap.size 65 (.slice a1 Z.length c1) := Boxed.set _ HRB.out
    have b2 : Boxed ((W.setCell ⟨w.heap.size, 0, none⟩ (.slice a1 Z.length c1)).setCell ⟨w.heap.size + 1, 0, none⟩ (.bool true)) w.heap.size 65 (.slice a1 Z.length c1) := b1.other (by omega) _
    have b3 : Boxed ((W.setCell ⟨w.heap.size, 0, none⟩ (.slice a1 Z.length c1)).setCell ⟨w.heap.size + 1, 0, none⟩ (.bool true)) (w.heap.size + 1) 4 (.bool true) := Boxed.set _ (Boxed.other HSB.out (by omega) _)
    have o1 : OptL (W.setCell ⟨w.heap.size, 0, none⟩ (.slice a1 Z.length c1)) w.heap.size (.slice a1 Z.length c1) Z := OptL.set HROW.out HRB.out (by decide) (by decide)
    have o2 : OptL ((W.setCell ⟨w.heap.size, 0, none⟩ (.slice a1 Z.length c1)).setCell ⟨w.heap.size + 1, 0, none⟩ (.bool true)) w.heap.size (.slice a1 Z.length c1) Z := OptL.set o1 (Boxed.other HSB.out (by omega) _) (by decide) (by decide)
    have hc5 := cell_kept b2.cell (grownBy_putObj' _ D (.deferred none)) (fun r e => by cases e; exact ⟨_, hK', rfl⟩)
    have hc6 := cell_kept b3.cell (grownBy_putObj' _ D (.deferred none)) (fun r e => by cases e; exact ⟨_, hK', rfl⟩)
    refine ⟨by simp, .inl ⟨_, _, rfl, run_takeDeferred hK', ?_⟩⟩
    refine ⟨.tuple #[.slice a1 Z.length c1, .bool true], ?_, .slice a1 Z.length c1, by rw [HOK.out], ?_, ((hB.setCell (p := ⟨w.heap.size, 0, none⟩) (Nat.le_refl _) _).setCell (p := ⟨w.heap.size + 1, 0, none⟩) (Nat.le_succ _) _).trans (belowK_b (w := w) (Nat.le_refl _) _ D _ _ (by omega) hK' rfl rfl)⟩
    · simp [results, Try.f47, go_sem, hc5, hc6]
    · rw [HRAW.out]
      exact o2.kept (grownBy_putObj' _ D (.deferred none)) (fun r e => by cases e; exact ⟨_, hK', ⟨fun cs p e => (by cases e), fun cs p e => (by cases e)⟩⟩)
  case stop =>
    rintro D c pre W hD hpre ⟨⟨rfl, ⟨p, hp, hpr⟩, hcr, hcs⟩, hB⟩ hK
    gi_wp2
    refine ⟨by simp, .inl ⟨_, _, rfl, run_takeDeferred hK, ?_⟩⟩
    have hc5 := cell_kept hcr (grownBy_putObj' _ D (.deferred none)) (fun r e => by cases e; exact ⟨_, hK, rfl⟩)
    have hc6 := cell_kept hcs (grownBy_putObj' _ D (.deferred none)) (fun r e => by cases e; exact ⟨_, hK, rfl⟩)
    have hok := ok_none (hpre.subset (List.mem_map.2 ⟨p, hp, hpr⟩))
    have hraws : Om.raws L = [] := by unfold Om.raws; rw [hok]; rfl
    refine ⟨.tuple #[.slice none 0 0, .bool false], ?_, .slice none 0 0, by rw [hok], by rw [hraws]; exact OptL.nil _ _, hB.trans (belowK_b (w := w) (Nat.le_refl _) W D _ _ (by simp at hD; omega) hK rfl rfl)⟩
    simp [results, Try.f47, go_sem, hc5, hc6]
theorem optionsW_any (v : Value) (L : List UInt8) (hL : L.length ≤ 1000000) (w : World) (hv : Bytes w v L) :
    Calls Try.prog 47 #[v] w fun e W' => ∃ v, e = .returned (.tuple #[v, .bool (Om.ok L)]) ∧ OptL W' w.heap.size v (Om.raws L) ∧ Below w.heap.size w W' := by
  obtain ⟨a, c, rfl⟩ := hv.form
  exact callsIn_wide.1 (options_in 3 (by omega) a c L hL w hv)
end Go.Proofs.Ytnhkkpcepppgoaa

namespace Go.Proofs.Ytnhkkpcepppgoaa
open Go.RowKit
attribute [local go_sem ↓] Go.wp_at_zero Go.wp_at_succ

def isRoute (k : Nat) : Bool := k == 131 || k == 137
def routedK (K : List (Nat × List UInt8)) : Bool := K.any fun p => isRoute p.1
theorem route_int (k : Nat) : ((k : Int) == 131 || (k : Int) == 137) = isRoute k := by
  unfold isRoute; rw [Bool.eq_iff_iff]; simp; omega

theorem routeFn_any (k : Nat) (u : Option Addr) (n c : Nat) (w : World) :
    Calls Try.prog 76 #[.agg #[.int .u8 (k : Nat), .slice u n c]] w fun e w' => e = .returned (.bool (isRoute k)) ∧ Below w.heap.size w w' := by
  have HR := Lib.hid (route_int k)
  by_cases h : (k : Int) = 131
  · have g : ((k : Int) == 131) = true := by simpa using h
    have HG := Lib.hid g
    clear h
    go_enter Try.func76, Try.ntmps76
    go_wp2
    go_ret
    refine ⟨ret_b ?_, by go_grown⟩
    rw [← HR.out]; simp [HG.out]
  · have g : ((k : Int) == 131) = false := by simpa using h
    have HG := Lib.hid g
    go_enter Try.func76, Try.ntmps76
    go_wp2
    go_ret
    refine ⟨ret_b ?_, by go_grown⟩
    rw [← HR.out]; simp [HG.out]

set_option maxHeartbeats 2000000 in
theorem routedIdx_any (a : Option Addr) (c : Nat) (K : List (Nat × List UInt8)) (hK : K.length ≤ 1000000) (w : World) (hv : OptR w (.slice a K.length c) K) :
    Calls Try.prog 87 #[.slice a K.length c, .func (.func 76) #[] #[]] w fun e w' => ∃ i : Int, e = .returned (.int .i64 i) ∧ (decide (0 ≤ i) = routedK K) ∧ Below w.heap.size w w' := by
  have HV := Lib.hid hv
  have hz2 : (K.length : Int) ≤ 1000000 := by omega
  clear hK hv
  go_enter Try.func87, Try.ntmps87
  go_wp2_with fail
  go_loopw [5, 8] (fun _ i wr => ∃ k : Nat, k ≤ K.length ∧ i = .int .i64 k ∧ Hid (routedK (K.take k) = false) ∧ Hid (Below w.heap.size w wr)) (fun _ i _ => K.length - (intOf i).toNat)
  case atStart => exact ⟨0, Nat.zero_le _, rfl, rfl, Below.refl _ _⟩
  case round =>
    obtain ⟨k, hk, rfl, HN, HB⟩ := hrel
    rcases Nat.lt_or_ge k K.length with hlt | hge
    · have g1 : (k : Int) < K.length := by omega
      obtain ⟨b, o, rfl, hbl, hc0, x, m, d, hc1, _, _⟩ := HV.out.at hlt
      have d0 := cell_later' HB.out hbl hc0
      have d1 := cell_later' HB.out hbl hc1
      obtain ⟨z, hz⟩ : ∃ z, z = K[k].1 := ⟨_, rfl⟩
      rw [← hz] at d0
      have ht : routedK (K.take (k + 1)) = (routedK (K.take k) || isRoute z) := by
        unfold routedK
        rw [List.take_succ_eq_append_getElem hlt, List.any_append, hz]; simp
      have hmem : isRoute z = true → routedK K = true := fun h => List.any_eq_true.2 ⟨K[k], List.getElem_mem hlt, by rw [← hz]; exact h⟩
      have e0 : wr.cell? ⟨b, o + k * 2, none⟩ = some (.int .u8 (z : Nat)) := by rw [Nat.mul_comm]; exact d0
      have e1 : wr.cell? ⟨b, o + (k * 2 + 1), none⟩ = some (.slice x m d) := by rw [Nat.mul_comm k 2]; exact d1
      have e2 : wr.cell? ⟨b, o + k * 2 + 1, none⟩ = some (.slice x m d) := by rw [Nat.add_assoc]; exact e1
      have HT := Lib.hid ht
      have HM := Lib.hid hmem
      clear ht hmem hz hc0 hc1 d0 d1
      cases hr : isRoute z with
      | true =>
        have HA := Lib.hid (HM.out hr)
        have HR := Lib.hid hr
        clear hr
        go_wp2_with fail
        refine (routeFn_any z _ _ _ _).mono ?_
        rintro e w1 ⟨rfl, hb1⟩
        rw [HR.out]
        have HB1 := Lib.hid (HB.out.trans (hb1.mono HB.out.size))
        clear hb1
        go_wp2_with fail
        go_ret
        exact ⟨_, rfl, by rw [HA.out]; exact decide_eq_true (by omega), HB1.out⟩
      | false =>
        have HR := Lib.hid hr
        clear hr
        go_wp2_with fail
        refine (routeFn_any z _ _ _ _).mono ?_
        rintro e w1 ⟨rfl, hb1⟩
        rw [HR.out]
        have HB1 := Lib.hid (HB.out.trans (hb1.mono HB.out.size))
        clear hb1
        go_wp2_with fail
        go_roundw
        case rel => exact ⟨k + 1, by omega, by go_num, by show _ = _; rw [HT.out, HN.out, HR.out]; rfl, HB1⟩
        case measure => simp [intOf]; omega
    · have e : k = K.length := by omega
      subst e
      go_wp2_with fail
      go_ret
      refine ⟨-1, rfl, ?_, HB.out⟩
      have := HN.out
      rw [List.take_length] at this
      rw [this]; rfl
theorem routedHas_any (v : Value) (K : List (Nat × List UInt8)) (hK : K.length ≤ 1000000) (w : World) (hv : OptR w v K) :
    Calls Try.prog 75 #[v, .func (.func 76) #[] #[]] w fun e w' => e = .returned (.bool (routedK K)) ∧ Below w.heap.size w w' := by
  obtain ⟨a, c, rfl⟩ := hv.form
  have HV := Lib.hid hv
  clear hv
  go_enter Try.func75, Try.ntmps75
  go_wp2_with fail
  refine (routedIdx_any a c K hK w HV.out).mono ?_
  rintro e w1 ⟨i, rfl, hi, hb⟩
  have HI := Lib.hid hi
  clear hi
  go_wp2_with fail
  go_ret
  exact ⟨ret_b HI.out, hb⟩
theorem raws_len (L : List UInt8) : (Om.raws L).length ≤ L.length := by
  unfold Om.raws
  split
  · exact Nat.le_trans (List.length_filterMap_le _ _) (Om.seq_len _ L (Nat.le_refl _))
  · simp
/-- Is a source route among them? -/
def routedB (L : List UInt8) : Bool := routedK ((Om.raws L).map kd)
theorem routedW_any (v : Value) (L : List UInt8) (hL : L.length ≤ 1000000) (w : World) (hv : Bytes w v L) :
    Calls Try.prog 50 #[v] w fun e w' => e = .returned (.bool (routedB L)) ∧ Below w.heap.size w w' := by
  obtain ⟨a, c, rfl⟩ := hv.form
  have HV := Lib.hid hv
  clear hv
  go_enter Try.func50, Try.ntmps50
  go_wp2_with fail
  refine (optionsW_any _ L hL w HV.out).mono ?_
  rintro e w1 ⟨v1, rfl, ho, hb⟩
  have HO := Lib.hid ho.reads
  obtain ⟨a1, c1, rfl⟩ := ho.form
  have HB := Lib.hid hb
  clear ho hb
  go_wp2_with fail
  refine (routedHas_any _ ((Om.raws L).map kd) (by have := raws_len L; simp; omega) w1 HO.out).mono ?_
  rintro e w2 ⟨rfl, hb2⟩
  have HB2 := Lib.hid (HB.out.trans (hb2.mono HB.out.size))
  clear hb2
  go_wp2_with fail
  go_ret
  exact ⟨rfl, HB2.out⟩

set_option maxHeartbeats 4000000 in
theorem sameOpt_any (u v : Value) (K : List (Nat × List UInt8)) (hK : K.length ≤ 1000000) (w : World) (hu : OptR w u K) (hv : OptR w v K) :
    Calls Try.prog 48 #[u, v] w fun e w' => e = .returned (.bool true) ∧ Below w.heap.size w w' := by
  obtain ⟨a, c, rfl⟩ := hu.form
  obtain ⟨a', c', rfl⟩ := hv.form
  obtain ⟨N, hN⟩ : ∃ N, N = K.length := ⟨_, rfl⟩
  rw [← hN] at hu hv hK ⊢
  have HN := Lib.hid hN
  have HU := Lib.hid hu
  have HV := Lib.hid hv
  have hz2 : (N : Int) ≤ 1000000 := by omega
  clear hu hv hN hK
  go_enter Try.func48, Try.ntmps48
  go_wp2_with fail
  go_loopw [5] (fun i wr => ∃ k : Nat, k ≤ N ∧ i = .int .i64 k ∧ Hid (Below w.heap.size w wr)) (fun i _ => N - (intOf i).toNat)
  case atStart => exact ⟨0, Nat.zero_le _, rfl, Below.refl _ _⟩
  case round =>
    obtain ⟨k, hk, rfl, HB⟩ := hrel
    rcases Nat.lt_or_ge k N with hlt | hge
    · have g1 : (k : Int) < N := by omega
      have hlK : k < K.length := by rw [← HN.out]; exact hlt
      obtain ⟨b, o, rfl, hbl, hc0, x, m, d, hc1, hm1, hby⟩ := HU.out.at hlK
      obtain ⟨b', o', rfl, hbl', hc0', x', m', d', hc1', hm2, hby'⟩ := HV.out.at hlK
      have d0 := cell_later' HB.out hbl hc0
      have d1 := cell_later' HB.out hbl hc1
      have d0' := cell_later' HB.out hbl' hc0'
      have d1' := cell_later' HB.out hbl' hc1'
      have hcv := fun n => (hby.later (HB.out.trans (below_dr0 _ wr n))).str (P := Try.prog) (src := 22) (dst := 9) Try.underlying22 Try.underlying5 Try.underlying9
      have hcv' := fun n => (hby'.later (HB.out.trans (below_dr0 _ wr n))).str (P := Try.prog) (src := 22) (dst := 9) Try.underlying22 Try.underlying5 Try.underlying9
      obtain ⟨z, hz⟩ : ∃ z, z = K[k].1 := ⟨_, rfl⟩
      obtain ⟨l, hl⟩ : ∃ l, l = K[k].2 := ⟨_, rfl⟩
      rw [← hz] at d0 d0'
      rw [← hl] at hcv hcv'
      rw [Nat.mul_comm] at d0 d0'
      have e2 : wr.cell? ⟨b, o + k * 2 + 1, none⟩ = some (.slice x m d) := by rw [Nat.add_assoc, Nat.mul_comm k 2]; exact d1
      have e2' : wr.cell? ⟨b', o' + k * 2 + 1, none⟩ = some (.slice x' m' d') := by rw [Nat.add_assoc, Nat.mul_comm k 2]; exact d1'
      have g2 : ((z : Int) != z) = false := by simp
      have g3 : k < N := hlt
      clear hz hl hc0 hc1 hc0' hc1' d1 d1' hby hby' hm1 hm2 hlK
      go_wp2_with fail
      go_quiet (fail)
      go_wp2_with fail
      go_roundw
      case rel => exact ⟨k + 1, by omega, by go_num, below_drewN HB.out _⟩
      case measure => simp [intOf]; omega
    · have e : k = N := by omega
      subst e
      go_wp2_with fail
      go_ret
      exact ⟨rfl, HB.out⟩
end Go.Proofs.Ytnhkkpcepppgoaa

namespace Go.Proofs.Ytnhkkpcepppgoaa
open Sm

theorem at0_app {l r : List UInt8} {i : Nat} (h : i < l.length) : at0 (l ++ r) i = at0 l i := by unfold at0; rw [List.getElem?_append_left h]
/-- A row of whole options is read as it is. -/
theorem seq_flat : ∀ R : List (List UInt8), (∀ r ∈ R, 2 ≤ r.length ∧ 2 ≤ at0 r 0 ∧ at0 r 1 = r.length) → Om.seq R.flatten = R.map some
  | [], _ => by simp [Om.seq_nil]
  | r :: R, h => by
    obtain ⟨h1, h2, h3⟩ := h r (List.mem_cons_self ..)
    have e0 : at0 (r ++ R.flatten) 0 = at0 r 0 := at0_app (by omega)
    have e1 : at0 (r ++ R.flatten) 1 = r.length := by rw [at0_app (by omega), h3]
    rw [List.flatten_cons, Om.seq_opt (by omega) (by omega) (by rw [e1, List.length_append]; omega), e1, List.take_left', List.drop_left', seq_flat R (fun r hr => h r (List.mem_cons_of_mem _ hr))]
    · rfl
    · rfl
    · rfl
theorem raws_wf (L : List UInt8) : ∀ r ∈ Om.raws L, 2 ≤ r.length ∧ 2 ≤ at0 r 0 ∧ at0 r 1 = r.length := by
  intro r hr
  unfold Om.raws at hr
  split at hr
  · obtain ⟨o, ho, he⟩ := List.mem_filterMap.1 hr
    simp only [id] at he
    subst he
    exact Om.seq_some _ L (Nat.le_refl _) r ho
  · cases hr
theorem ok_flat (L : List UInt8) : Om.ok (Om.raws L).flatten = true ∧ Om.raws (Om.raws L).flatten = Om.raws L := by
  have h := seq_flat _ (raws_wf L)
  have hok : Om.ok (Om.raws L).flatten = true := by unfold Om.ok; rw [h]; simp
  refine ⟨hok, ?_⟩
  generalize Om.raws L = R at h hok ⊢
  unfold Om.raws
  rw [hok, h, if_pos rfl, List.filterMap_map]
  simp
theorem raws_no {L : List UInt8} (h : Om.ok L = false) : Om.raws L = [] := by unfold Om.raws; rw [h]; rfl
theorem copied_no {L : List UInt8} (h : Om.ok L = false) : copied L = [] := by unfold copied; rw [h]; rfl
theorem routed_no {L : List UInt8} (h : Om.ok L = false) : routedB L = false := by unfold routedB; rw [raws_no h]; rfl
theorem copied_mod (L : List UInt8) : (copied L).length % 4 = 0 := by
  unfold copied; split
  · unfold pad; rw [List.length_append, List.length_replicate]; omega
  · rfl
theorem raw_eq {r : List UInt8} (h : 2 ≤ r.length) : UInt8.ofNat (at0 r 0) :: UInt8.ofNat (at0 r 1) :: r.drop 2 = r := by
  match r, h with
  | a :: b :: t, _ => simp [at0]
theorem seq_total : ∀ (n : Nat) (l : List UInt8), l.length ≤ n → ((Om.seq l).filterMap id).flatten.length ≤ l.length
  | 0, l, h => by
    have : l = [] := List.length_eq_zero_iff.1 (by omega)
    subst this; rw [Om.seq_nil]; simp
  | n + 1, l, h => by
    rcases Nat.eq_zero_or_pos l.length with h0 | h0
    · have : l = [] := List.length_eq_zero_iff.1 h0
      subst this; rw [Om.seq_nil]; simp
    · by_cases h1 : at0 l 0 = 0
      · rw [Om.seq_end h1]; simp
      · by_cases h2 : at0 l 0 = 1
        · rw [Om.seq_nop h0 h2]
          have := seq_total n (l.drop 1) (by simp; omega)
          simp only [List.length_drop] at this; omega
        · by_cases h3 : l.length < 2 ∨ at0 l 1 < 2 ∨ l.length < at0 l 1
          · rw [Om.seq_bad h0 (by omega) h3]; simp
          · rw [Om.seq_opt (by omega) (by omega) (by omega)]
            have := seq_total n (l.drop (at0 l 1)) (by simp; omega)
            simp only [List.length_drop, List.filterMap_cons, id, List.flatten_cons, List.length_append, List.length_take] at this ⊢
            omega
theorem raws_total (L : List UInt8) : (Om.raws L).flatten.length ≤ L.length := by
  unfold Om.raws; split
  · exact seq_total _ L (Nat.le_refl _)
  · simp
theorem take_flat_le {R : List (List UInt8)} (k : Nat) : (R.take k).flatten.length ≤ R.flatten.length := by
  have : R.flatten = (R.take k).flatten ++ (R.drop k).flatten := by rw [← List.flatten_append, List.take_append_drop]
  rw [this, List.length_append]; omega
theorem take_flat_succ {R : List (List UInt8)} {k : Nat} (h : k < R.length) : (R.take (k + 1)).flatten = (R.take k).flatten ++ R[k] := by
  rw [List.take_succ_eq_append_getElem h, List.flatten_append, List.flatten_singleton]
theorem routed_take {R : List (List UInt8)} {k : Nat} (h : k < R.length) : routedK ((R.take (k + 1)).map kd) = (routedK ((R.take k).map kd) || isRoute (at0 R[k] 0)) := by
  unfold routedK
  rw [List.take_succ_eq_append_getElem h, List.map_append, List.any_append]
  simp [kd]
theorem route_cases (z : Nat) : isRoute z = (decide (z = 131) || decide (z = 137)) := by unfold isRoute; rw [Bool.eq_iff_iff]; simp
end Go.Proofs.Ytnhkkpcepppgoaa

namespace Go.Proofs.Ytnhkkpcepppgoaa
open Go.RowKit
attribute [local go_sem ↓] Go.wp_at_zero Go.wp_at_succ

theorem routed_parts {L : List UInt8} {A : List (Nat × Nat)} (h : PtsOf L A) : routedB L = A.any fun p => isRoute (Sm.at0 L p.1) := by
  unfold routedB routedK
  rw [h.raws, List.any_map]
  exact any_raws isRoute rfl A h.pts
/-- What Parts tells, with its list read. -/
theorem partsR_any (v0 : Value) (L : List UInt8) (hL : L.length ≤ 1000) (w : World) (hv : Bytes w v0 L) :
    Calls Try.prog 57 #[v0] w fun e w' => ∃ a c A, e = .returned (.tuple #[.slice a A.length c, .bool (Om.ok L)]) ∧ PtR w' (.slice a A.length c) A ∧ A.length ≤ L.length ∧ (∀ p ∈ A, PtOk L p) ∧ Om.raws L = rawsP L A ∧ Below w.heap.size w w' :=
  (partsW_any v0 L hL w hv).mono fun e w' h => by
    rcases h with ⟨v, A, rfl, h1, h2, h3⟩ | ⟨rfl, h1, h2⟩
    · obtain ⟨a, c, rfl⟩ := h1.form
      exact ⟨a, c, A, by rw [h2.ok], h1.reads, h2.al, h2.pts, h2.raws, h3⟩
    · exact ⟨none, 0, [], by rw [h1]; rfl, .inl ⟨rfl, _, _, rfl⟩, Nat.zero_le _, by simp, by rw [raws_no h1]; rfl, h2⟩
theorem any_take_succ {α : Type} {A : List α} {k : Nat} {p : α} (h : A[k]? = some p) (f : α → Bool) : (A.take (k + 1)).any f = ((A.take k).any f || f p) := by
  rw [List.take_add_one, List.any_append, h]; simp

end Go.Proofs.Ytnhkkpcepppgoaa

namespace Go.Proofs.Ytnhkkpcepppgoaa
open Go.RowKit
def AnsV (l : List UInt8) (w : World) (e : Ending) (w' : World) : Prop := ∃ v, e = .returned v ∧ Bytes w' v l ∧ Below w.heap.size w w'

theorem byte_of2 {n k : Nat} : ((n / 256 ^ k : Nat) : Int) % 256 = ((UInt8.ofNat (n / 256 ^ k)).toNat : Int) := by
  rw [UInt8.toNat_ofNat']; simp

set_option maxHeartbeats 1000000 in
set_option maxRecDepth 100000 in
theorem putR_any (n size : Nat) (w : World) (hn : n < 18446744073709551616) (h2 : size ≤ 8) :
    Calls Try.prog 64 #[.int .u64 (n : Int), .int .i64 (size : Int)] w (AnsV (putL n size) w) := by
  have hi5 : (Try.prog.info? 5).map (fun i => (i.zero, i.size, i.bytes)) = some (some (.int .u8 0), 1, 1) := by kernel_rfl
  obtain ⟨i0, hi, hx⟩ := Option.map_eq_some_iff.1 hi5
  simp only [Prod.mk.injEq] at hx
  obtain ⟨hz0, hz1, hz2⟩ := hx
  obtain ⟨w1, hmk, hown0, hg0⟩ := run_make_full (P := Try.prog) (w := w) w.heap.size 22 5 i0 (.int .u8 0) 1 Try.underlying22 hi hz0 hz1 .i64 .i64 size (by rw [hz2]; omega) (by unfold maxLen; omega) (Nat.le_refl _)
  clear hi5
  have HU := Lib.hid (show Below w.heap.size w w1 from (Below.refl _ _).grown hg0 (Nat.le_refl _) (by simp))
  have hm : (madeCells (Value.int IntKind.u8 0).cells (size * 1)).toList = bv (putR n size 0) := by
    rw [Nat.mul_one]; show (madeCells #[.int .u8 0] size).toList = _
    rw [toList_madeCells_one]; simp [putR, putL, bv]
  rw [hm] at hown0
  have HO := Lib.hid hown0
  clear hm hown0 hg0
  go_enter Try.func64, Try.ntmps64
  go_wp2
  clear hmk
  go_loopw [0, 6] (fun x i wr => ∃ k : Nat, k ≤ size ∧ i = .int .i64 ((size : Int) - 1 - k) ∧ x = .int .u64 ((n / 256 ^ k : Nat) : Int) ∧ Hid (wr.ownsRow w.heap.size 5 1 (.slice (some ⟨w.heap.size, 0, none⟩) size size) size (bv (putR n size k))) ∧ Hid (Below w.heap.size w wr)) (fun _ i _ => (intOf i + 1).toNat)
  case atStart => exact ⟨0, Nat.zero_le _, by simp, by simp, HO.out, HU⟩
  case round =>
    obtain ⟨k, hk, rfl, rfl, HW, HB⟩ := hrel
    obtain ⟨y, hy⟩ : ∃ y : Nat, y = n / 256 ^ k := ⟨_, rfl⟩
    have hyn : y < 18446744073709551616 := by rw [hy]; exact Nat.lt_of_le_of_lt (Nat.div_le_self _ _) hn
    rw [← hy]
    have Hy := Lib.hid hy
    clear hy
    by_cases hlt : k < size
    · obtain ⟨u, hu⟩ := own_cell HW.out (by simp [bv, putR, putL_length]; omega) (j := size - 1 - k) (by omega)
      have hf := HW.out.frozenAt (size - 1 - k)
      have hnat : ((size : Int) - 1 - k).toNat = size - 1 - k := by omega
      go_wp2
      have hst := (HW.out.stored (size - 1 - k) (.int .u8 ((UInt8.ofNat (n / 256 ^ k)).toNat : Int)))
      rw [putR_set n size k hlt] at hst
      rw [Hy.out, byte_of2 (n := n) (k := k)]
      exact ⟨⟨k + 1, by omega, congrArg (Value.int .i64) (by omega), by rw [Nat.pow_succ, ← Nat.div_div_eq_div_mul]; simp, hst.1, HB.out.setCell (Nat.le_refl _) _⟩, by simp [intOf]; omega⟩
    · have hk2 : k = size := by omega
      subst hk2
      go_wp2
      go_ret
      refine ⟨_, rfl, Bytes.of_own (base := w.heap.size) (e := 5) (n := k) ?_, HB.out⟩
      have := HW.out
      rwa [show putR n k k = putL n k from by simp [putR]] at this

set_option maxHeartbeats 1000000 in
theorem getR_any (v : Value) (l : List UInt8) (w : World) (hv : Bytes w v l) (hl : l.length ≤ 8) :
    Calls Try.prog 55 #[v] w fun e w' => e = .returned (.int .u64 ((getL l : Nat) : Int)) ∧ w = w' := by
  rcases hv with ⟨rfl, a, c, rfl, _⟩ | ⟨b, o, c, rfl, hb, _, hc⟩
  · go_enter Try.func55, Try.ntmps55
    go_wp2
    go_rounds 1
    go_ret
    exact ⟨rfl, rfl⟩
  · have HC := Lib.hid hc
    clear hc
    go_enter Try.func55, Try.ntmps55
    go_wp2
    go_loop [3, 4] (fun x i => ∃ k : Nat, k ≤ l.length ∧ i = .int .i64 k ∧ x = .int .u64 ((getL (l.take k) : Nat) : Int)) (fun _ i => l.length - (intOf i).toNat)
    case atStart => exact ⟨0, Nat.zero_le _, rfl, by simp [getL]⟩
    case round =>
      obtain ⟨k, hk, rfl, rfl⟩ := hrel
      obtain ⟨y, hy⟩ : ∃ y : Nat, y = getL (l.take k) := ⟨_, rfl⟩
      by_cases hlt : k < l.length
      · have hyn : y < 72057594037927936 := by rw [hy]; exact getL_take_lt l (by omega) (by omega)
        have hs := getL_take l k hlt
        have hcell := HC.out k l[k] (List.getElem?_eq_getElem hlt)
        obtain ⟨z, hz⟩ : ∃ z : Nat, z = l[k].toNat := ⟨_, rfl⟩
        have hzn : z < 256 := by rw [hz]; exact l[k].toNat_lt
        rw [← hy]
        rw [← hy, ← hz] at hs
        rw [← hz] at hcell
        have Hs := Lib.hid hs
        clear hs hy hz
        go_wp2
        go_round
        case rel => exact ⟨k + 1, by omega, by go_num, by rw [Hs.out]; simp⟩
        case measure => simp [intOf]; omega
      · have hk2 : k = l.length := by omega
        subst hk2
        rw [← hy]
        have Hy : Hid (y = getL l) := by rw [List.take_length] at hy; exact hy
        clear hy
        go_wp2
        go_ret
        exact ⟨ret_i (by rw [← Hy.out]), rfl⟩
end Go.Proofs.Ytnhkkpcepppgoaa

namespace Go.Proofs.Ytnhkkpcepppgoaa
open Go.RowKit
/-- A number of some bytes, read by the reference. -/
theorem getR_at {wm : World} {a : Option Addr} {n c : Nat} {l : List UInt8} (hv : Bytes wm (.slice a n c) l) (i k : Nat) (hk : k ≤ 8) (h : i + k ≤ l.length) :
    ∃ a', (∀ w, (Instr.slice 22 (.slice a n c) (some (.int .i64 (i : Int))) (some (.int .i64 ((i + k : Nat) : Int))) none).run Try.prog w = .ok (.slice a' k (c - i)) w) ∧ ∀ W, Below wm.heap.size wm W → Calls Try.prog 55 #[.slice a' k (c - i)] W fun e w' => e = .returned (.int .u64 (numAt l i k : Nat)) ∧ W = w' := by
  obtain ⟨a', h1, h2⟩ := hv.cut_lh (i : Int) ((i + k : Nat) : Int) i (i + k) rfl rfl (by omega) h
  rw [Nat.add_sub_cancel_left] at h1 h2
  exact ⟨a', h1, fun W hb => getR_any _ _ W (h2.later hb) (by rw [List.length_drop, List.length_take]; omega)⟩

end Go.Proofs.Ytnhkkpcepppgoaa
