/- A region that draws its order, cut at what is done: one lemma for each set of done operations.
   The walks of ctl.Text and of the reference's. -/
import Derived.Deep.RegionHeld3
import Derived.Deep.AppendLies
import Derived.Test.YtijkahamgnpobaaDoorZ01
import Derived.Test.YtijkahamgnpobaaDoorZ06

set_option linter.unusedSimpArgs false
set_option linter.unusedVariables false
namespace Go.Proofs.YtijkahamgnpobaaDoor
open Go.RowKit
attribute [local go_sem ↓] Go.wp_at_zero Go.wp_at_succ

theorem textU_no (a n d : Int) (h : mayU a n d = false) (w : World) :
    Calls Tryd.prog 21 #[.agg #[.int .u32 a, .int .i64 n, .int .i64 d]] w fun e w' => e = .returned (.tuple #[.string ⟨#[]⟩, .int .i64 2]) ∧ Below w.heap.size w w' := by
  have Hm := Lib.hid h
  clear h
  go_enter Tryd.func21, Tryd.ntmps21
  go_wp2_with fail
  refine (mayUW_any _ _ _ _).mono ?_
  rintro e w1 ⟨rfl, hb1⟩
  rw [Hm.out]
  go_wp2_with fail
  go_ret2
  exact ⟨rfl, ((Below.refl _ _).alloc (Nat.le_refl _) _).trans (hb1.mono (by simp))⟩
set_option maxHeartbeats 1000000 in
set_option maxRecDepth 100000 in
theorem textU_yes (a n d : Int) (ha : 0 ≤ a) (ha2 : a < 4294967296) (h : mayU a n d = true) (w : World) (g : Gl w) :
    Calls Tryd.prog 21 #[.agg #[.int .u32 a, .int .i64 n, .int .i64 d]] w fun e w' => e = .returned (.tuple #[.string ⟨(upT a n d).toArray⟩, .int .i64 0]) ∧ Below w.heap.size w w' := by
  obtain ⟨h1, h2, h3⟩ := mayU_of h
  obtain ⟨n0, n1, _⟩ := Wp.may_of h1
  have l1 := pfT_len (a := a) n0 (show n ≤ 255 by omega)
  have l2 := itoa_len h2 h3
  have HP := Lib.hid (fun W G => prefixText_yes a n ha ha2 h1 W G)
  have Hm := Lib.hid h
  have R0 := Lib.hid (show BlkAt 27 w.heap.size [.int .u32 a, .int .i64 n, .int .i64 d] (w.alloc (.cells #[.int .u32 a, .int .i64 n, .int .i64 d] 27)) from BlkAt.new w _)
  have HB0 := Lib.hid (show Below w.heap.size w (w.alloc (.cells #[.int .u32 a, .int .i64 n, .int .i64 d] 27)) from (Below.refl _ _).alloc (Nat.le_refl _) _)
  clear h h1
  go_enter Tryd.func21, Tryd.ntmps21
  go_wp2_with fail
  refine (mayUW_any _ _ _ _).mono ?_
  rintro e w1 ⟨rfl, hb1⟩
  rw [Hm.out]
  have R1 := Lib.hid (R0.out.later hb1)
  have HB1 := Lib.hid (below_of HB0.out hb1)
  clear hb1
  have c0 := R1.out.cell (j := 0) rfl
  have c1 := R1.out.cell (j := 1) rfl
  have c2 := R1.out.cell (j := 2) rfl
  go_wp2_with fail
  refine (HP.out _ (g.below HB1.out)).mono ?_
  rintro e w2 ⟨rfl, hb2⟩
  have R2 := Lib.hid (R1.out.later hb2)
  have HB2 := Lib.hid (below_of HB1.out hb2)
  clear hb2 c0 c1 c2
  have c2 := R2.out.cell (j := 2) rfl
  go_wp2_with fail
  refine (itoa_any d (by omega) (by omega) _ (g.below HB2.out)).mono ?_
  rintro e w3 ⟨rfl, hb3⟩
  have HB3 := Lib.hid (below_of HB2.out hb3)
  clear hb3 c2
  have hx : ((⟨(pfT a n).toArray⟩ : ByteArray) ++ ⟨#[32]⟩) ++ ⟨(Lib.itoa d).toArray⟩ = ⟨(upT a n d).toArray⟩ := by
    rw [show (⟨#[32]⟩ : ByteArray) = ⟨[32].toArray⟩ from rfl, ba_app, ba_app]; simp [upT]
  have HX := Lib.hid hx
  clear hx
  go_wp2_with fail
  all_goals go_ret2
  all_goals exact ⟨by rw [HX.out]; rfl, HB3.out⟩

set_option maxHeartbeats 1000000 in
set_option maxRecDepth 100000 in
theorem textR5_any (a : Nat) (n d : Int) (ha : a < 4294967296) (h : mayU a n d = true) (w : World) (g : Gl w) :
    Calls Tryd.prog 26 #[.agg #[.int .u32 (a : Int), .int .i64 n, .int .i64 d]] w fun e w' => e = .returned (.string ⟨(upT a n d).toArray⟩) ∧ Below w.heap.size w w' := by
  obtain ⟨h1, h2, h3⟩ := mayU_of h
  obtain ⟨n0, n1, _⟩ := Wp.may_of h1
  have l1 := pfT_len (a := (a : Int)) n0 (show n ≤ 255 by omega)
  have l2 := itoa_len h2 h3
  obtain ⟨wb, hwb⟩ : ∃ wb, wb = w.alloc (.cells #[.int .u32 (a : Int), .int .i64 n, .int .i64 d] 27) := ⟨_, rfl⟩
  have R0 : Hid (BlkAt 27 w.heap.size [.int .u32 (a : Int), .int .i64 n, .int .i64 d] wb) := by rw [hwb]; exact BlkAt.new w _
  have HB0 : Hid (Below w.heap.size w wb) := by rw [hwb]; exact (Below.refl _ _).alloc (Nat.le_refl _) _
  have GB := Lib.hid (g.below HB0.out)
  have hx1 : (⟨(pfT a n).toArray⟩ : ByteArray) ++ ⟨#[32]⟩ = ⟨(pfT a n ++ [32]).toArray⟩ := ba_app _ [32]
  have hx2 : (⟨(pfT a n ++ [32]).toArray⟩ : ByteArray) ++ ⟨(Lib.itoa d).toArray⟩ = ⟨(upT a n d).toArray⟩ := by rw [ba_app]; simp [upT]
  have HX1 := Lib.hid hx1
  have HX2 := Lib.hid hx2
  clear h h1 hx1 hx2
  go_enter Tryd.func26, Tryd.ntmps26
  go_wp2_with fail
  rw [← hwb]
  clear hwb
  (refine wp_region_held_drew (S := (fun w' => Below wb.heap.size wb w')) (by kernel_rfl) ?_ (fun hHeld => ?_); (focus ((try dsimp only); (exact (Below.refl _ _).drew))))
  (try dsimp only at hHeld)
  (refine wpAnyH_take (i := 0) (v := ?_) rfl (by kernel_rfl) (by kernel_rfl) (by kernel_rfl) (fun _ _ _ h => h) (Or.inl ⟨by rfl, ?_⟩) hHeld ?_; rotate_left; (focus (intro w hSw; (try dsimp only at hSw); go_simp; try with_reducible rfl)); (try simp only [Act.put, List.setIfInBounds_toArray, List.set_cons_zero, List.set_cons_succ, List.getElem_toArray, List.getElem_cons_zero])); (refine wpAnyH_take (i := 4) (v := ?_) rfl (by kernel_rfl) (by kernel_rfl) (by kernel_rfl) (fun _ _ _ h => h) (Or.inl ⟨by rfl, ?_⟩) hHeld ?_; rotate_left; (focus (intro w hSw; (try dsimp only at hSw); go_simp; try with_reducible rfl)); (try simp only [Act.put, List.setIfInBounds_toArray, List.set_cons_zero, List.set_cons_succ, List.getElem_toArray, List.getElem_cons_zero, List.getElem_cons_succ]))
  (refine wpAnyH_take (i := 1) (v := ?_) rfl (by kernel_rfl) (by kernel_rfl) (by kernel_rfl) (fun _ _ _ h => h) (Or.inl ⟨by rfl, ?_⟩) hHeld ?_; rotate_left; (focus (intro w hSw; (try dsimp only at hSw); go_simp; (have c0 := BlkAt.cell (R0.out.later hSw) (j := 0) rfl; have c1 := BlkAt.cell (R0.out.later hSw) (j := 1) rfl; go_simp; try with_reducible rfl))); (try simp only [Act.put, List.setIfInBounds_toArray, List.set_cons_zero, List.set_cons_succ, List.getElem_toArray, List.getElem_cons_zero, List.getElem_cons_succ]))
  (refine wpAnyH_take (i := 5) (v := ?_) rfl (by kernel_rfl) (by kernel_rfl) (by kernel_rfl) (fun _ _ _ h => h) (Or.inl ⟨by rfl, ?_⟩) hHeld ?_; rotate_left; (focus (intro w hSw; (try dsimp only at hSw); go_simp; (have c2 := BlkAt.cell (R0.out.later hSw) (j := 2) rfl; go_simp; try with_reducible rfl))); (try simp only [Act.put, List.setIfInBounds_toArray, List.set_cons_zero, List.set_cons_succ, List.getElem_toArray, List.getElem_cons_zero, List.getElem_cons_succ]))
  (refine wpAnyH_ready (rs := [2]) (by kernel_rfl) (by simp) ?_; refine AllReadyH.cons rfl (fun K hK => ?_) AllReadyH.nil; go_simp; refine (prefixTextR_any a n ha (by omega) (by omega) _ (GB.out.below hHeld)).mono ?_; rintro e w2 ⟨rfl, hb2⟩; simp only []; refine hK.out _ _ ?_ (fun hHeldN => ?_); (focus ((try dsimp only); exact hHeld.trans (hb2.mono hHeld.size))); clear hK K hHeld; have hHeld := hHeldN; clear hHeldN; (try simp only [Act.put, List.setIfInBounds_toArray, List.set_cons_zero, List.set_cons_succ, List.getElem_toArray, List.getElem_cons_zero, List.getElem_cons_succ]))
  (refine wpAnyH_take (i := 3) (v := ?_) rfl (by kernel_rfl) (by kernel_rfl) (by kernel_rfl) (fun _ _ _ h => h) (Or.inl ⟨by rfl, ?_⟩) hHeld ?_; rotate_left; (focus (intro w hSw; (try dsimp only at hSw); go_simp; rw [if_neg (by omega), HX1.out])); (try simp only [Act.put, List.setIfInBounds_toArray, List.set_cons_zero, List.set_cons_succ, List.getElem_toArray, List.getElem_cons_zero, List.getElem_cons_succ]))
  (refine wpAnyH_ready (rs := [6]) (by kernel_rfl) (by simp) ?_; refine AllReadyH.cons rfl (fun K hK => ?_) AllReadyH.nil; go_simp; refine (itoa_any d (by omega) (by omega) _ (GB.out.below hHeld)).mono ?_; rintro e w3 ⟨rfl, hb3⟩; simp only []; refine hK.out _ _ ?_ (fun hHeldN => ?_); (focus ((try dsimp only); exact hHeld.trans (hb3.mono hHeld.size))); clear hK K hHeld; have hHeld := hHeldN; clear hHeldN; (try simp only [Act.put, List.setIfInBounds_toArray, List.set_cons_zero, List.set_cons_succ, List.getElem_toArray, List.getElem_cons_zero, List.getElem_cons_succ]))
  (refine wpAnyH_take (i := 7) (v := ?_) rfl (by kernel_rfl) (by kernel_rfl) (by kernel_rfl) (fun _ _ _ h => h) (Or.inl ⟨by rfl, ?_⟩) hHeld ?_; rotate_left; (focus (intro w hSw; (try dsimp only at hSw); go_simp; rw [if_neg (by omega), HX2.out])); (try simp only [Act.put, List.setIfInBounds_toArray, List.set_cons_zero, List.set_cons_succ, List.getElem_toArray, List.getElem_cons_zero, List.getElem_cons_succ]))
  (refine wpAnyH_take (i := 8) (v := ?_) rfl (by kernel_rfl) (by kernel_rfl) (by kernel_rfl) (fun _ _ _ h => h) (Or.inl ⟨by rfl, ?_⟩) hHeld ?_; rotate_left; (focus (intro w hSw; (try dsimp only at hSw); go_simp; try with_reducible rfl)); (try simp only [Act.put, List.setIfInBounds_toArray, List.set_cons_zero, List.set_cons_succ, List.getElem_toArray, List.getElem_cons_zero, List.getElem_cons_succ]))
  refine wpAnyH_done (by kernel_rfl) ?_ _
  have HB3 := Lib.hid (HB0.out.trans (hHeld.mono HB0.out.size))
  clear hHeld
  go_wp2
  go_ret
  exact ⟨rfl, HB3.out⟩

theorem numB_ok {q : List UInt8} {m : Int} (h : numB q m = true) : Lib.atoiAll q = .ok (numI q m) := by
  unfold numB at h
  unfold numI
  cases hv : num? q m with
  | none => rw [hv] at h; cases h
  | some v =>
    simp only [Option.getD_some]
    unfold num? at hv
    split at hv
    · split at hv
      · rename_i hh _
        rw [hh]; rw [Option.some.inj hv]
      · cases hv
    · cases hv
/-- When what was read of both parts has the text again. -/
theorem ut_iff {l p q : List UInt8} {f : Bool} (hc : Lib.cut l [32] = (p, q, f)) (d : Int) (hd : ∀ v, Lib.atoiAll q = .ok v → d = v) :
    (utB l = true → mayU (pfA p) (pfN p) d = true ∧ upT (pfA p) (pfN p) d = l ∧ utA l = pfA p ∧ utN l = pfN p ∧ utD l = d) ∧
    (mayU (pfA p) (pfN p) d = true → upT (pfA p) (pfN p) d = l → utB l = true) := by
  constructor
  · intro h
    obtain ⟨p', q', _, hc', _, hp, hq⟩ := ut_parts h
    obtain ⟨y1, y2, y3, _⟩ := ut_yes h
    rw [hc] at hc' y1 y2 y3
    simp only [Prod.mk.injEq] at hc'
    obtain ⟨rfl, rfl, _⟩ := hc'
    simp only at y1 y2 y3
    obtain ⟨n1, n2⟩ := num255 q
    rw [hq] at n1
    have hv := numB_ok n1
    rw [n2 hq] at hv
    have hdd := hd _ hv
    obtain ⟨t1, t2⟩ := ut_text h
    rw [y1, y2, y3, ← hdd] at t1 t2
    exact ⟨t2, t1, y1, y2, y3.trans hdd.symm⟩
  · intro hm ht
    have hb := pfA_bd p
    have := (ut_back hb.1 hb.2 hm).1
    rwa [ht] at this
end Go.Proofs.YtijkahamgnpobaaDoor

namespace Go.Proofs.YtijkahamgnpobaaDoor
open Go.RowKit
theorem wpAnyH_cut {P : Program} {md : Region.Mode} {ops : Array Oper} {Q : Exit → Act → World → Prop} {S : World → Prop} {fuel : Nat} {listed : Array Bool} {a : Act} {w : World}
    (m : Array Bool) (fm : Nat) (I : Act → World → Prop)
    (tail : ∀ (l : Array Bool) (A : Act) (w1 : World), l = m → I A w1 → S w1 → wpAnyH P md ops Q S fm l A w1)
    (main : (∀ (l : Array Bool) (A : Act) (w1 : World), l = m → I A w1 → S w1 → wpAnyH P md ops Q S fm l A w1) → wpAnyH P md ops Q S fuel listed a w) : wpAnyH P md ops Q S fuel listed a w := main tail
/-- A region, cut behind it: what its walk leaves is said once. -/
theorem wp_region_fin {P : Program} {Q : Exit → Act → World → Prop} {S : World → Prop} {id : Nat} {ops : Array Oper} {a : Act} {w : World} (I : Act → World → Prop) (hm : P.follows .mixedOrders = true) (hS : S w.drew) (h1 : ∀ A w3, I A w3 → Q .normal A w3)
    (h : (∀ A w3, I A w3 → Q .normal A w3) → S w.drew → wpAnyH P .any ops Q S ops.size (Array.replicate ops.size false) a w.drew) : (Code.region id ops true).wp P Q a w :=
  wp_region_held_drew hm hS (h h1)
/-- A region under a promise that holds more. -/
theorem wpAnyH_str {P : Program} {md : Region.Mode} {ops : Array Oper} {Q : Exit → Act → World → Prop} {S S' : World → Prop} (h : ∀ w, S' w → S w) : ∀ (fuel : Nat) (listed : Array Bool) (a : Act) (w : World), wpAnyH P md ops Q S' fuel listed a w → wpAnyH P md ops Q S fuel listed a w
  | 0, _, _, _, H => H
  | fuel + 1, _, _, _, H => ⟨H.1, fun i hi => wpOp_mono (fun a' w' h' => ⟨h _ h'.1, wpAnyH_str h fuel _ a' w' h'.2⟩) (H.2 i hi)⟩
/-- The list of what is done, spelled out. -/
theorem wpAnyH_at {P : Program} {md : Region.Mode} {ops : Array Oper} {Q : Exit → Act → World → Prop} {S : World → Prop} {fuel : Nat} {listed : Array Bool} {a : Act} {w : World} {m : Array Bool} (e : listed = m) (h : wpAnyH P md ops Q S fuel m a w) : wpAnyH P md ops Q S fuel listed a w := e ▸ h
end Go.Proofs.YtijkahamgnpobaaDoor
