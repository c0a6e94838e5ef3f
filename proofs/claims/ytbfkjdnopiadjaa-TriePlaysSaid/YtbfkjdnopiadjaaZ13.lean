/- The reference's Covers: the walk.
   The reference's Nodes and Copy: the walks. -/
import Derived.Test.YtbfkjdnopiadjaaZ01
import Derived.Test.YtbfkjdnopiadjaaZ03
import Derived.Test.YtbfkjdnopiadjaaZ06
import Derived.Test.YtbfkjdnopiadjaaZ09
import Derived.Test.YtbfkjdnopiadjaaZ12

set_option linter.unusedSimpArgs false
set_option linter.unusedVariables false
namespace Go.Proofs.Ytbfkjdnopiadjaa
open Go.RowKit
attribute [local go_sem ↓] Go.wp_at_zero Go.wp_at_succ
open Tp (Pf Ok En)

theorem mks_snoc : ∀ (A : List En) (x y : En), Tp.mks x (A ++ [y]) = Tp.mks x A ++ [y.1, Tp.com ((A.getLast?).getD x).1 y.1]
  | [], x, y => rfl
  | z :: A, x, y => by
    show z.1 :: Tp.com x.1 z.1 :: Tp.mks z (A ++ [y]) = _
    rw [mks_snoc A z y]
    have : ((z :: A).getLast?).getD x = (A.getLast?).getD z := by
      cases A with
      | nil => rfl
      | cons a A => rw [List.getLast?_cons_cons]; simp [List.getLast?_eq_some_getLast]
    rw [this]; rfl
theorem marks_snoc (A : List En) (y : En) : Tp.marks (A ++ [y]) = Tp.marks A ++ (match A.getLast? with | none => [y.1] | some x => [y.1, Tp.com x.1 y.1]) := by
  cases A with
  | nil => rfl
  | cons x A =>
    show x.1 :: Tp.mks x (A ++ [y]) = _
    rw [mks_snoc A x y]
    have : (x :: A).getLast? = some ((A.getLast?).getD x) := by
      cases A with
      | nil => rfl
      | cons a A => rw [List.getLast?_cons_cons]; simp [List.getLast?_eq_some_getLast]
    rw [this]; rfl
theorem dd_snoc (M : List Pf) (q : Pf) : Tp.dd (M ++ [q]) = if q ∈ Tp.dd M then Tp.dd M else Tp.dd M ++ [q] := by
  unfold Tp.dd
  rw [List.foldl_append]; rfl
theorem keys_put (S : List (Pf × Value)) (p : Pf) (v : Value) : (putM S p v).map Prod.fst = if p ∈ S.map Prod.fst then S.map Prod.fst else S.map Prod.fst ++ [p] := by
  unfold putM
  split
  · rw [List.map_map]
    have : (Prod.fst ∘ fun x : Pf × Value => if x.1 = p then (p, v) else x) = Prod.fst := by
      funext x
      simp only [Function.comp]
      split
      · rename_i hx; exact hx.symm
      · rfl
    rw [this]
  · simp
theorem Ky.of_ok {p : Pf} (h : Ok p) : Ky p := ⟨h.a0, h.a1, by have := h.n0; omega, by have := h.n1; omega⟩
theorem Ky.com {p q : Pf} (hp : Ok p) (hq : Ok q) : Ky (Tp.com p q) := by
  obtain ⟨n, h1, _, _, h4⟩ := Tp.comF_ok hp hq 32 (Nat.le_refl _)
  unfold Tp.com
  rw [h4]
  exact ⟨fst_ge hp.a0, Int.lt_of_le_of_lt Wp.fst_le hp.a1, by show _ ≤ ((n : Nat) : Int); omega, by show ((n : Nat) : Int) ≤ _; omega⟩
theorem take_snoc {L : List En} {i : Nat} {x : En} (hx : L[i]? = some x) : L.take (i + 1) = L.take i ++ [x] := by
  obtain ⟨hi, rfl⟩ := List.getElem?_eq_some_iff.1 hx
  exact List.take_succ_eq_append_getElem hi
def tru : Value := .agg #[.bool true]

set_option maxHeartbeats 4000000 in
set_option maxRecDepth 100000 in
theorem nodesR {q : Nat} {v : Value} {lim : Int} {L : List En} {w : World} (h : RT q v lim L w) (hL : L.length ≤ 1000000) (ho : ∀ x ∈ L, Ok x.1) :
    Calls Try.prog 36 #[.pointer (some ⟨q, 0, none⟩)] w fun e w' => e = .returned (.int .i64 ((Tp.dd (Tp.marks L)).length : Nat)) ∧ Below w.heap.size w w' := by
  have HT := Lib.hid h
  have HO := Lib.hid ho
  obtain ⟨va, vc, rfl⟩ := h.own.form
  clear h ho
  have hmm := @run_makeMap Try.prog
  go_enter Try.func36, Try.ntmps36
  go_wp2_with fail
  have hm := MAt.new w
  have hb := ba1 w (.map #[] 0)
  clear hmm
  obtain ⟨W, hW⟩ : ∃ W, W = w.alloc (.map #[] 0) := ⟨_, rfl⟩
  rw [← hW] at hm hb ⊢
  have HM := Lib.hid hm
  have HB := Lib.hid hb
  clear hm hb hW
  go_loopw [4] (fun x wr => ∃ (i : Nat) (S : List (Pf × Value)), i ≤ L.length ∧ x = .int .i64 i ∧ Hid (MAt w.heap.size S wr) ∧ Hid (S.map Prod.fst = Tp.dd (Tp.marks (L.take i))) ∧ Hid (Below w.heap.size w wr)) (fun x _ => L.length - (intOf x).toNat)
  case atStart => exact ⟨0, [], Nat.zero_le _, rfl, HM, rfl, HB⟩
  case round =>
    obtain ⟨i, S, hi, rfl, HMr, HS, HBr⟩ := hrel
    have HTr := Lib.hid (HT.out.later HBr.out)
    obtain ⟨c0, c1⟩ := HTr.out.cells
    cases hx : L[i]? with
    | none =>
      have e : i = L.length := by have := List.getElem?_eq_none_iff.1 hx; omega
      subst e
      have HLn : Hid (S.length = (Tp.dd (Tp.marks L)).length) := by
        have := congrArg List.length HS.out
        rw [List.take_length, List.length_map] at this; exact this
      have hlen := fun ty => run_lenM Try.underlying85 HMr.out ty
      go_wp2_with fail
      go_ret
      rw [← HLn.out]
      exact ⟨rfl, HBr.out⟩
    | some x =>
      obtain ⟨g, o, rfl, hg, e0, e1, e2⟩ := HTr.out.own.reads.at hx
      have k0 : (i : Int) < L.length := by have := (List.getElem?_eq_some_iff.1 hx).1; omega
      have hox := HO.out x (List.mem_of_getElem? hx)
      obtain ⟨w2, hu, hm2, hc2⟩ := run_updM Try.underlying85 HMr.out (Ky.of_ok hox) (.agg #[.bool true])
      have HM2 := Lib.hid hm2
      have HB2 := Lib.hid (HBr.out.trans (hc2.below HBr.out.size (by simp)))
      have HS2 : Hid ((putM S x.1 (.agg #[.bool true])).map Prod.fst = Tp.dd (Tp.marks (L.take i) ++ [x.1])) := by
        show _ = _
        rw [keys_put, dd_snoc, HS.out]
      have HT2 := Lib.hid (HT.out.later HB2.out)
      have HXi := Lib.hid hx
      have HOx := Lib.hid hox
      unfold pv at hu
      clear hm2 hc2 hox
      rcases Nat.eq_zero_or_pos i with h0 | h0
      · have HS3 : Hid ((putM S x.1 (.agg #[.bool true])).map Prod.fst = Tp.dd (Tp.marks (L.take (i + 1)))) := by
          rw [take_snoc HXi.out, marks_snoc]
          have : (L.take i).getLast? = none := by rw [h0]; rfl
          rw [this]
          exact HS2
        have g0 : ¬ (0 : Int) < i := by omega
        clear hx h0
        go_wp2_with fail
        go_roundw
        case rel => exact ⟨i + 1, _, by omega, by go_num, HM2, HS3, HB2⟩
        case measure => simp [intOf]; omega
      · have g0 : (0 : Int) < i := by omega
        obtain ⟨j, hj⟩ : ∃ j, i = j + 1 := ⟨i - 1, by omega⟩
        have hlt := (List.getElem?_eq_some_iff.1 hx).1
        obtain ⟨y, hy⟩ : ∃ y, L[j]? = some y := ⟨L[j], List.getElem?_eq_getElem (by omega)⟩
        have hoy := HO.out y (List.mem_of_getElem? hy)
        have hsm : IntKind.i64.wrap ((i : Int) - 1) = (j : Int) := by rw [IntWalk.i64_in _ ⟨by omega, by omega⟩]; omega
        have k1 : (j : Int) < L.length := by omega
        have HS3 : Hid (∀ S2 : List (Pf × Value), S2.map Prod.fst = (if Tp.com y.1 x.1 ∈ (putM S x.1 (.agg #[.bool true])).map Prod.fst then (putM S x.1 (.agg #[.bool true])).map Prod.fst else (putM S x.1 (.agg #[.bool true])).map Prod.fst ++ [Tp.com y.1 x.1]) → S2.map Prod.fst = Tp.dd (Tp.marks (L.take (i + 1)))) := by
          intro S2 h2
          rw [h2, HS2.out, take_snoc HXi.out, marks_snoc]
          have hl : (L.take i).getLast? = some y := by
            rw [hj, take_snoc hy, List.getLast?_append]; rfl
          rw [hl]
          show _ = Tp.dd (Tp.marks (L.take i) ++ [x.1, Tp.com y.1 x.1])
          rw [show Tp.marks (L.take i) ++ [x.1, Tp.com y.1 x.1] = (Tp.marks (L.take i) ++ [x.1]) ++ [Tp.com y.1 x.1] by simp]
          exact (dd_snoc _ _).symm
        obtain ⟨c20, c21⟩ := HT2.out.cells
        obtain ⟨g', o', eg, _, e20, e21, e22⟩ := HT2.out.own.reads.at hx
        obtain ⟨g'', o'', eg2, _, f20, f21, f22⟩ := HT2.out.own.reads.at hy
        simp only [Option.some.injEq, Addr.mk.injEq, and_true] at eg eg2
        obtain ⟨rfl, rfl⟩ := eg
        obtain ⟨rfl, rfl⟩ := eg2
        have HC := Lib.hid (fun (V : World) => commonR hoy HOx.out V)
        have HKc := Lib.hid (Ky.com hoy HOx.out)
        clear hx hy hj hlt hoy
        go_wp2_with fail
        refine wp_region_last (S := fun w' => Below w2.heap.size w2 w') (by simp only [List.pop_toArray, List.dropLast]; exact rfl) (by kernel_rfl) (by kernel_rfl) (Below.refl _ _).drew (fun hHeld => ?_)
        (refine wpAnyH_take (i := 0) (v := ?_) rfl (by kernel_rfl) (by kernel_rfl) (by kernel_rfl) (fun _ _ _ h => h) (Or.inl ⟨by rfl, ?_⟩) hHeld ?_; rotate_left; (focus (intro w hSw; (try dsimp only at hSw); go_simp; try with_reducible rfl)); (try simp only [Act.put, List.setIfInBounds_toArray, List.set_cons_zero, List.set_cons_succ, List.getElem_toArray, List.getElem_cons_zero])); (refine wpAnyH_take (i := 1) (v := ?_) rfl (by kernel_rfl) (by kernel_rfl) (by kernel_rfl) (fun _ _ _ h => h) (Or.inl ⟨by rfl, ?_⟩) hHeld ?_; rotate_left; (focus (intro w hSw; (try dsimp only at hSw); go_simp; try with_reducible rfl)); (try simp only [Act.put, List.setIfInBounds_toArray, List.set_cons_zero, List.set_cons_succ, List.getElem_toArray, List.getElem_cons_zero, List.getElem_cons_succ])); (refine wpAnyH_take (i := 2) (v := ?_) rfl (by kernel_rfl) (by kernel_rfl) (by kernel_rfl) (fun _ _ _ h => h) (Or.inl ⟨by rfl, ?_⟩) hHeld ?_; rotate_left; (focus (intro w hSw; (try dsimp only at hSw); go_simp; try with_reducible rfl)); (try simp only [Act.put, List.setIfInBounds_toArray, List.set_cons_zero, List.set_cons_succ, List.getElem_toArray, List.getElem_cons_zero, List.getElem_cons_succ])); (refine wpAnyH_take (i := 3) (v := ?_) rfl (by kernel_rfl) (by kernel_rfl) (by kernel_rfl) (fun _ _ _ h => h) (Or.inl ⟨by rfl, ?_⟩) hHeld ?_; rotate_left; (focus (intro w hSw; (try dsimp only at hSw); go_simp; try with_reducible rfl)); (try simp only [Act.put, List.setIfInBounds_toArray, List.set_cons_zero, List.set_cons_succ, List.getElem_toArray, List.getElem_cons_zero, List.getElem_cons_succ]))
        (refine wpAnyH_take (i := 4) (v := ?_) rfl (by kernel_rfl) (by kernel_rfl) (by kernel_rfl) (fun _ _ _ h => h) (Or.inl ⟨by rfl, ?_⟩) hHeld ?_; rotate_left; (focus (intro w hSw; (try dsimp only at hSw); go_simp; ((have hcc := cell_later hSw c20); go_simp; try with_reducible rfl))); (try simp only [Act.put, List.setIfInBounds_toArray, List.set_cons_zero, List.set_cons_succ, List.getElem_toArray, List.getElem_cons_zero, List.getElem_cons_succ]))
        (refine wpAnyH_take (i := 5) (v := ?_) rfl (by kernel_rfl) (by kernel_rfl) (by kernel_rfl) (fun _ _ _ h => h) (Or.inl ⟨by rfl, ?_⟩) hHeld ?_; rotate_left; (focus (intro w hSw; (try dsimp only at hSw); go_simp; try with_reducible rfl)); (try simp only [Act.put, List.setIfInBounds_toArray, List.set_cons_zero, List.set_cons_succ, List.getElem_toArray, List.getElem_cons_zero, List.getElem_cons_succ])); (refine wpAnyH_take (i := 6) (v := ?_) rfl (by kernel_rfl) (by kernel_rfl) (by kernel_rfl) (fun _ _ _ h => h) (Or.inl ⟨by rfl, ?_⟩) hHeld ?_; rotate_left; (focus (intro w hSw; (try dsimp only at hSw); go_simp; try with_reducible rfl)); (try simp only [Act.put, List.setIfInBounds_toArray, List.set_cons_zero, List.set_cons_succ, List.getElem_toArray, List.getElem_cons_zero, List.getElem_cons_succ])); (refine wpAnyH_take (i := 7) (v := ?_) rfl (by kernel_rfl) (by kernel_rfl) (by kernel_rfl) (fun _ _ _ h => h) (Or.inl ⟨by rfl, ?_⟩) hHeld ?_; rotate_left; (focus (intro w hSw; (try dsimp only at hSw); go_simp; try with_reducible rfl)); (try simp only [Act.put, List.setIfInBounds_toArray, List.set_cons_zero, List.set_cons_succ, List.getElem_toArray, List.getElem_cons_zero, List.getElem_cons_succ])); (refine wpAnyH_take (i := 8) (v := ?_) rfl (by kernel_rfl) (by kernel_rfl) (by kernel_rfl) (fun _ _ _ h => h) (Or.inl ⟨by rfl, ?_⟩) hHeld ?_; rotate_left; (focus (intro w hSw; (try dsimp only at hSw); go_simp; try with_reducible rfl)); (try simp only [Act.put, List.setIfInBounds_toArray, List.set_cons_zero, List.set_cons_succ, List.getElem_toArray, List.getElem_cons_zero, List.getElem_cons_succ]))
        (refine wpAnyH_take (i := 9) (v := ?_) rfl (by kernel_rfl) (by kernel_rfl) (by kernel_rfl) (fun _ _ _ h => h) (Or.inl ⟨by rfl, ?_⟩) hHeld ?_; rotate_left; (focus (intro w hSw; (try dsimp only at hSw); go_simp; ((have hcc := cell_later hSw f20); (have hcd := cell_later hSw f21); go_simp; try with_reducible rfl))); (try simp only [Act.put, List.setIfInBounds_toArray, List.set_cons_zero, List.set_cons_succ, List.getElem_toArray, List.getElem_cons_zero, List.getElem_cons_succ]))
        (refine wpAnyH_take (i := 10) (v := ?_) rfl (by kernel_rfl) (by kernel_rfl) (by kernel_rfl) (fun _ _ _ h => h) (Or.inl ⟨by rfl, ?_⟩) hHeld ?_; rotate_left; (focus (intro w hSw; (try dsimp only at hSw); go_simp; try with_reducible rfl)); (try simp only [Act.put, List.setIfInBounds_toArray, List.set_cons_zero, List.set_cons_succ, List.getElem_toArray, List.getElem_cons_zero, List.getElem_cons_succ])); (refine wpAnyH_take (i := 11) (v := ?_) rfl (by kernel_rfl) (by kernel_rfl) (by kernel_rfl) (fun _ _ _ h => h) (Or.inl ⟨by rfl, ?_⟩) hHeld ?_; rotate_left; (focus (intro w hSw; (try dsimp only at hSw); go_simp; try with_reducible rfl)); (try simp only [Act.put, List.setIfInBounds_toArray, List.set_cons_zero, List.set_cons_succ, List.getElem_toArray, List.getElem_cons_zero, List.getElem_cons_succ])); (refine wpAnyH_take (i := 12) (v := ?_) rfl (by kernel_rfl) (by kernel_rfl) (by kernel_rfl) (fun _ _ _ h => h) (Or.inl ⟨by rfl, ?_⟩) hHeld ?_; rotate_left; (focus (intro w hSw; (try dsimp only at hSw); go_simp; try with_reducible rfl)); (try simp only [Act.put, List.setIfInBounds_toArray, List.set_cons_zero, List.set_cons_succ, List.getElem_toArray, List.getElem_cons_zero, List.getElem_cons_succ]))
        (refine wpAnyH_take (i := 13) (v := ?_) rfl (by kernel_rfl) (by kernel_rfl) (by kernel_rfl) (fun _ _ _ h => h) (Or.inl ⟨by rfl, ?_⟩) hHeld ?_; rotate_left; (focus (intro w hSw; (try dsimp only at hSw); go_simp; ((have hcc := cell_later hSw c20); go_simp; try with_reducible rfl))); (try simp only [Act.put, List.setIfInBounds_toArray, List.set_cons_zero, List.set_cons_succ, List.getElem_toArray, List.getElem_cons_zero, List.getElem_cons_succ]))
        (refine wpAnyH_take (i := 14) (v := ?_) rfl (by kernel_rfl) (by kernel_rfl) (by kernel_rfl) (fun _ _ _ h => h) (Or.inl ⟨by rfl, ?_⟩) hHeld ?_; rotate_left; (focus (intro w hSw; (try dsimp only at hSw); go_simp; try with_reducible rfl)); (try simp only [Act.put, List.setIfInBounds_toArray, List.set_cons_zero, List.set_cons_succ, List.getElem_toArray, List.getElem_cons_zero, List.getElem_cons_succ])); (refine wpAnyH_take (i := 15) (v := ?_) rfl (by kernel_rfl) (by kernel_rfl) (by kernel_rfl) (fun _ _ _ h => h) (Or.inl ⟨by rfl, ?_⟩) hHeld ?_; rotate_left; (focus (intro w hSw; (try dsimp only at hSw); go_simp; try with_reducible rfl)); (try simp only [Act.put, List.setIfInBounds_toArray, List.set_cons_zero, List.set_cons_succ, List.getElem_toArray, List.getElem_cons_zero, List.getElem_cons_succ])); (refine wpAnyH_take (i := 16) (v := ?_) rfl (by kernel_rfl) (by kernel_rfl) (by kernel_rfl) (fun _ _ _ h => h) (Or.inl ⟨by rfl, ?_⟩) hHeld ?_; rotate_left; (focus (intro w hSw; (try dsimp only at hSw); go_simp; try with_reducible rfl)); (try simp only [Act.put, List.setIfInBounds_toArray, List.set_cons_zero, List.set_cons_succ, List.getElem_toArray, List.getElem_cons_zero, List.getElem_cons_succ]))
        (refine wpAnyH_take (i := 17) (v := ?_) rfl (by kernel_rfl) (by kernel_rfl) (by kernel_rfl) (fun _ _ _ h => h) (Or.inl ⟨by rfl, ?_⟩) hHeld ?_; rotate_left; (focus (intro w hSw; (try dsimp only at hSw); go_simp; ((have hcc := cell_later hSw e20); (have hcd := cell_later hSw e21); go_simp; try with_reducible rfl))); (try simp only [Act.put, List.setIfInBounds_toArray, List.set_cons_zero, List.set_cons_succ, List.getElem_toArray, List.getElem_cons_zero, List.getElem_cons_succ]))
        (refine wpAnyH_take (i := 19) (v := ?_) rfl (by kernel_rfl) (by kernel_rfl) (by kernel_rfl) (fun _ _ _ h => h) (Or.inl ⟨by rfl, ?_⟩) hHeld ?_; rotate_left; (focus (intro w hSw; (try dsimp only at hSw); go_simp; try with_reducible rfl)); (try simp only [Act.put, List.setIfInBounds_toArray, List.set_cons_zero, List.set_cons_succ, List.getElem_toArray, List.getElem_cons_zero, List.getElem_cons_succ]))
        (refine wpAnyH_ready (rs := [18]) (by kernel_rfl) (by simp) ?_; refine AllReadyH.cons rfl (fun K hK => ?_) AllReadyH.nil; go_simp; (refine (HC.out _).mono ?_; rintro e w3 ⟨rfl, hb3⟩); refine hK.out _ _ ?_ (fun hHeldN => ?_); (focus ((try dsimp only); (exact below_of hHeld hb3))); clear hK K hHeld; have hHeld := hHeldN; clear hHeldN; (try simp only [Act.put, List.setIfInBounds_toArray, List.set_cons_zero, List.set_cons_succ, List.getElem_toArray, List.getElem_cons_zero, List.getElem_cons_succ]))
        refine wpAnyH_done (by kernel_rfl) ?_ _
        obtain ⟨w4, hu4, hm4, hc4⟩ := run_updM Try.underlying85 (HM2.out.later hHeld) HKc.out (.agg #[.bool true])
        have HM4 := Lib.hid hm4
        have HB4 := Lib.hid ((HB2.out.trans (hHeld.mono HB2.out.size)).trans (hc4.below (Nat.le_trans HB2.out.size hHeld.size) (by simp)))
        have HS4 := Lib.hid (HS3.out _ (keys_put _ _ (.agg #[.bool true])))
        clear hm4 hc4 hHeld hb3 hu
        refine lastQ_at rfl ?_
        go_simp
        go_wp2_with fail
        go_roundw
        case rel => exact ⟨i + 1, _, by omega, by go_num, HM4, HS4, HB4⟩
        case measure => simp [intOf]; omega

set_option maxHeartbeats 4000000 in
set_option maxRecDepth 100000 in
theorem copyR {q : Nat} {v : Value} {lim : Int} {L : List En} {w : World} (h : RT q v lim L w) (hL : L.length ≤ 1000000) :
    Calls Try.prog 12 #[.pointer (some ⟨q, 0, none⟩)] w fun e w' => ∃ q' v', e = .returned (.pointer (some ⟨q', 0, none⟩)) ∧ w.heap.size ≤ q' ∧ RT q' v' lim L w' ∧ (∀ g, v'.ownBlock = some g → w.heap.size ≤ g) ∧ Below w.heap.size w w' := by
  have HT := Lib.hid h
  obtain ⟨va, vc, rfl⟩ := h.own.form
  obtain ⟨c0, c1⟩ := h.cells
  clear h
  go_enter Try.func12, Try.ntmps12
  go_wp2_with fail
  (refine wp_region_held_drew (S := (fun w' => Below w.heap.size w w')) (by kernel_rfl) ?_ (fun hHeld => ?_); (focus ((try dsimp only); (exact (Below.refl _ _).drew))))
  (refine wpAnyH_take (i := 0) (v := ?_) rfl (by kernel_rfl) (by kernel_rfl) (by kernel_rfl) (fun _ _ _ h => h) (Or.inl ⟨by rfl, ?_⟩) hHeld ?_; rotate_left; (focus (intro w hSw; (try dsimp only at hSw); go_simp; try with_reducible rfl)); (try simp only [Act.put, List.setIfInBounds_toArray, List.set_cons_zero, List.set_cons_succ, List.getElem_toArray, List.getElem_cons_zero])); (refine wpAnyH_take (i := 1) (v := ?_) rfl (by kernel_rfl) (by kernel_rfl) (by kernel_rfl) (fun _ _ _ h => h) (Or.inl ⟨by rfl, ?_⟩) hHeld ?_; rotate_left; (focus (intro w hSw; (try dsimp only at hSw); go_simp; try with_reducible rfl)); (try simp only [Act.put, List.setIfInBounds_toArray, List.set_cons_zero, List.set_cons_succ, List.getElem_toArray, List.getElem_cons_zero, List.getElem_cons_succ])); (refine wpAnyH_take (i := 2) (v := ?_) rfl (by kernel_rfl) (by kernel_rfl) (by kernel_rfl) (fun _ _ _ h => h) (Or.inl ⟨by rfl, ?_⟩) hHeld ?_; rotate_left; (focus (intro w hSw; (try dsimp only at hSw); go_simp; try with_reducible rfl)); (try simp only [Act.put, List.setIfInBounds_toArray, List.set_cons_zero, List.set_cons_succ, List.getElem_toArray, List.getElem_cons_zero, List.getElem_cons_succ]))
  (refine wpAnyH_take (i := 3) (v := ?_) rfl (by kernel_rfl) (by kernel_rfl) (by kernel_rfl) (fun _ _ _ h => h) (Or.inl ⟨by rfl, ?_⟩) hHeld ?_; rotate_left; (focus (intro w hSw; (try dsimp only at hSw); go_simp; ((have hcc := cell_later hSw c0); go_simp; try with_reducible rfl))); (try simp only [Act.put, List.setIfInBounds_toArray, List.set_cons_zero, List.set_cons_succ, List.getElem_toArray, List.getElem_cons_zero, List.getElem_cons_succ]))
  (refine wpAnyH_take (i := 5) (v := ?_) rfl (by kernel_rfl) (by kernel_rfl) (by kernel_rfl) (fun _ _ _ h => h) (Or.inl ⟨by rfl, ?_⟩) hHeld ?_; rotate_left; (focus (intro w hSw; (try dsimp only at hSw); go_simp; try with_reducible rfl)); (try simp only [Act.put, List.setIfInBounds_toArray, List.set_cons_zero, List.set_cons_succ, List.getElem_toArray, List.getElem_cons_zero, List.getElem_cons_succ])); (refine wpAnyH_take (i := 6) (v := ?_) rfl (by kernel_rfl) (by kernel_rfl) (by kernel_rfl) (fun _ _ _ h => h) (Or.inl ⟨by rfl, ?_⟩) hHeld ?_; rotate_left; (focus (intro w hSw; (try dsimp only at hSw); go_simp; try with_reducible rfl)); (try simp only [Act.put, List.setIfInBounds_toArray, List.set_cons_zero, List.set_cons_succ, List.getElem_toArray, List.getElem_cons_zero, List.getElem_cons_succ])); (refine wpAnyH_take (i := 7) (v := ?_) rfl (by kernel_rfl) (by kernel_rfl) (by kernel_rfl) (fun _ _ _ h => h) (Or.inl ⟨by rfl, ?_⟩) hHeld ?_; rotate_left; (focus (intro w hSw; (try dsimp only at hSw); go_simp; try with_reducible rfl)); (try simp only [Act.put, List.setIfInBounds_toArray, List.set_cons_zero, List.set_cons_succ, List.getElem_toArray, List.getElem_cons_zero, List.getElem_cons_succ]))
  (refine wpAnyH_take (i := 8) (v := ?_) rfl (by kernel_rfl) (by kernel_rfl) (by kernel_rfl) (fun _ _ _ h => h) (Or.inl ⟨by rfl, ?_⟩) hHeld ?_; rotate_left; (focus (intro w hSw; (try dsimp only at hSw); go_simp; ((have hcc := cell_later hSw c1); go_simp; try with_reducible rfl))); (try simp only [Act.put, List.setIfInBounds_toArray, List.set_cons_zero, List.set_cons_succ, List.getElem_toArray, List.getElem_cons_zero, List.getElem_cons_succ]))
  obtain ⟨w1, hw1⟩ : ∃ w1, w1 = World.drew w := ⟨_, rfl⟩
  rw [← hw1] at hHeld ⊢
  clear hw1
  refine wpAnyH_ready (rs := [4]) (by kernel_rfl) (by simp) ?_
  refine AllReadyH.cons rfl (fun K hK => ?_) AllReadyH.nil
  refine step_appT rfl (.const (.slice none 0 0)) (.tmp 6) 28 28 rfl (.slice none 0 0) (.slice va L.length vc) _ rfl rfl (run_appE w1 w1.heap.size (.slice none 0 0) _ [] _ (OwnE.nil _ _) (HT.out.later hHeld).own.reads (by simp; omega) (Nat.le_refl _)) ?_
  rintro v7 w2 ⟨ho, hs, _⟩
  rw [List.nil_append] at ho
  have F7 := Lib.hid (ho.down hHeld.size)
  refine hK.out _ _ (below_of hHeld hs) (fun hHeldN => ?_)
  clear ho hHeld hs hK K
  have hHeld := hHeldN
  clear hHeldN
  try simp only [Act.put, List.setIfInBounds_toArray, List.set_cons_zero, List.set_cons_succ, List.getElem_toArray, List.getElem_cons_zero, List.getElem_cons_succ]
  obtain ⟨a7, c7, e7⟩ := F7.out.form
  subst e7
  (refine wpAnyH_take (i := 9) (v := ?_) rfl (by kernel_rfl) (by kernel_rfl) (by kernel_rfl) (fun _ _ _ h => h) (Or.inl ⟨by rfl, ?_⟩) hHeld ?_; rotate_left; (focus (intro w hSw; (try dsimp only at hSw); go_simp; try with_reducible rfl)); (try simp only [Act.put, List.setIfInBounds_toArray, List.set_cons_zero, List.set_cons_succ, List.getElem_toArray, List.getElem_cons_zero, List.getElem_cons_succ]))
  have HBx := Lib.hid (BlkAt.new w2 (t := 30) [.slice a7 L.length c7, .int .i64 lim])
  have hb2 := ba1 w2 (.cells #[.slice a7 L.length c7, .int .i64 lim] 30)
  have HO := Lib.hid (F7.out.later hb2)
  have HS := Lib.hid hHeld.size
  (refine wpAnyH_ready (rs := [10]) (by kernel_rfl) (by simp) ?_; refine AllReadyH.cons rfl (fun K hK => ?_) AllReadyH.nil; go_simp; skip; refine hK.out _ _ ?_ (fun hHeldN => ?_); (focus ((try dsimp only); (exact below_of hHeld hb2))); clear hK K hHeld; have hHeld := hHeldN; clear hHeldN; (try simp only [Act.put, List.setIfInBounds_toArray, List.set_cons_zero, List.set_cons_succ, List.getElem_toArray, List.getElem_cons_zero, List.getElem_cons_succ]))
  (refine wpAnyH_take (i := 11) (v := ?_) rfl (by kernel_rfl) (by kernel_rfl) (by kernel_rfl) (fun _ _ _ h => h) (Or.inl ⟨by rfl, ?_⟩) hHeld ?_; rotate_left; (focus (intro w hSw; (try dsimp only at hSw); go_simp; try with_reducible rfl)); (try simp only [Act.put, List.setIfInBounds_toArray, List.set_cons_zero, List.set_cons_succ, List.getElem_toArray, List.getElem_cons_zero, List.getElem_cons_succ]))
  refine wpAnyH_done (by kernel_rfl) ?_ _
  have HH := Lib.hid hHeld
  clear hHeld hb2
  go_wp2_with fail
  go_ret
  refine ⟨_, _, rfl, HS.out, ⟨HBx.out, HO.out.down (Nat.zero_le _)⟩, fun g hg => ?_, HH.out⟩
  obtain ⟨_, hg2, _⟩ := HO.out.block hg
  exact hg2
end Go.Proofs.Ytbfkjdnopiadjaa

namespace Go.Proofs.Ytbfkjdnopiadjaa
open Go.RowKit
attribute [local go_sem ↓] Go.wp_at_zero Go.wp_at_succ
open Tp (Pf Ok En)

/-- What a round of lengths takes. -/
def ofLen (a : Int) (n : Nat) (x : En) : Bool := decide (x.1.2 = (n : Int)) && Tp.hasE a x
theorem has_ok {x : En} (h : Ok x.1) (a : Int) : Wp.hasB x.1.1 x.1.2 a = Tp.hasE a x := by
  unfold Wp.hasB Tp.hasE
  rw [h.may]; rfl
theorem fil_step {L : List En} {i : Nat} {x : En} (hx : L[i]? = some x) (f : En → Bool) : (L.take (i + 1)).filter f = (L.take i).filter f ++ if f x = true then [x] else [] := by
  obtain ⟨hi, rfl⟩ := List.getElem?_eq_some_iff.1 hx
  rw [List.take_succ_eq_append_getElem hi, List.filter_append]
  congr 1
  rw [List.filter_cons]
  split <;> rfl

set_option maxHeartbeats 4000000 in
set_option maxRecDepth 100000 in
theorem coversR {q : Nat} {v : Value} {lim : Int} {L : List En} {w : World} (h : RT q v lim L w) (hL : L.length ≤ 1000) (hu : Tp.Up L) (ho : ∀ x ∈ L, Ok x.1) {a : Int} (h0 : 0 ≤ a) (h1 : a < 4294967296) :
    Calls Try.prog 17 #[.pointer (some ⟨q, 0, none⟩), .int .u32 a] w fun e w' => ∃ u, e = .returned u ∧ OwnE w' w.heap.size u (L.filter (Tp.hasE a)) ∧ Below w.heap.size w w' := by
  have HL := Lib.hid (Tp.covers_eq hu ho a)
  have HT := Lib.hid h
  have HO := Lib.hid ho
  obtain ⟨va, vc, rfl⟩ := h.own.form
  clear h hu ho
  go_enter Try.func17, Try.ntmps17
  go_wp2_with fail
  obtain ⟨G, hG⟩ : ∃ G : Nat → List En, G = fun n => (List.range' 0 n).flatMap (fun (n : Nat) => L.filter (ofLen a n)) := ⟨_, rfl⟩
  have HG0 : Hid (G 0 = []) := by rw [hG]; rfl
  have HGs : Hid (∀ n, G (n + 1) = G n ++ L.filter (ofLen a n)) := by
    rw [hG]
    intro n
    show (List.range' 0 (n + 1)).flatMap _ = _
    rw [List.range'_1_concat, List.flatMap_append]
    simp
  have HGe : Hid (G 33 = L.filter (Tp.hasE a)) := by rw [hG]; exact HL.out
  have HGl : Hid (∀ n i, n ≤ 32 → (G n ++ (L.take i).filter (ofLen a n)).length ≤ 100000) := by
    intro n i hn
    have hg : ∀ m, (G m).length ≤ m * 1000 := by
      intro m
      induction m with
      | zero => rw [HG0.out]; simp
      | succ m ih =>
        rw [HGs.out m, List.length_append]
        have := List.length_filter_le (ofLen a m) L
        omega
    have h2 := List.length_filter_le (ofLen a n) (L.take i)
    have h3 := hg n
    rw [List.length_take] at h2
    rw [List.length_append]
    have h4 : n * 1000 ≤ 32 * 1000 := Nat.mul_le_mul_right _ hn
    omega
  clear hG
  go_loopw [5, 6] (fun x y wr => ∃ n : Nat, n ≤ 33 ∧ y = .int .i64 n ∧ Hid (OwnE wr w.heap.size x (G n)) ∧ Hid (Below w.heap.size w wr)) (fun _ y _ => 33 - (intOf y).toNat)
  case atStart => exact ⟨0, Nat.zero_le _, rfl, by rw [HG0.out]; exact OwnE.nil _ _, Below.refl _ _⟩
  case round =>
    obtain ⟨n, hn, rfl, HX, HB⟩ := hrel
    rcases Nat.lt_or_ge n 33 with hlt | hge
    · have g1 : (n : Int) ≤ 32 := by omega
      go_wp2_with fail
      go_loopw [5, 7] (fun x z wr2 => ∃ i : Nat, i ≤ L.length ∧ z = .int .i64 i ∧ Hid (OwnE wr2 w.heap.size x (G n ++ (L.take i).filter (ofLen a n))) ∧ Hid (Below w.heap.size w wr2)) (fun _ z _ => L.length - (intOf z).toNat)
      case atStart => exact ⟨0, Nat.zero_le _, rfl, by rw [List.take_zero, List.filter_nil, List.append_nil]; exact HX, HB⟩
      case round =>
        obtain ⟨i, hi, rfl, HXi, HBi⟩ := hrel
        have HTi := Lib.hid (HT.out.later HBi.out)
        obtain ⟨c0, c1⟩ := HTi.out.cells
        cases hx : L[i]? with
        | some x =>
          obtain ⟨g, o, rfl, hg, e0, e1, e2⟩ := HTi.out.own.reads.at hx
          have k0 : (i : Int) < L.length := by have := (List.getElem?_eq_some_iff.1 hx).1; omega
          have HS := Lib.hid (fil_step hx (ofLen a n))
          have hok := HO.out x (List.mem_of_getElem? hx)
          have HH := Lib.hid (fun (V : World) => hasR_any x.1.1 x.1.2 a V hok.a0 hok.a1 h0 h1)
          rw [has_ok hok a] at HH
          have HLn := Lib.hid (HGl.out n i (by omega))
          have hx2 := Lib.hid hx
          clear hok hx hg
          obtain ⟨⟨⟨xa, xn⟩, xv⟩, hxx⟩ : ∃ y, y = x := ⟨_, rfl⟩
          subst hxx
          simp only at e0 e1 e2 HH
          cases hk : (xn == (n : Int)) with
          | false =>
            have hf : ofLen a n ((xa, xn), xv) = false := by unfold ofLen; simp at hk ⊢; intro e; exact absurd e hk
            rw [hf] at HS
            have HX2 : Hid (OwnE wr w.heap.size u5 (G n ++ (L.take (i + 1)).filter (ofLen a n))) := by
              rw [HS.out, if_neg (by simp), List.append_nil]; exact HXi
            clear hf
            go_wp2_with fail
            go_roundw
            case rel => exact ⟨i + 1, by omega, by go_num, HX2, HBi⟩
            case measure => simp [intOf]; omega
          | true =>
            have hf : ofLen a n ((xa, xn), xv) = Tp.hasE a ((xa, xn), xv) := by unfold ofLen; rw [decide_eq_true (by simpa using hk)]; rfl
            rw [hf] at HS
            clear hf
            go_wp2_with fail
            refine (HH.out _).mono ?_
            rintro e w2 ⟨rfl, hb2⟩
            have HB2 := Lib.hid (below_of HBi.out hb2)
            have HX2 := Lib.hid (HXi.out.later hb2)
            have HT2 := Lib.hid (HT.out.later HB2.out)
            have c0' := HT2.out.cells.1
            clear hb2
            cases hh : Tp.hasE a ((xa, xn), xv) with
            | false =>
              rw [hh] at HS
              have HX3 : Hid (OwnE w2 w.heap.size u5 (G n ++ (L.take (i + 1)).filter (ofLen a n))) := by
                rw [HS.out, if_neg (by simp), List.append_nil]; exact HX2
              clear c0'
              go_wp2_with fail
              go_roundw
              case rel => exact ⟨i + 1, by omega, by go_num, HX3, HB2⟩
              case measure => simp [intOf]; omega
            | true =>
              rw [hh] at HS
              obtain ⟨g', o', eg, _, f0, f1, f2⟩ := HT2.out.own.reads.at hx2.out
              simp only [Option.some.injEq, Addr.mk.injEq, and_true] at eg
              obtain ⟨rfl, rfl⟩ := eg
              have HApp := Lib.hid (run_appE (w2.alloc (.cells #[.int .u32 xa, .int .i64 xn, .int .i64 xv] 75)) w.heap.size u5 (.slice (some ⟨w2.heap.size, 0, none⟩) 1 1) _ [((xa, xn), xv)] (HX2.out.later (ba1 _ _)) (EnR.one w2 ((xa, xn), xv)) (by have := HLn.out; simp at this ⊢; omega) (by have := HB2.out.size; simp; omega))
              simp only at f0 f1 f2
              go_wp2_with (at_builtin; refine wpList_appT rfl (.tmp 44) (.tmp 52) _ _ rfl u5 (.slice (some ⟨w2.heap.size, 0, none⟩) 1 1) _ rfl rfl HApp.out ?_; intro v' w6 hc)
              have HB6 := Lib.hid (HB2.out.trans (((ba1 w2 (.cells #[.int .u32 xa, .int .i64 xn, .int .i64 xv] 75)).mono HB2.out.size).trans hc.2.1))
              have HX3 : Hid (OwnE w6 w.heap.size v' (G n ++ (L.take (i + 1)).filter (ofLen a n))) := by
                rw [HS.out]; have := hc.1; rw [List.append_assoc] at this; exact this
              obtain ⟨A2, c2, hv'⟩ := HX3.out.form
              obtain ⟨m2, hm2⟩ : ∃ m2, m2 = (G n ++ (L.take (i + 1)).filter (ofLen a n)).length := ⟨_, rfl⟩
              rw [← hm2] at hv'
              subst hv'
              clear hm2 hc c0' f0 f1 f2 HApp
              go_wp2_with fail
              go_roundw
              case rel => exact ⟨i + 1, by omega, by go_num, HX3, HB6⟩
              case measure => simp [intOf]; omega
        | none =>
          have e : i = L.length := by have := List.getElem?_eq_none_iff.1 hx; omega
          subst e
          have HX3 : Hid (OwnE wr w.heap.size u5 (G (n + 1))) := by
            rw [HGs.out n]; have := HXi.out; rw [List.take_length] at this; exact this
          go_wp2_with fail
          go_roundw
          case rel => exact ⟨n + 1, by omega, by go_num, HX3, HBi⟩
          case measure => simp [intOf]; omega
    · have e : n = 33 := by omega
      subst e
      go_wp2_with fail
      go_ret
      exact ⟨_, rfl, by rw [← HGe.out]; exact HX.out, HB.out⟩
end Go.Proofs.Ytbfkjdnopiadjaa
