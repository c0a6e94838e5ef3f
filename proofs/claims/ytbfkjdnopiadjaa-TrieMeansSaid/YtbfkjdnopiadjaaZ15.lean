/- TrieHolds: the walk.
   The reference's Covers: the walk.
   The reference's Nodes and Copy: the walks.
   The reference's Common: the walk. -/
import Derived.Test.YtbfkjdnopiadjaaZ02
import Derived.Test.YtbfkjdnopiadjaaZ04
import Derived.Test.YtbfkjdnopiadjaaZ07
import Derived.Test.YtbfkjdnopiadjaaZ10
import Derived.Test.YtbfkjdnopiadjaaZ13
import Derived.Test.YtbfkjdnopiadjaaZ14

set_option linter.unusedSimpArgs false
set_option linter.unusedVariables false
namespace Go.Proofs.Ytbfkjdnopiadjaa
open Go.RowKit
attribute [local go_sem ↓] Go.wp_at_zero Go.wp_at_succ
attribute [local go_sem ↓ high] eqP neP
open Tp (Pf Ok En)

theorem in_p {p : Pf} (hp : Ok p) {k : Nat} (hk : k ≤ 32) : Wp.inB (Wp.fst p.1 k) k p.1 p.2 = decide ((k : Int) ≤ p.2) := by
  unfold Wp.inB
  rw [Tp.fst_may (by omega) (by omega), hp.may]
  simp
theorem in_q {p q : Pf} (hq : Ok q) {k : Nat} (hk : k ≤ 32) : Wp.inB (Wp.fst p.1 k) k q.1 q.2 = (decide ((k : Int) ≤ q.2) && decide (Wp.fst q.1 k = Wp.fst p.1 k)) := by
  unfold Wp.inB
  rw [Tp.fst_may (by omega) (by omega), hq.may]
  simp
theorem shr_iff {p q : Pf} {k : Nat} : Tp.shr p q k ↔ (decide ((k : Int) ≤ p.2) && (decide ((k : Int) ≤ q.2) && decide (Wp.fst q.1 k = Wp.fst p.1 k))) = true := by
  unfold Tp.shr
  simp only [Bool.and_eq_true, decide_eq_true_eq]
  exact ⟨fun ⟨a, b, c⟩ => ⟨a, b, c.symm⟩, fun ⟨a, b, c⟩ => ⟨a, b, c.symm⟩⟩

theorem fst_ge {a n : Int} (h : 0 ≤ a) : 0 ≤ Wp.fst a n := by unfold Wp.fst; exact Int.mul_nonneg (Int.ediv_nonneg h (Int.le_of_lt (Int.pow_pos (by decide)))) (Int.le_of_lt (Int.pow_pos (by decide)))
theorem comF_pos (p q : Pf) {k : Nat} (hk : 0 < k) : Tp.comF p q k = if Tp.shr p q k then (Wp.fst p.1 k, (k : Int)) else Tp.comF p q (k - 1) := by
  cases k with
  | zero => omega
  | succ k => rfl

set_option maxHeartbeats 4000000 in
set_option maxRecDepth 100000 in
theorem commonR {p q : Pf} (hp : Ok p) (hq : Ok q) (w : World) :
    Calls Try.prog 51 #[.agg #[.int .u32 p.1, .int .i64 p.2], .agg #[.int .u32 q.1, .int .i64 q.2]] w fun e w' => e = .returned (pv (Tp.com p q)) ∧ Below w.heap.size w w' := by
  have HP := Lib.hid hp
  have HQ := Lib.hid hq
  go_enter Try.func51, Try.ntmps51
  go_wp2_with fail
  have hX := BlkAt.new w (t := 37) [.int .u32 p.1, .int .i64 p.2]
  have hY := BlkAt.new (w.alloc (.cells #[.int .u32 p.1, .int .i64 p.2] 37)) (t := 37) [.int .u32 q.1, .int .i64 q.2]
  have hZ := BlkAt.new ((w.alloc (.cells #[.int .u32 p.1, .int .i64 p.2] 37)).alloc (.cells #[.int .u32 q.1, .int .i64 q.2] 37)) (t := 37) [.int .u32 0, .int .i64 0]
  rw [World.size_alloc] at hY
  rw [World.size_alloc, World.size_alloc] at hZ
  have hB := below_of (below_of (ba1 w (.cells #[.int .u32 p.1, .int .i64 p.2] 37)) (ba1 _ (.cells #[.int .u32 q.1, .int .i64 q.2] 37))) (ba1 _ (.cells #[.int .u32 0, .int .i64 0] 37))
  have hY2 := hY.later (ba1 _ (.cells #[.int .u32 0, .int .i64 0] 37))
  have hX2 := (hX.later (ba1 _ (.cells #[.int .u32 q.1, .int .i64 q.2] 37))).later (ba1 _ (.cells #[.int .u32 0, .int .i64 0] 37))
  clear hX hY
  obtain ⟨W, hW⟩ : ∃ W, W = ((w.alloc (.cells #[.int .u32 p.1, .int .i64 p.2] 37)).alloc (.cells #[.int .u32 q.1, .int .i64 q.2] 37)).alloc (.cells #[.int .u32 0, .int .i64 0] 37) := ⟨_, rfl⟩
  have HX : Hid (BlkAt 37 w.heap.size [.int .u32 p.1, .int .i64 p.2] W) := by rw [hW]; exact hX2
  have HY : Hid (BlkAt 37 (w.heap.size + 1) [.int .u32 q.1, .int .i64 q.2] W) := by rw [hW]; exact hY2
  have HZ : Hid (BlkAt 37 (w.heap.size + 1 + 1) [.int .u32 0, .int .i64 0] W) := by rw [hW]; exact hZ
  have HB : Hid (Below w.heap.size w W) := by rw [hW]; exact hB
  rw [← hW]
  clear hX2 hY2 hZ hB hW hp hq
  go_loopw [5] (fun x wr => ∃ k : Nat, k ≤ 32 ∧ x = .int .i64 k ∧ Hid (Below W.heap.size W wr) ∧ Hid (Tp.com p q = Tp.comF p q k)) (fun x _ => (intOf x).toNat)
  case atStart => exact ⟨32, Nat.le_refl _, rfl, Below.refl _ _, rfl⟩
  case round =>
    obtain ⟨k, hk, rfl, HBr, HC⟩ := hrel
    have HXr := Lib.hid (HX.out.later HBr.out)
    have HYr := Lib.hid (HY.out.later HBr.out)
    have HZr := Lib.hid (HZ.out.later HBr.out)
    have HBw := Lib.hid (below_of HB.out HBr.out)
    rcases Nat.eq_zero_or_pos k with h0 | h0
    · subst h0
      have z0 := HZr.out.cell (j := 0) rfl
      have z1 := HZr.out.cell (j := 1) rfl
      have zf0 := HZr.out.frozen 0
      have zf1 := HZr.out.frozen 1
      have hN := (HZr.out.set 0 (.int .u32 0)).set 1 (.int .i64 0)
      have HN := Lib.hid hN
      have HBn : Hid (Below w.heap.size w ((wr.setCell ⟨w.heap.size + 1 + 1, 0, none⟩ (.int .u32 0)).setCell ⟨w.heap.size + 1 + 1, 1, none⟩ (.int .i64 0))) := (HBw.out.setCell (by simp; omega) _).setCell (by simp; omega) _
      clear hN
      go_wp2_with fail
      have x0 := HN.out.cell (j := 0) rfl
      have x1 := HN.out.cell (j := 1) rfl
      refine ⟨rfl, pv (Tp.com p q), ?_, rfl, HBn.out⟩
      rw [HC.out]
      simp [results, Try.f51, go_sem, x0, x1, pv, Tp.comF]
    · have b0 := HXr.out.cell (j := 0) rfl
      have b1 := HXr.out.cell (j := 1) rfl
      have d0 := HYr.out.cell (j := 0) rfl
      have d1 := HYr.out.cell (j := 1) rfl
      have HF := Lib.hid (first_any p.1 (k : Int) wr HP.out.a0 HP.out.a1 (by omega) (by omega))
      have g0 : (0 : Int) < k := by omega
      have HI1 := Lib.hid (fun (V : World) => inR_any (Wp.fst p.1 k) k p.1 p.2 V (fst_ge HP.out.a0) (Int.lt_of_le_of_lt Wp.fst_le HP.out.a1) HP.out.a0 HP.out.a1)
      have HI2 := Lib.hid (fun (V : World) => inR_any (Wp.fst p.1 k) k q.1 q.2 V (fst_ge HP.out.a0) (Int.lt_of_le_of_lt Wp.fst_le HP.out.a1) HQ.out.a0 HQ.out.a1)
      rw [in_p HP.out hk] at HI1
      rw [in_q HQ.out hk] at HI2
      have HS := Lib.hid (@shr_iff p q k)
      have HC2 : Hid (Tp.com p q = if Tp.shr p q k then (Wp.fst p.1 k, (k : Int)) else Tp.comF p q (k - 1)) := by rw [← comF_pos p q h0]; exact HC.out
      obtain ⟨f, hf⟩ : ∃ f, f = Wp.fst p.1 k := ⟨_, rfl⟩
      rw [← hf] at HF HI1 HI2 HS HC2
      have hC := BlkAt.new wr (t := 37) [.int .u32 f, .int .i64 k]
      have hBc := ba1 wr (.cells #[.int .u32 f, .int .i64 k] 37)
      have HCc := Lib.hid hC
      have HBc := Lib.hid hBc
      have HX2 := Lib.hid (HXr.out.later hBc)
      have HY2 := Lib.hid (HYr.out.later hBc)
      have HBk := Lib.hid (below_of HBr.out hBc)
      clear hC hBc hf
      go_wp2_with fail
      refine HF.out.mono ?_
      rintro e w1 ⟨rfl, rfl⟩
      have x0 := HX2.out.cell (j := 0) rfl
      have x1 := HX2.out.cell (j := 1) rfl
      have y0 := HCc.out.cell (j := 0) rfl
      have y1 := HCc.out.cell (j := 1) rfl
      clear b0 b1 d0 d1 HF
      go_wp2_with fail
      obtain ⟨V, hV⟩ : ∃ V, V = wr.alloc (.cells #[.int .u32 f, .int .i64 k] 37) := ⟨_, rfl⟩
      have eV : wr.alloc (.cells [.int .u32 f, .int .i64 k].toArray 37) = V := hV.symm
      rw [eV] at HCc
      rw [← hV] at HBc HX2 HY2 HBk ⊢
      clear x0 x1 y0 y1 eV hV
      refine (HI1.out V).mono ?_
      rintro e w2 ⟨rfl, hb2⟩
      have HC3 := Lib.hid (HCc.out.later hb2)
      have HY3 := Lib.hid (HY2.out.later hb2)
      have HB3 := Lib.hid (below_of HBk.out hb2)
      have y0 := HC3.out.cell (j := 0) rfl
      have y1 := HC3.out.cell (j := 1) rfl
      have d0 := HY3.out.cell (j := 0) rfl
      have d1 := HY3.out.cell (j := 1) rfl
      clear hb2
      cases hd1 : decide ((k : Int) ≤ p.2) with
      | false =>
        rw [hd1] at HS
        have HN : Hid (Tp.com p q = Tp.comF p q (k - 1)) := by
          have := HC2.out
          rw [if_neg (fun h => by have := HS.out.1 h; simp at this)] at this
          exact this
        go_wp2_with fail
        go_roundw
        case rel => exact ⟨k - 1, by omega, by go_num, HB3, HN⟩
        case measure => simp [intOf]; omega
      | true =>
        rw [hd1] at HS
        go_wp2_with fail
        refine (HI2.out w2).mono ?_
        rintro e w3 ⟨rfl, hb3⟩
        have HC4 := Lib.hid (HC3.out.later hb3)
        have HB4 := Lib.hid (below_of HB3.out hb3)
        have e0 := HC4.out.cell (j := 0) rfl
        have e1 := HC4.out.cell (j := 1) rfl
        clear hb3 y0 y1 d0 d1
        cases hd2 : (decide ((k : Int) ≤ q.2) && decide (Wp.fst q.1 k = f)) with
        | false =>
          rw [hd2] at HS
          have HN : Hid (Tp.com p q = Tp.comF p q (k - 1)) := by
            have := HC2.out
            rw [if_neg (fun h => by have := HS.out.1 h; simp at this)] at this
            exact this
          go_wp2_with fail
          go_roundw
          case rel => exact ⟨k - 1, by omega, by go_num, HB4, HN⟩
          case measure => simp [intOf]; omega
        | true =>
          rw [hd2] at HS
          have HN : Hid (Tp.com p q = (f, (k : Int))) := by
            have := HC2.out
            rw [if_pos (HS.out.2 rfl)] at this
            exact this
          have HZ4 := Lib.hid (HZ.out.later HB4.out)
          have HBw4 := Lib.hid (below_of HB.out HB4.out)
          have z0 := HZ4.out.cell (j := 0) rfl
          have z1 := HZ4.out.cell (j := 1) rfl
          have zf0 := HZ4.out.frozen 0
          have zf1 := HZ4.out.frozen 1
          have hN := (HZ4.out.set 0 (.int .u32 f)).set 1 (.int .i64 k)
          have HNw := Lib.hid hN
          have HBn : Hid (Below w.heap.size w ((w3.setCell ⟨w.heap.size + 1 + 1, 0, none⟩ (.int .u32 f)).setCell ⟨w.heap.size + 1 + 1, 1, none⟩ (.int .i64 k))) := (HBw4.out.setCell (by simp; omega) _).setCell (by simp; omega) _
          clear hN
          go_wp2_with fail
          have x0 := HNw.out.cell (j := 0) rfl
          have x1 := HNw.out.cell (j := 1) rfl
          refine ⟨rfl, pv (Tp.com p q), ?_, rfl, HBn.out⟩
          rw [HN.out]
          simp [results, Try.f51, go_sem, x0, x1, pv]
end Go.Proofs.Ytbfkjdnopiadjaa

namespace Go.Proofs.Ytbfkjdnopiadjaa
open Go.RowKit
attribute [local go_sem ↓] Go.wp_at_zero Go.wp_at_succ
open Tp (Pf Ok En)

theorem mks_snoc : ∀ (A : List En) (x y : En), Tp.mks x (A ++ [y]) = Tp.mks x A ++ [y.1, Tp.com ((A.getLast?).getD x).1 y.1]
  | [], x, y => rfl
  | z :: A, x, y => by
    show z.1 :: Tp.com x.1 z.1 :: Tp.mks z (A ++ [y]) = _
    rw [mks_snoc A z y]
    have : ((z :: A).getLast?).getD x = (A.getLast?).getD z := by
      cases A with
      | nil => rfl
      | cons a A => rw [List.getLast?_cons_cons]; simp [List.getLast?_eq_some_getLast]
    rw [this]; rfl
theorem marks_snoc (A : List En) (y : En) : Tp.marks (A ++ [y]) = Tp.marks A ++ (match A.getLast? with | none => [y.1] | some x => [y.1, Tp.com x.1 y.1]) := by
  cases A with
  | nil => rfl
  | cons x A =>
    show x.1 :: Tp.mks x (A ++ [y]) = _
    rw [mks_snoc A x y]
    have : (x :: A).getLast? = some ((A.getLast?).getD x) := by
      cases A with
      | nil => rfl
      | cons a A => rw [List.getLast?_cons_cons]; simp [List.getLast?_eq_some_getLast]
    rw [this]; rfl
theorem dd_snoc (M : List Pf) (q : Pf) : Tp.dd (M ++ [q]) = if q ∈ Tp.dd M then Tp.dd M else Tp.dd M ++ [q] := by
  unfold Tp.dd
  rw [List.foldl_append]; rfl
theorem keys_put (S : List (Pf × Value)) (p : Pf) (v : Value) : (putM S p v).map Prod.fst = if p ∈ S.map Prod.fst then S.map Prod.fst else S.map Prod.fst ++ [p] := by
  unfold putM
  split
  · rw [List.map_map]
    have : (Prod.fst ∘ fun x : Pf × Value => if x.1 = p then (p, v) else x) = Prod.fst := by
      funext x
      simp only [Function.comp]
      split
      · rename_i hx; exact hx.symm
      · rfl
    rw [this]
  · simp
theorem Ky.of_ok {p : Pf} (h : Ok p) : Ky p := ⟨h.a0, h.a1, by have := h.n0; omega, by have := h.n1; omega⟩
theorem Ky.com {p q : Pf} (hp : Ok p) (hq : Ok q) : Ky (Tp.com p q) := by
  obtain ⟨n, h1, _, _, h4⟩ := Tp.comF_ok hp hq 32 (Nat.le_refl _)
  unfold Tp.com
  rw [h4]
  exact ⟨fst_ge hp.a0, Int.lt_of_le_of_lt Wp.fst_le hp.a1, by show _ ≤ ((n : Nat) : Int); omega, by show ((n : Nat) : Int) ≤ _; omega⟩
theorem take_snoc {L : List En} {i : Nat} {x : En} (hx : L[i]? = some x) : L.take (i + 1) = L.take i ++ [x] := by
  obtain ⟨hi, rfl⟩ := List.getElem?_eq_some_iff.1 hx
  exact List.take_succ_eq_append_getElem hi
def tru : Value := .agg #[.bool true]

set_option maxHeartbeats 4000000 in
set_option maxRecDepth 100000 in
theorem nodesR {q : Nat} {v : Value} {lim : Int} {L : List En} {w : World} (h : RT q v lim L w) (hL : L.length ≤ 1000000) (ho : ∀ x ∈ L, Ok x.1) :
    Calls Try.prog 36 #[.pointer (some ⟨q, 0, none⟩)] w fun e w' => e = .returned (.int .i64 ((Tp.dd (Tp.marks L)).length : Nat)) ∧ Below w.heap.size w w' := by
  have HT := Lib.hid h
  have HO := Lib.hid ho
  obtain ⟨va, vc, rfl⟩ := h.own.form
  clear h ho
  have hmm := @run_makeMap Try.prog
  go_enter Try.func36, Try.ntmps36
  go_wp2_with fail
  have hm := MAt.new w
  have hb := ba1 w (.map #[] 0)
  clear hmm
  obtain ⟨W, hW⟩ : ∃ W, W = w.alloc (.map #[] 0) := ⟨_, rfl⟩
  rw [← hW] at hm hb ⊢
  have HM := Lib.hid hm
  have HB := Lib.hid hb
  clear hm hb hW
  go_loopw [4] (fun x wr => ∃ (i : Nat) (S : List (Pf × Value)), i ≤ L.length ∧ x = .int .i64 i ∧ Hid (MAt w.heap.size S wr) ∧ Hid (S.map Prod.fst = Tp.dd (Tp.marks (L.take i))) ∧ Hid (Below w.heap.size w wr)) (fun x _ => L.length - (intOf x).toNat)
  case atStart => exact ⟨0, [], Nat.zero_le _, rfl, HM, rfl, HB⟩
  case round =>
    obtain ⟨i, S, hi, rfl, HMr, HS, HBr⟩ := hrel
    have HTr := Lib.hid (HT.out.later HBr.out)
    obtain ⟨c0, c1⟩ := HTr.out.cells
    cases hx : L[i]? with
    | none =>
      have e : i = L.length := by have := List.getElem?_eq_none_iff.1 hx; omega
      subst e
      have HLn : Hid (S.length = (Tp.dd (Tp.marks L)).length) := by
        have := congrArg List.length HS.out
        rw [List.take_length, List.length_map] at this; exact this
      have hlen := fun ty => run_lenM Try.underlying85 HMr.out ty
      go_wp2_with fail
      go_ret
      rw [← HLn.out]
      exact ⟨rfl, HBr.out⟩
    | some x =>
      obtain ⟨g, o, rfl, hg, e0, e1, e2⟩ := HTr.out.own.reads.at hx
      have k0 : (i : Int) < L.length := by have := (List.getElem?_eq_some_iff.1 hx).1; omega
      have hox := HO.out x (List.mem_of_getElem? hx)
      obtain ⟨w2, hu, hm2, hc2⟩ := run_updM Try.underlying85 HMr.out (Ky.of_ok hox) (.agg #[.bool true])
      have HM2 := Lib.hid hm2
      have HB2 := Lib.hid (HBr.out.trans (hc2.below HBr.out.size (by simp)))
      have HS2 : Hid ((putM S x.1 (.agg #[.bool true])).map Prod.fst = Tp.dd (Tp.marks (L.take i) ++ [x.1])) := by
        show _ = _
        rw [keys_put, dd_snoc, HS.out]
      have HT2 := Lib.hid (HT.out.later HB2.out)
      have HXi := Lib.hid hx
      have HOx := Lib.hid hox
      unfold pv at hu
      clear hm2 hc2 hox
      rcases Nat.eq_zero_or_pos i with h0 | h0
      · have HS3 : Hid ((putM S x.1 (.agg #[.bool true])).map Prod.fst = Tp.dd (Tp.marks (L.take (i + 1)))) := by
          rw [take_snoc HXi.out, marks_snoc]
          have : (L.take i).getLast? = none := by rw [h0]; rfl
          rw [this]
          exact HS2
        have g0 : ¬ (0 : Int) < i := by omega
        clear hx h0
        go_wp2_with fail
        go_roundw
        case rel => exact ⟨i + 1, _, by omega, by go_num, HM2, HS3, HB2⟩
        case measure => simp [intOf]; omega
      · have g0 : (0 : Int) < i := by omega
        obtain ⟨j, hj⟩ : ∃ j, i = j + 1 := ⟨i - 1, by omega⟩
        have hlt := (List.getElem?_eq_some_iff.1 hx).1
        obtain ⟨y, hy⟩ : ∃ y, L[j]? = some y := ⟨L[j], List.getElem?_eq_getElem (by omega)⟩
        have hoy := HO.out y (List.mem_of_getElem? hy)
        have hsm : IntKind.i64.wrap ((i : Int) - 1) = (j : Int) := by rw [IntWalk.i64_in _ ⟨by omega, by omega⟩]; omega
        have k1 : (j : Int) < L.length := by omega
        have HS3 : Hid (∀ S2 : List (Pf × Value), S2.map Prod.fst = (if Tp.com y.1 x.1 ∈ (putM S x.1 (.agg #[.bool true])).map Prod.fst then (putM S x.1 (.agg #[.bool true])).map Prod.fst else (putM S x.1 (.agg #[.bool true])).map Prod.fst ++ [Tp.com y.1 x.1]) → S2.map Prod.fst = Tp.dd (Tp.marks (L.take (i + 1)))) := by
          intro S2 h2
          rw [h2, HS2.out, take_snoc HXi.out, marks_snoc]
          have hl : (L.take i).getLast? = some y := by
            rw [hj, take_snoc hy, List.getLast?_append]; rfl
          rw [hl]
          show _ = Tp.dd (Tp.marks (L.take i) ++ [x.1, Tp.com y.1 x.1])
          rw [show Tp.marks (L.take i) ++ [x.1, Tp.com y.1 x.1] = (Tp.marks (L.take i) ++ [x.1]) ++ [Tp.com y.1 x.1] by simp]
          exact (dd_snoc _ _).symm
        obtain ⟨c20, c21⟩ := HT2.out.cells
        obtain ⟨g', o', eg, _, e20, e21, e22⟩ := HT2.out.own.reads.at hx
        obtain ⟨g'', o'', eg2, _, f20, f21, f22⟩ := HT2.out.own.reads.at hy
        simp only [Option.some.injEq, Addr.mk.injEq, and_true] at eg eg2
        obtain ⟨rfl, rfl⟩ := eg
        obtain ⟨rfl, rfl⟩ := eg2
        have HC := Lib.hid (fun (V : World) => commonR hoy HOx.out V)
        have HKc := Lib.hid (Ky.com hoy HOx.out)
        clear hx hy hj hlt hoy
        go_wp2_with fail
        refine wp_region_last (S := fun w' => Below w2.heap.size w2 w') (by simp only [List.pop_toArray, List.dropLast]; exact rfl) (by kernel_rfl) (by kernel_rfl) (Below.refl _ _).drew (fun hHeld => ?_)
        (refine wpAnyH_take (i := 0) (v := ?_) rfl (by kernel_rfl) (by kernel_rfl) (by kernel_rfl) (fun _ _ _ h => h) (Or.inl ⟨by rfl, ?_⟩) hHeld ?_; rotate_left; (focus (intro w hSw; (try dsimp only at hSw); go_simp; try with_reducible rfl)); (try simp only [Act.put, List.setIfInBounds_toArray, List.set_cons_zero, List.set_cons_succ, List.getElem_toArray, List.getElem_cons_zero])); (refine wpAnyH_take (i := 1) (v := ?_) rfl (by kernel_rfl) (by kernel_rfl) (by kernel_rfl) (fun _ _ _ h => h) (Or.inl ⟨by rfl, ?_⟩) hHeld ?_; rotate_left; (focus (intro w hSw; (try dsimp only at hSw); go_simp; try with_reducible rfl)); (try simp only [Act.put, List.setIfInBounds_toArray, List.set_cons_zero, List.set_cons_succ, List.getElem_toArray, List.getElem_cons_zero, List.getElem_cons_succ])); (refine wpAnyH_take (i := 2) (v := ?_) rfl (by kernel_rfl) (by kernel_rfl) (by kernel_rfl) (fun _ _ _ h => h) (Or.inl ⟨by rfl, ?_⟩) hHeld ?_; rotate_left; (focus (intro w hSw; (try dsimp only at hSw); go_simp; try with_reducible rfl)); (try simp only [Act.put, List.setIfInBounds_toArray, List.set_cons_zero, List.set_cons_succ, List.getElem_toArray, List.getElem_cons_zero, List.getElem_cons_succ])); (refine wpAnyH_take (i := 3) (v := ?_) rfl (by kernel_rfl) (by kernel_rfl) (by kernel_rfl) (fun _ _ _ h => h) (Or.inl ⟨by rfl, ?_⟩) hHeld ?_; rotate_left; (focus (intro w hSw; (try dsimp only at hSw); go_simp; try with_reducible rfl)); (try simp only [Act.put, List.setIfInBounds_toArray, List.set_cons_zero, List.set_cons_succ, List.getElem_toArray, List.getElem_cons_zero, List.getElem_cons_succ]))
        (refine wpAnyH_take (i := 4) (v := ?_) rfl (by kernel_rfl) (by kernel_rfl) (by kernel_rfl) (fun _ _ _ h => h) (Or.inl ⟨by rfl, ?_⟩) hHeld ?_; rotate_left; (focus (intro w hSw; (try dsimp only at hSw); go_simp; ((have hcc := cell_later hSw c20); go_simp; try with_reducible rfl))); (try simp only [Act.put, List.setIfInBounds_toArray, List.set_cons_zero, List.set_cons_succ, List.getElem_toArray, List.getElem_cons_zero, List.getElem_cons_succ]))
        (refine wpAnyH_take (i := 5) (v := ?_) rfl (by kernel_rfl) (by kernel_rfl) (by kernel_rfl) (fun _ _ _ h => h) (Or.inl ⟨by rfl, ?_⟩) hHeld ?_; rotate_left; (focus (intro w hSw; (try dsimp only at hSw); go_simp; try with_reducible rfl)); (try simp only [Act.put, List.setIfInBounds_toArray, List.set_cons_zero, List.set_cons_succ, List.getElem_toArray, List.getElem_cons_zero, List.getElem_cons_succ])); (refine wpAnyH_take (i := 6) (v := ?_) rfl (by kernel_rfl) (by kernel_rfl) (by kernel_rfl) (fun _ _ _ h => h) (Or.inl ⟨by rfl, ?_⟩) hHeld ?_; rotate_left; (focus (intro w hSw; (try dsimp only at hSw); go_simp; try with_reducible rfl)); (try simp only [Act.put, List.setIfInBounds_toArray, List.set_cons_zero, List.set_cons_succ, List.getElem_toArray, List.getElem_cons_zero, List.getElem_cons_succ])); (refine wpAnyH_take (i := 7) (v := ?_) rfl (by kernel_rfl) (by kernel_rfl) (by kernel_rfl) (fun _ _ _ h => h) (Or.inl ⟨by rfl, ?_⟩) hHeld ?_; rotate_left; (focus (intro w hSw; (try dsimp only at hSw); go_simp; try with_reducible rfl)); (try simp only [Act.put, List.setIfInBounds_toArray, List.set_cons_zero, List.set_cons_succ, List.getElem_toArray, List.getElem_cons_zero, List.getElem_cons_succ])); (refine wpAnyH_take (i := 8) (v := ?_) rfl (by kernel_rfl) (by kernel_rfl) (by kernel_rfl) (fun _ _ _ h => h) (Or.inl ⟨by rfl, ?_⟩) hHeld ?_; rotate_left; (focus (intro w hSw; (try dsimp only at hSw); go_simp; try with_reducible rfl)); (try simp only [Act.put, List.setIfInBounds_toArray, List.set_cons_zero, List.set_cons_succ, List.getElem_toArray, List.getElem_cons_zero, List.getElem_cons_succ]))
        (refine wpAnyH_take (i := 9) (v := ?_) rfl (by kernel_rfl) (by kernel_rfl) (by kernel_rfl) (fun _ _ _ h => h) (Or.inl ⟨by rfl, ?_⟩) hHeld ?_; rotate_left; (focus (intro w hSw; (try dsimp only at hSw); go_simp; ((have hcc := cell_later hSw f20); (have hcd := cell_later hSw f21); go_simp; try with_reducible rfl))); (try simp only [Act.put, List.setIfInBounds_toArray, List.set_cons_zero, List.set_cons_succ, List.getElem_toArray, List.getElem_cons_zero, List.getElem_cons_succ]))
        (refine wpAnyH_take (i := 10) (v := ?_) rfl (by kernel_rfl) (by kernel_rfl) (by kernel_rfl) (fun _ _ _ h => h) (Or.inl ⟨by rfl, ?_⟩) hHeld ?_; rotate_left; (focus (intro w hSw; (try dsimp only at hSw); go_simp; try with_reducible rfl)); (try simp only [Act.put, List.setIfInBounds_toArray, List.set_cons_zero, List.set_cons_succ, List.getElem_toArray, List.getElem_cons_zero, List.getElem_cons_succ])); (refine wpAnyH_take (i := 11) (v := ?_) rfl (by kernel_rfl) (by kernel_rfl) (by kernel_rfl) (fun _ _ _ h => h) (Or.inl ⟨by rfl, ?_⟩) hHeld ?_; rotate_left; (focus (intro w hSw; (try dsimp only at hSw); go_simp; try with_reducible rfl)); (try simp only [Act.put, List.setIfInBounds_toArray, List.set_cons_zero, List.set_cons_succ, List.getElem_toArray, List.getElem_cons_zero, List.getElem_cons_succ])); (refine wpAnyH_take (i := 12) (v := ?_) rfl (by kernel_rfl) (by kernel_rfl) (by kernel_rfl) (fun _ _ _ h => h) (Or.inl ⟨by rfl, ?_⟩) hHeld ?_; rotate_left; (focus (intro w hSw; (try dsimp only at hSw); go_simp; try with_reducible rfl)); (try simp only [Act.put, List.setIfInBounds_toArray, List.set_cons_zero, List.set_cons_succ, List.getElem_toArray, List.getElem_cons_zero, List.getElem_cons_succ]))
        (refine wpAnyH_take (i := 13) (v := ?_) rfl (by kernel_rfl) (by kernel_rfl) (by kernel_rfl) (fun _ _ _ h => h) (Or.inl ⟨by rfl, ?_⟩) hHeld ?_; rotate_left; (focus (intro w hSw; (try dsimp only at hSw); go_simp; ((have hcc := cell_later hSw c20); go_simp; try with_reducible rfl))); (try simp only [Act.put, List.setIfInBounds_toArray, List.set_cons_zero, List.set_cons_succ, List.getElem_toArray, List.getElem_cons_zero, List.getElem_cons_succ]))
        (refine wpAnyH_take (i := 14) (v := ?_) rfl (by kernel_rfl) (by kernel_rfl) (by kernel_rfl) (fun _ _ _ h => h) (Or.inl ⟨by rfl, ?_⟩) hHeld ?_; rotate_left; (focus (intro w hSw; (try dsimp only at hSw); go_simp; try with_reducible rfl)); (try simp only [Act.put, List.setIfInBounds_toArray, List.set_cons_zero, List.set_cons_succ, List.getElem_toArray, List.getElem_cons_zero, List.getElem_cons_succ])); (refine wpAnyH_take (i := 15) (v := ?_) rfl (by kernel_rfl) (by kernel_rfl) (by kernel_rfl) (fun _ _ _ h => h) (Or.inl ⟨by rfl, ?_⟩) hHeld ?_; rotate_left; (focus (intro w hSw; (try dsimp only at hSw); go_simp; try with_reducible rfl)); (try simp only [Act.put, List.setIfInBounds_toArray, List.set_cons_zero, List.set_cons_succ, List.getElem_toArray, List.getElem_cons_zero, List.getElem_cons_succ])); (refine wpAnyH_take (i := 16) (v := ?_) rfl (by kernel_rfl) (by kernel_rfl) (by kernel_rfl) (fun _ _ _ h => h) (Or.inl ⟨by rfl, ?_⟩) hHeld ?_; rotate_left; (focus (intro w hSw; (try dsimp only at hSw); go_simp; try with_reducible rfl)); (try simp only [Act.put, List.setIfInBounds_toArray, List.set_cons_zero, List.set_cons_succ, List.getElem_toArray, List.getElem_cons_zero, List.getElem_cons_succ]))
        (refine wpAnyH_take (i := 17) (v := ?_) rfl (by kernel_rfl) (by kernel_rfl) (by kernel_rfl) (fun _ _ _ h => h) (Or.inl ⟨by rfl, ?_⟩) hHeld ?_; rotate_left; (focus (intro w hSw; (try dsimp only at hSw); go_simp; ((have hcc := cell_later hSw e20); (have hcd := cell_later hSw e21); go_simp; try with_reducible rfl))); (try simp only [Act.put, List.setIfInBounds_toArray, List.set_cons_zero, List.set_cons_succ, List.getElem_toArray, List.getElem_cons_zero, List.getElem_cons_succ]))
        (refine wpAnyH_take (i := 19) (v := ?_) rfl (by kernel_rfl) (by kernel_rfl) (by kernel_rfl) (fun _ _ _ h => h) (Or.inl ⟨by rfl, ?_⟩) hHeld ?_; rotate_left; (focus (intro w hSw; (try dsimp only at hSw); go_simp; try with_reducible rfl)); (try simp only [Act.put, List.setIfInBounds_toArray, List.set_cons_zero, List.set_cons_succ, List.getElem_toArray, List.getElem_cons_zero, List.getElem_cons_succ]))
        (refine wpAnyH_ready (rs := [18]) (by kernel_rfl) (by simp) ?_; refine AllReadyH.cons rfl (fun K hK => ?_) AllReadyH.nil; go_simp; (refine (HC.out _).mono ?_; rintro e w3 ⟨rfl, hb3⟩); refine hK.out _ _ ?_ (fun hHeldN => ?_); (focus ((try dsimp only); (exact below_of hHeld hb3))); clear hK K hHeld; have hHeld := hHeldN; clear hHeldN; (try simp only [Act.put, List.setIfInBounds_toArray, List.set_cons_zero, List.set_cons_succ, List.getElem_toArray, List.getElem_cons_zero, List.getElem_cons_succ]))
        refine wpAnyH_done (by kernel_rfl) ?_ _
        obtain ⟨w4, hu4, hm4, hc4⟩ := run_updM Try.underlying85 (HM2.out.later hHeld) HKc.out (.agg #[.bool true])
        have HM4 := Lib.hid hm4
        have HB4 := Lib.hid ((HB2.out.trans (hHeld.mono HB2.out.size)).trans (hc4.below (Nat.le_trans HB2.out.size hHeld.size) (by simp)))
        have HS4 := Lib.hid (HS3.out _ (keys_put _ _ (.agg #[.bool true])))
        clear hm4 hc4 hHeld hb3 hu
        refine lastQ_at rfl ?_
        go_simp
        go_wp2_with fail
        go_roundw
        case rel => exact ⟨i + 1, _, by omega, by go_num, HM4, HS4, HB4⟩
        case measure => simp [intOf]; omega

set_option maxHeartbeats 4000000 in
set_option maxRecDepth 100000 in
theorem copyR {q : Nat} {v : Value} {lim : Int} {L : List En} {w : World} (h : RT q v lim L w) (hL : L.length ≤ 1000000) :
    Calls Try.prog 12 #[.pointer (some ⟨q, 0, none⟩)] w fun e w' => ∃ q' v', e = .returned (.pointer (some ⟨q', 0, none⟩)) ∧ w.heap.size ≤ q' ∧ RT q' v' lim L w' ∧ (∀ g, v'.ownBlock = some g → w.heap.size ≤ g) ∧ Below w.heap.size w w' := by
  have HT := Lib.hid h
  obtain ⟨va, vc, rfl⟩ := h.own.form
  obtain ⟨c0, c1⟩ := h.cells
  clear h
  go_enter Try.func12, Try.ntmps12
  go_wp2_with fail
  (refine wp_region_held_drew (S := (fun w' => Below w.heap.size w w')) (by kernel_rfl) ?_ (fun hHeld => ?_); (focus ((try dsimp only); (exact (Below.refl _ _).drew))))
  (refine wpAnyH_take (i := 0) (v := ?_) rfl (by kernel_rfl) (by kernel_rfl) (by kernel_rfl) (fun _ _ _ h => h) (Or.inl ⟨by rfl, ?_⟩) hHeld ?_; rotate_left; (focus (intro w hSw; (try dsimp only at hSw); go_simp; try with_reducible rfl)); (try simp only [Act.put, List.setIfInBounds_toArray, List.set_cons_zero, List.set_cons_succ, List.getElem_toArray, List.getElem_cons_zero])); (refine wpAnyH_take (i := 1) (v := ?_) rfl (by kernel_rfl) (by kernel_rfl) (by kernel_rfl) (fun _ _ _ h => h) (Or.inl ⟨by rfl, ?_⟩) hHeld ?_; rotate_left; (focus (intro w hSw; (try dsimp only at hSw); go_simp; try with_reducible rfl)); (try simp only [Act.put, List.setIfInBounds_toArray, List.set_cons_zero, List.set_cons_succ, List.getElem_toArray, List.getElem_cons_zero, List.getElem_cons_succ])); (refine wpAnyH_take (i := 2) (v := ?_) rfl (by kernel_rfl) (by kernel_rfl) (by kernel_rfl) (fun _ _ _ h => h) (Or.inl ⟨by rfl, ?_⟩) hHeld ?_; rotate_left; (focus (intro w hSw; (try dsimp only at hSw); go_simp; try with_reducible rfl)); (try simp only [Act.put, List.setIfInBounds_toArray, List.set_cons_zero, List.set_cons_succ, List.getElem_toArray, List.getElem_cons_zero, List.getElem_cons_succ]))
  (refine wpAnyH_take (i := 3) (v := ?_) rfl (by kernel_rfl) (by kernel_rfl) (by kernel_rfl) (fun _ _ _ h => h) (Or.inl ⟨by rfl, ?_⟩) hHeld ?_; rotate_left; (focus (intro w hSw; (try dsimp only at hSw); go_simp; ((have hcc := cell_later hSw c0); go_simp; try with_reducible rfl))); (try simp only [Act.put, List.setIfInBounds_toArray, List.set_cons_zero, List.set_cons_succ, List.getElem_toArray, List.getElem_cons_zero, List.getElem_cons_succ]))
  (refine wpAnyH_take (i := 5) (v := ?_) rfl (by kernel_rfl) (by kernel_rfl) (by kernel_rfl) (fun _ _ _ h => h) (Or.inl ⟨by rfl, ?_⟩) hHeld ?_; rotate_left; (focus (intro w hSw; (try dsimp only at hSw); go_simp; try with_reducible rfl)); (try simp only [Act.put, List.setIfInBounds_toArray, List.set_cons_zero, List.set_cons_succ, List.getElem_toArray, List.getElem_cons_zero, List.getElem_cons_succ])); (refine wpAnyH_take (i := 6) (v := ?_) rfl (by kernel_rfl) (by kernel_rfl) (by kernel_rfl) (fun _ _ _ h => h) (Or.inl ⟨by rfl, ?_⟩) hHeld ?_; rotate_left; (focus (intro w hSw; (try dsimp only at hSw); go_simp; try with_reducible rfl)); (try simp only [Act.put, List.setIfInBounds_toArray, List.set_cons_zero, List.set_cons_succ, List.getElem_toArray, List.getElem_cons_zero, List.getElem_cons_succ])); (refine wpAnyH_take (i := 7) (v := ?_) rfl (by kernel_rfl) (by kernel_rfl) (by kernel_rfl) (fun _ _ _ h => h) (Or.inl ⟨by rfl, ?_⟩) hHeld ?_; rotate_left; (focus (intro w hSw; (try dsimp only at hSw); go_simp; try with_reducible rfl)); (try simp only [Act.put, List.setIfInBounds_toArray, List.set_cons_zero, List.set_cons_succ, List.getElem_toArray, List.getElem_cons_zero, List.getElem_cons_succ]))
  (refine wpAnyH_take (i := 8) (v := ?_) rfl (by kernel_rfl) (by kernel_rfl) (by kernel_rfl) (fun _ _ _ h => h) (Or.inl ⟨by rfl, ?_⟩) hHeld ?_; rotate_left; (focus (intro w hSw; (try dsimp only at hSw); go_simp; ((have hcc := cell_later hSw c1); go_simp; try with_reducible rfl))); (try simp only [Act.put, List.setIfInBounds_toArray, List.set_cons_zero, List.set_cons_succ, List.getElem_toArray, List.getElem_cons_zero, List.getElem_cons_succ]))
  obtain ⟨w1, hw1⟩ : ∃ w1, w1 = World.drew w := ⟨_, rfl⟩
  rw [← hw1] at hHeld ⊢
  clear hw1
  refine wpAnyH_ready (rs := [4]) (by kernel_rfl) (by simp) ?_
  refine AllReadyH.cons rfl (fun K hK => ?_) AllReadyH.nil
  refine step_appT rfl (.const (.slice none 0 0)) (.tmp 6) 28 28 rfl (.slice none 0 0) (.slice va L.length vc) _ rfl rfl (run_appE w1 w1.heap.size (.slice none 0 0) _ [] _ (OwnE.nil _ _) (HT.out.later hHeld).own.reads (by simp; omega) (Nat.le_refl _)) ?_
  rintro v7 w2 ⟨ho, hs, _⟩
  rw [List.nil_append] at ho
  have F7 := Lib.hid (ho.down hHeld.size)
  refine hK.out _ _ (below_of hHeld hs) (fun hHeldN => ?_)
  clear ho hHeld hs hK K
  have hHeld := hHeldN
  clear hHeldN
  try simp only [Act.put, List.setIfInBounds_toArray, List.set_cons_zero, List.set_cons_succ, List.getElem_toArray, List.getElem_cons_zero, List.getElem_cons_succ]
  obtain ⟨a7, c7, e7⟩ := F7.out.form
  subst e7
  (refine wpAnyH_take (i := 9) (v := ?_) rfl (by kernel_rfl) (by kernel_rfl) (by kernel_rfl) (fun _ _ _ h => h) (Or.inl ⟨by rfl, ?_⟩) hHeld ?_; rotate_left; (focus (intro w hSw; (try dsimp only at hSw); go_simp; try with_reducible rfl)); (try simp only [Act.put, List.setIfInBounds_toArray, List.set_cons_zero, List.set_cons_succ, List.getElem_toArray, List.getElem_cons_zero, List.getElem_cons_succ]))
  have HBx := Lib.hid (BlkAt.new w2 (t := 30) [.slice a7 L.length c7, .int .i64 lim])
  have hb2 := ba1 w2 (.cells #[.slice a7 L.length c7, .int .i64 lim] 30)
  have HO := Lib.hid (F7.out.later hb2)
  have HS := Lib.hid hHeld.size
  (refine wpAnyH_ready (rs := [10]) (by kernel_rfl) (by simp) ?_; refine AllReadyH.cons rfl (fun K hK => ?_) AllReadyH.nil; go_simp; skip; refine hK.out _ _ ?_ (fun hHeldN => ?_); (focus ((try dsimp only); (exact below_of hHeld hb2))); clear hK K hHeld; have hHeld := hHeldN; clear hHeldN; (try simp only [Act.put, List.setIfInBounds_toArray, List.set_cons_zero, List.set_cons_succ, List.getElem_toArray, List.getElem_cons_zero, List.getElem_cons_succ]))
  (refine wpAnyH_take (i := 11) (v := ?_) rfl (by kernel_rfl) (by kernel_rfl) (by kernel_rfl) (fun _ _ _ h => h) (Or.inl ⟨by rfl, ?_⟩) hHeld ?_; rotate_left; (focus (intro w hSw; (try dsimp only at hSw); go_simp; try with_reducible rfl)); (try simp only [Act.put, List.setIfInBounds_toArray, List.set_cons_zero, List.set_cons_succ, List.getElem_toArray, List.getElem_cons_zero, List.getElem_cons_succ]))
  refine wpAnyH_done (by kernel_rfl) ?_ _
  have HH := Lib.hid hHeld
  clear hHeld hb2
  go_wp2_with fail
  go_ret
  refine ⟨_, _, rfl, HS.out, ⟨HBx.out, HO.out.down (Nat.zero_le _)⟩, fun g hg => ?_, HH.out⟩
  obtain ⟨_, hg2, _⟩ := HO.out.block hg
  exact hg2
end Go.Proofs.Ytbfkjdnopiadjaa

namespace Go.Proofs.Ytbfkjdnopiadjaa
open Go.RowKit
attribute [local go_sem ↓] Go.wp_at_zero Go.wp_at_succ
open Tp (Pf Ok En)

/-- What a round of lengths takes. -/
def ofLen (a : Int) (n : Nat) (x : En) : Bool := decide (x.1.2 = (n : Int)) && Tp.hasE a x
theorem has_ok {x : En} (h : Ok x.1) (a : Int) : Wp.hasB x.1.1 x.1.2 a = Tp.hasE a x := by
  unfold Wp.hasB Tp.hasE
  rw [h.may]; rfl
theorem fil_step {L : List En} {i : Nat} {x : En} (hx : L[i]? = some x) (f : En → Bool) : (L.take (i + 1)).filter f = (L.take i).filter f ++ if f x = true then [x] else [] := by
  obtain ⟨hi, rfl⟩ := List.getElem?_eq_some_iff.1 hx
  rw [List.take_succ_eq_append_getElem hi, List.filter_append]
  congr 1
  rw [List.filter_cons]
  split <;> rfl

set_option maxHeartbeats 4000000 in
set_option maxRecDepth 100000 in
theorem coversR {q : Nat} {v : Value} {lim : Int} {L : List En} {w : World} (h : RT q v lim L w) (hL : L.length ≤ 1000) (hu : Tp.Up L) (ho : ∀ x ∈ L, Ok x.1) {a : Int} (h0 : 0 ≤ a) (h1 : a < 4294967296) :
    Calls Try.prog 17 #[.pointer (some ⟨q, 0, none⟩), .int .u32 a] w fun e w' => ∃ u, e = .returned u ∧ OwnE w' w.heap.size u (L.filter (Tp.hasE a)) ∧ Below w.heap.size w w' := by
  have HL := Lib.hid (Tp.covers_eq hu ho a)
  have HT := Lib.hid h
  have HO := Lib.hid ho
  obtain ⟨va, vc, rfl⟩ := h.own.form
  clear h hu ho
  go_enter Try.func17, Try.ntmps17
  go_wp2_with fail
  obtain ⟨G, hG⟩ : ∃ G : Nat → List En, G = fun n => (List.range' 0 n).flatMap (fun (n : Nat) => L.filter (ofLen a n)) := ⟨_, rfl⟩
  have HG0 : Hid (G 0 = []) := by rw [hG]; rfl
  have HGs : Hid (∀ n, G (n + 1) = G n ++ L.filter (ofLen a n)) := by
    rw [hG]
    intro n
    show (List.range' 0 (n + 1)).flatMap _ = _
    rw [List.range'_1_concat, List.flatMap_append]
    simp
  have HGe : Hid (G 33 = L.filter (Tp.hasE a)) := by rw [hG]; exact HL.out
  have HGl : Hid (∀ n i, n ≤ 32 → (G n ++ (L.take i).filter (ofLen a n)).length ≤ 100000) := by
    intro n i hn
    have hg : ∀ m, (G m).length ≤ m * 1000 := by
      intro m
      induction m with
      | zero => rw [HG0.out]; simp
      | succ m ih =>
        rw [HGs.out m, List.length_append]
        have := List.length_filter_le (ofLen a m) L
        omega
    have h2 := List.length_filter_le (ofLen a n) (L.take i)
    have h3 := hg n
    rw [List.length_take] at h2
    rw [List.length_append]
    have h4 : n * 1000 ≤ 32 * 1000 := Nat.mul_le_mul_right _ hn
    omega
  clear hG
  go_loopw [5, 6] (fun x y wr => ∃ n : Nat, n ≤ 33 ∧ y = .int .i64 n ∧ Hid (OwnE wr w.heap.size x (G n)) ∧ Hid (Below w.heap.size w wr)) (fun _ y _ => 33 - (intOf y).toNat)
  case atStart => exact ⟨0, Nat.zero_le _, rfl, by rw [HG0.out]; exact OwnE.nil _ _, Below.refl _ _⟩
  case round =>
    obtain ⟨n, hn, rfl, HX, HB⟩ := hrel
    rcases Nat.lt_or_ge n 33 with hlt | hge
    · have g1 : (n : Int) ≤ 32 := by omega
      go_wp2_with fail
      go_loopw [5, 7] (fun x z wr2 => ∃ i : Nat, i ≤ L.length ∧ z = .int .i64 i ∧ Hid (OwnE wr2 w.heap.size x (G n ++ (L.take i).filter (ofLen a n))) ∧ Hid (Below w.heap.size w wr2)) (fun _ z _ => L.length - (intOf z).toNat)
      case atStart => exact ⟨0, Nat.zero_le _, rfl, by rw [List.take_zero, List.filter_nil, List.append_nil]; exact HX, HB⟩
      case round =>
        obtain ⟨i, hi, rfl, HXi, HBi⟩ := hrel
        have HTi := Lib.hid (HT.out.later HBi.out)
        obtain ⟨c0, c1⟩ := HTi.out.cells
        cases hx : L[i]? with
        | some x =>
          obtain ⟨g, o, rfl, hg, e0, e1, e2⟩ := HTi.out.own.reads.at hx
          have k0 : (i : Int) < L.length := by have := (List.getElem?_eq_some_iff.1 hx).1; omega
          have HS := Lib.hid (fil_step hx (ofLen a n))
          have hok := HO.out x (List.mem_of_getElem? hx)
          have HH := Lib.hid (fun (V : World) => hasR_any x.1.1 x.1.2 a V hok.a0 hok.a1 h0 h1)
          rw [has_ok hok a] at HH
          have HLn := Lib.hid (HGl.out n i (by omega))
          have hx2 := Lib.hid hx
          clear hok hx hg
          obtain ⟨⟨⟨xa, xn⟩, xv⟩, hxx⟩ : ∃ y, y = x := ⟨_, rfl⟩
          subst hxx
          simp only at e0 e1 e2 HH
          cases hk : (xn == (n : Int)) with
          | false =>
            have hf : ofLen a n ((xa, xn), xv) = false := by unfold ofLen; simp at hk ⊢; intro e; exact absurd e hk
            rw [hf] at HS
            have HX2 : Hid (OwnE wr w.heap.size u5 (G n ++ (L.take (i + 1)).filter (ofLen a n))) := by
              rw [HS.out, if_neg (by simp), List.append_nil]; exact HXi
            clear hf
            go_wp2_with fail
            go_roundw
            case rel => exact ⟨i + 1, by omega, by go_num, HX2, HBi⟩
            case measure => simp [intOf]; omega
          | true =>
            have hf : ofLen a n ((xa, xn), xv) = Tp.hasE a ((xa, xn), xv) := by unfold ofLen; rw [decide_eq_true (by simpa using hk)]; rfl
            rw [hf] at HS
            clear hf
            go_wp2_with fail
            refine (HH.out _).mono ?_
            rintro e w2 ⟨rfl, hb2⟩
            have HB2 := Lib.hid (below_of HBi.out hb2)
            have HX2 := Lib.hid (HXi.out.later hb2)
            have HT2 := Lib.hid (HT.out.later HB2.out)
            have c0' := HT2.out.cells.1
            clear hb2
            cases hh : Tp.hasE a ((xa, xn), xv) with
            | false =>
              rw [hh] at HS
              have HX3 : Hid (OwnE w2 w.heap.size u5 (G n ++ (L.take (i + 1)).filter (ofLen a n))) := by
                rw [HS.out, if_neg (by simp), List.append_nil]; exact HX2
              clear c0'
              go_wp2_with fail
              go_roundw
              case rel => exact ⟨i + 1, by omega, by go_num, HX3, HB2⟩
              case measure => simp [intOf]; omega
            | true =>
              rw [hh] at HS
              obtain ⟨g', o', eg, _, f0, f1, f2⟩ := HT2.out.own.reads.at hx2.out
              simp only [Option.some.injEq, Addr.mk.injEq, and_true] at eg
              obtain ⟨rfl, rfl⟩ := eg
              have HApp := Lib.hid (run_appE (w2.alloc (.cells #[.int .u32 xa, .int .i64 xn, .int .i64 xv] 75)) w.heap.size u5 (.slice (some ⟨w2.heap.size, 0, none⟩) 1 1) _ [((xa, xn), xv)] (HX2.out.later (ba1 _ _)) (EnR.one w2 ((xa, xn), xv)) (by have := HLn.out; simp at this ⊢; omega) (by have := HB2.out.size; simp; omega))
              simp only at f0 f1 f2
              go_wp2_with (at_builtin; refine wpList_appT rfl (.tmp 44) (.tmp 52) _ _ rfl u5 (.slice (some ⟨w2.heap.size, 0, none⟩) 1 1) _ rfl rfl HApp.out ?_; intro v' w6 hc)
              have HB6 := Lib.hid (HB2.out.trans (((ba1 w2 (.cells #[.int .u32 xa, .int .i64 xn, .int .i64 xv] 75)).mono HB2.out.size).trans hc.2.1))
              have HX3 : Hid (OwnE w6 w.heap.size v' (G n ++ (L.take (i + 1)).filter (ofLen a n))) := by
                rw [HS.out]; have := hc.1; rw [List.append_assoc] at this; exact this
              obtain ⟨A2, c2, hv'⟩ := HX3.out.form
              obtain ⟨m2, hm2⟩ : ∃ m2, m2 = (G n ++ (L.take (i + 1)).filter (ofLen a n)).length := ⟨_, rfl⟩
              rw [← hm2] at hv'
              subst hv'
              clear hm2 hc c0' f0 f1 f2 HApp
              go_wp2_with fail
              go_roundw
              case rel => exact ⟨i + 1, by omega, by go_num, HX3, HB6⟩
              case measure => simp [intOf]; omega
        | none =>
          have e : i = L.length := by have := List.getElem?_eq_none_iff.1 hx; omega
          subst e
          have HX3 : Hid (OwnE wr w.heap.size u5 (G (n + 1))) := by
            rw [HGs.out n]; have := HXi.out; rw [List.take_length] at this; exact this
          go_wp2_with fail
          go_roundw
          case rel => exact ⟨n + 1, by omega, by go_num, HX3, HBi⟩
          case measure => simp [intOf]; omega
    · have e : n = 33 := by omega
      subst e
      go_wp2_with fail
      go_ret
      exact ⟨_, rfl, by rw [← HGe.out]; exact HX.out, HB.out⟩
end Go.Proofs.Ytbfkjdnopiadjaa

namespace Go.Proofs.Ytbfkjdnopiadjaa
open Go.RowKit
attribute [local go_sem ↓] Go.wp_at_zero Go.wp_at_succ
open Tp (Pf Ok En Tr)

/-- What is not a trie's, a table's or an entry's stands. -/
theorem Bth.keepB {t q : Nat} {v : Value} {lim : Int} {T : Tr} {w w' : World} (h : Bth t q v lim T w) (hc : Chg (t :: rtB q v) w w') {ty : TypeId} (h1 : ty ≠ 66) (h2 : ty ≠ 30) (h3 : ty ≠ 75) {b : Nat} {cs : List Value} (hb : BlkAt ty b cs w) : BlkAt ty b cs w' := by
  refine hc.blk hb fun hm => ?_
  rcases List.mem_cons.1 hm with rfl | hm
  · obtain ⟨u, hu, _⟩ := h.tr.blk
    exact hb.no h1 hu
  · rcases mem_rtB.1 hm with rfl | hm
    · exact hb.no h2 h.rt.blk
    · obtain ⟨c, _, hc⟩ := h.rt.own.block hm
      have := hc.symm.trans (show w.heap[b]? = _ from hb)
      simp only [Option.some.injEq, Obj.cells.injEq] at this
      exact h3 this.2.1.symm
theorem SeqV.over {t q : Nat} {v : Value} {lim : Int} {T : Tr} {w w' : World} {Br Bg : Nat} {L : List En} (hs : SeqV w Br Bg L) (h : Bth t q v lim T w) (hc : Chg (t :: rtB q v) w w') : SeqV w' Br Bg L :=
  hs.keep ⟨hc.size, fun _ _ hb => h.keepB hc (by decide) (by decide) (by decide) hb, fun _ _ hb => h.keepB hc (by decide) (by decide) (by decide) hb⟩ (fun _ hb => h.keepB hc (by decide) (by decide) (by decide) hb) (fun _ hb => h.keepB hc (by decide) (by decide) (by decide) hb)
/-- Rows apart. -/
def Apart (v u : Value) : Prop := ∀ g, v.ownBlock = some g → u.ownBlock ≠ some g
theorem OwnE.over {t q : Nat} {v u : Value} {lim : Int} {T : Tr} {w w' : World} {B : Nat} {L : List En} (hu : OwnE w B u L) (h : Bth t q v lim T w) (ha : Apart v u) (hc : Chg (t :: rtB q v) w w') : OwnE w' B u L := by
  refine hc.owns hu fun g hg hm => ?_
  obtain ⟨c, _, hb⟩ := hu.block hg
  rcases List.mem_cons.1 hm with rfl | hm
  · obtain ⟨x, hx, _⟩ := h.tr.blk
    have := hb.symm.trans (show w.heap[g]? = _ from hx)
    simp only [Option.some.injEq, Obj.cells.injEq] at this
    exact absurd this.2.1 (by decide)
  · rcases mem_rtB.1 hm with rfl | hm
    · have := hb.symm.trans (show w.heap[g]? = _ from h.rt.blk)
      simp only [Option.some.injEq, Obj.cells.injEq] at this
      exact absurd this.2.1 (by decide)
    · exact ha g hm hg
theorem Apart.fresh {v v' u : Value} {w : World} {B : Nat} {L : List En} (h : Apart v u) (hf : Fresh w v v') (hu : OwnE w B u L) : Apart v' u := by
  rcases hf with rfl | hf
  · exact h
  · intro g hg e
    have h1 := hf g hg
    obtain ⟨c, _, hb⟩ := hu.block e
    have := (Array.getElem?_eq_some_iff.1 hb).1
    omega
/-- A value's row lies from here on. -/
def RowFrom (B : Nat) (v : Value) : Prop := ∀ g, v.ownBlock = some g → B ≤ g
theorem RowFrom.fresh {B : Nat} {v v' : Value} {w : World} (h : RowFrom B v) (hf : Fresh w v v') (hB : B ≤ w.heap.size) : RowFrom B v' := by
  rcases hf with rfl | hf
  · exact h
  · exact fun g hg => Nat.le_trans hB (hf g hg)
theorem Bth.below {t q : Nat} {v : Value} {w w' : World} {B : Nat} (hc : Chg (t :: rtB q v) w w') (hB : B ≤ w.heap.size) (h1 : B ≤ t) (h2 : B ≤ q) (h3 : RowFrom B v) : Below B w w' :=
  hc.below hB fun b hb => by
    rcases List.mem_cons.1 hb with rfl | hb
    · exact h1
    · rcases mem_rtB.1 hb with rfl | hb
      · exact h2
      · exact h3 b hb
theorem Bth.fewS {t q : Nat} {v : Value} {lim : Int} {T : Tr} {w : World} (h : Bth t q v lim T w) {n : Nat} (hl : lim ≤ n) (hn : n ≤ 400000) : T.size ≤ 1000000 ∧ T.el.length ≤ n := by
  have h1 := h.tr.le
  have h2 : T.el.length ≤ n := by omega
  have h3 := size_le h.tr.inv h2
  exact ⟨by omega, h2⟩
theorem bth_new {t q : Nat} {lim : Int} {w : World} (h : TSt t lim .nil w) (hb : BlkAt 30 q [.slice none 0 0, .int .i64 lim] w) : Bth t q (.slice none 0 0) lim .nil w := ⟨h, ⟨hb, OwnE.nil _ _⟩⟩

set_option maxHeartbeats 4000000 in
set_option maxRecDepth 100000 in
theorem trieHolds_walk (u0 : Value) (l : List Ac) (u1 : Value) (r : List Ac) (a : Int) (w : World) (hl : Rds 4 Ac.cs w u0 l) (hln : l.length ≤ 9223372036854775807) (hky : ∀ x ∈ l, x.Ok) (hr : Rds 4 Ac.cs w u1 r) (hrn : r.length ≤ 9223372036854775807) (hrk : ∀ x ∈ r, x.Ok) (ha0 : 0 ≤ a) (ha1 : a < 4294967296) :
    Calls Try.prog 4 #[u0, u1, .int .u32 a] w fun e w' => e = .returned (.bool true) ∧ Below w.heap.size w w' := by
  obtain ⟨la, lc, rfl⟩ := hl.form
  obtain ⟨ra, rc, rfl⟩ := hr.form
  have HL := Lib.hid hl
  have HR := Lib.hid hr
  have HK := Lib.hid hky
  have HQ := Lib.hid hrk
  clear hl hr hky hrk
  by_cases hgo : l.length ≤ 60 ∧ r.length ≤ 60
  · obtain ⟨hl60, hr60⟩ := hgo
    have k1 : ¬ (60 : Int) < l.length := by omega
    have k2 : ¬ (60 : Int) < r.length := by omega
    have HN := Lib.hid (newT 100 w (by decide))
    go_enter Try.func4, Try.ntmps4
    go_wp2_with fail
    refine HN.out.mono ?_
    rintro e w1 ⟨rfl, h1, b1⟩
    have hq := BlkAt.new w1 (t := 30) [.slice none 0 0, .int .i64 100]
    have b2 := ba1 w1 (.cells #[.slice none 0 0, .int .i64 100] 30)
    have hB := bth_new (show TSt w.heap.size 100 .nil _ from TSt.later h1 b2) hq
    have HQ1 : Hid (w.heap.size ≤ w1.heap.size) := b1.size
    have HBW := Lib.hid (below_of b1 b2)
    have HB0 := Lib.hid hB
    obtain ⟨q, hqq⟩ : ∃ q, q = w1.heap.size := ⟨_, rfl⟩
    rw [← hqq] at HB0 HQ1
    clear h1 b1 HN k1 k2 hq b2 hB
    go_wp2_with fail
    rw [← hqq]
    obtain ⟨w2, hw2⟩ : ∃ w2, w2 = w1.alloc (.cells #[.slice none 0 0, .int .i64 100] 30) := ⟨_, rfl⟩
    rw [← hw2] at HB0 HBW ⊢
    clear hqq hw2
    go_loopw [9] (fun x wr => ∃ (i : Nat) (T : Tr) (v : Value), i ≤ l.length ∧ x = .int .i64 i ∧ Hid (Bth w.heap.size q v 100 T wr) ∧ Hid (RowFrom w.heap.size v) ∧ Hid (Below w.heap.size w wr)) (fun x _ => l.length - (intOf x).toNat)
    case atStart => exact ⟨0, .nil, _, Nat.zero_le _, rfl, HB0, (fun g hg => by cases hg), HBW⟩
    case round =>
      obtain ⟨i, T, v, hi, rfl, HT, HV, HBr⟩ := hrel
      cases hx : l[i]? with
      | some c =>
        obtain ⟨g, o, rfl, _, hc⟩ := (show Rds 4 Ac.cs wr (.slice la l.length lc) l from HL.out.later HBr.out).at hx
        have k0 : (i : Int) < l.length := by have := (List.getElem?_eq_some_iff.1 hx).1; omega
        have c0 := hc 0 _ rfl
        have c1 := hc 1 _ rfl
        have c2 := hc 2 _ rfl
        have c3 := hc 3 _ rfl
        have hp := (HK.out c (List.mem_of_getElem? hx)).p.ad
        obtain ⟨hsz, hlen⟩ := HT.out.fewS (n := 100) (by decide) (by decide)
        have HC := Lib.hid (doT HT.out hsz (by omega) c hp)
        clear hc hx hp hsz hlen
        rw [Nat.add_zero] at c0
        obtain ⟨del, ⟨pa, pn⟩, cx⟩ := c
        simp only [Ac.val] at c0 c1 c2 c3 HC
        go_wp2_with fail
        refine HC.out.mono ?_
        rintro e w3 ⟨rfl, v', hB3, hC3, hF3⟩
        have HB3 := Lib.hid hB3
        have HV3 := Lib.hid (HV.out.fresh hF3 HBr.out.size)
        have HBl3 := Lib.hid (HBr.out.trans (Bth.below hC3 HBr.out.size (Nat.le_refl _) HQ1.out HV.out))
        clear hB3 hC3 hF3 c0 c1 c2 c3 HC
        go_wp2_with fail
        go_roundw
        case rel => exact ⟨i + 1, _, v', by omega, by go_num, HB3, HV3, HBl3⟩
        case measure => simp [intOf]; omega
      | none =>
        have e : i = l.length := by have := List.getElem?_eq_none_iff.1 hx; omega
        subst e
        clear hx
        obtain ⟨hsz, hlen⟩ := HT.out.fewS (n := 100) (by decide) (by decide)
        have HLn := Lib.hid hlen
        obtain ⟨L, hLL⟩ : ∃ L, L = T.el := ⟨_, rfl⟩
        have HA := Lib.hid (allT HT.out.tr)
        have HUp := Lib.hid HT.out.tr.inv.up
        have HOk := Lib.hid HT.out.tr.inv.okE
        clear hsz hlen
        go_wp2_with fail
        refine HA.out.mono ?_
        rintro e w3 ⟨Br, Bg, rfl, hs1, _, _, b3⟩
        have HS1 := Lib.hid hs1
        have HB3 := Lib.hid (HT.out.later b3)
        have HBl3 := Lib.hid (below_of HBr.out b3)
        clear hs1 b3 HA
        have HA := Lib.hid (coversT HB3.out.tr ha0 ha1)
        unfold seqF
        go_wp2_with fail
        refine HA.out.mono ?_
        rintro e w4 ⟨Br2, Bg2, rfl, hs2, _, _, b4⟩
        have HS2 := Lib.hid hs2
        have HS14 := Lib.hid (HS1.out.later b4)
        have HB4 := Lib.hid (HB3.out.later b4)
        have HBl4 := Lib.hid (below_of HBl3.out b4)
        clear hs2 b4 HA HB3 HS1
        unfold seqF
        obtain ⟨vf, vc, hvf⟩ := HB4.out.rt.own.form
        have q0 := HB4.out.rt.cells.1
        have HApp := Lib.hid (run_appE w4 w4.heap.size (.slice none 0 0) v [] T.el (OwnE.nil _ _) HB4.out.rt.own.reads (by have := HLn.out; simp; omega) (Nat.le_refl _))
        rw [hvf] at q0 HApp
        go_wp2_with (at_builtin; refine wpList_appT rfl (.const (.slice none 0 0)) (.tmp 51) _ _ rfl (.slice none 0 0) (.slice vf T.el.length vc) _ rfl rfl HApp.out ?_; intro v12 w5 hc)
        obtain ⟨hc1, hc2, _⟩ := hc
        rw [List.nil_append] at hc1
        have HL1 := Lib.hid hc1
        have HS15 := Lib.hid (HS14.out.later hc2)
        have HS25 := Lib.hid (HS2.out.later hc2)
        have HB5 := Lib.hid (HB4.out.later hc2)
        have HBl5 := Lib.hid (below_of HBl4.out hc2)
        have HA1 : Hid (Apart v v12) := by
          intro g hg e
          obtain ⟨_, _, h1⟩ := HB4.out.rt.own.block hg
          have h2 := (Array.getElem?_eq_some_iff.1 h1).1
          obtain ⟨_, h3, _⟩ := hc1.block e
          omega
        clear hc1 hc2 HApp HB4 HS14 HS2 q0
        have HA := Lib.hid (coversR HB5.out.rt (by have := HLn.out; omega) HUp.out HOk.out ha0 ha1)
        go_wp2_with fail
        refine HA.out.mono ?_
        rintro e w6 ⟨v13, rfl, hc, b6⟩
        have HL16 := Lib.hid (HL1.out.later b6)
        have HL2 := Lib.hid hc
        have HS16 := Lib.hid (HS15.out.later b6)
        have HS26 := Lib.hid (HS25.out.later b6)
        have HB6 := Lib.hid (HB5.out.later b6)
        have HBl6 := Lib.hid (below_of HBl5.out b6)
        have HA2 : Hid (Apart v v13) := by
          intro g hg e
          obtain ⟨_, _, h1⟩ := HB5.out.rt.own.block hg
          have h2 := (Array.getElem?_eq_some_iff.1 h1).1
          obtain ⟨_, h3, _⟩ := hc.block e
          omega
        have HCl : Hid ((T.el.filter (Tp.hasE a)).length ≤ T.el.length) := List.length_filter_le _ _
        obtain ⟨L2, hL2⟩ : ∃ L2, L2 = T.el.filter (Tp.hasE a) := ⟨_, rfl⟩
        rw [← hL2] at HL2 HS26 HCl
        rw [← hLL] at HL16 HS16 HCl HLn
        clear hc b6 HL1 HS15 HS25 HB5 HA hL2 hLL HT HBr HUp HOk hvf
        obtain ⟨B1, hB1⟩ : ∃ B, B = w4.heap.size := ⟨_, rfl⟩
        rw [← hB1] at HL16
        obtain ⟨B2, hB2⟩ : ∃ B, B = w5.heap.size := ⟨_, rfl⟩
        rw [← hB2] at HL2
        clear hB1 hB2
        go_wp2_with fail
        go_loopw [14] (fun x wr => ∃ (i : Nat) (T : Tr) (v : Value), i ≤ r.length ∧ x = .int .i64 i ∧ Hid (Bth w.heap.size q v 100 T wr) ∧ Hid (RowFrom w.heap.size v) ∧ Hid (Below w.heap.size w wr) ∧ Hid (SeqV wr Br Bg L) ∧ Hid (SeqV wr Br2 Bg2 L2) ∧ Hid (OwnE wr B1 v12 L) ∧ Hid (OwnE wr B2 v13 L2) ∧ Hid (Apart v v12) ∧ Hid (Apart v v13)) (fun x _ => r.length - (intOf x).toNat)
        case atStart => exact ⟨0, _, v, Nat.zero_le _, rfl, HB6, HV, HBl6, HS16, HS26, HL16, HL2, HA1, HA2⟩
        case round =>
          obtain ⟨i, T, v, hi, rfl, HT, HV, HBr, HS1, HS2, HL1, HL2, HA1, HA2⟩ := hrel
          cases hx : r[i]? with
          | some c =>
            obtain ⟨g, o, rfl, _, hc⟩ := (show Rds 4 Ac.cs wr (.slice ra r.length rc) r from HR.out.later HBr.out).at hx
            have k0 : (i : Int) < r.length := by have := (List.getElem?_eq_some_iff.1 hx).1; omega
            have c0 := hc 0 _ rfl
            have c1 := hc 1 _ rfl
            have c2 := hc 2 _ rfl
            have c3 := hc 3 _ rfl
            have hp := (HQ.out c (List.mem_of_getElem? hx)).p.ad
            obtain ⟨hsz, hlen⟩ := HT.out.fewS (n := 100) (by decide) (by decide)
            have HC := Lib.hid (doT HT.out hsz (by omega) c hp)
            clear hc hx hp hsz hlen
            rw [Nat.add_zero] at c0
            obtain ⟨del, ⟨pa, pn⟩, cx⟩ := c
            simp only [Ac.val] at c0 c1 c2 c3 HC
            go_wp2_with fail
            refine HC.out.mono ?_
            rintro e w3 ⟨rfl, v', hB3, hC3, hF3⟩
            have HB3 := Lib.hid hB3
            have HV3 := Lib.hid (HV.out.fresh hF3 HBr.out.size)
            have HBl3 := Lib.hid (HBr.out.trans (Bth.below hC3 HBr.out.size (Nat.le_refl _) HQ1.out HV.out))
            have HS1' := Lib.hid (HS1.out.over HT.out hC3)
            have HS2' := Lib.hid (HS2.out.over HT.out hC3)
            have HL1' := Lib.hid (HL1.out.over HT.out HA1.out hC3)
            have HL2' := Lib.hid (HL2.out.over HT.out HA2.out hC3)
            have HA1' := Lib.hid (HA1.out.fresh hF3 HL1.out)
            have HA2' := Lib.hid (HA2.out.fresh hF3 HL2.out)
            clear hB3 hC3 hF3 c0 c1 c2 c3 HC
            go_wp2_with fail
            go_roundw
            case rel => exact ⟨i + 1, _, v', by omega, by go_num, HB3, HV3, HBl3, HS1', HS2', HL1', HL2', HA1', HA2'⟩
            case measure => simp [intOf]; omega
          | none =>
            have e : i = r.length := by have := List.getElem?_eq_none_iff.1 hx; omega
            subst e
            clear hx
            have HF0 := Lib.hid (onceT HS1.out HL1.out.reads (by have := HLn.out; omega) 0)
            go_wp2_with fail
            unfold seqF at HF0
            refine HF0.out.mono ?_
            rintro e w6 ⟨rfl, b6⟩
            have HS6 := Lib.hid (HS2.out.later b6)
            have HL6 := Lib.hid (HL2.out.later b6)
            have HB6 := Lib.hid (below_of HBr.out b6)
            clear b6 HF0
            have HF0 := Lib.hid (onceT HS6.out HL6.out.reads (by have := HLn.out; have := HCl.out; omega) 0)
            go_wp2_with fail
            unfold seqF at HF0
            refine HF0.out.mono ?_
            rintro e w7 ⟨rfl, b7⟩
            have HB7 := Lib.hid (below_of HB6.out b7)
            clear b7 HF0
            go_wp2_with fail
            refine (knownT _).mono ?_
            rintro e w8 ⟨rfl, b8⟩
            have HB8 := Lib.hid (below_of HB7.out b8)
            clear b8
            go_wp2_with fail
            go_ret
            exact ⟨rfl, HB8.out⟩
  · by_cases hl60 : l.length ≤ 60
    · have k1 : ¬ (60 : Int) < l.length := by omega
      have k2 : (60 : Int) < r.length := by omega
      clear hgo
      go_enter Try.func4, Try.ntmps4
      go_wp2_with fail
      refine (knownT _).mono ?_
      rintro e w1 ⟨rfl, b1⟩
      have B1 := Lib.hid b1
      clear b1
      go_wp2_with fail
      go_ret
      exact ⟨rfl, B1.out⟩
    · have k1 : (60 : Int) < l.length := by omega
      clear hgo
      go_enter Try.func4, Try.ntmps4
      go_wp2_with fail
      refine (knownT _).mono ?_
      rintro e w1 ⟨rfl, b1⟩
      have B1 := Lib.hid b1
      clear b1
      go_wp2_with fail
      go_ret
      exact ⟨rfl, B1.out⟩
end Go.Proofs.Ytbfkjdnopiadjaa
