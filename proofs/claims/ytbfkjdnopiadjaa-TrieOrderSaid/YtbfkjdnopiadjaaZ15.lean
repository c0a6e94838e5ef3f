/- The reference's Covers: the walk. -/
import Derived.Test.YtbfkjdnopiadjaaZ04
import Derived.Test.YtbfkjdnopiadjaaZ07
import Derived.Test.YtbfkjdnopiadjaaZ10

set_option linter.unusedSimpArgs false
set_option linter.unusedVariables false
namespace Go.Proofs.Ytbfkjdnopiadjaa
open Go.RowKit
attribute [local go_sem ↓] Go.wp_at_zero Go.wp_at_succ
open Tp (Pf Ok En)

/-- What a round of lengths takes. -/
def ofLen (a : Int) (n : Nat) (x : En) : Bool := decide (x.1.2 = (n : Int)) && Tp.hasE a x
theorem has_ok {x : En} (h : Ok x.1) (a : Int) : Wp.hasB x.1.1 x.1.2 a = Tp.hasE a x := by
  unfold Wp.hasB Tp.hasE
  rw [h.may]; rfl
theorem fil_step {L : List En} {i : Nat} {x : En} (hx : L[i]? = some x) (f : En → Bool) : (L.take (i + 1)).filter f = (L.take i).filter f ++ if f x = true then [x] else [] := by
  obtain ⟨hi, rfl⟩ := List.getElem?_eq_some_iff.1 hx
  rw [List.take_succ_eq_append_getElem hi, List.filter_append]
  congr 1
  rw [List.filter_cons]
  split <;> rfl

set_option maxHeartbeats 4000000 in
set_option maxRecDepth 100000 in
theorem coversR {q : Nat} {v : Value} {lim : Int} {L : List En} {w : World} (h : RT q v lim L w) (hL : L.length ≤ 1000) (hu : Tp.Up L) (ho : ∀ x ∈ L, Ok x.1) {a : Int} (h0 : 0 ≤ a) (h1 : a < 4294967296) :
    Calls Try.prog 17 #[.pointer (some ⟨q, 0, none⟩), .int .u32 a] w fun e w' => ∃ u, e = .returned u ∧ OwnE w' w.heap.size u (L.filter (Tp.hasE a)) ∧ Below w.heap.size w w' := by
  have HL := Lib.hid (Tp.covers_eq hu ho a)
  have HT := Lib.hid h
  have HO := Lib.hid ho
  obtain ⟨va, vc, rfl⟩ := h.own.form
  clear h hu ho
  go_enter Try.func17, Try.ntmps17
  go_wp2_with fail
  obtain ⟨G, hG⟩ : ∃ G : Nat → List En, G = fun n => (List.range' 0 n).flatMap (fun (n : Nat) => L.filter (ofLen a n)) := ⟨_, rfl⟩
  have HG0 : Hid (G 0 = []) := by rw [hG]; rfl
  have HGs : Hid (∀ n, G (n + 1) = G n ++ L.filter (ofLen a n)) := by
    rw [hG]
    intro n
    show (List.range' 0 (n + 1)).flatMap _ = _
    rw [List.range'_1_concat, List.flatMap_append]
    simp
  have HGe : Hid (G 33 = L.filter (Tp.hasE a)) := by rw [hG]; exact HL.out
  have HGl : Hid (∀ n i, n ≤ 32 → (G n ++ (L.take i).filter (ofLen a n)).length ≤ 100000) := by
    intro n i hn
    have hg : ∀ m, (G m).length ≤ m * 1000 := by
      intro m
      induction m with
      | zero => rw [HG0.out]; simp
      | succ m ih =>
        rw [HGs.out m, List.length_append]
        have := List.length_filter_le (ofLen a m) L
        omega
    have h2 := List.length_filter_le (ofLen a n) (L.take i)
    have h3 := hg n
    rw [List.length_take] at h2
    rw [List.length_append]
    have h4 : n * 1000 ≤ 32 * 1000 := Nat.mul_le_mul_right _ hn
    omega
  clear hG
  go_loopw [5, 6] (fun x y wr => ∃ n : Nat, n ≤ 33 ∧ y = .int .i64 n ∧ Hid (OwnE wr w.heap.size x (G n)) ∧ Hid (Below w.heap.size w wr)) (fun _ y _ => 33 - (intOf y).toNat)
  case atStart => exact ⟨0, Nat.zero_le _, rfl, by rw [HG0.out]; exact OwnE.nil _ _, Below.refl _ _⟩
  case round =>
    obtain ⟨n, hn, rfl, HX, HB⟩ := hrel
    rcases Nat.lt_or_ge n 33 with hlt | hge
    · have g1 : (n : Int) ≤ 32 := by omega
      go_wp2_with fail
      go_loopw [5, 7] (fun x z wr2 => ∃ i : Nat, i ≤ L.length ∧ z = .int .i64 i ∧ Hid (OwnE wr2 w.heap.size x (G n ++ (L.take i).filter (ofLen a n))) ∧ Hid (Below w.heap.size w wr2)) (fun _ z _ => L.length - (intOf z).toNat)
      case atStart => exact ⟨0, Nat.zero_le _, rfl, by rw [List.take_zero, List.filter_nil, List.append_nil]; exact HX, HB⟩
      case round =>
        obtain ⟨i, hi, rfl, HXi, HBi⟩ := hrel
        have HTi := Lib.hid (HT.out.later HBi.out)
        obtain ⟨c0, c1⟩ := HTi.out.cells
        cases hx : L[i]? with
        | some x =>
          obtain ⟨g, o, rfl, hg, e0, e1, e2⟩ := HTi.out.own.reads.at hx
          have k0 : (i : Int) < L.length := by have := (List.getElem?_eq_some_iff.1 hx).1; omega
          have HS := Lib.hid (fil_step hx (ofLen a n))
          have hok := HO.out x (List.mem_of_getElem? hx)
          have HH := Lib.hid (fun (V : World) => hasR_any x.1.1 x.1.2 a V hok.a0 hok.a1 h0 h1)
          rw [has_ok hok a] at HH
          have HLn := Lib.hid (HGl.out n i (by omega))
          have hx2 := Lib.hid hx
          clear hok hx hg
          obtain ⟨⟨⟨xa, xn⟩, xv⟩, hxx⟩ : ∃ y, y = x := ⟨_, rfl⟩
          subst hxx
          simp only at e0 e1 e2 HH
          cases hk : (xn == (n : Int)) with
          | false =>
            have hf : ofLen a n ((xa, xn), xv) = false := by unfold ofLen; simp at hk ⊢; intro e; exact absurd e hk
            rw [hf] at HS
            have HX2 : Hid (OwnE wr w.heap.size u5 (G n ++ (L.take (i + 1)).filter (ofLen a n))) := by
              rw [HS.out, if_neg (by simp), List.append_nil]; exact HXi
            clear hf
            go_wp2_with fail
            go_roundw
            case rel => exact ⟨i + 1, by omega, by go_num, HX2, HBi⟩
            case measure => simp [intOf]; omega
          | true =>
            have hf : ofLen a n ((xa, xn), xv) = Tp.hasE a ((xa, xn), xv) := by unfold ofLen; rw [decide_eq_true (by simpa using hk)]; rfl
            rw [hf] at HS
            clear hf
            go_wp2_with fail
            refine (HH.out _).mono ?_
            rintro e w2 ⟨rfl, hb2⟩
            have HB2 := Lib.hid (below_of HBi.out hb2)
            have HX2 := Lib.hid (HXi.out.later hb2)
            have HT2 := Lib.hid (HT.out.later HB2.out)
            have c0' := HT2.out.cells.1
            clear hb2
            cases hh : Tp.hasE a ((xa, xn), xv) with
            | false =>
              rw [hh] at HS
              have HX3 : Hid (OwnE w2 w.heap.size u5 (G n ++ (L.take (i + 1)).filter (ofLen a n))) := by
                rw [HS.out, if_neg (by simp), List.append_nil]; exact HX2
              clear c0'
              go_wp2_with fail
              go_roundw
              case rel => exact ⟨i + 1, by omega, by go_num, HX3, HB2⟩
              case measure => simp [intOf]; omega
            | true =>
              rw [hh] at HS
              obtain ⟨g', o', eg, _, f0, f1, f2⟩ := HT2.out.own.reads.at hx2.out
              simp only [Option.some.injEq, Addr.mk.injEq, and_true] at eg
              obtain ⟨rfl, rfl⟩ := eg
              have HApp := Lib.hid (run_appE (w2.alloc (.cells #[.int .u32 xa, .int .i64 xn, .int .i64 xv] 75)) w.heap.size u5 (.slice (some ⟨w2.heap.size, 0, none⟩) 1 1) _ [((xa, xn), xv)] (HX2.out.later (ba1 _ _)) (EnR.one w2 ((xa, xn), xv)) (by have := HLn.out; simp at this ⊢; omega) (by have := HB2.out.size; simp; omega))
              simp only at f0 f1 f2
              go_wp2_with (at_builtin; refine wpList_appT rfl (.tmp 44) (.tmp 52) _ _ rfl u5 (.slice (some ⟨w2.heap.size, 0, none⟩) 1 1) _ rfl rfl HApp.out ?_; intro v' w6 hc)
              have HB6 := Lib.hid (HB2.out.trans (((ba1 w2 (.cells #[.int .u32 xa, .int .i64 xn, .int .i64 xv] 75)).mono HB2.out.size).trans hc.2.1))
              have HX3 : Hid (OwnE w6 w.heap.size v' (G n ++ (L.take (i + 1)).filter (ofLen a n))) := by
                rw [HS.out]; have := hc.1; rw [List.append_assoc] at this; exact this
              obtain ⟨A2, c2, hv'⟩ := HX3.out.form
              obtain ⟨m2, hm2⟩ : ∃ m2, m2 = (G n ++ (L.take (i + 1)).filter (ofLen a n)).length := ⟨_, rfl⟩
              rw [← hm2] at hv'
              subst hv'
              clear hm2 hc c0' f0 f1 f2 HApp
              go_wp2_with fail
              go_roundw
              case rel => exact ⟨i + 1, by omega, by go_num, HX3, HB6⟩
              case measure => simp [intOf]; omega
        | none =>
          have e : i = L.length := by have := List.getElem?_eq_none_iff.1 hx; omega
          subst e
          have HX3 : Hid (OwnE wr w.heap.size u5 (G (n + 1))) := by
            rw [HGs.out n]; have := HXi.out; rw [List.take_length] at this; exact this
          go_wp2_with fail
          go_roundw
          case rel => exact ⟨n + 1, by omega, by go_num, HX3, HBi⟩
          case measure => simp [intOf]; omega
    · have e : n = 33 := by omega
      subst e
      go_wp2_with fail
      go_ret
      exact ⟨_, rfl, by rw [← HGe.out]; exact HX.out, HB.out⟩
end Go.Proofs.Ytbfkjdnopiadjaa
