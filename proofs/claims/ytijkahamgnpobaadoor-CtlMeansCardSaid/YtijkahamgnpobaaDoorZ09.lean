/- A slice of byte slices that the call owns, each of them owned, too: append of one.
   A slice of updates that the call owns: append of one; the walks of ctl.List's look at each.
   An update by value, and a slice of updates, opened.
   Arguments that are bytes, and lists of bytes, opened.
   The walk of known: the chapter's rows of ctl hold.
   The walk of ctl.Untext. -/
import Derived.ProofKit
import Derived.OpenShut
import Derived.Deep.Matrix
import Derived.Deep.Slices
import Derived.Lib.SmallJoins
import Derived.Test.YtijkahamgnpobaaDoorZ04
import Derived.Test.YtijkahamgnpobaaDoorZ05
import Derived.Test.YtijkahamgnpobaaDoorZ06
import Derived.Test.YtijkahamgnpobaaDoorZ07
import Derived.Test.YtijkahamgnpobaaDoorZ08

set_option linter.unusedSimpArgs false
set_option linter.unusedVariables false
namespace Go.Proofs.YtijkahamgnpobaaDoor
open Go.RowKit
attribute [local go_sem ↓] Go.wp_at_zero Go.wp_at_succ

/-- What strconv.Atoi says: the number of a number's text; else whatever. -/
def AtoiR (l : List UInt8) (w : World) (e : Ending) (w' : World) : Prop := ∃ (d : Int) (u : Value), e = .returned (.tuple #[.int .i64 d, u]) ∧ (∀ v, Lib.atoiAll l = .ok v → d = v) ∧ Below w.heap.size w w'
theorem atoi_any (s : ByteArray) (hs : s.size ≤ 1000000) (w : World) (g : Gl w) : Calls Tryd.prog 41 #[.string s] w (AtoiR s.data.toList w) := by
  obtain ⟨te, pe, hes⟩ := g.es
  obtain ⟨tr, pr, her⟩ := g.er
  rcases hh : Lib.atoiAll s.data.toList with v | _ | _
  · refine (atoi_ok_any s hs v hh w).mono ?_
    rintro e w' ⟨rfl, hb⟩
    exact ⟨v, _, rfl, fun x hx => (by rw [hh] at hx; cases hx; rfl), hb⟩
  · refine (Tryd.strconv_Atoi_syntax s (by omega) (by intro v; rw [hh]; exact fun h => by cases h) (by rw [hh]; exact fun h => by cases h) _ w hes (.inr ⟨te, pe, rfl⟩)).mono ?_
    rintro e w' ⟨N, rfl, _, _, hb⟩
    exact ⟨0, _, rfl, fun x hx => (by rw [hh] at hx; cases hx), hb⟩
  · refine (Tryd.strconv_Atoi_range s (by omega) hh _ w her (.inr ⟨tr, pr, rfl⟩)).mono ?_
    rintro e w' ⟨N, rfl, _, _, hb⟩
    exact ⟨_, _, rfl, fun x hx => (by rw [hh] at hx; cases hx), hb⟩

set_option maxHeartbeats 4000000 in
set_option maxRecDepth 100000 in
theorem untextW_any (s : ByteArray) (hs : s.size ≤ 1000000) (w : World) (g : Gl w) :
    Calls Tryd.prog 22 #[.string s] w fun e w' => e = .returned (.tuple #[.agg #[.int .u32 (utA s.data.toList), .int .i64 (utN s.data.toList), .int .i64 (utD s.data.toList)], .int .i64 (utE s.data.toList)]) ∧ Below w.heap.size w w' := by
  obtain ⟨p, hp⟩ : ∃ p : ByteArray, p.data.toList = (Lib.cut s.data.toList [32]).1 := ⟨⟨(Lib.cut s.data.toList [32]).1.toArray⟩, by simp⟩
  obtain ⟨b, hb⟩ : ∃ b : ByteArray, b.data.toList = (Lib.cut s.data.toList [32]).2.1 := ⟨⟨(Lib.cut s.data.toList [32]).2.1.toArray⟩, by simp⟩
  obtain ⟨f, hf⟩ : ∃ f : Bool, f = (Lib.cut s.data.toList [32]).2.2 := ⟨_, rfl⟩
  have hpl : p.size ≤ 1000000 := Wp.cut_left (by rw [hp]) hs
  have hbl : b.size ≤ 1000000 := Wp.cut_right (by rw [hb]) hs
  have HC : Hid (Lib.cut s.data.toList [32] = (p.data.toList, b.data.toList, f)) := by show _ = _; rw [hp, hb, hf]
  have hdot : ([32] : List UInt8) = (⟨#[32]⟩ : ByteArray).data.toList := rfl
  rw [hdot] at hp hb hf
  have Hp := Lib.hid hp
  have Hb := Lib.hid hb
  have Hf := Lib.hid hf
  obtain ⟨A, hA⟩ : ∃ A, A = pfA p.data.toList := ⟨_, rfl⟩
  obtain ⟨N, hN⟩ : ∃ N, N = pfN p.data.toList := ⟨_, rfl⟩
  have bA := pfA_bd p.data.toList
  have HBN := Lib.hid (pfN_bd p.data.toList)
  rw [← hA] at bA
  obtain ⟨bA1, bA2⟩ := bA
  have HPF : Hid (∀ W, Gl W → Calls Tryd.prog 40 #[.string p] W fun e w' => ∃ x, e = .returned (.tuple #[.agg #[.int .u32 A, .int .i64 N], .int .i64 x]) ∧ Below W.heap.size W w') := fun W G => by
    refine (prefixOf_any p hpl W G).mono ?_
    rintro e w' ⟨rfl, hb⟩
    exact ⟨_, by rw [hA, hN], hb⟩
  have HA := Lib.hid hA
  have HN := Lib.hid hN
  clear hp hb hf hdot hA hN
  have R0 := Lib.hid (show BlkAt 27 w.heap.size uz (w.alloc (.cells #[.int .u32 0, .int .i64 0, .int .i64 0] 27)) from BlkAt.new w uz)
  have B0 := Lib.hid (show Below w.heap.size w (w.alloc (.cells #[.int .u32 0, .int .i64 0, .int .i64 0] 27)) from (Below.refl _ _).alloc (Nat.le_refl _) _)
  go_enter Tryd.func22, Tryd.ntmps22
  go_wp2_with fail
  refine (cut_at _ _ p b f Hp.out Hb.out Hf.out hs _ (g.below B0.out)).mono ?_
  rintro e w1 ⟨rfl, hb1⟩
  have R0 := Lib.hid (R0.out.later hb1)
  have B0 := Lib.hid (below_of B0.out hb1)
  clear hb1
  go_wp2_with fail
  refine (HPF.out _ (g.below B0.out)).mono ?_
  rintro e w2 ⟨x, rfl, hb2⟩
  have R0 := Lib.hid (R0.out.later (hb2.alloc hb2.size (.cells #[.int .u32 A, .int .i64 N] 25)))
  have B0 := Lib.hid ((below_of B0.out hb2).alloc (below_of B0.out hb2).size (.cells #[.int .u32 A, .int .i64 N] 25))
  have R1 := Lib.hid (show BlkAt 25 w2.heap.size [.int .u32 A, .int .i64 N] (w2.alloc (.cells #[.int .u32 A, .int .i64 N] 25)) from BlkAt.new w2 _)
  clear hb2
  go_wp2_with fail
  refine (atoi_any b hbl _ (g.below B0.out)).mono ?_
  rintro e w3 ⟨d, u, rfl, hd, hb3⟩
  have R1 := Lib.hid (R1.out.later hb3)
  have HI := Lib.hid (ut_iff HC.out d hd)
  have R0 := Lib.hid (R0.out.later (hb3.alloc hb3.size (.cells #[.int .u32 A, .int .i64 N, .int .i64 d] 27)))
  have B0 := Lib.hid ((below_of B0.out hb3).alloc (below_of B0.out hb3).size (.cells #[.int .u32 A, .int .i64 N, .int .i64 d] 27))
  have R2 := Lib.hid (show BlkAt 27 w3.heap.size [.int .u32 A, .int .i64 N, .int .i64 d] (w3.alloc (.cells #[.int .u32 A, .int .i64 N, .int .i64 d] 27)) from BlkAt.new w3 _)
  rw [← HA.out, ← HN.out] at HI
  clear hb3 hd
  have c0 := R1.out.cell (j := 0) rfl
  have c1 := R1.out.cell (j := 1) rfl
  cases hm : mayU A N d with
  | false =>
    have hno : utB s.data.toList = false := by
      cases hu : utB s.data.toList with
      | false => rfl
      | true => rw [(HI.out.1 hu).1] at hm; cases hm
    have HY := Lib.hid (ut_no hno)
    have HM := Lib.hid hm
    clear hno hm
    go_wp2_with fail
    refine (textU_no A N d HM.out _).mono ?_
    rintro e w4 ⟨rfl, hb4⟩
    have R0 := Lib.hid (R0.out.later hb4)
    have B0 := Lib.hid (below_of B0.out hb4)
    clear hb4 c0 c1
    have c0 := BlkAt.cell R0.out (j := 0) rfl
    have c1 := BlkAt.cell R0.out (j := 1) rfl
    have c2 := BlkAt.cell R0.out (j := 2) rfl
    have hfz : ∀ j, w4.frozen? ⟨w.heap.size, j, none⟩ = false := fun j => BlkAt.frozen R0.out j
    obtain ⟨s1, s3⟩ := BlkAt.set3 (show BlkAt 27 w.heap.size [.int .u32 0, .int .i64 0, .int .i64 0] w4 from R0.out) (.int .u32 0) (.int .i64 0) (.int .i64 0)
    have S1 := Lib.hid s1
    have S3 := Lib.hid (B0.out.trans (s3 _ (Nat.le_refl _)))
    clear s1 s3
    go_wp2_with fail
    have d0 := BlkAt.cell S1.out (j := 0) rfl
    have d1 := BlkAt.cell S1.out (j := 1) rfl
    have d2 := BlkAt.cell S1.out (j := 2) rfl
    exact bodyPost_ret (v := .tuple #[.agg #[.int .u32 0, .int .i64 0, .int .i64 0], .int .i64 4]) (by simp [results, Tryd.results22, go_sem, d0, d1, d2]) rfl ⟨by rw [HY.out.1, HY.out.2.1, HY.out.2.2.1, HY.out.2.2.2], S3.out⟩
  | true =>
    by_cases ht : upT A N d = s.data.toList
    · have hu := HI.out.2 hm ht
      have hst : (⟨(upT A N d).toArray⟩ : ByteArray) = s := by rw [ht]
      have HY := Lib.hid (HI.out.1 hu)
      have HE := Lib.hid (ut_yes hu).2.2.2
      have HST := Lib.hid hst
      have HM := Lib.hid hm
      clear hu ht hst hm
      go_wp2_with fail
      refine (textU_yes A N d bA1 bA2 HM.out _ (g.below B0.out)).mono ?_
      rintro e w4 ⟨rfl, hb4⟩
      rw [HST.out]
      have R0 := Lib.hid (R0.out.later hb4)
      have R2 := Lib.hid (R2.out.later hb4)
      have B0 := Lib.hid (below_of B0.out hb4)
      clear hb4 c0 c1
      have q0 := BlkAt.cell R2.out (j := 0) rfl
      have q1 := BlkAt.cell R2.out (j := 1) rfl
      have q2 := BlkAt.cell R2.out (j := 2) rfl
      have c0 := BlkAt.cell R0.out (j := 0) rfl
      have c1 := BlkAt.cell R0.out (j := 1) rfl
      have c2 := BlkAt.cell R0.out (j := 2) rfl
      have hfz : ∀ j, w4.frozen? ⟨w.heap.size, j, none⟩ = false := fun j => BlkAt.frozen R0.out j
      obtain ⟨s1, s3⟩ := BlkAt.set3 (show BlkAt 27 w.heap.size [.int .u32 0, .int .i64 0, .int .i64 0] w4 from R0.out) (.int .u32 A) (.int .i64 N) (.int .i64 d)
      have S1 := Lib.hid s1
      have S3 := Lib.hid (B0.out.trans (s3 _ (Nat.le_refl _)))
      clear s1 s3
      go_wp2_with fail
      have d0 := BlkAt.cell S1.out (j := 0) rfl
      have d1 := BlkAt.cell S1.out (j := 1) rfl
      have d2 := BlkAt.cell S1.out (j := 2) rfl
      exact bodyPost_ret (v := .tuple #[.agg #[.int .u32 A, .int .i64 N, .int .i64 d], .int .i64 0]) (by simp [results, Tryd.results22, go_sem, d0, d1, d2]) rfl ⟨by rw [HY.out.2.2.1, HY.out.2.2.2.1, HY.out.2.2.2.2, HE.out], S3.out⟩
    · have hno : utB s.data.toList = false := by
        cases hu : utB s.data.toList with
        | false => rfl
        | true => exact absurd (HI.out.1 hu).2.1 ht
      have HY := Lib.hid (ut_no hno)
      have HM := Lib.hid hm
      obtain ⟨x, hx⟩ : ∃ x : ByteArray, x = ⟨(upT A N d).toArray⟩ := ⟨_, rfl⟩
      have hne : (x.toList == s.toList) = false := by
        apply bytes_ne; intro h; apply ht; rw [← h, hx]
      have HX := Lib.hid hx
      clear hno hm ht hx
      go_wp2_with fail
      refine (textU_yes A N d bA1 bA2 HM.out _ (g.below B0.out)).mono ?_
      rintro e w4 ⟨rfl, hb4⟩
      rw [← HX.out]
      have R0 := Lib.hid (R0.out.later hb4)
      have B0 := Lib.hid (below_of B0.out hb4)
      clear hb4 c0 c1
      have c0 := BlkAt.cell R0.out (j := 0) rfl
      have c1 := BlkAt.cell R0.out (j := 1) rfl
      have c2 := BlkAt.cell R0.out (j := 2) rfl
      have hfz : ∀ j, w4.frozen? ⟨w.heap.size, j, none⟩ = false := fun j => BlkAt.frozen R0.out j
      obtain ⟨s1, s3⟩ := BlkAt.set3 (show BlkAt 27 w.heap.size [.int .u32 0, .int .i64 0, .int .i64 0] w4 from R0.out) (.int .u32 0) (.int .i64 0) (.int .i64 0)
      have S1 := Lib.hid s1
      have S3 := Lib.hid (B0.out.trans (s3 _ (Nat.le_refl _)))
      clear s1 s3
      go_wp2_with fail
      have d0 := BlkAt.cell S1.out (j := 0) rfl
      have d1 := BlkAt.cell S1.out (j := 1) rfl
      have d2 := BlkAt.cell S1.out (j := 2) rfl
      exact bodyPost_ret (v := .tuple #[.agg #[.int .u32 0, .int .i64 0, .int .i64 0], .int .i64 4]) (by simp [results, Tryd.results22, go_sem, d0, d1, d2]) rfl ⟨by rw [HY.out.1, HY.out.2.1, HY.out.2.2.1, HY.out.2.2.2], S3.out⟩
end Go.Proofs.YtijkahamgnpobaaDoor

namespace Go.Proofs.YtijkahamgnpobaaDoor
open Go.RowKit
attribute [local go_sem ↓] Go.wp_at_zero Go.wp_at_succ

theorem ret_upE {a a' n n' d d' e e' : Int} (h : a = a') (h2 : n = n') (h3 : d = d') (h4 : e = e') : Ending.returned (.tuple #[.agg #[.int .u32 a, .int .i64 n, .int .i64 d], .int .i64 e]) = .returned (.tuple #[.agg #[.int .u32 a', .int .i64 n', .int .i64 d'], .int .i64 e']) := by rw [h, h2, h3, h4]
theorem k5_bytes (w : World) : Calls Tryd.prog 9 #[.agg #[.int .u32 167772160, .int .i64 8, .int .i64 5]] w fun e w' => ∃ v, e = .returned (.tuple #[v, .int .i64 0]) ∧ Bytes w' v [10, 0, 0, 0, 8, 5] ∧ Below w.heap.size w w' :=
  (bytesU_yes 167772160 8 5 (by decide) (by decide +kernel) w).mono fun _ _ ⟨v, h1, h2, h3⟩ => ⟨v, h1, by have := h2.bytes; rwa [show upL 167772160 8 5 = [10, 0, 0, 0, 8, 5] by decide +kernel] at this, h3⟩
theorem k5_of (v : Value) (w : World) (h : Bytes w v [10, 0, 0, 1, 8, 5]) : Calls Tryd.prog 10 #[v] w fun e w' => e = .returned (.tuple #[.agg #[.int .u32 0, .int .i64 0, .int .i64 0], .int .i64 4]) ∧ Below w.heap.size w w' :=
  (of5W_any v _ w h (by decide)).mono fun _ _ ⟨he, hb⟩ => ⟨he.trans (ret_upE (by decide +kernel) (by decide +kernel) (by decide +kernel) (by decide +kernel)), hb⟩
theorem k5_good (w : World) (g : Gl w) : Calls Tryd.prog 22 #[.string ⟨#[49, 48, 46, 48, 46, 48, 46, 48, 47, 56, 32, 53]⟩] w fun e w' => e = .returned (.tuple #[.agg #[.int .u32 167772160, .int .i64 8, .int .i64 5], .int .i64 0]) ∧ Below w.heap.size w w' :=
  (untextW_any ⟨#[49, 48, 46, 48, 46, 48, 46, 48, 47, 56, 32, 53]⟩ (by decide) w g).mono fun _ _ ⟨he, hb⟩ => ⟨he.trans (ret_upE (by decide +kernel) (by decide +kernel) (by decide +kernel) (by decide +kernel)), hb⟩
theorem k5_bad (w : World) (g : Gl w) : Calls Tryd.prog 22 #[.string ⟨#[49, 48, 46, 48, 46, 48, 46, 48, 47, 56, 32, 50, 53, 54]⟩] w fun e w' => e = .returned (.tuple #[.agg #[.int .u32 0, .int .i64 0, .int .i64 0], .int .i64 4]) ∧ Below w.heap.size w w' :=
  (untextW_any ⟨#[49, 48, 46, 48, 46, 48, 46, 48, 47, 56, 32, 50, 53, 54]⟩ (by decide) w g).mono fun _ _ ⟨he, hb⟩ => ⟨he.trans (ret_upE (by decide +kernel) (by decide +kernel) (by decide +kernel) (by decide +kernel)), hb⟩
theorem k5_far1 (w : World) : Calls Tryd.prog 24 #[.int .i64 250, .int .i64 9] w fun e w' => e = .returned (.int .i64 255) ∧ w = w' :=
  (farW_any 250 9 w).mono fun _ _ ⟨he, hb⟩ => ⟨he.trans (ret_i (by decide +kernel)), hb⟩
theorem k5_far2 (w : World) : Calls Tryd.prog 24 #[.int .i64 3, .int .i64 4] w fun e w' => e = .returned (.int .i64 7) ∧ w = w' :=
  (farW_any 3 4 w).mono fun _ _ ⟨he, hb⟩ => ⟨he.trans (ret_i (by decide +kernel)), hb⟩

set_option maxHeartbeats 4000000 in
set_option maxRecDepth 100000 in
theorem known5_any (w : World) (g : Gl w) :
    Calls Tryd.prog 8 #[] w fun e w' => e = .returned (.bool true) ∧ Below w.heap.size w w' := by
  have R0 := Lib.hid (show BlkAt 27 w.heap.size [.int .u32 167772160, .int .i64 8, .int .i64 5] (w.alloc (.cells #[.int .u32 167772160, .int .i64 8, .int .i64 5] 27)) from BlkAt.new w _)
  have B0 := Lib.hid (show Below w.heap.size w (w.alloc (.cells #[.int .u32 167772160, .int .i64 8, .int .i64 5] 27)) from (Below.refl _ _).alloc (Nat.le_refl _) _)
  go_enter Tryd.func8, Tryd.ntmps8
  go_wp2_with fail
  refine (k5_bytes _).mono ?_
  rintro e w1 ⟨v1, rfl, hv1, hb1⟩
  obtain ⟨a1, c1, rfl⟩ := hv1.form
  rw [show ([10, 0, 0, 0, 8, 5] : List UInt8).length = 6 from rfl] at hv1 ⊢
  have R0 := Lib.hid (R0.out.later hb1)
  have B0 := Lib.hid (below_of B0.out hb1)
  have V1 := Lib.hid hv1
  clear hb1 hv1
  go_wp2_with fail
  refine (k5_of _ _ ?_).mono ?_
  · exact bytes_lit w1 [10, 0, 0, 1, 8, 5]
  rintro e w2 ⟨rfl, hb2⟩
  have q2 := (((Below.refl w1.heap.size w1).alloc (Nat.le_refl _) (.cells #[.int .u8 10, .int .u8 0, .int .u8 0, .int .u8 1, .int .u8 8, .int .u8 5] 5)).trans (hb2.mono (by simp)))
  have q3 := q2.alloc q2.size (.cells #[.int .u32 0, .int .i64 0, .int .i64 0] 27)
  have R0 := Lib.hid (R0.out.later q3)
  have B0 := Lib.hid (below_of B0.out q3)
  have V1 := Lib.hid (V1.out.later q3)
  clear hb2 q2 q3
  go_wp2_with fail
  refine (k5_good _ (g.below B0.out)).mono ?_
  rintro e w3 ⟨rfl, hb3⟩
  have q3 := hb3.alloc hb3.size (.cells #[.int .u32 167772160, .int .i64 8, .int .i64 5] 27)
  have R0 := Lib.hid (R0.out.later q3)
  have B0 := Lib.hid (below_of B0.out q3)
  have V1 := Lib.hid (V1.out.later q3)
  have R1 := Lib.hid (show BlkAt 27 w3.heap.size [.int .u32 167772160, .int .i64 8, .int .i64 5] (w3.alloc (.cells #[.int .u32 167772160, .int .i64 8, .int .i64 5] 27)) from BlkAt.new w3 _)
  clear hb3 q3
  go_wp2_with fail
  refine (k5_bad _ (g.below B0.out)).mono ?_
  rintro e w4 ⟨rfl, hb4⟩
  have q3 := hb4.alloc hb4.size (.cells #[.int .u32 0, .int .i64 0, .int .i64 0] 27)
  have R0 := Lib.hid (R0.out.later q3)
  have R1 := Lib.hid (R1.out.later q3)
  have B0 := Lib.hid (below_of B0.out q3)
  have V1 := Lib.hid (V1.out.later q3)
  clear hb4 q3
  have a0 := BlkAt.cell R0.out (j := 0) rfl
  have a1' := BlkAt.cell R0.out (j := 1) rfl
  have a2 := BlkAt.cell R0.out (j := 2) rfl
  have d0 := BlkAt.cell R1.out (j := 0) rfl
  have d1 := BlkAt.cell R1.out (j := 1) rfl
  have d2 := BlkAt.cell R1.out (j := 2) rfl
  have hst := V1.out.str (P := Tryd.prog) (src := 28) (dst := 9) Tryd.underlying28 Tryd.underlying5 Tryd.underlying9
  go_wp2_with (go_at_call 14; refine (num5_any _ _).mono ?_; rintro e wn ⟨rfl, rfl⟩)
  refine (k5_far1 _).mono ?_
  rintro e wn ⟨rfl, rfl⟩
  go_wp2_with fail
  refine (k5_far2 _).mono ?_
  rintro e wn ⟨rfl, rfl⟩
  go_wp2_with fail
  go_ret
  exact ⟨rfl, B0.out⟩
end Go.Proofs.YtijkahamgnpobaaDoor

namespace Go.Proofs.YtijkahamgnpobaaDoor
open Go.ChangeShapes Go.WideShapes Go.ChangeAt Go.RowKit

theorem lt_u8 {a : Int} (h : 0 ≤ a ∧ a ≤ 255) : a < 256 := by omega
theorem lt_u16 {a : Int} (h : 0 ≤ a ∧ a ≤ 65535) : a < 65536 := by omega
theorem lt_u32 {a : Int} (h : 0 ≤ a ∧ a ≤ 4294967295) : a < 4294967296 := by omega
theorem lt_u64 {a : Int} (h : 0 ≤ a ∧ a ≤ 18446744073709551615) : a < 18446744073709551616 := by omega

theorem own : ownKnob Tryd.prog.godebug = none := by kernel_rfl
theorem laidOut : laidOutB Tryd.prog = true := by kernel_rfl


theorem spot_none {W : World} {a : Addr} {v : Value} (h : W.cell? (a.add 0) = some v) : a.spot = none := by
  obtain ⟨b, o, sp⟩ := a
  cases sp with
  | none => rfl
  | some s =>
    simp [World.cell?, Addr.add] at h
    split at h <;> cases h
theorem bytes_of_ints {W : World} {A : Option Addr} {len cap : Nat} {zs : List Int} (hl : len ≤ cap) (hz : zs.length = cap) (hwz : ∀ n ∈ zs, (Lit.int .u8 n).wf = true) (h0 : A = none → cap = 0)
    (hc : ∀ a, A = some a → ∀ c, c < cap → W.cell? (a.add c) = some (.int .u8 (zs.getD c 0))) : Bytes W (.slice A len cap) ((zs.take len).map fun z => UInt8.ofNat z.toNat) := by
  have hlen : ((zs.take len).map fun z => UInt8.ofNat z.toNat).length = len := by simp; omega
  rcases Nat.eq_zero_or_pos len with hp | hp
  · subst hp
    exact .inl ⟨by simp, A, cap, rfl, h0⟩
  · cases A with
    | none => have := h0 rfl; omega
    | some x =>
      have hcell := hc x rfl
      have hc0 := hcell 0 (by omega)
      have hsp := spot_none hc0
      obtain ⟨b, o, sp⟩ := x
      simp only at hsp
      subst hsp
      refine .inr ⟨b, o, cap, by rw [hlen], ?_, by rw [hlen]; exact hl, ?_⟩
      · have := World.block_lt_of_cell? _ _ hc0
        simpa [Addr.add] using this
      · intro j y hy
        simp only [List.getElem?_map, Option.map_eq_some_iff] at hy
        obtain ⟨z, hz1, rfl⟩ := hy
        have hj : j < len := by
          have := (List.getElem?_eq_some_iff.1 hz1).1
          simp at this; omega
        have hz2 : zs[j]? = some z := by rw [List.getElem?_take, if_pos hj] at hz1; exact hz1
        have hb := bounds_u8 (hwz z (List.mem_of_getElem? hz2))
        have hcj := hcell j (by omega)
        have he : zs.getD j 0 = z := by simp [List.getD, hz2]
        rw [he] at hcj
        have hn : ((UInt8.ofNat z.toNat).toNat : Int) = z := by rw [UInt8.toNat_ofNat']; omega
        rw [hn]
        cases j with
        | zero => simpa [Addr.add] using hcj
        | succ j => simpa [Addr.add] using hcj

set_option maxRecDepth 100000 in
theorem open_bytes {H : Type} {enc : TypeId × Value → H} {W : World} {base : Nat} {v : Value} {d : DataW H} {p : List MemPlace}
    (hv : Value.okWide Tryd.prog W .any base 28 v) (h : DataW.Trod enc Tryd.prog W 0 (fun _ => true) true 28 v d p) : ∃ l : List UInt8, Bytes W v l ∧ l.length ≤ 9223372036854775807 := by
  obtain ⟨a, len, cap, rfl⟩ := okWide_slice Tryd.underlying28 hv
  obtain ⟨fuel, hf⟩ := h
  rcases open_ints Tryd.underlying28 Tryd.underlying5 (by kernel_rfl) hf with ⟨hcs, _⟩ | ⟨x, l, c, zs, hcs, _, hl, hm, hz, _, hcell, hwz⟩
  · simp [Value.cells] at hcs
    obtain ⟨rfl, rfl, rfl⟩ := hcs
    exact ⟨[], Bytes.nil _ _ _, by simp⟩
  · simp [Value.cells] at hcs
    obtain ⟨rfl, rfl, rfl⟩ := hcs
    unfold maxLen at hm
    have hzl : zs.length = cap := by simpa using hz
    exact ⟨_, bytes_of_ints hl hzl hwz (fun h => by cases h) (fun a ha c hc => by cases ha; exact hcell c (by omega)), by simp; omega⟩

set_option maxRecDepth 100000 in
theorem open_lists {H : Type} {enc : TypeId × Value → H} {W : World} {base : Nat} {v : Value} {d : DataW H} {p : List MemPlace}
    (hv : Value.okWide Tryd.prog W .any base 66 v) (h : DataW.Trod enc Tryd.prog W 0 (fun _ => true) true 66 v d p) :
    ∃ L : List (List UInt8), Lists W v L ∧ L.length ≤ 9223372036854775807 ∧ ∀ l ∈ L, l.length ≤ 9223372036854775807 := by
  obtain ⟨a, len, cap, rfl⟩ := okWide_slice Tryd.underlying66 hv
  obtain ⟨fuel, hf⟩ := h
  rcases Deep.open_int_rows Tryd.underlying66 Tryd.underlying28 Tryd.underlying5 (by kernel_rfl) (by kernel_rfl) hf with ⟨hcs, _⟩ | ⟨x, l, c, A, Ln, C, Z, hcs, _, hl, hm, _, hr⟩
  · simp [Value.cells] at hcs
    obtain ⟨rfl, rfl, rfl⟩ := hcs
    exact ⟨[], Lists.nil _ _ _, by simp, by simp⟩
  · simp [Value.cells] at hcs
    obtain ⟨rfl, rfl, rfl⟩ := hcs
    unfold maxLen at hm hr
    have each : ∀ r, r < cap → Bytes W (.slice (A r) (Ln r) (C r)) (((Z r).take (Ln r)).map fun z => UInt8.ofNat z.toNat) := fun r hrr => by
      obtain ⟨_, h1, h2, h3, h4, h5, h6⟩ := hr r hrr
      exact bytes_of_ints h1 h3 h4 h5 (fun a ha c hc => (h6 a ha).2 c hc)
    refine ⟨(List.range len).map fun r => ((Z r).take (Ln r)).map fun z => UInt8.ofNat z.toNat, ?_, by simp; omega, ?_⟩
    · rcases Nat.eq_zero_or_pos len with hp | hp
      · subst hp
        exact .inl ⟨by simp, _, _, rfl, fun h => by cases h⟩
      · have hc0 := (hr 0 (by omega)).1
        have hsp := spot_none hc0
        obtain ⟨b, o, sp⟩ := x
        simp only at hsp
        subst hsp
        refine .inr ⟨b, o, cap, by simp, ?_, by simpa using hl, ?_⟩
        · have := World.block_lt_of_cell? _ _ hc0
          simpa [Addr.add] using this
        · intro j l hjl
          simp only [List.getElem?_map, Option.map_eq_some_iff] at hjl
          obtain ⟨r, hr1, rfl⟩ := hjl
          have hj : j < len := by
            have := (List.getElem?_eq_some_iff.1 hr1).1
            simpa using this
          have hr2 : r = j := by rw [List.getElem?_range hj] at hr1; cases hr1; rfl
          subst hr2
          refine ⟨_, ?_, each r (by omega)⟩
          have := (hr r (by omega)).1
          cases r with
          | zero => simpa [Addr.add] using this
          | succ r => simpa [Addr.add] using this
    · intro l hl2
      simp only [List.mem_map, List.mem_range] at hl2
      obtain ⟨r, hr1, rfl⟩ := hl2
      obtain ⟨_, h1, h2, h3, _⟩ := hr r (by omega)
      simp; omega

end Go.Proofs.YtijkahamgnpobaaDoor

namespace Go.Proofs.YtijkahamgnpobaaDoor
open Go.ChangeShapes Go.WideShapes Go.ChangeAt Go.RowKit Go.Joins Go.Deep

/-- An update: its prefix's address and length, its distance. -/
structure Ud where
  a : Nat
  n : Int
  d : Int
instance : Inhabited Ud := ⟨⟨0, 0, 0⟩⟩
structure Ud.Ok (u : Ud) : Prop where
  a : u.a < 4294967296
  n0 : -9223372036854775808 ≤ u.n
  n1 : u.n ≤ 9223372036854775807
  d0 : -9223372036854775808 ≤ u.d
  d1 : u.d ≤ 9223372036854775807

section
variable {H : Type} {enc : TypeId × Value → H} {W : World} {base : Nat} {sp : Nat → Bool} {held : Bool}
theorem upd_cells {fuel : Nat} {cs : List Value} {y : DataW H × List MemPlace} (h : DataW.trod enc Tryd.prog W base sp held fuel 27 cs = some y) (hl : cs.length = 3) :
    ∃ u : Ud, cs = [.int .u32 (u.a : Int), .int .i64 u.n, .int .i64 u.d] ∧ u.Ok := by
  have k2 : Tryd.prog.cellsOf 25 = 2 := by kernel_rfl
  have k1 : Tryd.prog.cellsOf 3 = 1 := by kernel_rfl
  have k1' : Tryd.prog.cellsOf 23 = 1 := by kernel_rfl
  match cs, hl with
  | [c0, c1, c2], _ =>
    obtain ⟨xs, n, _, hx, _, hlen, hg⟩ := DataW.trod_struct Tryd.underlying27 h
    match xs, hlen with
    | [y0, y1], _ =>
      have h0 : DataW.trod enc Tryd.prog W base sp held n 25 [c0, c1] = some y0 := by simpa [k2] using hg 0 _ rfl
      have h1 : DataW.trod enc Tryd.prog W base sp held n 3 [c2] = some y1 := by simpa [k1] using hg 1 _ rfl
      obtain ⟨zs, m, _, hz, _, hzl, hgz⟩ := DataW.trod_struct Tryd.underlying25 h0
      match zs, hzl with
      | [z0, z1], _ =>
        have g0 : DataW.trod enc Tryd.prog W base sp held m 23 [c0] = some z0 := by simpa [k1'] using hgz 0 _ rfl
        have g1 : DataW.trod enc Tryd.prog W base sp held m 3 [c1] = some z1 := by simpa [k1] using hgz 1 _ rfl
        obtain ⟨a0, e0, _, w0⟩ := DataW.trod_int Tryd.underlying23 g0
        obtain ⟨a1, e1, _, w1⟩ := DataW.trod_int Tryd.underlying3 g1
        obtain ⟨a2, e2, _, w2⟩ := DataW.trod_int Tryd.underlying3 h1
        simp only [List.cons.injEq, and_true] at e0 e1 e2
        subst e0 e1 e2
        have b0 := bounds_u32 w0
        have b1 := bounds_i64 w1
        have b2 := bounds_i64 w2
        obtain ⟨n0, rfl⟩ := Int.eq_ofNat_of_zero_le b0.1
        exact ⟨⟨n0, a1, a2⟩, rfl, ⟨by simp only; omega, b1.1, b1.2, b2.1, b2.2⟩⟩
end

set_option maxRecDepth 100000 in
theorem open_upd {H : Type} {enc : TypeId × Value → H} {W : World} {base : Nat} {v : Value} {d : DataW H} {p : List MemPlace}
    (hv : Value.okWide Tryd.prog W .any base 27 v) (h : DataW.Trod enc Tryd.prog W 0 (fun _ => true) true 27 v d p) :
    ∃ u : Ud, v = .agg #[.int .u32 (u.a : Int), .int .i64 u.n, .int .i64 u.d] ∧ u.Ok := by
  obtain ⟨cs, rfl, hsz⟩ := okWide_struct Tryd.underlying27 hv
  obtain ⟨l⟩ := cs
  have hC : Tryd.prog.cellsOf 27 = 3 := by kernel_rfl
  obtain ⟨fuel, hf⟩ := h
  obtain ⟨u, e, hu⟩ := upd_cells (cs := l) (by simpa [Value.cells] using hf) (by simpa using hsz.trans hC)
  subst e
  exact ⟨u, rfl, hu⟩

/-- The value reads as these updates. -/
def Upds (w : World) (v : Value) (L : List Ud) : Prop :=
  (L = [] ∧ ∃ a c, v = .slice a 0 c ∧ (a = none → c = 0)) ∨
  ∃ b o c, v = .slice (some ⟨b, o, none⟩) L.length c ∧ b < w.heap.size ∧ L.length ≤ c ∧ ∀ j x, L[j]? = some x → w.cell? ⟨b, o + j * 3, none⟩ = some (.int .u32 (x.a : Int)) ∧ w.cell? ⟨b, o + j * 3 + 1, none⟩ = some (.int .i64 x.n) ∧ w.cell? ⟨b, o + j * 3 + 2, none⟩ = some (.int .i64 x.d)
theorem Upds.later {w w' : World} {v : Value} {L : List Ud} (h : Upds w v L) (hb : Below w.heap.size w w') : Upds w' v L := by
  rcases h with h | ⟨b, o, c, h1, h2, hp, h3⟩
  · exact .inl h
  · exact .inr ⟨b, o, c, h1, Nat.lt_of_lt_of_le h2 hb.size, hp, fun j x hx => ⟨cell_later hb (h3 j x hx).1, cell_later hb (h3 j x hx).2.1, cell_later hb (h3 j x hx).2.2⟩⟩
theorem Upds.form {w : World} {v : Value} {L : List Ud} (h : Upds w v L) : ∃ a c, v = .slice a L.length c := by
  rcases h with ⟨rfl, a, c, rfl, _⟩ | ⟨b, o, c, rfl, _, _⟩
  · exact ⟨a, c, rfl⟩
  · exact ⟨_, c, rfl⟩
theorem Upds.nil (w : World) (a : Option Addr) (c : Nat) (h : a = none → c = 0 := by intros; first | rfl | contradiction | simp_all) : Upds w (.slice a 0 c) [] := .inl ⟨rfl, a, c, rfl, h⟩
theorem Upds.at {w : World} {a : Option Addr} {n c : Nat} {L : List Ud} (h : Upds w (.slice a n c) L) {i : Nat} (hi : i < L.length) :
    ∃ b o, a = some ⟨b, o, none⟩ ∧ b < w.heap.size ∧ w.cell? ⟨b, o + i * 3, none⟩ = some (.int .u32 (L[i].a : Int)) ∧ w.cell? ⟨b, o + i * 3 + 1, none⟩ = some (.int .i64 L[i].n) ∧ w.cell? ⟨b, o + i * 3 + 2, none⟩ = some (.int .i64 L[i].d) := by
  rcases h with ⟨rfl, _⟩ | ⟨b, o, c', h1, h2, _, h3⟩
  · simp at hi
  · simp only [Value.slice.injEq] at h1
    have := h3 i _ (List.getElem?_eq_getElem hi)
    exact ⟨b, o, h1.1, h2, this.1, this.2.1, this.2.2⟩

set_option maxRecDepth 100000 in
theorem open_upds {H : Type} {enc : TypeId × Value → H} {W : World} {base : Nat} {v : Value} {d : DataW H} {p : List MemPlace}
    (hv : Value.okWide Tryd.prog W .any base 41 v) (h : DataW.Trod enc Tryd.prog W 0 (fun _ => true) true 41 v d p) :
    ∃ L : List Ud, Upds W v L ∧ L.length ≤ 9223372036854775807 ∧ ∀ u ∈ L, u.Ok := by
  obtain ⟨a, len, cap, rfl⟩ := okWide_slice Tryd.underlying41 hv
  obtain ⟨fuel, hf⟩ := h
  have hC : Tryd.prog.cellsOf 27 = 3 := by kernel_rfl
  rcases open_slice Tryd.underlying41 hf with ⟨hcs, _⟩ | ⟨x, l, c, m, n, D, Pl, hcs, _, hl, hm, hmm, _, hx⟩
  · simp [Value.cells] at hcs
    obtain ⟨rfl, rfl, rfl⟩ := hcs
    exact ⟨[], Upds.nil _ _ _, by simp, by simp⟩
  · simp [Value.cells] at hcs
    obtain ⟨rfl, rfl, rfl⟩ := hcs
    unfold maxLen at hm
    have hm2 : m = cap := by simpa using hmm
    subst hm2
    rw [hC] at hx
    have each : ∀ i, i < m → ∃ u : Ud, (W.cell? (x.add (i * 3)) = some (.int .u32 (u.a : Int)) ∧ W.cell? (x.add (i * 3 + 1)) = some (.int .i64 u.n) ∧ W.cell? (x.add (i * 3 + 2)) = some (.int .i64 u.d)) ∧ u.Ok := by
      intro i hi
      obtain ⟨cs', h1, h2⟩ := hx i hi
      obtain ⟨_, hlen, hcell⟩ := World.cells?_some h1
      obtain ⟨u, rfl, hu⟩ := upd_cells h2 hlen
      have e0 := hcell 0 (by omega)
      have e1 := hcell 1 (by omega)
      have e2 := hcell 2 (by omega)
      rw [add_add] at e0 e1 e2
      exact ⟨u, ⟨by simpa using e0, by simpa using e1, by simpa using e2⟩, hu⟩
    obtain ⟨F, hF⟩ := choose_lt each
    have hlen : ((List.range len).map F).length = len := by simp
    refine ⟨(List.range len).map F, ?_, by rw [hlen]; omega, ?_⟩
    · rcases Nat.eq_zero_or_pos len with hp | hp
      · subst hp
        exact .inl ⟨by simp, _, _, rfl, fun h => by cases h⟩
      · have hc0 := (hF 0 (by omega)).1.1
        rw [Nat.zero_mul] at hc0
        have hsp := spot_none hc0
        obtain ⟨b, o, sp⟩ := x
        simp only at hsp
        subst hsp
        refine .inr ⟨b, o, m, by rw [hlen], ?_, by rw [hlen]; exact hl, ?_⟩
        · have := World.block_lt_of_cell? _ _ hc0
          simpa [Addr.add] using this
        · intro j u hju
          simp only [List.getElem?_map, Option.map_eq_some_iff] at hju
          obtain ⟨r, hr1, rfl⟩ := hju
          have hj : j < len := by
            have := (List.getElem?_eq_some_iff.1 hr1).1
            simpa using this
          have hr : r = j := by
            rw [List.getElem?_range hj] at hr1
            exact (Option.some.inj hr1).symm
          subst hr
          have := (hF r (by omega)).1
          have ad : ∀ k, (⟨b, o, none⟩ : Addr).add k = ⟨b, o + k, none⟩ := fun k => by cases k <;> simp [Addr.add]
          rw [ad, ad, ad] at this
          exact ⟨this.1, by rw [Nat.add_assoc]; exact this.2.1, by rw [Nat.add_assoc]; exact this.2.2⟩
    · intro u hu
      obtain ⟨r, hr, rfl⟩ := List.mem_map.1 hu
      have := List.mem_range.1 hr
      exact (hF r (by omega)).2
end Go.Proofs.YtijkahamgnpobaaDoor

namespace Go.Proofs.YtijkahamgnpobaaDoor
open Go.RowKit
attribute [local go_sem ↓] Go.wp_at_zero Go.wp_at_succ

/-- May an update be? -/
def mayD (u : Ud) : Bool := mayU u.a u.n u.d
/-- Its bytes. -/
def upD (u : Ud) : List UInt8 := upL u.a u.n.toNat u.d.toNat
theorem upD_length (u : Ud) : (upD u).length = 6 := upL_length _ _ _
/-- The cells of updates. -/
def uc (L : List Ud) : List Value := L.flatMap fun u => [.int .u32 (u.a : Int), .int .i64 u.n, .int .i64 u.d]
theorem uc_snoc (L : List Ud) (u : Ud) : uc (L ++ [u]) = uc L ++ [.int .u32 (u.a : Int), .int .i64 u.n, .int .i64 u.d] := by simp [uc]
theorem uc_at : ∀ (L : List Ud) (j : Nat) (u : Ud), L[j]? = some u → (uc L)[j * 3]? = some (.int .u32 (u.a : Int)) ∧ (uc L)[j * 3 + 1]? = some (.int .i64 u.n) ∧ (uc L)[j * 3 + 2]? = some (.int .i64 u.d)
  | [], _, _, h => by simp at h
  | x :: L, 0, u, h => by simp at h; subst h; exact ⟨rfl, rfl, rfl⟩
  | x :: L, j + 1, u, h => by
    have := uc_at L j u (by simpa using h)
    have e : (j + 1) * 3 = j * 3 + 1 + 1 + 1 := by omega
    rw [e]
    exact ⟨this.1, this.2.1, this.2.2⟩
/-- The value owns these updates. -/
def OwnU (w : World) (B : Nat) (v : Value) (L : List Ud) : Prop := w.ownsRow B 27 3 v L.length (uc L)
theorem OwnU.nil (w : World) (B : Nat) : OwnU w B (.slice none 0 0) [] := World.ownsRow_nil w _ _ _
theorem OwnU.later {w w' : World} {B : Nat} {v : Value} {L : List Ud} (h : OwnU w B v L) (hb : Below w.heap.size w w') : OwnU w' B v L := by
  obtain ⟨hl, h0 | ⟨g, cap, cur, rfl, hb1, hg, hr⟩⟩ := h
  · exact ⟨hl, .inl h0⟩
  · refine ⟨hl, .inr ⟨g, cap, cur, rfl, hb1, ?_, hr⟩⟩
    rw [hb.block g ?_]
    · exact hg
    · rcases Nat.lt_or_ge g w.heap.size with h1 | h1
      · exact h1
      · rw [Array.getElem?_eq_none h1] at hg; cases hg
theorem OwnU.upds {w : World} {B : Nat} {v : Value} {L : List Ud} (h : OwnU w B v L) : Upds w v L := by
  rcases h.2 with ⟨rfl, h0⟩ | ⟨g, cap, cur, rfl, hb, hg, hn, hm, hc, ht⟩
  · have : L = [] := List.length_eq_zero_iff.1 h0
    subst this
    exact .inl ⟨rfl, _, _, rfl, fun _ => rfl⟩
  · refine .inr ⟨g, 0, cap, rfl, ?_, hn, fun j u hj => ?_⟩
    · rcases Nat.lt_or_ge g w.heap.size with h1 | h1
      · exact h1
      · rw [Array.getElem?_eq_none h1] at hg; cases hg
    · have hcell : ∀ i x, (uc L)[i]? = some x → w.cell? ⟨g, i, none⟩ = some x := fun i x hx => by
        rw [cell_of_row w g i cur _ (0, 0) hg]
        rw [← ht, List.getElem?_take] at hx
        split at hx
        · simpa using hx
        · cases hx
      obtain ⟨e0, e1, e2⟩ := uc_at L j u hj
      rw [Nat.zero_add]
      exact ⟨hcell _ _ e0, hcell _ _ e1, hcell _ _ e2⟩
theorem OwnU.form {w : World} {B : Nat} {v : Value} {L : List Ud} (h : OwnU w B v L) : ∃ a c, v = .slice a L.length c := h.upds.form
theorem infoU : ∃ i0, Tryd.prog.info? 27 = some i0 ∧ i0.zero = some (.agg #[.int .u32 0, .int .i64 0, .int .i64 0]) ∧ i0.size = 3 ∧ i0.bytes = 24 := by
  have hi5 : (Tryd.prog.info? 27).map (fun i => (i.zero, i.size, i.bytes)) = some (some (.agg #[.int .u32 0, .int .i64 0, .int .i64 0]), 3, 24) := by kernel_rfl
  obtain ⟨i0, hi, hx⟩ := Option.map_eq_some_iff.1 hi5
  simp only [Prod.mk.injEq] at hx
  exact ⟨i0, hi, hx.1, hx.2.1, hx.2.2⟩
theorem run_appU (w : World) (B : Nat) (ty : TypeId) (v : Value) (L : List Ud) (u : Ud) (g : Nat) (h : OwnU w B v L) (hc0 : w.cell? ⟨g, 0, none⟩ = some (.int .u32 (u.a : Int))) (hc1 : w.cell? ⟨g, 1, none⟩ = some (.int .i64 u.n)) (hc2 : w.cell? ⟨g, 2, none⟩ = some (.int .i64 u.d))
    (hn : L.length ≤ 2000000) (hB : B ≤ w.heap.size) :
    ∃ v' w', (Builtin.append_ #[41, 41] ty #[v, .slice (some ⟨g, 0, none⟩) 1 1]).run Tryd.prog w = .ok v' w' ∧ OwnU w' B v' (L ++ [u]) ∧ Below B w w' ∧ w.grownBy w' v.ownBlock := by
  obtain ⟨i0, hi, hz0, hz1, hz2⟩ := infoU
  obtain ⟨v', w', h1, h2, h3, _⟩ := run_append_own (P := Tryd.prog) (w := w) B 41 ty 27 i0 _ 3 24 Tryd.underlying41 hi hz0 hz1 hz2 rfl (by decide) v L.length _ h ⟨g, 0, none⟩ 1 1 [.int .u32 (u.a : Int), .int .i64 u.n, .int .i64 u.d] rfl
    (fun j x hx => by
      match j, hx with
      | 0, hx => simp at hx; subst hx; simpa [Addr.add] using hc0
      | 1, hx => simp at hx; subst hx; simpa [Addr.add] using hc1
      | 2, hx => simp at hx; subst hx; simpa [Addr.add] using hc2)
    (by intro x hx; simp at hx; rcases hx with rfl | rfl | rfl <;> rfl) (by unfold maxLen; omega) (by omega) hB
  refine ⟨v', w', h1, ?_, (Below.refl B w).grown h3 hB (fun j hj => own_base h hj), h3⟩
  show World.ownsRow _ _ _ _ _ _ _
  rw [uc_snoc, List.length_append]; exact h2
theorem wp_appU {w : World} {o : Oper} {a : Act} {K : Act → World → Prop} {Q : Exit → Act → World → Prop} (s x : Operand)
    (ho : o.op = .call { callee := .builtin .append, args := #[s, x], argTypes := #[41, 41] }) (B : Nat) (v : Value) (L : List Ud) (u : Ud) (g : Nat) (hs : a.eval s = v) (hx : a.eval x = .slice (some ⟨g, 0, none⟩) 1 1)
    (hl : OwnU w B v L) (hc0 : w.cell? ⟨g, 0, none⟩ = some (.int .u32 (u.a : Int))) (hc1 : w.cell? ⟨g, 1, none⟩ = some (.int .i64 u.n)) (hc2 : w.cell? ⟨g, 2, none⟩ = some (.int .i64 u.d)) (hn : L.length ≤ 2000000) (hB : B ≤ w.heap.size)
    (h : ∀ v' w', OwnU w' B v' (L ++ [u]) → Below B w w' → w.grownBy w' v.ownBlock → K (a.put o.dst v') w') : o.wp Tryd.prog a w K Q := by
  obtain ⟨v', w', hr, h2, h3, h4⟩ := run_appU w B o.type v L u g hl hc0 hc1 hc2 hn hB
  unfold Oper.wp execOp
  simp only [ho, resolve, invoke, builtin, Sem.run_bind, Sem.run_pure, Result.andThen_ok, List.map_toArray, List.map_cons, List.map_nil, hs, hx, hr]
  exact h v' w' h2 h3 h4
theorem wpList_appU {w : World} {ops : Array Oper} {rest : List Oper} {o : Oper} {a : Act} {Q : Exit → Act → World → Prop} (hgd : o.guard = none) (s x : Operand)
    (ho : o.op = .call { callee := .builtin .append, args := #[s, x], argTypes := #[41, 41] }) (B : Nat) (v : Value) (L : List Ud) (u : Ud) (g : Nat) (hs : a.eval s = v) (hx : a.eval x = .slice (some ⟨g, 0, none⟩) 1 1)
    (hl : OwnU w B v L) (hc0 : w.cell? ⟨g, 0, none⟩ = some (.int .u32 (u.a : Int))) (hc1 : w.cell? ⟨g, 1, none⟩ = some (.int .i64 u.n)) (hc2 : w.cell? ⟨g, 2, none⟩ = some (.int .i64 u.d)) (hn : L.length ≤ 2000000) (hB : B ≤ w.heap.size)
    (h : ∀ v' w', OwnU w' B v' (L ++ [u]) → Below B w w' → w.grownBy w' v.ownBlock → wpList Tryd.prog ops Q rest (a.put o.dst v') w') : wpList Tryd.prog ops Q (o :: rest) a w :=
  wpList_plain hgd fun _ hK => wp_appU s x ho B v L u g hs hx hl hc0 hc1 hc2 hn hB fun v' w' h2 h3 h4 => hK _ _ (h v' w' h2 h3 h4)
theorem step_appU {w : World} {ops : Array Oper} {o : Oper} {a : Act} {K : Act → World → Prop} {Q : Exit → Act → World → Prop} {E : Prop} (hgd : o.guard = none) (s x : Operand)
    (ho : o.op = .call { callee := .builtin .append, args := #[s, x], argTypes := #[41, 41] }) (B : Nat) (v : Value) (L : List Ud) (u : Ud) (g : Nat) (hs : a.eval s = v) (hx : a.eval x = .slice (some ⟨g, 0, none⟩) 1 1)
    (hl : OwnU w B v L) (hc0 : w.cell? ⟨g, 0, none⟩ = some (.int .u32 (u.a : Int))) (hc1 : w.cell? ⟨g, 1, none⟩ = some (.int .i64 u.n)) (hc2 : w.cell? ⟨g, 2, none⟩ = some (.int .i64 u.d)) (hn : L.length ≤ 2000000) (hB : B ≤ w.heap.size)
    (h : ∀ v' w', OwnU w' B v' (L ++ [u]) → Below B w w' → w.grownBy w' v.ownBlock → K (a.put o.dst v') w') :
    if Region.wanted o (yielded ops a.tmps) = true then Oper.wp Tryd.prog o a w K Q else E := by
  have hw : Region.wanted o (yielded ops a.tmps) = true := by simp [Region.wanted, hgd]
  rw [if_pos hw]
  exact wp_appU s x ho B v L u g hs hx hl hc0 hc1 hc2 hn hB h

theorem notMay_any (u : Ud) (w : World) : Calls Tryd.prog 35 #[.agg #[.int .u32 (u.a : Int), .int .i64 u.n, .int .i64 u.d]] w fun e w' => e = .returned (.bool (!mayD u)) ∧ Below w.heap.size w w' := by
  have hB := Lib.hid (show Below w.heap.size w (w.alloc (.cells #[.int .u32 (u.a : Int), .int .i64 u.n, .int .i64 u.d] 27)) from (Below.refl _ _).alloc (Nat.le_refl _) _)
  have hm : Hid (∀ W, Calls Tryd.prog 12 #[.agg #[.int .u32 (u.a : Int), .int .i64 u.n, .int .i64 u.d]] W fun e w' => e = .returned (.bool (mayD u)) ∧ Below W.heap.size W w') := fun W => mayUW_any _ _ _ W
  obtain ⟨b, hb⟩ : ∃ b, b = mayD u := ⟨_, rfl⟩
  rw [← hb] at hm ⊢
  clear hb
  go_enter Tryd.func35, Tryd.ntmps35
  go_wp2_with fail
  refine (hm.out _).mono ?_
  rintro e w1 ⟨rfl, hb1⟩
  have HB1 := Lib.hid (below_of hB.out hb1)
  clear hb1
  go_wp2_with fail
  go_ret
  exact ⟨rfl, HB1.out⟩

set_option maxHeartbeats 2000000 in
set_option maxRecDepth 100000 in
theorem badAny_any (a : Option Addr) (c : Nat) (L : List Ud) (w : World) (hv : Upds w (.slice a L.length c) L) (hL : L.length ≤ 9223372036854775807) :
    Calls Tryd.prog 34 #[.slice a L.length c, .func (.func 35) #[] #[]] w fun e w' => e = .returned (.bool (L.any fun u => !mayD u)) ∧ Below w.heap.size w w' := by
  have hidx : Calls Tryd.prog 49 #[.slice a L.length c, .func (.func 35) #[] #[]] w fun e w' => ∃ i : Int, e = .returned (.int .i64 i) ∧ (decide (0 ≤ i) = L.any fun u => !mayD u) ∧ Below w.heap.size w w' := by
    have HV := Lib.hid hv
    clear hv
    have hz2 : (L.length : Int) ≤ 9223372036854775807 := by omega
    clear hL
    go_enter Tryd.func49, Tryd.ntmps49
    go_wp2_with fail
    go_loopw [5, 8] (fun _ i wr => ∃ k : Nat, k ≤ L.length ∧ i = .int .i64 k ∧ Hid ((L.take k).any (fun u => !mayD u) = false) ∧ Hid (Below w.heap.size w wr)) (fun _ i _ => L.length - (intOf i).toNat)
    case atStart => exact ⟨0, Nat.zero_le _, rfl, rfl, Below.refl _ _⟩
    case round =>
      obtain ⟨k, hk, rfl, HN, HB⟩ := hrel
      rcases Nat.lt_or_ge k L.length with hlt | hge
      · have g1 : (k : Int) < L.length := by omega
        obtain ⟨bl, bo, rfl, hbl, c0, c1, c2⟩ := (HV.out.later HB.out).at hlt
        obtain ⟨u, hu⟩ : ∃ u, u = L[k] := ⟨_, rfl⟩
        rw [← hu] at c0 c1 c2
        have ht : (L.take (k + 1)).any (fun u => !mayD u) = ((L.take k).any (fun u => !mayD u) || !mayD u) := by
          rw [List.take_succ_eq_append_getElem hlt, List.any_append, hu]; simp
        have HT := Lib.hid ht
        have HU := Lib.hid hu
        clear ht hu
        cases hn : mayD u with
        | false =>
          have ha : (L.any fun u => !mayD u) = true := List.any_eq_true.2 ⟨u, by rw [HU.out]; exact List.getElem_mem hlt, by rw [hn]; rfl⟩
          have HA := Lib.hid ha
          have HN2 := Lib.hid hn
          clear ha hn
          go_wp2_with fail
          refine (notMay_any u wr).mono ?_
          rintro e w1 ⟨rfl, hb1⟩
          rw [HN2.out]
          have HB1 := Lib.hid (below_of HB.out hb1)
          clear hb1
          go_wp2_with fail
          go_ret
          exact ⟨_, rfl, by rw [HA.out]; exact decide_eq_true (by omega), HB1.out⟩
        | true =>
          have HN2 := Lib.hid hn
          clear hn
          go_wp2_with fail
          refine (notMay_any u wr).mono ?_
          rintro e w1 ⟨rfl, hb1⟩
          rw [HN2.out]
          have HB1 := Lib.hid (below_of HB.out hb1)
          clear hb1
          go_wp2_with fail
          go_roundw
          case rel => exact ⟨k + 1, by omega, by go_num, by show _ = _; rw [HT.out, HN.out, HN2.out]; rfl, HB1⟩
          case measure => simp [intOf]; omega
      · have e : k = L.length := by omega
        subst e
        go_wp2_with fail
        go_ret
        refine ⟨-1, rfl, ?_, HB.out⟩
        have := HN.out
        rw [List.take_length] at this
        rw [this]; rfl
  go_enter Tryd.func34, Tryd.ntmps34
  go_wp2_with fail
  refine hidx.mono ?_
  rintro e w1 ⟨i, rfl, hi, hb1⟩
  have HI := Lib.hid hi
  have HB1 := Lib.hid hb1
  clear hi hb1
  go_wp2_with fail
  go_ret
  exact ⟨ret_b HI.out, HB1.out⟩
end Go.Proofs.YtijkahamgnpobaaDoor

namespace Go.Proofs.YtijkahamgnpobaaDoor
open Go.RowKit

/-- The value owns these lists of bytes, and each of them is owned. -/
def OwnP (w : World) (B : Nat) (v : Value) (P : List (List UInt8)) : Prop :=
  ∃ xs : List Value, xs.length = P.length ∧ w.ownsRow B 28 1 v P.length xs ∧ ∀ (j : Nat) (u : Value) (l : List UInt8), xs[j]? = some u → P[j]? = some l → OwnB w B u l
theorem OwnP.later {w w' : World} {B : Nat} {v : Value} {P : List (List UInt8)} (h : OwnP w B v P) (hb : Below w.heap.size w w') : OwnP w' B v P := by
  obtain ⟨xs, h1, h2, h3⟩ := h
  refine ⟨xs, h1, ?_, fun j u l hu hl => (h3 j u l hu hl).later hb⟩
  obtain ⟨hl, h0 | ⟨g, cap, cur, rfl, hb1, hg, hr⟩⟩ := h2
  · exact ⟨hl, .inl h0⟩
  · refine ⟨hl, .inr ⟨g, cap, cur, rfl, hb1, ?_, hr⟩⟩
    rw [hb.block g ?_]
    · exact hg
    · rcases Nat.lt_or_ge g w.heap.size with h1 | h1
      · exact h1
      · rw [Array.getElem?_eq_none h1] at hg; cases hg
theorem OwnP.lists {w : World} {B : Nat} {v : Value} {P : List (List UInt8)} (h : OwnP w B v P) : Lists w v P := by
  obtain ⟨xs, hl, ho, he⟩ := h
  rcases ho.2 with ⟨rfl, h0⟩ | ⟨g, cap, cur, rfl, hb, hg, hn, hm, hc, ht⟩
  · have : P = [] := List.length_eq_zero_iff.1 h0
    subst this
    exact .inl ⟨rfl, _, _, rfl, fun _ => rfl⟩
  · refine .inr ⟨g, 0, cap, rfl, ?_, hn, fun j l hj => ?_⟩
    · rcases Nat.lt_or_ge g w.heap.size with h1 | h1
      · exact h1
      · rw [Array.getElem?_eq_none h1] at hg; cases hg
    · have hj' : j < xs.length := by rw [hl]; exact (List.getElem?_eq_some_iff.1 hj).1
      obtain ⟨x, hx⟩ : ∃ x, xs[j]? = some x := ⟨_, List.getElem?_eq_getElem hj'⟩
      refine ⟨x, ?_, (he j _ l hx hj).bytes⟩
      rw [Nat.zero_add, cell_of_row w g j cur _ (0, 0) hg]
      have h2 := hx
      rw [← ht, List.getElem?_take] at h2
      split at h2
      · simpa using h2
      · cases h2
theorem OwnP.form {w : World} {B : Nat} {v : Value} {P : List (List UInt8)} (h : OwnP w B v P) : ∃ a c, v = .slice a P.length c := h.lists.form
theorem infoB24 : ∃ i0, Tryd.prog.info? 28 = some i0 ∧ i0.zero = some (.slice none 0 0) ∧ i0.size = 1 ∧ i0.bytes = 24 := by
  have hi5 : (Tryd.prog.info? 28).map (fun i => (i.zero, i.size, i.bytes)) = some (some (.slice none 0 0), 1, 24) := by kernel_rfl
  obtain ⟨i0, hi, hx⟩ := Option.map_eq_some_iff.1 hi5
  simp only [Prod.mk.injEq] at hx
  exact ⟨i0, hi, hx.1, hx.2.1, hx.2.2⟩
theorem run_appP (w : World) (B : Nat) (ty : TypeId) (v u : Value) (P : List (List UInt8)) (l : List UInt8) (g : Nat) (h : OwnP w B v P) (hu : OwnB w B u l) (hc : w.cell? ⟨g, 0, none⟩ = some u) (hn : P.length ≤ 2000000) (hB : B ≤ w.heap.size) :
    ∃ v' w', (Builtin.append_ #[66, 66] ty #[v, .slice (some ⟨g, 0, none⟩) 1 1]).run Tryd.prog w = .ok v' w' ∧ OwnP w' B v' (P ++ [l]) ∧ Below B w w' ∧ w.grownBy w' v.ownBlock := by
  obtain ⟨i0, hi, hz0, hz1, hz2⟩ := infoB24
  obtain ⟨xs, hl, ho, he⟩ := h
  obtain ⟨a, c, rfl⟩ := OwnB.form hu
  obtain ⟨v', w', h1, h2, h3, _⟩ := run_append_own (P := Tryd.prog) (w := w) B 66 ty 28 i0 _ 1 24 Tryd.underlying66 hi hz0 hz1 hz2 rfl (by decide) v P.length _ ho ⟨g, 0, none⟩ 1 1 [.slice a l.length c] rfl
    (fun j x hx => by
      match j, hx with
      | 0, hx => simp at hx; subst hx; simpa [Addr.add] using hc)
    (by intro x hx; simp at hx; subst hx; rfl) (by unfold maxLen; omega) (by omega) hB
  refine ⟨v', w', h1, ⟨xs ++ [.slice a l.length c], by simp [hl], ?_, fun j x y hx hy => ?_⟩, (Below.refl B w).grown h3 hB (fun j hj => own_base ho hj), h3⟩
  · rw [List.length_append]; exact h2
  · have key : OwnB w B x y := by
      rcases Nat.lt_or_ge j xs.length with hj | hj
      · rw [List.getElem?_append_left hj] at hx
        rw [List.getElem?_append_left (by omega)] at hy
        exact he j x y hx hy
      · rw [List.getElem?_append_right hj] at hx
        rw [List.getElem?_append_right (by omega)] at hy
        have hj0 : j - xs.length = 0 := by
          have := (List.getElem?_eq_some_iff.1 hx).1
          simp at this; omega
        rw [hj0] at hx
        rw [show j - P.length = 0 by omega] at hy
        simp only [List.getElem?_cons_zero, Option.some.injEq] at hx hy
        subst hx hy
        exact hu
    exact World.ownsRow.kept key h3 (own_apart key ho (by decide))
theorem wpList_appP {w : World} {ops : Array Oper} {rest : List Oper} {o : Oper} {a : Act} {Q : Exit → Act → World → Prop} (hgd : o.guard = none) (s x : Operand)
    (ho : o.op = .call { callee := .builtin .append, args := #[s, x], argTypes := #[66, 66] }) (B : Nat) (v u : Value) (P : List (List UInt8)) (l : List UInt8) (g : Nat) (hs : a.eval s = v) (hx : a.eval x = .slice (some ⟨g, 0, none⟩) 1 1)
    (hl : OwnP w B v P) (hu : OwnB w B u l) (hc : w.cell? ⟨g, 0, none⟩ = some u) (hn : P.length ≤ 2000000) (hB : B ≤ w.heap.size)
    (h : ∀ v' w', OwnP w' B v' (P ++ [l]) → Below B w w' → w.grownBy w' v.ownBlock → wpList Tryd.prog ops Q rest (a.put o.dst v') w') : wpList Tryd.prog ops Q (o :: rest) a w :=
  wpList_plain hgd fun _ hK => by
    obtain ⟨v', w', hr, h2, h3, h4⟩ := run_appP w B o.type v u P l g hl hu hc hn hB
    unfold Oper.wp execOp
    simp only [ho, resolve, invoke, builtin, Sem.run_bind, Sem.run_pure, Result.andThen_ok, List.map_toArray, List.map_cons, List.map_nil, hs, hx, hr]
    exact hK _ _ (h v' w' h2 h3 h4)
end Go.Proofs.YtijkahamgnpobaaDoor
