/- SplitAlike: for every input the law's call returns true, and each argument reads behind it as before.
   SplitAlike: the law's walk; a slice of ways, opened.
   What the law's rows ask: two lists that are the same, numbers of errors; the chapter's rows. -/
import Derived.Test.YtdjhgahdiggahaaZ01
import Derived.Test.YtdjhgahdiggahaaZ07

set_option linter.unusedSimpArgs false
set_option linter.unusedVariables false
namespace Go.Proofs.Ytdjhgahdiggahaa
open Go.RowKit
attribute [local go_sem ↓] Go.wp_at_zero Go.wp_at_succ
open Sp

set_option maxRecDepth 100000 in
theorem sameI {w : World} {g1 g2 n c1 c2 : Nat} {A : List Int} (h1 : IB g1 A w) (h2 : IB g2 A w) (hn : n = A.length) (hl : n ≤ 1000) :
    Calls Try.prog 38 #[.slice (some ⟨g1, 0, none⟩) n c1, .slice (some ⟨g2, 0, none⟩) n c2] w fun e w' => e = .returned (.bool true) ∧ Below w.heap.size w w' := by
  have HI : Hid (IB g1 A w ∧ IB g2 A w ∧ n = A.length) := ⟨h1, h2, hn⟩
  have g0 : (n : Int) ≤ 1000 := by omega
  clear h1 h2 hn hl
  go_enter Try.func38, Try.ntmps38
  go_wp2_with fail
  go_loopw [5] (fun x wr => ∃ i : Nat, i ≤ n ∧ x = .int .i64 i ∧ Hid (Below w.heap.size w wr)) (fun x _ => n - (intOf x).toNat)
  case atStart => exact ⟨0, Nat.zero_le _, rfl, Below.refl _ _⟩
  case round =>
    obtain ⟨i, hi, rfl, HB⟩ := hrel
    rcases Nat.lt_or_ge i n with hlt | hge
    · have g1' : (i : Int) < n := by omega
      have hx : A[i]? = some (A[i]'(by have := HI.out.2.2; omega)) := List.getElem?_eq_getElem _
      obtain ⟨x, hxx⟩ : ∃ x, x = A[i]'(by have := HI.out.2.2; omega) := ⟨_, rfl⟩
      rw [← hxx] at hx
      have c0 := (HI.out.1.later HB.out).cell (iv_at2 hx)
      have c1 := (HI.out.2.1.later HB.out).cell (iv_at2 hx)
      have t0 : (x != x) = false := by simp
      clear hx hxx
      go_wp2_with fail
      go_quiet (fail)
      have HB2 := Lib.hid (below_drewN HB.out nq)
      go_wp2_with fail
      go_roundw
      case rel => exact ⟨i + 1, by omega, by go_num, HB2.out⟩
      case measure => simp [intOf]; omega
    · obtain rfl : i = n := by omega
      have q0 : ¬ (i : Int) < i := by omega
      go_wp2_with fail
      go_ret
      exact ⟨rfl, HB.out⟩
set_option maxRecDepth 100000 in
theorem numL (e : Int) (w : World) : Calls Try.prog 37 #[.int .i64 e] w fun r w' => r = .returned (.int .i64 e) ∧ w = w' := by
  go_enter Try.func37, Try.ntmps37
  go_wp2_with fail
  go_ret
  exact ⟨rfl, rfl⟩
/-- The chapter's ways. -/
def kA : List Nx := [(0, 0), (1, 0), (2, 1)]
def kB : List Nx := [(3, 7)]
set_option maxRecDepth 100000 in
theorem kA_may : mayP kA := by decide
set_option maxRecDepth 100000 in
theorem kB_may : mayP kB := by decide
set_option maxRecDepth 100000 in
theorem kA_sh : shares (ws kA) = [103, 102, 51] := by decide
set_option maxRecDepth 100000 in
theorem kB_sh : shares (ws kB) = [256] := by decide
set_option maxRecDepth 100000 in
theorem nil_may : ¬ mayP [] := by decide
set_option maxRecDepth 100000 in
theorem nxs_blk {w : World} {g : Nat} {l : List Nx} {n : Nat} (h : BlkAt 76 g (l.flatMap nxc) w) (hn : n = l.length) (h0 : l ≠ []) : Nxs w (.slice (some ⟨g, 0, none⟩) n n) l := by
  refine .inr ⟨g, 0, n, by rw [hn], BlkAt.lt h, by omega, fun j x hx i u hu => ?_⟩
  rw [Nat.zero_add]
  refine h.cell ?_
  have hk : ∀ (l : List Nx) (j : Nat) (x : Nx), l[j]? = some x → ∀ i u, (nxc x)[i]? = some u → (l.flatMap nxc)[j * 2 + i]? = some u := by
    intro l
    induction l with
    | nil => intro j x hx; simp at hx
    | cons y l ih =>
      intro j x hx i u hu
      cases j with
      | zero =>
        simp at hx
        subst hx
        rw [List.flatMap_cons, Nat.zero_mul, Nat.zero_add, List.getElem?_append_left (List.getElem?_eq_some_iff.1 hu).1]
        exact hu
      | succ j =>
        have := ih j x (by simpa using hx) i u hu
        rw [List.flatMap_cons, List.getElem?_append_right (by show (nxc y).length ≤ _; simp [nxc]; omega)]
        rw [show (j + 1) * 2 + i - (nxc y).length = j * 2 + i by simp [nxc]; omega]
        exact this
  exact hk l j x hx i u hu
set_option maxRecDepth 100000 in
theorem nxs_nil (w : World) : Nxs w (.slice none 0 0) [] := .inl ⟨rfl, none, 0, rfl, fun _ => rfl⟩
set_option maxRecDepth 100000 in
theorem lits (L : List Int) (w : World) : IB w.heap.size L (w.alloc (.cells (iv L).toArray 3)) := BlkAt.new w _
set_option maxRecDepth 100000 in
theorem knownL (w : World) : Calls Try.prog 30 #[] w fun e w' => e = .returned (.bool true) ∧ Below w.heap.size w w' := by
  obtain ⟨w1, hw1⟩ : ∃ w1, w1 = w.alloc (.cells #[.int .i64 0, .int .i64 0, .int .i64 1, .int .i64 0, .int .i64 2, .int .i64 1] 76) := ⟨_, rfl⟩
  have hb1 : Below w.heap.size w w1 := by rw [hw1]; exact ba1 _ _
  have hX1 : BlkAt 76 w.heap.size (kA.flatMap nxc) w1 := by rw [hw1]; exact BlkAt.new w _
  have HS1 := Lib.hid (sharesYes (nxs_blk (n := 3) hX1 rfl (by decide)) (by intro n hn; simp [kA] at hn; rcases hn with rfl | rfl | rfl <;> exact ⟨by decide, by decide, by decide, by decide⟩) kA_may)
  rw [kA_sh] at HS1
  have HW1 := Lib.hid hw1
  have HB1 := Lib.hid hb1
  clear hw1 hb1 hX1
  go_enter Try.func30, Try.ntmps30
  go_wp2_with fail
  rw [← HW1.out]
  refine HS1.out.mono ?_
  rintro e w2 ⟨ga, rfl, _, ia2, b2⟩
  have hl3 : kA.length = 3 := rfl
  rw [hl3]
  have HB2 := Lib.hid (below_of HB1.out b2)
  have HA2 := Lib.hid ia2
  obtain ⟨w3, hw3⟩ : ∃ w3, w3 = w2.alloc (.cells #[.int .i64 3, .int .i64 7] 76) := ⟨_, rfl⟩
  have hb3 : Below w2.heap.size w2 w3 := by rw [hw3]; exact ba1 _ _
  have hX3 : BlkAt 76 w2.heap.size (kB.flatMap nxc) w3 := by rw [hw3]; exact BlkAt.new w2 _
  have HS3 := Lib.hid (sharesYes (nxs_blk (n := 1) hX3 rfl (by decide)) (by intro n hn; simp [kB] at hn; rcases hn with rfl; exact ⟨by decide, by decide, by decide, by decide⟩) kB_may)
  rw [kB_sh] at HS3
  have HW3 := Lib.hid hw3
  have HB3 := Lib.hid (below_of HB2.out hb3)
  have HA3 := Lib.hid (HA2.out.later hb3)
  clear hw3 hb3 hX3 ia2 b2 hl3
  go_wp2_with fail
  rw [← HW3.out]
  refine HS3.out.mono ?_
  rintro e w4 ⟨gb, rfl, _, ib4, b4⟩
  have hl1 : kB.length = 1 := rfl
  rw [hl1]
  have HB4 := Lib.hid (below_of HB3.out b4)
  have HA4 := Lib.hid (HA3.out.later b4)
  have HI4 := Lib.hid ib4
  obtain ⟨w5, hw5⟩ : ∃ w5, w5 = w4.alloc (.cells #[.int .i64 103, .int .i64 102, .int .i64 51] 3) := ⟨_, rfl⟩
  have hb5 : Below w4.heap.size w4 w5 := by rw [hw5]; exact ba1 _ _
  have hX5 : IB w4.heap.size [103, 102, 51] w5 := by rw [hw5]; exact lits [103, 102, 51] w4
  have HC5 := Lib.hid (sameI (c1 := 3) (c2 := 3) (n := 3) (HA4.out.later hb5) hX5 rfl (by decide))
  have HB5 := Lib.hid (below_of HB4.out hb5)
  have HI5 := Lib.hid (HI4.out.later hb5)
  have HW5 := Lib.hid hw5
  clear hw5 hb5 hX5 ib4 b4 hl1
  go_wp2_with fail
  rw [← HW5.out]
  refine HC5.out.mono ?_
  rintro e w6 ⟨rfl, b6⟩
  have HB6 := Lib.hid (below_of HB5.out b6)
  obtain ⟨w7, hw7⟩ : ∃ w7, w7 = w6.alloc (.cells #[.int .i64 256] 3) := ⟨_, rfl⟩
  have hb7 : Below w6.heap.size w6 w7 := by rw [hw7]; exact ba1 _ _
  have hX7 : IB w6.heap.size [256] w7 := by rw [hw7]; exact lits [256] w6
  have HC7 := Lib.hid (sameI (c1 := 1) (c2 := 1) (n := 1) ((HI5.out.later b6).later hb7) hX7 rfl (by decide))
  have HB7 := Lib.hid (below_of HB6.out hb7)
  have HW7 := Lib.hid hw7
  clear hw7 hb7 hX7 b6
  go_wp2_with fail
  rw [← HW7.out]
  refine HC7.out.mono ?_
  rintro e w8 ⟨rfl, b8⟩
  have HB8 := Lib.hid (below_of HB7.out b8)
  clear b8
  go_wp2_with fail
  refine (numL 0 w8).mono ?_
  rintro e w9 ⟨rfl, rfl⟩
  go_wp2_with fail
  refine (numL 0 w8).mono ?_
  rintro e w9 ⟨rfl, rfl⟩
  go_wp2_with fail
  refine (weightL 0 2 w8).mono ?_
  rintro e w9 ⟨rfl, b9⟩
  have hw2 : ((wt 2 : Nat) : Int) = 21845 := by decide
  rw [hw2]
  have HB9 := Lib.hid (below_of HB8.out b9)
  clear b9 hw2
  go_wp2_with fail
  have hmn := mayW (nxs_nil w9) (by decide) (fun n hn => by cases hn)
  rw [decide_eq_false nil_may] at hmn
  refine hmn.mono ?_
  rintro e w10 ⟨rfl, b10⟩
  have HB10 := Lib.hid (below_of HB9.out b10)
  clear b10
  go_wp2_with fail
  go_ret
  exact ⟨rfl, HB10.out⟩
end Go.Proofs.Ytdjhgahdiggahaa

namespace Go.Proofs.Ytdjhgahdiggahaa
open Go.RowKit
attribute [local go_sem ↓] Go.wp_at_zero Go.wp_at_succ
open Sp

section
open Go.ChangeShapes Go.WideShapes Go.ChangeAt Go.RowKit Go.Joins Go.Deep
set_option maxRecDepth 100000 in
theorem nx_cells {H : Type} {enc : TypeId × Value → H} {W : World} {base : Nat} {sp : Nat → Bool} {held : Bool} {n : Nat} {cs : List Value} {y : DataW H × List MemPlace} (h : DataW.trod enc Try.prog W base sp held n 76 cs = some y) (hl : cs.length = 2) :
    ∃ p : Nx, cs = nxc p ∧ NxOk p := by
  have k1 : Try.prog.cellsOf 3 = 1 := by kernel_rfl
  match cs, hl with
  | [c0, c1], _ =>
    obtain ⟨zs, m, _, hz, _, hzl, hgz⟩ := DataW.trod_struct Try.underlying76 h
    match zs, hzl with
    | [z0, z1], _ =>
      have g0 : DataW.trod enc Try.prog W base sp held m 3 [c0] = some z0 := by simpa [k1] using hgz 0 _ rfl
      have g1 : DataW.trod enc Try.prog W base sp held m 3 [c1] = some z1 := by simpa [k1] using hgz 1 _ rfl
      obtain ⟨a0, e0, _, w0⟩ := DataW.trod_int Try.underlying3 g0
      obtain ⟨a1, e1, _, w1⟩ := DataW.trod_int Try.underlying3 g1
      simp only [List.cons.injEq, and_true] at e0 e1
      subst e0 e1
      have b0 := bounds_i64 w0
      have b1 := bounds_i64 w1
      exact ⟨(a0, a1), rfl, ⟨b0.1, b0.2, b1.1, b1.2⟩⟩
set_option maxRecDepth 100000 in
theorem open_nexts {H : Type} {enc : TypeId × Value → H} {W : World} {base : Nat} {v : Value} {d : DataW H} {p : List MemPlace} (hv : Value.okWide Try.prog W .any base 69 v) (h : DataW.Trod enc Try.prog W 0 (fun _ => true) true 69 v d p) :
    ∃ L : List Nx, Nxs W v L ∧ L.length ≤ 9223372036854775807 ∧ ∀ x ∈ L, NxOk x :=
  open_rds Try.underlying69 (by kernel_rfl) (by decide) NxOk (fun h hl => nx_cells h hl) hv h
end
set_option maxRecDepth 100000 in
theorem shAt {w : World} {g : Nat} {l : List Nx} (h : IB g (zl (shares (ws l))) w) {j : Nat} (hj : j < l.length) : w.cell? ⟨g, j, none⟩ = some (.int .i64 (((shares (ws l)).getD j 0 : Nat) : Int)) := ib_at h (by rw [shares_len, ws_len]; exact hj)
set_option maxRecDepth 100000 in
set_option maxHeartbeats 8000000 in
theorem splitAlike_walk (v : Value) (l : List Nx) (w : World) (hv : Nxs w v l) (_ : l.length ≤ 9223372036854775807) (ho : ∀ n ∈ l, NxOk n) :
    Calls Try.prog 14 #[v] w fun e w' => e = .returned (.bool true) ∧ Below w.heap.size w w' := by
  have HK := Lib.hid (fun W => knownL W)
  by_cases h3 : 300 < l.length
  · obtain ⟨a, c, rfl⟩ := hv.form
    have g1 : (300 : Int) < (l.length : Int) := by omega
    obtain ⟨n, hn⟩ : ∃ n, n = l.length := ⟨_, rfl⟩
    rw [← hn] at g1 ⊢
    clear hv ho h3 hn
    go_enter Try.func14, Try.ntmps14
    go_wp2_with fail
    refine (HK.out _).mono ?_
    rintro e w1 ⟨rfl, hb⟩
    have HB := Lib.hid hb
    clear hb
    go_wp2_with fail
    go_ret
    exact ⟨rfl, HB.out⟩
  · have g1 : ¬ (300 : Int) < (l.length : Int) := by omega
    by_cases hm : mayP l
    · have HS := Lib.hid (sharesYes hv ho hm)
      have HV := Lib.hid hv
      obtain ⟨a, c, rfl⟩ := hv.form
      have hn8 := mayP_len hm
      have HM := Lib.hid hm
      obtain ⟨n, hn⟩ : ∃ n, n = l.length := ⟨_, rfl⟩
      rw [← hn] at g1 HS HV hn8 ⊢
      have HNN := Lib.hid hn
      have g8 : (n : Int) ≤ 8 := by omega
      clear hv ho h3 hn hm hn8
      go_enter Try.func14, Try.ntmps14
      go_wp2_with fail
      refine HS.out.mono ?_
      rintro e w1 ⟨g, rfl, _, hi, hb⟩
      have HI1 := Lib.hid hi
      have HB1 := Lib.hid hb
      clear hi hb HS
      go_wp2_with fail
      refine (numL 0 w1).mono ?_
      rintro e w2 ⟨rfl, rfl⟩
      go_wp2_with fail
      go_loopw [5] (fun x wr => ∃ i : Nat, i ≤ n ∧ x = .int .i64 i ∧ Hid (Below w1.heap.size w1 wr)) (fun x _ => n - (intOf x).toNat)
      case atStart => exact ⟨0, Nat.zero_le _, rfl, Below.refl _ _⟩
      case round =>
        obtain ⟨i, hi, rfl, HBI⟩ := hrel
        rcases Nat.lt_or_ge i n with hlt | hge
        · have g2 : (i : Int) < n := by omega
          obtain ⟨x, hx⟩ : ∃ x, l[i]? = some x := ⟨l[i]'(by have := HNN.out; omega), List.getElem?_eq_getElem _⟩
          obtain ⟨bb, oo, ha, _, hcell⟩ := (HV.out.later HB1.out).at hx
          have HX : Hid (∀ j u, (nxc x)[j]? = some u → w1.cell? ⟨bb, oo + i * 2 + j, none⟩ = some u) := by
            have : ∀ j u, (nxc x)[j]? = some u → w1.cell? ⟨bb, oo + i * 2 + j, none⟩ = some u := hcell
            exact this
          subst ha
          have HXI := Lib.hid (at0_get hx)
          obtain ⟨si, hsi⟩ : ∃ s, s = (shares (ws l)).getD i 0 := ⟨_, rfl⟩
          have HSI := Lib.hid hsi
          have hs2 : si ≤ 256 := by
            rw [hsi, ← shares_sum (ws_pos HM.out)]
            exact sum_le (by rw [shares_len, ws_len]; have := HNN.out; omega)
          have HS2 := Lib.hid hs2
          clear hcell hx hsi hs2
          go_wp2_with fail
          go_loopw [6] (fun x wr => ∃ k : Nat, k ≤ n ∧ x = .int .i64 k ∧ Hid (Below w1.heap.size w1 wr)) (fun x _ => n - (intOf x).toNat)
          case atStart => exact ⟨0, Nat.zero_le _, rfl, HBI.out⟩
          case round =>
            obtain ⟨k, hk, rfl, HBK⟩ := hrel
            rcases Nat.lt_or_ge k n with hlk | hgk
            · have g3 : (k : Int) < n := by omega
              obtain ⟨y, hy⟩ : ∃ y, l[k]? = some y := ⟨l[k]'(by have := HNN.out; omega), List.getElem?_eq_getElem _⟩
              obtain ⟨b3, o3, ha3, _, hcell3⟩ := (HV.out.later HB1.out).at hy
              cases ha3
              have hyk := at0_get hy
              have c1 := cell_later HBK.out (HX.out 1 _ rfl)
              have d1 := cell_later HBK.out (hcell3 1 _ rfl)
              have e0 := shAt (HI1.out.later HBK.out) (j := i) (by have := HNN.out; omega)
              have e1 := shAt (HI1.out.later HBK.out) (j := k) (by have := HNN.out; omega)
              rw [← HSI.out] at e0
              obtain ⟨sk, hsk⟩ : ∃ s, s = (shares (ws l)).getD k 0 := ⟨_, rfl⟩
              rw [← hsk] at e1
              have HF : Hid (x.2 = y.2 → si ≤ sk + 1 ∧ (i < k → sk ≤ si)) := by
                have : x.2 = y.2 → si ≤ sk + 1 ∧ (i < k → sk ≤ si) := fun he => by
                  have hi' : i < (ws l).length := by rw [ws_len]; have := HNN.out; omega
                  have hk' : k < (ws l).length := by rw [ws_len]; have := HNN.out; omega
                  have hw : (ws l).getD i 0 = (ws l).getD k 0 := by
                    rw [ws_at (by have := HNN.out; omega), ws_at (by have := HNN.out; omega), HXI.out, hyk, he]
                  rw [HSI.out, hsk]
                  exact ⟨shares_near hi' hk' hw, fun hik => shares_mono hi' hk' (.inr ⟨hw, hik⟩)⟩
                exact this
              have hsk2 : sk ≤ 256 := by
                rw [hsk, ← shares_sum (ws_pos HM.out)]
                exact sum_le (by rw [shares_len, ws_len]; have := HNN.out; omega)
              have g6 : (sk : Int) ≤ 256 := by omega
              obtain ⟨xp, xd⟩ := x
              obtain ⟨yp, yd⟩ := y
              simp only at c1 d1 HF
              clear hcell3 hy hyk hsk hsk2
              by_cases he : xd = yd
              · obtain ⟨h1, h2⟩ := HF.out he
                have t0 : (xd == yd) = true := by simp [he]
                have t1 : decide (sk + 1 < si) = false := decide_eq_false (by omega)
                have t2 : decide ((sk : Int) + 1 < (si : Int)) = false := decide_eq_false (by omega)
                by_cases hik : i < k
                · have t3 : decide (i < k) = true := decide_eq_true hik
                  have t4 : decide ((i : Int) < (k : Int)) = true := decide_eq_true (by omega)
                  have h3 := h2 hik
                  have t5 : decide (si < sk) = false := decide_eq_false (by omega)
                  have t6 : decide ((si : Int) < (sk : Int)) = false := decide_eq_false (by omega)
                  clear h1 h2 h3 hik he HF
                  go_wp2_with fail
                  go_quiet (fail)
                  have HB2 := Lib.hid (below_drewN HBK.out nq)
                  go_wp2_with fail
                  go_roundw
                  case rel => exact ⟨k + 1, by omega, by go_num, HB2.out⟩
                  case measure => simp [intOf]; omega
                · have t3 : decide (i < k) = false := decide_eq_false hik
                  have t4 : decide ((i : Int) < (k : Int)) = false := decide_eq_false (by omega)
                  clear h1 h2 hik he HF
                  go_wp2_with fail
                  go_quiet (fail)
                  have HB2 := Lib.hid (below_drewN HBK.out nq)
                  go_wp2_with fail
                  go_roundw
                  case rel => exact ⟨k + 1, by omega, by go_num, HB2.out⟩
                  case measure => simp [intOf]; omega
              · have t0 : (xd == yd) = false := by simp [he]
                clear he HF
                go_wp2_with fail
                go_quiet (fail)
                have HB2 := Lib.hid (below_drewN HBK.out nq)
                go_wp2_with fail
                go_roundw
                case rel => exact ⟨k + 1, by omega, by go_num, HB2.out⟩
                case measure => simp [intOf]; omega
            · obtain rfl : k = n := by omega
              have q0 : ¬ (k : Int) < k := by omega
              have e0 := shAt (HI1.out.later HBK.out) (j := i) (by have := HNN.out; omega)
              rw [← HSI.out] at e0
              have g6 : (si : Int) ≤ 256 := by have := HS2.out; omega
              have HON : Hid (k = 1 → si = 256) := by
                have : k = 1 → si = 256 := fun h1 => by
                  have hl : (shares (ws l)).length = 1 := by rw [shares_len, ws_len, ← HNN.out, h1]
                  have hs := shares_sum (ws_pos HM.out)
                  have hi0 : i = 0 := by omega
                  rw [HSI.out, hi0]
                  match hsh : shares (ws l), hl with
                  | [z], _ =>
                    rw [hsh] at hs
                    simpa using hs
                exact this
              by_cases h1 : k = 1
              · have h2 := HON.out h1
                have t4 : ((si : Int) != 256) = false := by rw [h2]; decide
                have t5 : ((k : Int) == 1) = true := by rw [h1]; decide
                have t6 : (k == 1) = true := by rw [h1]; decide
                clear h1 h2 HON
                go_wp2_with fail
                go_roundw
                case rel => exact ⟨i + 1, by omega, by go_num, HBK.out⟩
                case measure => simp [intOf]; omega
              · have t5 : ((k : Int) == 1) = false := beq_eq_false_iff_ne.2 (by omega)
                have t6 : (k == 1) = false := beq_eq_false_iff_ne.2 h1
                clear h1 HON
                go_wp2_with fail
                go_roundw
                case rel => exact ⟨i + 1, by omega, by go_num, HBK.out⟩
                case measure => simp [intOf]; omega
        · obtain rfl : i = n := by omega
          have q0 : ¬ (i : Int) < i := by omega
          go_wp2_with fail
          refine (HK.out _).mono ?_
          rintro e w3 ⟨rfl, hb⟩
          have HB3 := Lib.hid (below_of (HB1.out.trans (HBI.out.mono HB1.out.size)) hb)
          clear hb
          go_wp2_with fail
          go_ret
          exact ⟨rfl, HB3.out⟩
    · have HS := Lib.hid (sharesNo hv (by omega) ho hm)
      obtain ⟨a, c, rfl⟩ := hv.form
      obtain ⟨n, hn⟩ : ∃ n, n = l.length := ⟨_, rfl⟩
      rw [← hn] at g1 HS ⊢
      clear hv ho h3 hn hm
      go_enter Try.func14, Try.ntmps14
      go_wp2_with fail
      refine HS.out.mono ?_
      rintro e w1 ⟨rfl, hb⟩
      have HB1 := Lib.hid hb
      clear hb HS
      go_wp2_with fail
      refine (numL 2 w1).mono ?_
      rintro e w2 ⟨rfl, rfl⟩
      go_wp2_with fail
      refine (HK.out _).mono ?_
      rintro e w3 ⟨rfl, hb⟩
      have HB3 := Lib.hid (below_of HB1.out hb)
      clear hb
      go_wp2_with fail
      go_ret
      exact ⟨rfl, HB3.out⟩
end Go.Proofs.Ytdjhgahdiggahaa

namespace Go.Proofs.Ytdjhgahdiggahaa.splitAlike
open Go.ChangeShapes Go.WideShapes Go.ChangeAt Go.RowKit

set_option maxRecDepth 100000 in
theorem lifted (os : Os) (started : os.Started) (H : Type) (enc : TypeId × Value → H) :
    ReturnsInHanded {} Try.checked os 14 .any (Rows.splitAlikeSpec.pre6 enc Try.prog Try.f14 Rows.splitAlikeRow.domain false) (Rows.splitAlikeSpec.post enc Try.prog Try.f14 false true false false) := by
  refine returnsInHanded_of_change (C := Try.checked) own started (by kernel_rfl) Try.func14
    (ChangeSpec.witness6 (enc := enc) (C := Try.checked) false ⟨#[], #[.slice none 0 0], []⟩ 8 (by kernel_rfl) (by kernel_rfl) (by kernel_rfl) (by kernel_rfl)) ?_
  intro W base args ds gs before hval0 hW hcnd _
  have hval : ∀ (j : Nat) t v, Try.f14.params[j]? = some t → args[j]? = some v → Value.okWide Try.prog W .any base t v := hval0
  have hW' := hW
  obtain ⟨p, q, hA0, hV, rfl, hfz, hnd⟩ := hW
  have hA : DataW.TrodAll enc Try.prog W 0 (fun _ => true) true Try.f14.params.toList args.toList ds p := hA0
  rw [Try.params14] at hA hval
  obtain ⟨v0, vs0, d0, ds0, p0, q0, hargs, rfl, rfl, h0, r0⟩ := trodAll_cons hA
  obtain ⟨rfl, rfl, rfl⟩ := trodAll_nil r0
  obtain rfl : args = #[v0] := by cases args; simp_all
  obtain ⟨rfl, rfl⟩ := trodVars_none hV
  have k0 := h0
  have lt0 : ∀ x ∈ p0, x.block < W.heap.size := by obtain ⟨m, hm⟩ := k0; exact DataW.trod_lt m _ _ _ hm
  obtain ⟨l0, hb0, hl0, hs0⟩ := open_nexts (hval 0 69 v0 rfl rfl) h0
  refine (splitAlike_walk v0 l0 W hb0 hl0 hs0).mono fun e W' ⟨he, bel⟩ => ?_
  subst he
  exact ⟨_, rfl, _, _, _, [], _, [], hW', trodAll_mk1 (shut_bool Try.underlying4 _), (trodAll_cons_mk (Below.trod laidOut (by kernel_rfl) (of_decide_eq_true (by kernel_rfl)) k0 bel lt0) trodAll_mk0), rfl, bel.frame _, fun h => by cases h⟩

/-- The statement. -/
theorem said : Rows.SplitAlikeSaid :=
  OpenClaim.holds_of_wide 14 Try.f14 rfl rfl rfl rfl rfl rfl rfl ⟨rfl, rfl, rfl, rfl, rfl⟩ rfl rfl rfl rfl rfl (by kernel_rfl) Try.func14 (by kernel_rfl)
    (of_decide_eq_true (by kernel_rfl)) (by unfold Func.isWrapper; first | (rw [if_pos (by decide +kernel)]; kernel_rfl) | (rw [if_neg (by decide +kernel)]; exact ⟨rfl, rfl⟩))
    (fun os started H enc _ => lifted os started H enc)
#print axioms said
end Go.Proofs.Ytdjhgahdiggahaa.splitAlike
