/- SplitShares: for every input the law's call returns true, and each argument reads behind it as before.
   SplitShares: the law's walk, whatever the size.
   SplitShares.
   An array of eight numbers held against another one; a map held against nil.
   SplitAlike: the law's walk; a slice of ways, opened. -/
import Derived.ChangeKeysEq
import Derived.WalkSpells
import Derived.Test.YtdjhgahdiggahaaZ01
import Derived.Test.YtdjhgahdiggahaaZ08
import Derived.Test.YtdjhgahdiggahaaZ09

set_option linter.unusedSimpArgs false
set_option linter.unusedVariables false
namespace Go.Proofs.Ytdjhgahdiggahaa
open Go.RowKit
attribute [local go_sem ↓] Go.wp_at_zero Go.wp_at_succ
open Sp

section
open Go.ChangeShapes Go.WideShapes Go.ChangeAt Go.RowKit Go.Joins Go.Deep
set_option maxRecDepth 100000 in
theorem nx_cells {H : Type} {enc : TypeId × Value → H} {W : World} {bseS : Nat} {sp : Nat → Bool} {held : Bool} {n : Nat} {cs : List Value} {y : DataW H × List MemPlace} (h : DataW.trod enc Try.prog W bseS sp held n 76 cs = some y) (hl : cs.length = 2) :
    ∃ p : WyN, cs = nxc p ∧ NxOk p := by
  have k1 : Try.prog.cellsOf 3 = 1 := by kernel_rfl
  match cs, hl with
  | [c0, c1], _ =>
    obtain ⟨zs, m, _, hz, _, hzl, hgz⟩ := DataW.trod_struct Try.underlying76 h
    match zs, hzl with
    | [z0, z1], _ =>
      have g0 : DataW.trod enc Try.prog W bseS sp held m 3 [c0] = some z0 := by simpa [k1] using hgz 0 _ rfl
      have g1 : DataW.trod enc Try.prog W bseS sp held m 3 [c1] = some z1 := by simpa [k1] using hgz 1 _ rfl
      obtain ⟨a0, e0, _, w0⟩ := DataW.trod_int Try.underlying3 g0
      obtain ⟨a1, e1, _, w1⟩ := DataW.trod_int Try.underlying3 g1
      simp only [List.cons.injEq, and_true] at e0 e1
      subst e0 e1
      have b0 := bounds_i64 w0
      have b1 := bounds_i64 w1
      exact ⟨(a0, a1), rfl, ⟨b0.1, b0.2, b1.1, b1.2⟩⟩
set_option maxRecDepth 100000 in
theorem open_nexts {H : Type} {enc : TypeId × Value → H} {W : World} {bseS : Nat} {v : Value} {d : DataW H} {p : List MemPlace} (hv : Value.okWide Try.prog W .any bseS 69 v) (h : DataW.Trod enc Try.prog W 0 (fun _ => true) true 69 v d p) :
    ∃ L : List WyN, Nxs W v L ∧ L.length ≤ 9223372036854775807 ∧ ∀ x ∈ L, NxOk x :=
  open_rds Try.underlying69 (by kernel_rfl) (by decide) NxOk (fun h hl => nx_cells h hl) hv h
end
set_option maxRecDepth 100000 in
theorem shAt {w : World} {g : Nat} {l : List WyN} (h : IB g (zil (shares (ws l))) w) {j : Nat} (hj : j < l.length) : w.cell? ⟨g, j, none⟩ = some (.int .i64 (((shares (ws l)).getD j 0 : Nat) : Int)) := ib_at h (by rw [shares_len, ws_len]; exact hj)
set_option maxRecDepth 100000 in
set_option maxHeartbeats 8000000 in
theorem splitAlike_walk (v : Value) (l : List WyN) (w : World) (hv : Nxs w v l) (_ : l.length ≤ 9223372036854775807) (ho : ∀ n ∈ l, NxOk n) :
    Calls Try.prog 14 #[v] w fun e w' => e = .returned (.bool true) ∧ Below w.heap.size w w' := by
  have HK := Lib.hid (fun W => knownL W)
  by_cases h3 : 300 < l.length
  · obtain ⟨a, c, rfl⟩ := hv.form
    have g1 : (300 : Int) < (l.length : Int) := by omega
    obtain ⟨n, hn⟩ : ∃ n, n = l.length := ⟨_, rfl⟩
    rw [← hn] at g1 ⊢
    clear hv ho h3 hn
    go_enter Try.func14, Try.ntmps14
    go_wp2_with fail
    refine (HK.out _).mono ?_
    rintro e w1 ⟨rfl, hb⟩
    have HB := Lib.hid hb
    clear hb
    go_wp2_with fail
    go_ret
    exact ⟨rfl, HB.out⟩
  · have g1 : ¬ (300 : Int) < (l.length : Int) := by omega
    by_cases hm : mayP l
    · have HS := Lib.hid (sharesYes hv ho hm)
      have HV := Lib.hid hv
      obtain ⟨a, c, rfl⟩ := hv.form
      have hn8 := mayP_len hm
      have HM := Lib.hid hm
      obtain ⟨n, hn⟩ : ∃ n, n = l.length := ⟨_, rfl⟩
      rw [← hn] at g1 HS HV hn8 ⊢
      have HNN := Lib.hid hn
      have g8 : (n : Int) ≤ 8 := by omega
      clear hv ho h3 hn hm hn8
      go_enter Try.func14, Try.ntmps14
      go_wp2_with fail
      refine HS.out.mono ?_
      rintro e w1 ⟨g, rfl, _, hi, hb⟩
      have HI1 := Lib.hid hi
      have HB1 := Lib.hid hb
      clear hi hb HS
      go_wp2_with fail
      refine (numL 0 w1).mono ?_
      rintro e w2 ⟨rfl, rfl⟩
      go_wp2_with fail
      go_loopw [5] (fun x wr => ∃ i : Nat, i ≤ n ∧ x = .int .i64 i ∧ Hid (Below w1.heap.size w1 wr)) (fun x _ => n - (intOf x).toNat)
      case atStart => exact ⟨0, Nat.zero_le _, rfl, Below.refl _ _⟩
      case round =>
        obtain ⟨i, hi, rfl, HBI⟩ := hrel
        rcases Nat.lt_or_ge i n with hlt | hge
        · have g2 : (i : Int) < n := by omega
          obtain ⟨x, hx⟩ : ∃ x, l[i]? = some x := ⟨l[i]'(by have := HNN.out; omega), List.getElem?_eq_getElem _⟩
          obtain ⟨bb, oo, ha, _, hcell⟩ := (HV.out.later HB1.out).at hx
          have HX : Hid (∀ j u, (nxc x)[j]? = some u → w1.cell? ⟨bb, oo + i * 2 + j, none⟩ = some u) := by
            have : ∀ j u, (nxc x)[j]? = some u → w1.cell? ⟨bb, oo + i * 2 + j, none⟩ = some u := hcell
            exact this
          subst ha
          have HXI := Lib.hid (wyAt_get hx)
          obtain ⟨si, hsi⟩ : ∃ s, s = (shares (ws l)).getD i 0 := ⟨_, rfl⟩
          have HSI := Lib.hid hsi
          have hs2 : si ≤ 256 := by
            rw [hsi, ← shares_sum (ws_pos HM.out)]
            exact sum_le (by rw [shares_len, ws_len]; have := HNN.out; omega)
          have HS2 := Lib.hid hs2
          clear hcell hx hsi hs2
          go_wp2_with fail
          go_loopw [6] (fun x wr => ∃ k : Nat, k ≤ n ∧ x = .int .i64 k ∧ Hid (Below w1.heap.size w1 wr)) (fun x _ => n - (intOf x).toNat)
          case atStart => exact ⟨0, Nat.zero_le _, rfl, HBI.out⟩
          case round =>
            obtain ⟨k, hk, rfl, HBK⟩ := hrel
            rcases Nat.lt_or_ge k n with hlk | hgk
            · have g3 : (k : Int) < n := by omega
              obtain ⟨y, hy⟩ : ∃ y, l[k]? = some y := ⟨l[k]'(by have := HNN.out; omega), List.getElem?_eq_getElem _⟩
              obtain ⟨b3, o3, ha3, _, hcell3⟩ := (HV.out.later HB1.out).at hy
              cases ha3
              have hyk := wyAt_get hy
              have c1 := cell_later HBK.out (HX.out 1 _ rfl)
              have d1 := cell_later HBK.out (hcell3 1 _ rfl)
              have e0 := shAt (HI1.out.later HBK.out) (j := i) (by have := HNN.out; omega)
              have e1 := shAt (HI1.out.later HBK.out) (j := k) (by have := HNN.out; omega)
              rw [← HSI.out] at e0
              obtain ⟨sk, hsk⟩ : ∃ s, s = (shares (ws l)).getD k 0 := ⟨_, rfl⟩
              rw [← hsk] at e1
              have HF : Hid (x.2 = y.2 → si ≤ sk + 1 ∧ (i < k → sk ≤ si)) := by
                have : x.2 = y.2 → si ≤ sk + 1 ∧ (i < k → sk ≤ si) := fun he => by
                  have hi' : i < (ws l).length := by rw [ws_len]; have := HNN.out; omega
                  have hk' : k < (ws l).length := by rw [ws_len]; have := HNN.out; omega
                  have hw : (ws l).getD i 0 = (ws l).getD k 0 := by
                    rw [ws_at (by have := HNN.out; omega), ws_at (by have := HNN.out; omega), HXI.out, hyk, he]
                  rw [HSI.out, hsk]
                  exact ⟨shares_near hi' hk' hw, fun hik => shares_mono hi' hk' (.inr ⟨hw, hik⟩)⟩
                exact this
              have hsk2 : sk ≤ 256 := by
                rw [hsk, ← shares_sum (ws_pos HM.out)]
                exact sum_le (by rw [shares_len, ws_len]; have := HNN.out; omega)
              have g6 : (sk : Int) ≤ 256 := by omega
              obtain ⟨xp, xd⟩ := x
              obtain ⟨yp, yd⟩ := y
              simp only at c1 d1 HF
              clear hcell3 hy hyk hsk hsk2
              by_cases he : xd = yd
              · obtain ⟨h1, h2⟩ := HF.out he
                have t0 : (xd == yd) = true := by simp [he]
                have t1 : decide (sk + 1 < si) = false := decide_eq_false (by omega)
                have t2 : decide ((sk : Int) + 1 < (si : Int)) = false := decide_eq_false (by omega)
                by_cases hik : i < k
                · have t3 : decide (i < k) = true := decide_eq_true hik
                  have t4 : decide ((i : Int) < (k : Int)) = true := decide_eq_true (by omega)
                  have h3 := h2 hik
                  have t5 : decide (si < sk) = false := decide_eq_false (by omega)
                  have t6 : decide ((si : Int) < (sk : Int)) = false := decide_eq_false (by omega)
                  clear h1 h2 h3 hik he HF
                  go_wp2_with fail
                  go_quiet (fail)
                  have HB2 := Lib.hid (below_drewN HBK.out nq)
                  go_wp2_with fail
                  go_roundw
                  case rel => exact ⟨k + 1, by omega, by go_num, HB2.out⟩
                  case measure => simp [intOf]; omega
                · have t3 : decide (i < k) = false := decide_eq_false hik
                  have t4 : decide ((i : Int) < (k : Int)) = false := decide_eq_false (by omega)
                  clear h1 h2 hik he HF
                  go_wp2_with fail
                  go_quiet (fail)
                  have HB2 := Lib.hid (below_drewN HBK.out nq)
                  go_wp2_with fail
                  go_roundw
                  case rel => exact ⟨k + 1, by omega, by go_num, HB2.out⟩
                  case measure => simp [intOf]; omega
              · have t0 : (xd == yd) = false := by simp [he]
                clear he HF
                go_wp2_with fail
                go_quiet (fail)
                have HB2 := Lib.hid (below_drewN HBK.out nq)
                go_wp2_with fail
                go_roundw
                case rel => exact ⟨k + 1, by omega, by go_num, HB2.out⟩
                case measure => simp [intOf]; omega
            · obtain rfl : k = n := by omega
              have q0 : ¬ (k : Int) < k := by omega
              have e0 := shAt (HI1.out.later HBK.out) (j := i) (by have := HNN.out; omega)
              rw [← HSI.out] at e0
              have g6 : (si : Int) ≤ 256 := by have := HS2.out; omega
              have HON : Hid (k = 1 → si = 256) := by
                have : k = 1 → si = 256 := fun h1 => by
                  have hl : (shares (ws l)).length = 1 := by rw [shares_len, ws_len, ← HNN.out, h1]
                  have hs := shares_sum (ws_pos HM.out)
                  have hi0 : i = 0 := by omega
                  rw [HSI.out, hi0]
                  match hsh : shares (ws l), hl with
                  | [z], _ =>
                    rw [hsh] at hs
                    simpa using hs
                exact this
              by_cases h1 : k = 1
              · have h2 := HON.out h1
                have t4 : ((si : Int) != 256) = false := by rw [h2]; decide
                have t5 : ((k : Int) == 1) = true := by rw [h1]; decide
                have t6 : (k == 1) = true := by rw [h1]; decide
                clear h1 h2 HON
                go_wp2_with fail
                go_roundw
                case rel => exact ⟨i + 1, by omega, by go_num, HBK.out⟩
                case measure => simp [intOf]; omega
              · have t5 : ((k : Int) == 1) = false := beq_eq_false_iff_ne.2 (by omega)
                have t6 : (k == 1) = false := beq_eq_false_iff_ne.2 h1
                clear h1 HON
                go_wp2_with fail
                go_roundw
                case rel => exact ⟨i + 1, by omega, by go_num, HBK.out⟩
                case measure => simp [intOf]; omega
        · obtain rfl : i = n := by omega
          have q0 : ¬ (i : Int) < i := by omega
          go_wp2_with fail
          refine (HK.out _).mono ?_
          rintro e w3 ⟨rfl, hb⟩
          have HB3 := Lib.hid (below_of (HB1.out.trans (HBI.out.mono HB1.out.size)) hb)
          clear hb
          go_wp2_with fail
          go_ret
          exact ⟨rfl, HB3.out⟩
    · have HS := Lib.hid (sharesNo hv (by omega) ho hm)
      obtain ⟨a, c, rfl⟩ := hv.form
      obtain ⟨n, hn⟩ : ∃ n, n = l.length := ⟨_, rfl⟩
      rw [← hn] at g1 HS ⊢
      clear hv ho h3 hn hm
      go_enter Try.func14, Try.ntmps14
      go_wp2_with fail
      refine HS.out.mono ?_
      rintro e w1 ⟨rfl, hb⟩
      have HB1 := Lib.hid hb
      clear hb HS
      go_wp2_with fail
      refine (numL 2 w1).mono ?_
      rintro e w2 ⟨rfl, rfl⟩
      go_wp2_with fail
      refine (HK.out _).mono ?_
      rintro e w3 ⟨rfl, hb⟩
      have HB3 := Lib.hid (below_of HB1.out hb)
      clear hb
      go_wp2_with fail
      go_ret
      exact ⟨rfl, HB3.out⟩
end Go.Proofs.Ytdjhgahdiggahaa

namespace Go.Proofs.Ytdjhgahdiggahaa
open Go.RowKit

set_option maxRecDepth 100000 in
theorem int_eq (d : Nat) (a b : Int) (W : World) : (Op.equalIn (d + 1) 3 (.int .i64 a) (.int .i64 b)).run Try.prog W = .ok (a == b) W := by
  simp [Op.equalIn, run_underlying Try.underlying3]
set_option maxRecDepth 100000 in
theorem int_part (x : Value) (xs : Array Value) (j : Nat) (h : xs[j]? = some x) (W : World) : (part 3 xs j).run Try.prog W = .ok x W := by
  simp [part, go_sem, h]
def all8 (p : Nat → Bool) : Bool := p 0 && (p 1 && (p 2 && (p 3 && (p 4 && (p 5 && (p 6 && p 7))))))
set_option maxRecDepth 100000 in
theorem eqA8 (a0 a1 a2 a3 a4 a5 a6 a7 b0 b1 b2 b3 b4 b5 b6 b7 : Int) (W : World) :
    (Op.equalIn 10000 49 (.agg #[.int .i64 a0, .int .i64 a1, .int .i64 a2, .int .i64 a3, .int .i64 a4, .int .i64 a5, .int .i64 a6, .int .i64 a7]) (.agg #[.int .i64 b0, .int .i64 b1, .int .i64 b2, .int .i64 b3, .int .i64 b4, .int .i64 b5, .int .i64 b6, .int .i64 b7])).run Try.prog W
      = .ok ((a0 == b0) && ((a1 == b1) && ((a2 == b2) && ((a3 == b3) && ((a4 == b4) && ((a5 == b5) && ((a6 == b6) && (a7 == b7)))))))) W := by
  obtain ⟨i, hi⟩ : ∃ i, (Try.prog).info? 3 = some i := by
    have : ((Try.prog).info? 3).isSome = true := by kernel_rfl
    exact Option.isSome_iff_exists.1 this
  have hc : (Try.prog).cellsOf 3 = 1 := by kernel_rfl
  rw [run_equalIn_array W 9999 _ _ Try.underlying49 hi, hc]
  simp only [List.range, List.range.loop, Op.eqItems, Nat.zero_mul, Nat.mul_one, Sem.run_bind]
  have hq : ∀ (a b : Int) (W : World), (Op.equalIn 9999 3 (.int .i64 a) (.int .i64 b)).run Try.prog W = .ok (a == b) W := fun a b W => int_eq 9998 a b W
  simp only [part, hc]
  simp [go_sem, hq]
  by_cases h0 : a0 = b0
  case neg => simp [h0]
  by_cases h1 : a1 = b1
  case neg => simp [h0, h1]
  by_cases h2 : a2 = b2
  case neg => simp [h0, h1, h2]
  by_cases h3 : a3 = b3
  case neg => simp [h0, h1, h2, h3]
  by_cases h4 : a4 = b4
  case neg => simp [h0, h1, h2, h3, h4]
  by_cases h5 : a5 = b5
  case neg => simp [h0, h1, h2, h3, h4, h5]
  by_cases h6 : a6 = b6
  case neg => simp [h0, h1, h2, h3, h4, h5, h6]
  by_cases h7 : a7 = b7
  case neg => simp [h0, h1, h2, h3, h4, h5, h6, h7]
  simp [h0, h1, h2, h3, h4, h5, h6, h7]
set_option maxRecDepth 100000 in
theorem neA8 (a0 a1 a2 a3 a4 a5 a6 a7 b0 b1 b2 b3 b4 b5 b6 b7 : Int) (W : World) :
    (binOp .neq 49 (.agg #[.int .i64 a0, .int .i64 a1, .int .i64 a2, .int .i64 a3, .int .i64 a4, .int .i64 a5, .int .i64 a6, .int .i64 a7]) (.agg #[.int .i64 b0, .int .i64 b1, .int .i64 b2, .int .i64 b3, .int .i64 b4, .int .i64 b5, .int .i64 b6, .int .i64 b7])).run Try.prog W
      = .ok (.bool (!((a0 == b0) && ((a1 == b1) && ((a2 == b2) && ((a3 == b3) && ((a4 == b4) && ((a5 == b5) && ((a6 == b6) && (a7 == b7))))))))))  W := by
  simp only [binOp]
  simp [Op.equal, Op.maxDepth, eqA8]
set_option maxRecDepth 100000 in
theorem eqMap (r : Option Nat) (W : World) : (binOp .eql 79 (.map r) (.map none)).run Try.prog W = .ok (.bool r.isNone) W := by
  simp only [binOp]
  simp [Op.equal, Op.maxDepth, run_equalIn_map_nil W 9999 79 40 111 r Try.underlying79]
end Go.Proofs.Ytdjhgahdiggahaa

namespace Go.Proofs.Ytdjhgahdiggahaa
open Go.RowKit
attribute [local go_sem ↓] Go.wp_at_zero Go.wp_at_succ
open Sp

set_option maxRecDepth 100000 in
theorem eqItems_same (T : List Int) (hT : T.length = 256) (W : World) : ∀ is : List Nat, (∀ j ∈ is, j < 256) → (Op.eqItems 9999 3 1 (iv T).toArray (iv T).toArray is).run Try.prog W = .ok true W
  | [], _ => by simp [Op.eqItems]
  | j :: is, h => by
    have hj := h j (by simp)
    have ha : (iv T)[j]? = some (.int .i64 (T[j]'(by omega))) := iv_at2 (List.getElem?_eq_getElem _)
    have hp := int_part _ (iv T).toArray (j * 1) (by rw [Nat.mul_one, List.getElem?_toArray]; exact ha) W
    have hr := eqItems_same T hT W is (fun k hk => h k (by simp [hk]))
    simp only [Op.eqItems, Sem.run_bind, hp, Result.andThen_ok, int_eq 9998, beq_self_eq_true, Bool.not_true]
    simpa using hr
set_option maxRecDepth 100000 in
theorem eqAV {T : List Int} (hT : T.length = 256) (W : World) : (Op.equalIn 10000 86 (.agg (iv T).toArray) (.agg (iv T).toArray)).run Try.prog W = .ok true W := by
  obtain ⟨i, hi⟩ : ∃ i, (Try.prog).info? 3 = some i := by
    have : ((Try.prog).info? 3).isSome = true := by kernel_rfl
    exact Option.isSome_iff_exists.1 this
  have hc : (Try.prog).cellsOf 3 = 1 := by kernel_rfl
  rw [run_equalIn_array W 9999 _ _ Try.underlying86 hi, hc]
  exact eqItems_same T hT W _ (fun j hj => List.mem_range.1 hj)
set_option maxRecDepth 100000 in
theorem ab_new {w : World} {T : List Int} (hT : T.length = 256) : ∃ w4, (storeCells ⟨w.heap.size, 0, none⟩ (iv T)).run Try.prog (w.alloc (.cells (iv (List.replicate 256 0)).toArray 86)) = .ok () w4 ∧ AB w.heap.size T w4 ∧ Below w.heap.size w w4 := by
  have h0 : AB w.heap.size (List.replicate 256 0) (w.alloc (.cells (iv (List.replicate 256 0)).toArray 86)) := BlkAt.new w _
  obtain ⟨h1, h2⟩ := ab_store h0 List.length_replicate hT
  exact ⟨_, h1, h2, below_row (ba1 _ _) (Nat.le_refl _) _⟩
set_option maxHeartbeats 8000000 in
set_option maxRecDepth 100000 in
theorem splitSharesIn (v : Value) (l : List WyN) (h : Nat) (w : World) (hh : h < 4294967296) (hv : Nxs w v l) (ho : ∀ n ∈ l, NxOk n) (h3 : l.length ≤ 300) :
    Calls Try.prog 10 #[v, .int .u32 (h : Int)] w fun e w' => e = .returned (.bool true) ∧ Below w.heap.size w w' := by
  have HV := Lib.hid hv
  have HO : Hid (∀ n ∈ l, NxOk n) := by
    have : ∀ n ∈ l, NxOk n := ho
    exact this
  have HK := Lib.hid (fun W => knownL W)
  have HWL := Lib.hid (fun p d W => weightL p d W)
  have HWR := Lib.hid (fun p d W => weightR p d W)
  obtain ⟨a, c, rfl⟩ := hv.form
  obtain ⟨n, hn⟩ : ∃ n, n = l.length := ⟨_, rfl⟩
  have g1 : (n : Int) ≤ 300 := by omega
  rw [← hn] at HV ⊢
  have HNN := Lib.hid hn
  have HHH := Lib.hid hh
  clear hv ho h3 hn hh
  go_enter Try.func10, Try.ntmps10
  go_wp2_with fail
  go_loopw [5] (fun x wr => ∃ i : Nat, i ≤ n ∧ x = .int .i64 i ∧ Hid (Below w.heap.size w wr)) (fun x _ => n - (intOf x).toNat)
  case atStart => exact ⟨0, Nat.zero_le _, rfl, Below.refl _ _⟩
  case round =>
    obtain ⟨i, hi, rfl, HB⟩ := hrel
    rcases Nat.lt_or_ge i n with hlt | hge
    · have g2 : (i : Int) < n := by omega
      obtain ⟨x, hx⟩ : ∃ x, l[i]? = some x := ⟨l[i]'(by have := HNN.out; omega), List.getElem?_eq_getElem _⟩
      obtain ⟨bb, oo, ha, _, hcell⟩ := HV.out.at hx
      obtain ⟨xp, xd⟩ := x
      have c0 := hcell 0 _ rfl
      have c1 := hcell 1 _ rfl
      simp only [Nat.add_zero] at c0
      simp only [nxc] at c0 c1
      subst ha
      have HC : Hid (∀ W, Below w.heap.size w W → W.cell? ⟨bb, oo + i * 2, none⟩ = some (.int .i64 xp) ∧ W.cell? ⟨bb, oo + i * 2 + 1, none⟩ = some (.int .i64 xd)) := by
        have : ∀ W, Below w.heap.size w W → W.cell? ⟨bb, oo + i * 2, none⟩ = some (.int .i64 xp) ∧ W.cell? ⟨bb, oo + i * 2 + 1, none⟩ = some (.int .i64 xd) := fun W hW => ⟨cell_later hW c0, cell_later hW c1⟩
        exact this
      have HL := Lib.hid (HWL.out xp xd)
      have HR := Lib.hid (HWR.out xp xd)
      obtain ⟨wx, hwx⟩ : ∃ wx : Int, wx = (wt xd : Nat) := ⟨_, rfl⟩
      rw [← hwx] at HL HR
      have t0 : (wx != wx) = false := by simp
      clear hcell hx c0 c1 hwx
      go_wp2_with fail
      (refine wp_region_held_drew (S := (fun w' => Below w.heap.size w w')) (by kernel_rfl) ?_ (fun hHeld => ?_); (focus ((try dsimp only); (exact HB.out.drew))))
      (refine wpAnyH_take (i := 0) (v := ?_) rfl (by kernel_rfl) (by kernel_rfl) (by kernel_rfl) (fun _ _ _ h => h) (Or.inl ⟨by rfl, ?_⟩) hHeld ?_; rotate_left; (focus (intro w hSw; (try dsimp only at hSw); go_simp; try with_reducible rfl)); (try simp only [Act.put, List.setIfInBounds_toArray, List.set_cons_zero, List.set_cons_succ, List.getElem_toArray, List.getElem_cons_zero])); (refine wpAnyH_take (i := 1) (v := ?_) rfl (by kernel_rfl) (by kernel_rfl) (by kernel_rfl) (fun _ _ _ h => h) (Or.inl ⟨by rfl, ?_⟩) hHeld ?_; rotate_left; (focus (intro w hSw; (try dsimp only at hSw); go_simp; try with_reducible rfl)); (try simp only [Act.put, List.setIfInBounds_toArray, List.set_cons_zero, List.set_cons_succ, List.getElem_toArray, List.getElem_cons_zero, List.getElem_cons_succ])); (refine wpAnyH_take (i := 2) (v := ?_) rfl (by kernel_rfl) (by kernel_rfl) (by kernel_rfl) (fun _ _ _ h => h) (Or.inl ⟨by rfl, ?_⟩) hHeld ?_; rotate_left; (focus (intro w hSw; (try dsimp only at hSw); go_simp; try with_reducible rfl)); (try simp only [Act.put, List.setIfInBounds_toArray, List.set_cons_zero, List.set_cons_succ, List.getElem_toArray, List.getElem_cons_zero, List.getElem_cons_succ]))
      (refine wpAnyH_take (i := 3) (v := ?_) rfl (by kernel_rfl) (by kernel_rfl) (by kernel_rfl) (fun _ _ _ h => h) (Or.inl ⟨by rfl, ?_⟩) hHeld ?_; rotate_left; (focus (intro w hSw; (try dsimp only at hSw); go_simp; (have cc := HC.out _ hSw; have c0 := cc.1; have c1 := cc.2; clear cc; go_simp; try with_reducible rfl))); (try simp only [Act.put, List.setIfInBounds_toArray, List.set_cons_zero, List.set_cons_succ, List.getElem_toArray, List.getElem_cons_zero, List.getElem_cons_succ]))
      (refine wpAnyH_take (i := 5) (v := ?_) rfl (by kernel_rfl) (by kernel_rfl) (by kernel_rfl) (fun _ _ _ h => h) (Or.inl ⟨by rfl, ?_⟩) hHeld ?_; rotate_left; (focus (intro w hSw; (try dsimp only at hSw); go_simp; try with_reducible rfl)); (try simp only [Act.put, List.setIfInBounds_toArray, List.set_cons_zero, List.set_cons_succ, List.getElem_toArray, List.getElem_cons_zero, List.getElem_cons_succ])); (refine wpAnyH_take (i := 6) (v := ?_) rfl (by kernel_rfl) (by kernel_rfl) (by kernel_rfl) (fun _ _ _ h => h) (Or.inl ⟨by rfl, ?_⟩) hHeld ?_; rotate_left; (focus (intro w hSw; (try dsimp only at hSw); go_simp; try with_reducible rfl)); (try simp only [Act.put, List.setIfInBounds_toArray, List.set_cons_zero, List.set_cons_succ, List.getElem_toArray, List.getElem_cons_zero, List.getElem_cons_succ])); (refine wpAnyH_take (i := 7) (v := ?_) rfl (by kernel_rfl) (by kernel_rfl) (by kernel_rfl) (fun _ _ _ h => h) (Or.inl ⟨by rfl, ?_⟩) hHeld ?_; rotate_left; (focus (intro w hSw; (try dsimp only at hSw); go_simp; try with_reducible rfl)); (try simp only [Act.put, List.setIfInBounds_toArray, List.set_cons_zero, List.set_cons_succ, List.getElem_toArray, List.getElem_cons_zero, List.getElem_cons_succ]))
      (refine wpAnyH_take (i := 8) (v := ?_) rfl (by kernel_rfl) (by kernel_rfl) (by kernel_rfl) (fun _ _ _ h => h) (Or.inl ⟨by rfl, ?_⟩) hHeld ?_; rotate_left; (focus (intro w hSw; (try dsimp only at hSw); go_simp; (have cc := HC.out _ hSw; have c0 := cc.1; have c1 := cc.2; clear cc; go_simp; try with_reducible rfl))); (try simp only [Act.put, List.setIfInBounds_toArray, List.set_cons_zero, List.set_cons_succ, List.getElem_toArray, List.getElem_cons_zero, List.getElem_cons_succ]))
      (refine wpAnyH_ready (rs := [4]) (by kernel_rfl) (by simp) ?_; refine AllReadyH.cons rfl (fun K hK => ?_) AllReadyH.nil; go_simp; refine (HL.out _).mono ?_; rintro e wB ⟨rfl, hbB⟩; refine hK.out _ _ ?_ (fun hHeldN => ?_); (focus ((try dsimp only); (exact hHeld.trans (hbB.mono hHeld.size)))); clear hK K hHeld; have hHeld := hHeldN; clear hHeldN; (try simp only [Act.put, List.setIfInBounds_toArray, List.set_cons_zero, List.set_cons_succ, List.getElem_toArray, List.getElem_cons_zero, List.getElem_cons_succ]))
      (refine wpAnyH_ready (rs := [9]) (by kernel_rfl) (by simp) ?_; refine AllReadyH.cons rfl (fun K hK => ?_) AllReadyH.nil; go_simp; refine (HR.out _).mono ?_; rintro e wC ⟨rfl, hbC⟩; refine hK.out _ _ ?_ (fun hHeldN => ?_); (focus ((try dsimp only); (exact hHeld.trans (hbC.mono hHeld.size)))); clear hK K hHeld; have hHeld := hHeldN; clear hHeldN; (try simp only [Act.put, List.setIfInBounds_toArray, List.set_cons_zero, List.set_cons_succ, List.getElem_toArray, List.getElem_cons_zero, List.getElem_cons_succ]))
      (refine wpAnyH_take (i := 10) (v := ?_) rfl (by kernel_rfl) (by kernel_rfl) (by kernel_rfl) (fun _ _ _ h => h) (Or.inl ⟨by rfl, ?_⟩) hHeld ?_; rotate_left; (focus (intro w hSw; (try dsimp only at hSw); go_simp; try with_reducible rfl)); (try simp only [Act.put, List.setIfInBounds_toArray, List.set_cons_zero, List.set_cons_succ, List.getElem_toArray, List.getElem_cons_zero, List.getElem_cons_succ]))
      refine wpAnyH_done (by kernel_rfl) ?_ _
      have HB2 := Lib.hid hHeld
      clear hHeld
      go_wp2_with fail
      go_roundw
      case rel => exact ⟨i + 1, by omega, by go_num, HB2.out⟩
      case measure => simp [intOf]; omega
    · obtain rfl : i = n := by omega
      have q0 : ¬ (i : Int) < i := by omega
      have hl6 : l.length ≤ 1000000 := by have := HNN.out; omega
      by_cases hm : mayP l
      · have HM1 := Lib.hid (fun W hW => mayW (HV.out.later (w' := W) hW) hl6 HO.out)
        have HM2 := Lib.hid (fun W hW => mayR (HV.out.later (w' := W) hW) hl6)
        rw [decide_eq_true hm] at HM1 HM2
        have HS := Lib.hid (fun W hW => sharesYes (HV.out.later (w' := W) hW) HO.out hm)
        have HBu := Lib.hid (fun W hW => buckYes (HV.out.later (w' := W) hW) HO.out hm)
        have HSR := Lib.hid (fun W hW => sharesR (HV.out.later (w' := W) hW) hm)
        have HTB := Lib.hid (fun W hW => tableR (HV.out.later (w' := W) hW) hm)
        have hT := tab_len hm
        obtain ⟨hn1, hn8⟩ := mayP_len hm
        obtain ⟨T, hTT⟩ : ∃ T, T = tab l := ⟨_, rfl⟩
        obtain ⟨A, hAA⟩ : ∃ A, A = zil (shares (ws l)) := ⟨_, rfl⟩
        have hAl : i = A.length := by rw [hAA, zil_len, shares_len, ws_len]; exact HNN.out
        rw [← hTT] at HBu HTB hT
        rw [← hAA, ← HNN.out] at HS HSR
        rw [← HNN.out] at hn1 hn8
        have HHT := Lib.hid hT
        have HP : Hid (∀ W, Calls Try.prog 41 #[av T, .int .u32 (h : Int)] W fun e w' => e = .returned (.int .i64 (T.getD (h % 256) 0)) ∧ Below W.heap.size W w') := by
          have : ∀ W, Calls Try.prog 41 #[av T, .int .u32 (h : Int)] W fun e w' => e = .returned (.int .i64 (T.getD (h % 256) 0)) ∧ Below W.heap.size W w' := fun W => pickL T hT h W
          exact this
        have HCL : Hid (∀ (g : Nat) (W : World), AB g T W → W.cell? ⟨g, h % 256, none⟩ = some (.int .i64 (T.getD (h % 256) 0))) := by
          have : ∀ (g : Nat) (W : World), AB g T W → W.cell? ⟨g, h % 256, none⟩ = some (.int .i64 (T.getD (h % 256) 0)) := fun g W hA => hA.cell (av_at hT h)
          exact this
        have HMD := Lib.hid (hash_mod h HHH.out)
        have gm : ((h % 256 : Nat) : Int) < 256 := by omega
        have HMW : Hid (IntKind.i64.wrap ((h % 256 : Nat) : Int) = ((h % 256 : Nat) : Int)) := IntWalk.i64_in _ ⟨by omega, by omega⟩
        have gl : (i : Int) ≤ 8 := by omega
        have HAL : Hid (i = A.length ∧ 1 ≤ i ∧ i ≤ 8) := ⟨hAl, hn1, hn8⟩
        obtain ⟨m, hmm⟩ : ∃ m, m = h % 256 := ⟨_, rfl⟩
        rw [← hmm] at HP HCL HMD HMW gm
        obtain ⟨x, hx⟩ : ∃ x, x = T.getD m 0 := ⟨_, rfl⟩
        rw [← hx] at HP HCL
        have HEQ := Lib.hid (fun W => eqAV (T := T) hT W)
        obtain ⟨Z, hZ⟩ : ∃ Z, Z = iv (List.replicate 256 0) := ⟨_, rfl⟩
        obtain ⟨V, hV⟩ : ∃ V, V = iv T := ⟨_, rfl⟩
        have hVl : V.length = 256 := by rw [hV, iv_len]; exact hT
        unfold av at HBu HTB HP
        rw [← hV] at HBu HTB HP HEQ
        have hz := zero_iv
        rw [← hZ] at hz
        have HVV := Lib.hid hV
        have HZZ := Lib.hid hZ
        have t0 : (x == x) = true := by simp
        clear hV hZ hx hmm hAl hn1 hn8 hAA hTT hm hl6 hT
        go_wp2_with fail
        refine (HS.out _ HB.out).mono ?_
        rintro e w1 ⟨g1', rfl, _, hI1, hb⟩
        have HB1 := Lib.hid (below_of HB.out hb)
        have HI1 := Lib.hid hI1
        clear hb hI1
        go_wp2_with fail
        refine (HBu.out _ HB1.out).mono ?_
        rintro e w2 ⟨rfl, hb⟩
        have HB2 := Lib.hid (below_of HB1.out hb)
        have HI2 := Lib.hid (HI1.out.later hb)
        clear hb
        obtain ⟨w4, hs, hA, hb4⟩ := ab_new (w := w2) (T := T) HHT.out
        have HB4 := Lib.hid (below_of HB2.out hb4)
        have HI4 := Lib.hid (HI2.out.later hb4)
        have HA4 := Lib.hid hA
        have HLD : Hid (∀ W, Below w4.heap.size w4 W → (loadVar 86 ⟨w2.heap.size, 0, none⟩).run Try.prog W = .ok (.agg (iv T).toArray) W) := by
          have : ∀ W, Below w4.heap.size w4 W → (loadVar 86 ⟨w2.heap.size, 0, none⟩).run Try.prog W = .ok (.agg (iv T).toArray) W := fun W hW => ab_load (hA.later hW) HHT.out
          exact this
        rw [← HVV.out] at hs HLD
        rw [← HZZ.out] at hs
        clear hA hb4
        go_wp2_with fail
        clear hs
        obtain ⟨g8, hg8⟩ : ∃ g, g = w2.heap.size := ⟨_, rfl⟩
        rw [← hg8] at HLD HA4 ⊢
        clear hg8
        refine (HM1.out _ HB4.out).mono ?_
        rintro e w5 ⟨rfl, hb⟩
        have HA5 := Lib.hid hb
        have HB5 := Lib.hid (below_of HB4.out hb)
        clear hb
        go_wp2_with fail
        refine (HM2.out _ HB5.out).mono ?_
        rintro e w6 ⟨rfl, hb⟩
        have HA6 := Lib.hid (below_of HA5.out hb)
        have HB6 := Lib.hid (below_of HB5.out hb)
        clear hb
        go_wp2_with fail
        refine (HM2.out _ HB6.out).mono ?_
        rintro e w7 ⟨rfl, hb⟩
        have HA7 := Lib.hid (below_of HA6.out hb)
        have HB7 := Lib.hid (below_of HB6.out hb)
        clear hb
        have HSR4 : Hid (∀ W, Below w4.heap.size w4 W → Below w.heap.size w W) := by
          have : ∀ W, Below w4.heap.size w4 W → Below w.heap.size w W := fun W hW => below_of HB4.out hW
          exact this
        go_wp2_with fail
        (refine wp_region_held_drew (S := (fun w' => Below w4.heap.size w4 w')) (by kernel_rfl) ?_ (fun hHeld => ?_); (focus ((try dsimp only); (exact HA7.out.drew))))
        (refine wpAnyH_take (i := 0) (v := ?_) rfl (by kernel_rfl) (by kernel_rfl) (by kernel_rfl) (fun _ _ _ h => h) (Or.inl ⟨by rfl, ?_⟩) hHeld ?_; rotate_left; (focus (intro w hSw; (try dsimp only at hSw); go_simp; try with_reducible rfl)); (try simp only [Act.put, List.setIfInBounds_toArray, List.set_cons_zero, List.set_cons_succ, List.getElem_toArray, List.getElem_cons_zero])); (refine wpAnyH_take (i := 1) (v := ?_) rfl (by kernel_rfl) (by kernel_rfl) (by kernel_rfl) (fun _ _ _ h => h) (Or.inl ⟨by rfl, ?_⟩) hHeld ?_; rotate_left; (focus (intro w hSw; (try dsimp only at hSw); go_simp; try with_reducible rfl)); (try simp only [Act.put, List.setIfInBounds_toArray, List.set_cons_zero, List.set_cons_succ, List.getElem_toArray, List.getElem_cons_zero, List.getElem_cons_succ]))
        (refine wpAnyH_ready (rs := [2]) (by kernel_rfl) (by simp) ?_; refine AllReadyH.cons rfl (fun K hK => ?_) AllReadyH.nil; go_simp; refine (HSR.out _ (HSR4.out _ hHeld)).mono ?_; rintro e wB ⟨g3, rfl, _, hI3, hbB⟩; refine hK.out _ _ ?_ (fun hHeldN => ?_); (focus ((try dsimp only); (exact hHeld.trans (hbB.mono hHeld.size)))); clear hK K hHeld; have hHeld := hHeldN; clear hHeldN; (try simp only [Act.put, List.setIfInBounds_toArray, List.set_cons_zero, List.set_cons_succ, List.getElem_toArray, List.getElem_cons_zero, List.getElem_cons_succ]))
        (refine wpAnyH_ready (rs := [3]) (by kernel_rfl) (by simp) ?_; refine AllReadyH.cons rfl (fun K hK => ?_) AllReadyH.nil; go_simp; refine (sameI (HI4.out.later hHeld) hI3 HAL.out.1 (by have := HAL.out.2.2; omega)).mono ?_; rintro e wC ⟨rfl, hbC⟩; refine hK.out _ _ ?_ (fun hHeldN => ?_); (focus ((try dsimp only); (exact hHeld.trans (hbC.mono hHeld.size)))); clear hK K hHeld; have hHeld := hHeldN; clear hHeldN; (try simp only [Act.put, List.setIfInBounds_toArray, List.set_cons_zero, List.set_cons_succ, List.getElem_toArray, List.getElem_cons_zero, List.getElem_cons_succ]))
        clear hI3
        (refine wpAnyH_take (i := 4) (v := ?_) rfl (by kernel_rfl) (by kernel_rfl) (by kernel_rfl) (fun _ _ _ h => h) (Or.inl ⟨by rfl, ?_⟩) hHeld ?_; rotate_left; (focus (intro w hSw; (try dsimp only at hSw); go_simp; try with_reducible rfl)); (try simp only [Act.put, List.setIfInBounds_toArray, List.set_cons_zero, List.set_cons_succ, List.getElem_toArray, List.getElem_cons_zero, List.getElem_cons_succ]))
        (refine wpAnyH_take (i := 5) (v := ?_) rfl (by kernel_rfl) (by kernel_rfl) (by kernel_rfl) (fun _ _ _ h => h) (Or.inl ⟨by rfl, ?_⟩) hHeld ?_; rotate_left; (focus (intro w hSw; (try dsimp only at hSw); (refine Eq.trans (exLoad _ _ _ _ _ _ _ rfl rfl (HLD.out _ hSw)) ?_; with_reducible rfl))); (try simp only [Act.put, List.setIfInBounds_toArray, List.set_cons_zero, List.set_cons_succ, List.getElem_toArray, List.getElem_cons_zero, List.getElem_cons_succ]))
        (refine wpAnyH_take (i := 6) (v := ?_) rfl (by kernel_rfl) (by kernel_rfl) (by kernel_rfl) (fun _ _ _ h => h) (Or.inl ⟨by rfl, ?_⟩) hHeld ?_; rotate_left; (focus (intro w hSw; (try dsimp only at hSw); go_simp; try with_reducible rfl)); (try simp only [Act.put, List.setIfInBounds_toArray, List.set_cons_zero, List.set_cons_succ, List.getElem_toArray, List.getElem_cons_zero, List.getElem_cons_succ]))
        (refine wpAnyH_ready (rs := [7]) (by kernel_rfl) (by simp) ?_; refine AllReadyH.cons rfl (fun K hK => ?_) AllReadyH.nil; go_simp; refine (HTB.out _ (HSR4.out _ hHeld)).mono ?_; rintro e wD ⟨rfl, hbD⟩; refine hK.out _ _ ?_ (fun hHeldN => ?_); (focus ((try dsimp only); (exact hHeld.trans (hbD.mono hHeld.size)))); clear hK K hHeld; have hHeld := hHeldN; clear hHeldN; (try simp only [Act.put, List.setIfInBounds_toArray, List.set_cons_zero, List.set_cons_succ, List.getElem_toArray, List.getElem_cons_zero, List.getElem_cons_succ]))
        (refine wpAnyH_take (i := 8) (v := ?_) rfl (by kernel_rfl) (by kernel_rfl) (by kernel_rfl) (fun _ _ _ h => h) (Or.inl ⟨by rfl, ?_⟩) hHeld ?_; rotate_left; (focus (intro w hSw; (try dsimp only at hSw); go_simp; (have heq := HEQ.out; go_simp; try with_reducible rfl))); (try simp only [Act.put, List.setIfInBounds_toArray, List.set_cons_zero, List.set_cons_succ, List.getElem_toArray, List.getElem_cons_zero, List.getElem_cons_succ]))
        (refine wpAnyH_take (i := 9) (v := ?_) rfl (by kernel_rfl) (by kernel_rfl) (by kernel_rfl) (fun _ _ _ h => h) (Or.inl ⟨by rfl, ?_⟩) hHeld ?_; rotate_left; (focus (intro w hSw; (try dsimp only at hSw); go_simp; try with_reducible rfl)); (try simp only [Act.put, List.setIfInBounds_toArray, List.set_cons_zero, List.set_cons_succ, List.getElem_toArray, List.getElem_cons_zero, List.getElem_cons_succ])); (refine wpAnyH_take (i := 10) (v := ?_) rfl (by kernel_rfl) (by kernel_rfl) (by kernel_rfl) (fun _ _ _ h => h) (Or.inl ⟨by rfl, ?_⟩) hHeld ?_; rotate_left; (focus (intro w hSw; (try dsimp only at hSw); go_simp; try with_reducible rfl)); (try simp only [Act.put, List.setIfInBounds_toArray, List.set_cons_zero, List.set_cons_succ, List.getElem_toArray, List.getElem_cons_zero, List.getElem_cons_succ])); (refine wpAnyH_take (i := 11) (v := ?_) rfl (by kernel_rfl) (by kernel_rfl) (by kernel_rfl) (fun _ _ _ h => h) (Or.inl ⟨by rfl, ?_⟩) hHeld ?_; rotate_left; (focus (intro w hSw; (try dsimp only at hSw); go_simp; try with_reducible rfl)); (try simp only [Act.put, List.setIfInBounds_toArray, List.set_cons_zero, List.set_cons_succ, List.getElem_toArray, List.getElem_cons_zero, List.getElem_cons_succ])); (refine wpAnyH_take (i := 13) (v := ?_) rfl (by kernel_rfl) (by kernel_rfl) (by kernel_rfl) (fun _ _ _ h => h) (Or.inl ⟨by rfl, ?_⟩) hHeld ?_; rotate_left; (focus (intro w hSw; (try dsimp only at hSw); go_simp; try with_reducible rfl)); (try simp only [Act.put, List.setIfInBounds_toArray, List.set_cons_zero, List.set_cons_succ, List.getElem_toArray, List.getElem_cons_zero, List.getElem_cons_succ]))
        (refine wpAnyH_ready (rs := [12]) (by kernel_rfl) (by simp) ?_; refine AllReadyH.cons rfl (fun K hK => ?_) AllReadyH.nil; go_simp; refine (numL 0 _).mono ?_; rintro e wE ⟨rfl, rfl⟩; refine hK.out _ _ ?_ (fun hHeldN => ?_); (focus ((try dsimp only); (exact hHeld))); clear hK K hHeld; have hHeld := hHeldN; clear hHeldN; (try simp only [Act.put, List.setIfInBounds_toArray, List.set_cons_zero, List.set_cons_succ, List.getElem_toArray, List.getElem_cons_zero, List.getElem_cons_succ]))
        (refine wpAnyH_ready (rs := [14]) (by kernel_rfl) (by simp) ?_; refine AllReadyH.cons rfl (fun K hK => ?_) AllReadyH.nil; go_simp; refine (numL 0 _).mono ?_; rintro e wF ⟨rfl, rfl⟩; refine hK.out _ _ ?_ (fun hHeldN => ?_); (focus ((try dsimp only); (exact hHeld))); clear hK K hHeld; have hHeld := hHeldN; clear hHeldN; (try simp only [Act.put, List.setIfInBounds_toArray, List.set_cons_zero, List.set_cons_succ, List.getElem_toArray, List.getElem_cons_zero, List.getElem_cons_succ]))
        (refine wpAnyH_take (i := 15) (v := ?_) rfl (by kernel_rfl) (by kernel_rfl) (by kernel_rfl) (fun _ _ _ h => h) (Or.inl ⟨by rfl, ?_⟩) hHeld ?_; rotate_left; (focus (intro w hSw; (try dsimp only at hSw); go_simp; try with_reducible rfl)); (try simp only [Act.put, List.setIfInBounds_toArray, List.set_cons_zero, List.set_cons_succ, List.getElem_toArray, List.getElem_cons_zero, List.getElem_cons_succ])); (refine wpAnyH_take (i := 16) (v := ?_) rfl (by kernel_rfl) (by kernel_rfl) (by kernel_rfl) (fun _ _ _ h => h) (Or.inl ⟨by rfl, ?_⟩) hHeld ?_; rotate_left; (focus (intro w hSw; (try dsimp only at hSw); go_simp; try with_reducible rfl)); (try simp only [Act.put, List.setIfInBounds_toArray, List.set_cons_zero, List.set_cons_succ, List.getElem_toArray, List.getElem_cons_zero, List.getElem_cons_succ])); (refine wpAnyH_take (i := 17) (v := ?_) rfl (by kernel_rfl) (by kernel_rfl) (by kernel_rfl) (fun _ _ _ h => h) (Or.inl ⟨by rfl, ?_⟩) hHeld ?_; rotate_left; (focus (intro w hSw; (try dsimp only at hSw); go_simp; try with_reducible rfl)); (try simp only [Act.put, List.setIfInBounds_toArray, List.set_cons_zero, List.set_cons_succ, List.getElem_toArray, List.getElem_cons_zero, List.getElem_cons_succ])); (refine wpAnyH_take (i := 18) (v := ?_) rfl (by kernel_rfl) (by kernel_rfl) (by kernel_rfl) (fun _ _ _ h => h) (Or.inl ⟨by rfl, ?_⟩) hHeld ?_; rotate_left; (focus (intro w hSw; (try dsimp only at hSw); go_simp; try with_reducible rfl)); (try simp only [Act.put, List.setIfInBounds_toArray, List.set_cons_zero, List.set_cons_succ, List.getElem_toArray, List.getElem_cons_zero, List.getElem_cons_succ]))
        (refine wpAnyH_take (i := 19) (v := ?_) rfl (by kernel_rfl) (by kernel_rfl) (by kernel_rfl) (fun _ _ _ h => h) (Or.inl ⟨by rfl, ?_⟩) hHeld ?_; rotate_left; (focus (intro w hSw; (try dsimp only at hSw); (refine Eq.trans (exLoad _ _ _ _ _ _ _ rfl rfl (HLD.out _ hSw)) ?_; with_reducible rfl))); (try simp only [Act.put, List.setIfInBounds_toArray, List.set_cons_zero, List.set_cons_succ, List.getElem_toArray, List.getElem_cons_zero, List.getElem_cons_succ]))
        (refine wpAnyH_take (i := 20) (v := ?_) rfl (by kernel_rfl) (by kernel_rfl) (by kernel_rfl) (fun _ _ _ h => h) (Or.inl ⟨by rfl, ?_⟩) hHeld ?_; rotate_left; (focus (intro w hSw; (try dsimp only at hSw); go_simp; try with_reducible rfl)); (try simp only [Act.put, List.setIfInBounds_toArray, List.set_cons_zero, List.set_cons_succ, List.getElem_toArray, List.getElem_cons_zero, List.getElem_cons_succ])); (refine wpAnyH_take (i := 22) (v := ?_) rfl (by kernel_rfl) (by kernel_rfl) (by kernel_rfl) (fun _ _ _ h => h) (Or.inl ⟨by rfl, ?_⟩) hHeld ?_; rotate_left; (focus (intro w hSw; (try dsimp only at hSw); go_simp; try with_reducible rfl)); (try simp only [Act.put, List.setIfInBounds_toArray, List.set_cons_zero, List.set_cons_succ, List.getElem_toArray, List.getElem_cons_zero, List.getElem_cons_succ]))
        (refine wpAnyH_take (i := 23) (v := ?_) rfl (by kernel_rfl) (by kernel_rfl) (by kernel_rfl) (fun _ _ _ h => h) (Or.inl ⟨by rfl, ?_⟩) hHeld ?_; rotate_left; (focus (intro w hSw; (try dsimp only at hSw); go_simp; (have h1 := HMD.out; go_simp; try with_reducible rfl))); (try simp only [Act.put, List.setIfInBounds_toArray, List.set_cons_zero, List.set_cons_succ, List.getElem_toArray, List.getElem_cons_zero, List.getElem_cons_succ]))
        (refine wpAnyH_take (i := 24) (v := ?_) rfl (by kernel_rfl) (by kernel_rfl) (by kernel_rfl) (fun _ _ _ h => h) (Or.inl ⟨by rfl, ?_⟩) hHeld ?_; rotate_left; (focus (intro w hSw; (try dsimp only at hSw); go_simp; (have h1 := HMW.out; go_simp; try with_reducible rfl))); (try simp only [Act.put, List.setIfInBounds_toArray, List.set_cons_zero, List.set_cons_succ, List.getElem_toArray, List.getElem_cons_zero, List.getElem_cons_succ]))
        (refine wpAnyH_take (i := 25) (v := ?_) rfl (by kernel_rfl) (by kernel_rfl) (by kernel_rfl) (fun _ _ _ h => h) (Or.inl ⟨by rfl, ?_⟩) hHeld ?_; rotate_left; (focus (intro w hSw; (try dsimp only at hSw); go_simp; try with_reducible rfl)); (try simp only [Act.put, List.setIfInBounds_toArray, List.set_cons_zero, List.set_cons_succ, List.getElem_toArray, List.getElem_cons_zero, List.getElem_cons_succ]))
        (refine wpAnyH_take (i := 26) (v := ?_) rfl (by kernel_rfl) (by kernel_rfl) (by kernel_rfl) (fun _ _ _ h => h) (Or.inl ⟨by rfl, ?_⟩) hHeld ?_; rotate_left; (focus (intro w hSw; (try dsimp only at hSw); go_simp; (have cc := HCL.out _ _ (HA4.out.later hSw); go_simp; try with_reducible rfl))); (try simp only [Act.put, List.setIfInBounds_toArray, List.set_cons_zero, List.set_cons_succ, List.getElem_toArray, List.getElem_cons_zero, List.getElem_cons_succ]))
        (refine wpAnyH_ready (rs := [21]) (by kernel_rfl) (by simp) ?_; refine AllReadyH.cons rfl (fun K hK => ?_) AllReadyH.nil; go_simp; refine (HP.out _).mono ?_; rintro e wG ⟨rfl, hbG⟩; refine hK.out _ _ ?_ (fun hHeldN => ?_); (focus ((try dsimp only); (exact hHeld.trans (hbG.mono hHeld.size)))); clear hK K hHeld; have hHeld := hHeldN; clear hHeldN; (try simp only [Act.put, List.setIfInBounds_toArray, List.set_cons_zero, List.set_cons_succ, List.getElem_toArray, List.getElem_cons_zero, List.getElem_cons_succ]))
        (refine wpAnyH_take (i := 27) (v := ?_) rfl (by kernel_rfl) (by kernel_rfl) (by kernel_rfl) (fun _ _ _ h => h) (Or.inl ⟨by rfl, ?_⟩) hHeld ?_; rotate_left; (focus (intro w hSw; (try dsimp only at hSw); go_simp; try with_reducible rfl)); (try simp only [Act.put, List.setIfInBounds_toArray, List.set_cons_zero, List.set_cons_succ, List.getElem_toArray, List.getElem_cons_zero, List.getElem_cons_succ])); (refine wpAnyH_take (i := 28) (v := ?_) rfl (by kernel_rfl) (by kernel_rfl) (by kernel_rfl) (fun _ _ _ h => h) (Or.inl ⟨by rfl, ?_⟩) hHeld ?_; rotate_left; (focus (intro w hSw; (try dsimp only at hSw); go_simp; try with_reducible rfl)); (try simp only [Act.put, List.setIfInBounds_toArray, List.set_cons_zero, List.set_cons_succ, List.getElem_toArray, List.getElem_cons_zero, List.getElem_cons_succ])); (refine wpAnyH_take (i := 29) (v := ?_) rfl (by kernel_rfl) (by kernel_rfl) (by kernel_rfl) (fun _ _ _ h => h) (Or.inl ⟨by rfl, ?_⟩) hHeld ?_; rotate_left; (focus (intro w hSw; (try dsimp only at hSw); go_simp; try with_reducible rfl)); (try simp only [Act.put, List.setIfInBounds_toArray, List.set_cons_zero, List.set_cons_succ, List.getElem_toArray, List.getElem_cons_zero, List.getElem_cons_succ]))
        (refine wpAnyH_ready (rs := [30]) (by kernel_rfl) (by simp) ?_; refine AllReadyH.cons rfl (fun K hK => ?_) AllReadyH.nil; go_simp; refine (HK.out _).mono ?_; rintro e wH ⟨rfl, hbH⟩; refine hK.out _ _ ?_ (fun hHeldN => ?_); (focus ((try dsimp only); (exact hHeld.trans (hbH.mono hHeld.size)))); clear hK K hHeld; have hHeld := hHeldN; clear hHeldN; (try simp only [Act.put, List.setIfInBounds_toArray, List.set_cons_zero, List.set_cons_succ, List.getElem_toArray, List.getElem_cons_zero, List.getElem_cons_succ]))
        (refine wpAnyH_take (i := 31) (v := ?_) rfl (by kernel_rfl) (by kernel_rfl) (by kernel_rfl) (fun _ _ _ h => h) (Or.inl ⟨by rfl, ?_⟩) hHeld ?_; rotate_left; (focus (intro w hSw; (try dsimp only at hSw); go_simp; try with_reducible rfl)); (try simp only [Act.put, List.setIfInBounds_toArray, List.set_cons_zero, List.set_cons_succ, List.getElem_toArray, List.getElem_cons_zero, List.getElem_cons_succ])); (refine wpAnyH_take (i := 32) (v := ?_) rfl (by kernel_rfl) (by kernel_rfl) (by kernel_rfl) (fun _ _ _ h => h) (Or.inl ⟨by rfl, ?_⟩) hHeld ?_; rotate_left; (focus (intro w hSw; (try dsimp only at hSw); go_simp; try with_reducible rfl)); (try simp only [Act.put, List.setIfInBounds_toArray, List.set_cons_zero, List.set_cons_succ, List.getElem_toArray, List.getElem_cons_zero, List.getElem_cons_succ]))
        refine wpAnyH_done (by kernel_rfl) ?_ _
        have HE := Lib.hid (HSR4.out _ hHeld)
        clear hHeld
        go_wp2_with fail
        go_ret
        exact ⟨rfl, HE.out⟩
      · have HM1 := Lib.hid (fun W hW => mayW (HV.out.later (w' := W) hW) hl6 HO.out)
        have HM2 := Lib.hid (fun W hW => mayR (HV.out.later (w' := W) hW) hl6)
        rw [decide_eq_false hm] at HM1 HM2
        have HS := Lib.hid (fun W hW => sharesNo (HV.out.later (w' := W) hW) hl6 HO.out hm)
        have HBu := Lib.hid (fun W hW => buckNo (HV.out.later (w' := W) hW) hl6 HO.out hm)
        clear hl6 hm
        obtain ⟨V, hV⟩ : ∃ V, V = iv (List.replicate 256 0) := ⟨_, rfl⟩
        have hVl : V.length = 256 := by rw [hV, iv_len, List.length_replicate]
        unfold av at HBu
        rw [← hV] at HBu
        have hz := zero_iv
        rw [← hV] at hz
        have HVV := Lib.hid hV
        clear hV
        go_wp2_with fail
        refine (HS.out _ HB.out).mono ?_
        rintro e w1 ⟨rfl, hb⟩
        have HB1 := Lib.hid (below_of HB.out hb)
        clear hb
        go_wp2_with fail
        refine (HBu.out _ HB1.out).mono ?_
        rintro e w2 ⟨rfl, hb⟩
        have HB2 := Lib.hid (below_of HB1.out hb)
        clear hb
        obtain ⟨w4, hs, hA, hb4⟩ := ab_new (w := w2) (T := List.replicate 256 0) List.length_replicate
        have HB4 := Lib.hid (below_of HB2.out hb4)
        have HEQ := Lib.hid (fun W => eqAV (T := List.replicate 256 0) List.length_replicate W)
        have HLD : Hid (∀ W, Below w4.heap.size w4 W → (loadVar 86 ⟨w2.heap.size, 0, none⟩).run Try.prog W = .ok (.agg (iv (List.replicate 256 0)).toArray) W) := by
          have : ∀ W, Below w4.heap.size w4 W → (loadVar 86 ⟨w2.heap.size, 0, none⟩).run Try.prog W = .ok (.agg (iv (List.replicate 256 0)).toArray) W := fun W hW => ab_load (hA.later hW) List.length_replicate
          exact this
        rw [← HVV.out] at hs HEQ HLD
        clear hA hb4
        go_wp2_with fail
        clear hs
        refine (HM1.out _ HB4.out).mono ?_
        rintro e w5 ⟨rfl, hb⟩
        have HA5 := Lib.hid hb
        have HB5 := Lib.hid (below_of HB4.out hb)
        clear hb
        go_wp2_with fail
        refine (HM2.out _ HB5.out).mono ?_
        rintro e w6 ⟨rfl, hb⟩
        have HA6 := Lib.hid (below_of HA5.out hb)
        have HB6 := Lib.hid (below_of HB5.out hb)
        clear hb
        go_wp2_with fail
        refine (HM2.out _ HB6.out).mono ?_
        rintro e w7 ⟨rfl, hb⟩
        have HA7 := Lib.hid (below_of HA6.out hb)
        have HB7 := Lib.hid (below_of HB6.out hb)
        clear hb
        have hld := HLD.out _ HA7.out
        have heq := HEQ.out w7
        go_wp2_with fail
        refine wp_ld 86 (.tmp 8) ⟨w2.heap.size, 0, none⟩ (.agg V.toArray) rfl rfl hld ?_
        go_wp2_with fail
        refine (numL 2 w7).mono ?_
        rintro e w8 ⟨rfl, rfl⟩
        go_wp2_with fail
        refine (numL 2 w7).mono ?_
        rintro e w8 ⟨rfl, rfl⟩
        go_wp2_with fail
        refine (HK.out _).mono ?_
        rintro e w8 ⟨rfl, hb⟩
        have HB8 := Lib.hid (below_of HB7.out hb)
        clear hb
        go_wp2_with fail
        go_ret
        exact ⟨rfl, HB8.out⟩
end Go.Proofs.Ytdjhgahdiggahaa

namespace Go.Proofs.Ytdjhgahdiggahaa
open Go.RowKit
attribute [local go_sem ↓] Go.wp_at_zero Go.wp_at_succ
open Sp

set_option maxRecDepth 100000 in
theorem splitSharesBig (v : Value) (l : List WyN) (h : Int) (w : World) (hv : Nxs w v l) (h3 : 300 < l.length) :
    Calls Try.prog 10 #[v, .int .u32 h] w fun e w' => e = .returned (.bool true) ∧ Below w.heap.size w w' := by
  have HK := Lib.hid (fun W => knownL W)
  obtain ⟨a, c, rfl⟩ := hv.form
  have g1 : (300 : Int) < (l.length : Int) := by omega
  obtain ⟨n, hn⟩ : ∃ n, n = l.length := ⟨_, rfl⟩
  rw [← hn] at g1 ⊢
  clear hv h3 hn
  go_enter Try.func10, Try.ntmps10
  go_wp2_with fail
  refine (HK.out _).mono ?_
  rintro e w1 ⟨rfl, hb⟩
  have HB := Lib.hid hb
  clear hb
  go_wp2_with fail
  go_ret
  exact ⟨rfl, HB.out⟩
set_option maxRecDepth 100000 in
theorem splitShares_walk (v : Value) (l : List WyN) (h : Int) (w : World) (hv : Nxs w v l) (_ : l.length ≤ 9223372036854775807) (ho : ∀ n ∈ l, NxOk n) (h0 : 0 ≤ h) (h1 : h < 4294967296) :
    Calls Try.prog 10 #[v, .int .u32 h] w fun e w' => e = .returned (.bool true) ∧ Below w.heap.size w w' := by
  by_cases h3 : 300 < l.length
  · exact splitSharesBig v l h w hv h3
  · obtain ⟨n, rfl⟩ : ∃ n : Nat, h = n := ⟨h.toNat, by omega⟩
    exact splitSharesIn v l n w (by omega) hv ho (by omega)
end Go.Proofs.Ytdjhgahdiggahaa

namespace Go.Proofs.Ytdjhgahdiggahaa.splitShares
open Go.ChangeShapes Go.WideShapes Go.ChangeAt Go.RowKit

set_option maxRecDepth 100000 in
theorem lifted (os : Os) (started : os.Started) (H : Type) (enc : TypeId × Value → H) :
    ReturnsInHanded {} Try.checked os 10 .any (Rows.splitSharesSpec.pre6 enc Try.prog Try.f10 Rows.splitSharesRow.domain false) (Rows.splitSharesSpec.post enc Try.prog Try.f10 false true false false) := by
  refine returnsInHanded_of_change (C := Try.checked) own started (by kernel_rfl) Try.func10
    (ChangeSpec.witness6 (enc := enc) (C := Try.checked) false ⟨#[], #[.slice none 0 0, .int .u32 0], []⟩ 8 (by kernel_rfl) (by kernel_rfl) (by kernel_rfl) (by kernel_rfl)) ?_
  intro W base args ds gs before hval0 hW hcnd _
  have hval : ∀ (j : Nat) t v, Try.f10.params[j]? = some t → args[j]? = some v → Value.okWide Try.prog W .any base t v := hval0
  have hW' := hW
  obtain ⟨p, q, hA0, hV, rfl, hfz, hnd⟩ := hW
  have hA : DataW.TrodAll enc Try.prog W 0 (fun _ => true) true Try.f10.params.toList args.toList ds p := hA0
  rw [Try.params10] at hA hval
  obtain ⟨v0, vs0, d0, ds0, p0, q0, hargs, rfl, rfl, h0, r0⟩ := trodAll_cons hA
  obtain ⟨v1, vs1, d1, ds1, p1, q1, rfl, rfl, rfl, h1, r1⟩ := trodAll_cons r0
  obtain ⟨rfl, rfl, rfl⟩ := trodAll_nil r1
  obtain rfl : args = #[v0, v1] := by cases args; simp_all
  obtain ⟨rfl, rfl⟩ := trodVars_none hV
  have k0 := h0
  have lt0 : ∀ x ∈ p0, x.block < W.heap.size := by obtain ⟨m, hm⟩ := k0; exact DataW.trod_lt m _ _ _ hm
  have k1 := h1
  have lt1 : ∀ x ∈ p1, x.block < W.heap.size := by obtain ⟨m, hm⟩ := k1; exact DataW.trod_lt m _ _ _ hm
  obtain ⟨l0, hb0, hl0, hs0⟩ := open_nexts (hval 0 69 v0 rfl rfl) h0
  obtain ⟨a1, rfl, _, _, wa1⟩ := open_int Try.underlying37 (hval 1 37 v1 rfl rfl) h1
  have ba1 := bounds_u32 wa1
  refine (splitShares_walk v0 l0 a1 W hb0 hl0 hs0 ba1.1 (lt_u32 ba1)).mono fun e W' ⟨he, bel⟩ => ?_
  subst he
  exact ⟨_, rfl, _, _, _, [], _, [], hW', trodAll_mk1 (shut_bool Try.underlying4 _), (trodAll_cons_mk (Below.trod laidOut (by kernel_rfl) (of_decide_eq_true (by kernel_rfl)) k0 bel lt0) (trodAll_cons_mk (Below.trod laidOut (by kernel_rfl) (of_decide_eq_true (by kernel_rfl)) k1 bel lt1) trodAll_mk0)), rfl, bel.frame _, fun h => by cases h⟩

/-- The statement. -/
theorem said : Rows.SplitSharesSaid :=
  OpenClaim.holds_of_wide 10 Try.f10 rfl rfl rfl rfl rfl rfl rfl ⟨rfl, rfl, rfl, rfl, rfl⟩ rfl rfl rfl rfl rfl (by kernel_rfl) Try.func10 (by kernel_rfl)
    (of_decide_eq_true (by kernel_rfl)) (by unfold Func.isWrapper; first | (rw [if_pos (by decide +kernel)]; kernel_rfl) | (rw [if_neg (by decide +kernel)]; exact ⟨rfl, rfl⟩))
    (fun os started H enc _ => lifted os started H enc)
#print axioms said
end Go.Proofs.Ytdjhgahdiggahaa.splitShares
