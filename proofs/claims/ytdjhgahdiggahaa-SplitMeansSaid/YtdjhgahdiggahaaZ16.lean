/- The walk of ip.Bytes.
   The walks of slices.Grow of nothing, slices.Concat, wire.Join.
   The walk of ip.flags; the bytes of a header, plain.
   The walk of ip's closure that writes a number.
   Bytes laid over others; a copy over a block known whole.
   Bytes of noughts, made.
   The reference's Join, whose answer is owned.
   The walks of the first reference's Much and Join.
   SplitAlike: the law's walk; a slice of ways, opened. -/
import Derived.Deep.AppendLies
import Derived.Laws.AppendOwnNone
import Derived.Laws.OwnMore
import Derived.Laws.CopyOwn
import Derived.Lib.SliceRun
import Derived.Lib.AppendZerosOnto
import Derived.Test.YtdjhgahdiggahaaZ01
import Derived.Test.YtdjhgahdiggahaaZ03
import Derived.Test.YtdjhgahdiggahaaZ05
import Derived.Test.YtdjhgahdiggahaaZ09
import Derived.Test.YtdjhgahdiggahaaZ15

set_option linter.unusedSimpArgs false
set_option linter.unusedVariables false
namespace Go.Proofs.Ytdjhgahdiggahaa
open Go.RowKit
attribute [local go_sem ↓] Go.wp_at_zero Go.wp_at_succ
open Sp

section
open Go.ChangeShapes Go.WideShapes Go.ChangeAt Go.RowKit Go.Joins Go.Deep
set_option maxRecDepth 100000 in
theorem nx_cells {H : Type} {enc : TypeId × Value → H} {W : World} {bseS : Nat} {sp : Nat → Bool} {held : Bool} {n : Nat} {cs : List Value} {y : DataW H × List MemPlace} (h : DataW.trod enc Try.prog W bseS sp held n 76 cs = some y) (hl : cs.length = 2) :
    ∃ p : WyN, cs = nxc p ∧ NxOk p := by
  have k1 : Try.prog.cellsOf 3 = 1 := by kernel_rfl
  match cs, hl with
  | [c0, c1], _ =>
    obtain ⟨zs, m, _, hz, _, hzl, hgz⟩ := DataW.trod_struct Try.underlying76 h
    match zs, hzl with
    | [z0, z1], _ =>
      have g0 : DataW.trod enc Try.prog W bseS sp held m 3 [c0] = some z0 := by simpa [k1] using hgz 0 _ rfl
      have g1 : DataW.trod enc Try.prog W bseS sp held m 3 [c1] = some z1 := by simpa [k1] using hgz 1 _ rfl
      obtain ⟨a0, e0, _, w0⟩ := DataW.trod_int Try.underlying3 g0
      obtain ⟨a1, e1, _, w1⟩ := DataW.trod_int Try.underlying3 g1
      simp only [List.cons.injEq, and_true] at e0 e1
      subst e0 e1
      have b0 := bounds_i64 w0
      have b1 := bounds_i64 w1
      exact ⟨(a0, a1), rfl, ⟨b0.1, b0.2, b1.1, b1.2⟩⟩
set_option maxRecDepth 100000 in
theorem open_nexts {H : Type} {enc : TypeId × Value → H} {W : World} {bseS : Nat} {v : Value} {d : DataW H} {p : List MemPlace} (hv : Value.okWide Try.prog W .any bseS 69 v) (h : DataW.Trod enc Try.prog W 0 (fun _ => true) true 69 v d p) :
    ∃ L : List WyN, Nxs W v L ∧ L.length ≤ 9223372036854775807 ∧ ∀ x ∈ L, NxOk x :=
  open_rds Try.underlying69 (by kernel_rfl) (by decide) NxOk (fun h hl => nx_cells h hl) hv h
end
set_option maxRecDepth 100000 in
theorem shAt {w : World} {g : Nat} {l : List WyN} (h : IB g (zil (shares (ws l))) w) {j : Nat} (hj : j < l.length) : w.cell? ⟨g, j, none⟩ = some (.int .i64 (((shares (ws l)).getD j 0 : Nat) : Int)) := ib_at h (by rw [shares_len, ws_len]; exact hj)
set_option maxRecDepth 100000 in
set_option maxHeartbeats 8000000 in
theorem splitAlike_walk (v : Value) (l : List WyN) (w : World) (hv : Nxs w v l) (_ : l.length ≤ 9223372036854775807) (ho : ∀ n ∈ l, NxOk n) :
    Calls Try.prog 14 #[v] w fun e w' => e = .returned (.bool true) ∧ Below w.heap.size w w' := by
  have HK := Lib.hid (fun W => knownL W)
  by_cases h3 : 300 < l.length
  · obtain ⟨a, c, rfl⟩ := hv.form
    have g1 : (300 : Int) < (l.length : Int) := by omega
    obtain ⟨n, hn⟩ : ∃ n, n = l.length := ⟨_, rfl⟩
    rw [← hn] at g1 ⊢
    clear hv ho h3 hn
    go_enter Try.func14, Try.ntmps14
    go_wp2_with fail
    refine (HK.out _).mono ?_
    rintro e w1 ⟨rfl, hb⟩
    have HB := Lib.hid hb
    clear hb
    go_wp2_with fail
    go_ret
    exact ⟨rfl, HB.out⟩
  · have g1 : ¬ (300 : Int) < (l.length : Int) := by omega
    by_cases hm : mayP l
    · have HS := Lib.hid (sharesYes hv ho hm)
      have HV := Lib.hid hv
      obtain ⟨a, c, rfl⟩ := hv.form
      have hn8 := mayP_len hm
      have HM := Lib.hid hm
      obtain ⟨n, hn⟩ : ∃ n, n = l.length := ⟨_, rfl⟩
      rw [← hn] at g1 HS HV hn8 ⊢
      have HNN := Lib.hid hn
      have g8 : (n : Int) ≤ 8 := by omega
      clear hv ho h3 hn hm hn8
      go_enter Try.func14, Try.ntmps14
      go_wp2_with fail
      refine HS.out.mono ?_
      rintro e w1 ⟨g, rfl, _, hi, hb⟩
      have HI1 := Lib.hid hi
      have HB1 := Lib.hid hb
      clear hi hb HS
      go_wp2_with fail
      refine (numL 0 w1).mono ?_
      rintro e w2 ⟨rfl, rfl⟩
      go_wp2_with fail
      go_loopw [5] (fun x wr => ∃ i : Nat, i ≤ n ∧ x = .int .i64 i ∧ Hid (Below w1.heap.size w1 wr)) (fun x _ => n - (intOf x).toNat)
      case atStart => exact ⟨0, Nat.zero_le _, rfl, Below.refl _ _⟩
      case round =>
        obtain ⟨i, hi, rfl, HBI⟩ := hrel
        rcases Nat.lt_or_ge i n with hlt | hge
        · have g2 : (i : Int) < n := by omega
          obtain ⟨x, hx⟩ : ∃ x, l[i]? = some x := ⟨l[i]'(by have := HNN.out; omega), List.getElem?_eq_getElem _⟩
          obtain ⟨bb, oo, ha, _, hcell⟩ := (HV.out.later HB1.out).at hx
          have HX : Hid (∀ j u, (nxc x)[j]? = some u → w1.cell? ⟨bb, oo + i * 2 + j, none⟩ = some u) := by
            have : ∀ j u, (nxc x)[j]? = some u → w1.cell? ⟨bb, oo + i * 2 + j, none⟩ = some u := hcell
            exact this
          subst ha
          have HXI := Lib.hid (wyAt_get hx)
          obtain ⟨si, hsi⟩ : ∃ s, s = (shares (ws l)).getD i 0 := ⟨_, rfl⟩
          have HSI := Lib.hid hsi
          have hs2 : si ≤ 256 := by
            rw [hsi, ← shares_sum (ws_pos HM.out)]
            exact sum_le (by rw [shares_len, ws_len]; have := HNN.out; omega)
          have HS2 := Lib.hid hs2
          clear hcell hx hsi hs2
          go_wp2_with fail
          go_loopw [6] (fun x wr => ∃ k : Nat, k ≤ n ∧ x = .int .i64 k ∧ Hid (Below w1.heap.size w1 wr)) (fun x _ => n - (intOf x).toNat)
          case atStart => exact ⟨0, Nat.zero_le _, rfl, HBI.out⟩
          case round =>
            obtain ⟨k, hk, rfl, HBK⟩ := hrel
            rcases Nat.lt_or_ge k n with hlk | hgk
            · have g3 : (k : Int) < n := by omega
              obtain ⟨y, hy⟩ : ∃ y, l[k]? = some y := ⟨l[k]'(by have := HNN.out; omega), List.getElem?_eq_getElem _⟩
              obtain ⟨b3, o3, ha3, _, hcell3⟩ := (HV.out.later HB1.out).at hy
              cases ha3
              have hyk := wyAt_get hy
              have c1 := cell_later HBK.out (HX.out 1 _ rfl)
              have d1 := cell_later HBK.out (hcell3 1 _ rfl)
              have e0 := shAt (HI1.out.later HBK.out) (j := i) (by have := HNN.out; omega)
              have e1 := shAt (HI1.out.later HBK.out) (j := k) (by have := HNN.out; omega)
              rw [← HSI.out] at e0
              obtain ⟨sk, hsk⟩ : ∃ s, s = (shares (ws l)).getD k 0 := ⟨_, rfl⟩
              rw [← hsk] at e1
              have HF : Hid (x.2 = y.2 → si ≤ sk + 1 ∧ (i < k → sk ≤ si)) := by
                have : x.2 = y.2 → si ≤ sk + 1 ∧ (i < k → sk ≤ si) := fun he => by
                  have hi' : i < (ws l).length := by rw [ws_len]; have := HNN.out; omega
                  have hk' : k < (ws l).length := by rw [ws_len]; have := HNN.out; omega
                  have hw : (ws l).getD i 0 = (ws l).getD k 0 := by
                    rw [ws_at (by have := HNN.out; omega), ws_at (by have := HNN.out; omega), HXI.out, hyk, he]
                  rw [HSI.out, hsk]
                  exact ⟨shares_near hi' hk' hw, fun hik => shares_mono hi' hk' (.inr ⟨hw, hik⟩)⟩
                exact this
              have hsk2 : sk ≤ 256 := by
                rw [hsk, ← shares_sum (ws_pos HM.out)]
                exact sum_le (by rw [shares_len, ws_len]; have := HNN.out; omega)
              have g6 : (sk : Int) ≤ 256 := by omega
              obtain ⟨xp, xd⟩ := x
              obtain ⟨yp, yd⟩ := y
              simp only at c1 d1 HF
              clear hcell3 hy hyk hsk hsk2
              by_cases he : xd = yd
              · obtain ⟨h1, h2⟩ := HF.out he
                have t0 : (xd == yd) = true := by simp [he]
                have t1 : decide (sk + 1 < si) = false := decide_eq_false (by omega)
                have t2 : decide ((sk : Int) + 1 < (si : Int)) = false := decide_eq_false (by omega)
                by_cases hik : i < k
                · have t3 : decide (i < k) = true := decide_eq_true hik
                  have t4 : decide ((i : Int) < (k : Int)) = true := decide_eq_true (by omega)
                  have h3 := h2 hik
                  have t5 : decide (si < sk) = false := decide_eq_false (by omega)
                  have t6 : decide ((si : Int) < (sk : Int)) = false := decide_eq_false (by omega)
                  clear h1 h2 h3 hik he HF
                  go_wp2_with fail
                  go_quiet (fail)
                  have HB2 := Lib.hid (below_drewN HBK.out nq)
                  go_wp2_with fail
                  go_roundw
                  case rel => exact ⟨k + 1, by omega, by go_num, HB2.out⟩
                  case measure => simp [intOf]; omega
                · have t3 : decide (i < k) = false := decide_eq_false hik
                  have t4 : decide ((i : Int) < (k : Int)) = false := decide_eq_false (by omega)
                  clear h1 h2 hik he HF
                  go_wp2_with fail
                  go_quiet (fail)
                  have HB2 := Lib.hid (below_drewN HBK.out nq)
                  go_wp2_with fail
                  go_roundw
                  case rel => exact ⟨k + 1, by omega, by go_num, HB2.out⟩
                  case measure => simp [intOf]; omega
              · have t0 : (xd == yd) = false := by simp [he]
                clear he HF
                go_wp2_with fail
                go_quiet (fail)
                have HB2 := Lib.hid (below_drewN HBK.out nq)
                go_wp2_with fail
                go_roundw
                case rel => exact ⟨k + 1, by omega, by go_num, HB2.out⟩
                case measure => simp [intOf]; omega
            · obtain rfl : k = n := by omega
              have q0 : ¬ (k : Int) < k := by omega
              have e0 := shAt (HI1.out.later HBK.out) (j := i) (by have := HNN.out; omega)
              rw [← HSI.out] at e0
              have g6 : (si : Int) ≤ 256 := by have := HS2.out; omega
              have HON : Hid (k = 1 → si = 256) := by
                have : k = 1 → si = 256 := fun h1 => by
                  have hl : (shares (ws l)).length = 1 := by rw [shares_len, ws_len, ← HNN.out, h1]
                  have hs := shares_sum (ws_pos HM.out)
                  have hi0 : i = 0 := by omega
                  rw [HSI.out, hi0]
                  match hsh : shares (ws l), hl with
                  | [z], _ =>
                    rw [hsh] at hs
                    simpa using hs
                exact this
              by_cases h1 : k = 1
              · have h2 := HON.out h1
                have t4 : ((si : Int) != 256) = false := by rw [h2]; decide
                have t5 : ((k : Int) == 1) = true := by rw [h1]; decide
                have t6 : (k == 1) = true := by rw [h1]; decide
                clear h1 h2 HON
                go_wp2_with fail
                go_roundw
                case rel => exact ⟨i + 1, by omega, by go_num, HBK.out⟩
                case measure => simp [intOf]; omega
              · have t5 : ((k : Int) == 1) = false := beq_eq_false_iff_ne.2 (by omega)
                have t6 : (k == 1) = false := beq_eq_false_iff_ne.2 h1
                clear h1 HON
                go_wp2_with fail
                go_roundw
                case rel => exact ⟨i + 1, by omega, by go_num, HBK.out⟩
                case measure => simp [intOf]; omega
        · obtain rfl : i = n := by omega
          have q0 : ¬ (i : Int) < i := by omega
          go_wp2_with fail
          refine (HK.out _).mono ?_
          rintro e w3 ⟨rfl, hb⟩
          have HB3 := Lib.hid (below_of (HB1.out.trans (HBI.out.mono HB1.out.size)) hb)
          clear hb
          go_wp2_with fail
          go_ret
          exact ⟨rfl, HB3.out⟩
    · have HS := Lib.hid (sharesNo hv (by omega) ho hm)
      obtain ⟨a, c, rfl⟩ := hv.form
      obtain ⟨n, hn⟩ : ∃ n, n = l.length := ⟨_, rfl⟩
      rw [← hn] at g1 HS ⊢
      clear hv ho h3 hn hm
      go_enter Try.func14, Try.ntmps14
      go_wp2_with fail
      refine HS.out.mono ?_
      rintro e w1 ⟨rfl, hb⟩
      have HB1 := Lib.hid hb
      clear hb HS
      go_wp2_with fail
      refine (numL 2 w1).mono ?_
      rintro e w2 ⟨rfl, rfl⟩
      go_wp2_with fail
      refine (HK.out _).mono ?_
      rintro e w3 ⟨rfl, hb⟩
      have HB3 := Lib.hid (below_of HB1.out hb)
      clear hb
      go_wp2_with fail
      go_ret
      exact ⟨rfl, HB3.out⟩
end Go.Proofs.Ytdjhgahdiggahaa

namespace Go.Proofs.Ytdjhgahdiggahaa
open Go.RowKit
attribute [local go_sem ↓] Go.wp_at_zero Go.wp_at_succ

/-- What the count of the first lists comes to. -/
def msum (L : List (List UInt8)) : Nat → Nat
  | 0 => 0
  | k + 1 => msum L k + min (L[k]?.getD []).length 9001
def lsum (L : List (List UInt8)) : Nat → Nat
  | 0 => 0
  | k + 1 => lsum L k + (L[k]?.getD []).length
theorem msum_le (L : List (List UInt8)) : ∀ k, msum L k ≤ lsum L k
  | 0 => Nat.le_refl _
  | k + 1 => by have := msum_le L k; unfold msum lsum; omega
theorem msum_eq (L : List (List UInt8)) : ∀ k, msum L k ≤ 9000 → msum L k = lsum L k
  | 0, _ => rfl
  | k + 1, h => by
    unfold msum at h ⊢
    unfold lsum
    have e := msum_eq L k (by omega)
    omega
theorem lsum_take (L : List (List UInt8)) : ∀ k, k ≤ L.length → lsum L k = (L.take k).flatten.length
  | 0, _ => by simp [lsum]
  | k + 1, h => by
    unfold lsum
    rw [lsum_take L k (by omega), List.take_succ_eq_append_getElem (by omega), List.flatten_append, List.length_append, List.flatten_singleton, List.getElem?_eq_getElem (by omega)]
    rfl
theorem lsum_all (L : List (List UInt8)) : lsum L L.length = L.flatten.length := by rw [lsum_take L _ (Nat.le_refl _), List.take_length]
theorem lsum_mono (L : List (List UInt8)) {i k : Nat} (h : i ≤ k) : lsum L i ≤ lsum L k := by
  induction k with
  | zero => have : i = 0 := by omega
            subst this; exact Nat.le_refl _
  | succ k ih =>
    rcases Nat.eq_or_lt_of_le h with rfl | h
    · exact Nat.le_refl _
    · have := ih (by omega)
      show _ ≤ lsum L k + _
      omega
/-- More than so many bytes and parts. -/
def muchB (L : List (List UInt8)) : Bool := decide (9000 < L.length + L.flatten.length)

set_option maxHeartbeats 2000000 in
set_option maxRecDepth 100000 in
theorem joinR_some (b : Option Addr) (c : Nat) (L : List (List UInt8)) (w : World) (hv : Lists w (.slice b L.length c) L) (hL : L.length ≤ 10000) (hS : L.flatten.length ≤ 10000) :
    Calls Try.prog 83 #[.slice b L.length c] w fun e w' => ∃ v, e = .returned v ∧ Bytes w' v L.flatten ∧ Below w.heap.size w w' := by
  have hi5 : (Try.prog.info? 5).map (fun i => (i.zero, i.size, i.bytes)) = some (some (.int .u8 0), 1, 1) := by kernel_rfl
  obtain ⟨i0, hi, hx⟩ := Option.map_eq_some_iff.1 hi5
  simp only [Prod.mk.injEq] at hx
  obtain ⟨hz0, hz1, hz2⟩ := hx
  have HV := Lib.hid hv
  clear hi5 hv
  go_enter Try.func83, Try.ntmps83
  go_wp2_with fail
  go_loopw [3, 4] (fun v i wr => ∃ k : Nat, k ≤ L.length ∧ i = .int .i64 k ∧ Hid (wr.ownsRow w.heap.size 5 1 v (L.take k).flatten.length (bv (L.take k).flatten)) ∧ Hid (Below w.heap.size w wr)) (fun _ i _ => L.length - (intOf i).toNat)
  case atStart => exact ⟨0, Nat.zero_le _, rfl, World.ownsRow_nil w _ _ _, Below.refl _ _⟩
  case round =>
    obtain ⟨k, hk, rfl, HW, HB⟩ := hrel
    rcases Nat.lt_or_ge k L.length with hlt | hge
    · have g1 : (k : Int) < L.length := by omega
      obtain ⟨bl, bo, rfl, hbl, x, d, he, hbe⟩ := HV.out.at hlt
      have he' := cell_later' HB.out hbl he
      have b1 : bl < wr.heap.size := Nat.lt_of_lt_of_le hbl HB.out.size
      have hbw := hbe.later HB.out
      have hsz := lsum_take L (k + 1) (by omega)
      have hsz2 := lsum_mono L (i := k + 1) (k := L.length) (by omega)
      rw [lsum_all, hsz] at hsz2
      have hfl : (L.take (k + 1)).flatten = (L.take k).flatten ++ L[k] := by rw [List.take_succ_eq_append_getElem hlt, List.flatten_append, List.flatten_singleton]
      have hfn : (L.take (k + 1)).flatten.length = (L.take k).flatten.length + L[k].length := by rw [hfl, List.length_append]
      have Hfl := Lib.hid hfl
      obtain ⟨F, hF⟩ : ∃ F, F = (L.take k).flatten := ⟨_, rfl⟩
      rw [← hF] at HW hfn Hfl
      obtain ⟨l, hl⟩ : ∃ l, l = L[k] := ⟨_, rfl⟩
      rw [← hl] at he he' hbe hbw hfn Hfl
      have hb2 : F.length + l.length ≤ 10000 := by omega
      have Hbw := Lib.hid hbw
      have Hfn := Lib.hid hfn
      clear hl hF hfn hfl hsz hsz2 hbe he hbw
      cases x with
      | none =>
        obtain ⟨e1, e2, e3⟩ := Hbw.out.noaddr
        subst e2 e3
        have Hl : Hid (F = (L.take (k + 1)).flatten) := by show _ = _; rw [Hfl.out]; simp
        clear e1
        go_wp2_with (at_builtin; refine wpList_append_own_none rfl _ _ 97 rfl w.heap.size 5 i0 1 Try.underlying97 hi _ _ _ rfl HW.out rfl ?_)
        go_wp2_with fail
        go_roundw
        case rel => exact ⟨k + 1, by omega, by go_num, by rw [← Hl.out]; exact HW, HB⟩
        case measure => simp [intOf]; omega
      | some x =>
        go_wp2_with (at_builtin; refine wpList_append_own _ rfl _ _ 97 rfl w.heap.size 5 i0 (.int .u8 0) 1 1 Try.underlying97 hi hz0 hz1 hz2 rfl (by decide) _ _ _ rfl HW.out x l.length d (bv l) rfl (by simp [bv]) (Hbw.out.news) (bv_one l) (by unfold maxLen; omega) (by omega) HB.out.size ?_)
        intro v' w1 hown' hgrow _
        have hown2 : Hid (w1.ownsRow w.heap.size 5 1 v' (L.take (k + 1)).flatten.length (bv (L.take (k + 1)).flatten)) := by
          show World.ownsRow _ _ _ _ _ _ _
          rw [Hfn.out, Hfl.out, bv_append]; exact hown'
        have hB2 : Hid (Below w.heap.size w w1) := HB.out.grown hgrow HB.out.size (fun j hj => own_base HW.out hj)
        clear hown' hgrow
        go_wp2_with fail
        go_roundw
        case rel => exact ⟨k + 1, by omega, by go_num, hown2, hB2⟩
        case measure => simp [intOf]; omega
    · have e : k = L.length := by omega
      subst e
      rw [List.take_length] at HW
      go_wp2_with fail
      go_ret
      exact ⟨_, rfl, Bytes.of_own HW.out, HB.out⟩
theorem joinR_any (v : Value) (L : List (List UInt8)) (w : World) (hv : Lists w v L) (hL : L.length ≤ 10000) (hS : L.flatten.length ≤ 10000) :
    Calls Try.prog 83 #[v] w fun e w' => ∃ v, e = .returned v ∧ Bytes w' v L.flatten ∧ Below w.heap.size w w' := by
  obtain ⟨b, c, rfl⟩ := hv.form
  exact joinR_some b c L w hv hL hS
end Go.Proofs.Ytdjhgahdiggahaa

namespace Go.Proofs.Ytdjhgahdiggahaa
open Go.RowKit
attribute [local go_sem ↓] Go.wp_at_zero Go.wp_at_succ

set_option maxHeartbeats 2000000 in
set_option maxRecDepth 100000 in
theorem joinRO_some (b : Option Addr) (c : Nat) (L : List (List UInt8)) (w : World) (hv : Lists w (.slice b L.length c) L) (hL : L.length ≤ 10000) (hS : L.flatten.length ≤ 10000) :
    Calls Try.prog 83 #[.slice b L.length c] w fun e w' => ∃ v, e = .returned v ∧ OwnB w' w.heap.size v L.flatten ∧ Below w.heap.size w w' := by
  have hi5 : (Try.prog.info? 5).map (fun i => (i.zero, i.size, i.bytes)) = some (some (.int .u8 0), 1, 1) := by kernel_rfl
  obtain ⟨i0, hi, hx⟩ := Option.map_eq_some_iff.1 hi5
  simp only [Prod.mk.injEq] at hx
  obtain ⟨hz0, hz1, hz2⟩ := hx
  have HV := Lib.hid hv
  clear hi5 hv
  go_enter Try.func83, Try.ntmps83
  go_wp2_with fail
  go_loopw [3, 4] (fun v i wr => ∃ k : Nat, k ≤ L.length ∧ i = .int .i64 k ∧ Hid (wr.ownsRow w.heap.size 5 1 v (L.take k).flatten.length (bv (L.take k).flatten)) ∧ Hid (Below w.heap.size w wr)) (fun _ i _ => L.length - (intOf i).toNat)
  case atStart => exact ⟨0, Nat.zero_le _, rfl, World.ownsRow_nil w _ _ _, Below.refl _ _⟩
  case round =>
    obtain ⟨k, hk, rfl, HW, HB⟩ := hrel
    rcases Nat.lt_or_ge k L.length with hlt | hge
    · have g1 : (k : Int) < L.length := by omega
      obtain ⟨bl, bo, rfl, hbl, x, d, he, hbe⟩ := HV.out.at hlt
      have he' := cell_later' HB.out hbl he
      have b1 : bl < wr.heap.size := Nat.lt_of_lt_of_le hbl HB.out.size
      have hbw := hbe.later HB.out
      have hsz := lsum_take L (k + 1) (by omega)
      have hsz2 := lsum_mono L (i := k + 1) (k := L.length) (by omega)
      rw [lsum_all, hsz] at hsz2
      have hfl : (L.take (k + 1)).flatten = (L.take k).flatten ++ L[k] := by rw [List.take_succ_eq_append_getElem hlt, List.flatten_append, List.flatten_singleton]
      have hfn : (L.take (k + 1)).flatten.length = (L.take k).flatten.length + L[k].length := by rw [hfl, List.length_append]
      have Hfl := Lib.hid hfl
      obtain ⟨F, hF⟩ : ∃ F, F = (L.take k).flatten := ⟨_, rfl⟩
      rw [← hF] at HW hfn Hfl
      obtain ⟨l, hl⟩ : ∃ l, l = L[k] := ⟨_, rfl⟩
      rw [← hl] at he he' hbe hbw hfn Hfl
      have hb2 : F.length + l.length ≤ 10000 := by omega
      have Hbw := Lib.hid hbw
      have Hfn := Lib.hid hfn
      clear hl hF hfn hfl hsz hsz2 hbe he hbw
      cases x with
      | none =>
        obtain ⟨e1, e2, e3⟩ := Hbw.out.noaddr
        subst e2 e3
        have Hl : Hid (F = (L.take (k + 1)).flatten) := by show _ = _; rw [Hfl.out]; simp
        clear e1
        go_wp2_with (at_builtin; refine wpList_append_own_none rfl _ _ 97 rfl w.heap.size 5 i0 1 Try.underlying97 hi _ _ _ rfl HW.out rfl ?_)
        go_wp2_with fail
        go_roundw
        case rel => exact ⟨k + 1, by omega, by go_num, by rw [← Hl.out]; exact HW, HB⟩
        case measure => simp [intOf]; omega
      | some x =>
        go_wp2_with (at_builtin; refine wpList_append_own _ rfl _ _ 97 rfl w.heap.size 5 i0 (.int .u8 0) 1 1 Try.underlying97 hi hz0 hz1 hz2 rfl (by decide) _ _ _ rfl HW.out x l.length d (bv l) rfl (by simp [bv]) (Hbw.out.news) (bv_one l) (by unfold maxLen; omega) (by omega) HB.out.size ?_)
        intro v' w1 hown' hgrow _
        have hown2 : Hid (w1.ownsRow w.heap.size 5 1 v' (L.take (k + 1)).flatten.length (bv (L.take (k + 1)).flatten)) := by
          show World.ownsRow _ _ _ _ _ _ _
          rw [Hfn.out, Hfl.out, bv_append]; exact hown'
        have hB2 : Hid (Below w.heap.size w w1) := HB.out.grown hgrow HB.out.size (fun j hj => own_base HW.out hj)
        clear hown' hgrow
        go_wp2_with fail
        go_roundw
        case rel => exact ⟨k + 1, by omega, by go_num, hown2, hB2⟩
        case measure => simp [intOf]; omega
    · have e : k = L.length := by omega
      subst e
      rw [List.take_length] at HW
      go_wp2_with fail
      go_ret
      exact ⟨_, rfl, HW.out, HB.out⟩
theorem joinRO_any (v : Value) (L : List (List UInt8)) (w : World) (hv : Lists w v L) (hL : L.length ≤ 10000) (hS : L.flatten.length ≤ 10000) :
    Calls Try.prog 83 #[v] w fun e w' => ∃ v, e = .returned v ∧ OwnB w' w.heap.size v L.flatten ∧ Below w.heap.size w w' := by
  obtain ⟨b, c, rfl⟩ := hv.form
  exact joinRO_some b c L w hv hL hS
end Go.Proofs.Ytdjhgahdiggahaa

namespace Go.Proofs.Ytdjhgahdiggahaa
open Go.RowKit

theorem zeros_bv (n : Nat) : (madeCells (Value.int IntKind.u8 0).cells (n * 1)).toList = bv (List.replicate n 0) := by
  rw [Nat.mul_one]; show (madeCells #[.int .u8 0] n).toList = _
  rw [toList_madeCells_one]; simp [bv]
theorem make_zeros (n : Nat) (w : World) (hn : n ≤ 1000000) :
    ∃ w1, (Instr.makeSlice 97 (.int .i64 (n : Int)) (.int .i64 (n : Int))).run Try.prog w = .ok (.slice (some ⟨w.heap.size, 0, none⟩) n n) w1 ∧ OwnB w1 w.heap.size (.slice (some ⟨w.heap.size, 0, none⟩) n n) (List.replicate n 0) ∧ Below w.heap.size w w1 := by
  obtain ⟨i0, hi, hz0, hz1, hz2⟩ := info8
  obtain ⟨w1, hmk, hown0, hg0⟩ := run_make_full (P := Try.prog) (w := w) w.heap.size 97 5 i0 (.int .u8 0) 1 Try.underlying97 hi hz0 hz1 .i64 .i64 n (by rw [hz2]; omega) (by unfold maxLen; omega) (Nat.le_refl _)
  refine ⟨w1, hmk, ?_, (Below.refl _ _).grown hg0 (Nat.le_refl _) (by simp)⟩
  rw [zeros_bv] at hown0
  show World.ownsRow _ _ _ _ _ _ _
  rw [List.length_replicate]; exact hown0
end Go.Proofs.Ytdjhgahdiggahaa

namespace Go.Proofs.Ytdjhgahdiggahaa
open Go.RowKit
attribute [local go_sem ↓] Go.wp_at_zero Go.wp_at_succ

/-- Bytes with others laid over them from a place on. -/
def spl (l : List UInt8) (i : Nat) (x : List UInt8) : List UInt8 := l.take i ++ (x ++ l.drop (i + x.length))
theorem spl_length {l : List UInt8} {i : Nat} {x : List UInt8} (h : i + x.length ≤ l.length) : (spl l i x).length = l.length := by unfold spl; simp; omega
theorem splice_bv {cur : List Value} {l x : List UInt8} {i : Nat} (h : cur.take l.length = bv l) (hi : i + x.length ≤ l.length) (hc : l.length ≤ cur.length) : (splice cur i (bv x)).take (spl l i x).length = bv (spl l i x) := by
  rw [spl_length hi]
  unfold splice spl
  have hb : (bv x).length = x.length := by simp [bv]
  rw [bv_append, bv_append, hb]
  have e1 : cur.take i = bv (l.take i) := by
    have := congrArg (List.take i) h
    rw [List.take_take, Nat.min_eq_left (by omega)] at this
    rw [this]; simp only [bv, ← List.map_take]
  have e2 : (cur.drop (i + x.length)).take (l.length - (i + x.length)) = bv (l.drop (i + x.length)) := by
    have := congrArg (List.drop (i + x.length)) h
    rw [List.drop_take] at this
    rw [this]; simp [bv, List.map_drop]
  have l1 : (bv (l.take i)).length = i := by simp [bv]; omega
  rw [e1, List.take_append, l1, List.take_of_length_le (l := bv (l.take i)) (by omega), List.take_append, hb, List.take_of_length_le (l := bv x) (by omega), ← e2]
  congr 3
  omega
theorem OwnB.splice {w w' : World} {base g cap : Nat} {l x : List UInt8} {i : Nat} {cur : Array Value} (h : OwnB w base (.slice (some ⟨g, 0, none⟩) l.length cap) l) (hg : w.heap[g]? = some (.cells cur 5 (0, 0)))
    (hw : w'.heap[g]? = some (.cells (Go.splice cur.toList i (bv x)).toArray 5 (0, 0))) (hi : i + x.length ≤ l.length) : OwnB w' base (.slice (some ⟨g, 0, none⟩) (spl l i x).length cap) (spl l i x) := by
  obtain ⟨hl, h0 | ⟨g', cap', cur', e, hb, hgg, hn, hm, hc, ht⟩⟩ := h
  · cases h0.1
  · simp only [Value.slice.injEq, Option.some.injEq, Addr.mk.injEq, and_true] at e
    obtain ⟨rfl, _, rfl⟩ := e
    rw [hg] at hgg
    simp only [Option.some.injEq, Obj.cells.injEq, and_true] at hgg
    subst hgg
    have hcl : cur.toList.length = cap := by simpa using hc
    refine ⟨by simp [bv], .inr ⟨g, cap, _, rfl, hb, hw, ?_, hm, ?_, ?_⟩⟩
    · rw [spl_length hi]; exact hn
    · rw [List.size_toArray, length_splice _ _ _ (by simp [bv]; omega)]; omega
    · rw [Nat.mul_one] at ht ⊢
      exact splice_bv ht hi (by omega)
theorem OwnB.row {w : World} {base : Nat} {v : Value} {l : List UInt8} (h : OwnB w base v l) (hl : 0 < l.length) : ∃ g cap cur, v = .slice (some ⟨g, 0, none⟩) l.length cap ∧ base ≤ g ∧ w.heap[g]? = some (.cells cur 5 (0, 0)) ∧ l.length ≤ cap ∧ cur.size = cap := by
  obtain ⟨_, h0 | ⟨g, cap, cur, rfl, hb, hg, hn, hm, hc, ht⟩⟩ := h
  · omega
  · exact ⟨g, cap, cur, rfl, hb, hg, hn, by simpa using hc⟩
/-- b[i:] of what lies at a block's front. -/
theorem cut_front (g n c i : Nat) (hi : i ≤ n) (hc : i < c) (w : World) : (Instr.slice 97 (.slice (some ⟨g, 0, none⟩) n c) (some (.int .i64 (i : Int))) none none).run Try.prog w = .ok (.slice (some ⟨g, i, none⟩) (n - i) (c - i)) w := by
  rw [run_slice_l w _ _ _ _ cells1 _ _ (by omega) (by omega), size1]
  show Result.ok (Go.sliced _ _ _ _ 1) w = _
  unfold Go.sliced
  rw [if_neg (by omega)]
  simp [Addr.add]
  omega

/-- A copy over a block known whole: the rest of memory stays. -/
theorem wpList_copy_put {w : World} {ops : Array Oper} {rest : List Oper} {o : Oper} {a : Act} {Q : Exit → Act → World → Prop} (hgd : o.guard = none) (d s : Operand)
    (ho : o.op = .call { callee := .builtin .copy, args := #[d, s], argTypes := #[97, 97] })
    (g off dLen dCap : Nat) (ad : Addr) (sLen sCap : Nat) (hd : a.eval d = .slice (some ⟨g, off, none⟩) dLen dCap) (hs : a.eval s = .slice (some ad) sLen sCap)
    (cur : Array Value) (hg : w.heap[g]? = some (.cells cur 5 (0, 0))) (cs : List Value) (hn : cs.length = Nat.min sLen dLen)
    (hsrc : ∀ j v, cs[j]? = some v → w.cell? (ad.add j) = some v) (hfit : off + cs.length ≤ cur.size) (h1 : ∀ v ∈ cs, v.oneCell' = true)
    (h : ∀ w', Hid (w'.heap[g]? = some (.cells (Go.splice cur.toList off cs).toArray 5 (0, 0))) → Hid (∀ k, k ≠ g → w'.heap[k]? = w.heap[k]?) → Hid (∀ B, B ≤ g → Below B w w') → wpList Try.prog ops Q rest (a.put o.dst (goInt cs.length)) w') :
    wpList Try.prog ops Q (o :: rest) a w :=
  wpList_copy_own hgd d s 97 97 ho 5 Try.underlying97 (by kernel_rfl) g off dLen dCap ad sLen sCap hd hs cur 5 hg cs hn hsrc hfit h1
    (h _ (show _ = _ from setRow_heap w g _ _ _ _ hg) (fun k hk => setRow_other w g k _ hk) (fun B hB => below_setRow (Below.refl B w) hB _))
end Go.Proofs.Ytdjhgahdiggahaa

namespace Go.Proofs.Ytdjhgahdiggahaa
open Go.RowKit
attribute [local go_sem ↓] Go.wp_at_zero Go.wp_at_succ

/-- What a store of a number into bytes leaves. -/
def PutR (w : World) (base g cap : Nat) (l' : List UInt8) (n : Nat) (e : Ending) (w' : World) : Prop :=
  (∃ v, e = .returned v) ∧ OwnB w' base (.slice (some ⟨g, 0, none⟩) n cap) l' ∧ Below base w w' ∧ ∀ b, b < w.heap.size → b ≠ g → w'.heap[b]? = w.heap[b]?

set_option maxHeartbeats 4000000 in
set_option maxRecDepth 100000 in
theorem putC_any (at_ size n B g cap base : Nat) (l : List UInt8) (w : World) (hc : w.cell? ⟨B, 0, none⟩ = some (.slice (some ⟨g, 0, none⟩) l.length cap)) (ho : OwnB w base (.slice (some ⟨g, 0, none⟩) l.length cap) l)
    (h1 : 1 ≤ size) (h8 : size ≤ 8) (hn : n < 256 ^ size) (hat : at_ + size ≤ l.length) (hl : l.length ≤ 1000000) (hbase : base ≤ w.heap.size) (hBg : B ≠ g) :
    Calls Try.prog 129 #[.int .i64 (at_ : Int), .int .i64 (size : Int), .int .u64 (n : Nat), .pointer (some ⟨B, 0, none⟩)] w (PutR w base g cap (spl l at_ (putL n size)) l.length) := by
  obtain ⟨g', cap', cur, e1, hbg, hg, hnc, hcs⟩ := ho.row (by omega)
  simp only [Value.slice.injEq, Option.some.injEq, Addr.mk.injEq, and_true] at e1
  obtain ⟨rfl, _, rfl⟩ := e1
  have hgl : g < w.heap.size := by
    rcases Nat.lt_or_ge g w.heap.size with h | h
    · exact h
    · rw [Array.getElem?_eq_none h] at hg; cases hg
  have HP := Lib.hid (putW_yes n size w h1 h8 hn)
  have hcut := cut_front g l.length cap at_ (by omega) (by omega)
  have hxl : (putL n size).length = size := putL_length n size
  obtain ⟨X, hX⟩ : ∃ X, X = bv (putL n size) := ⟨_, rfl⟩
  have hXl : X.length = size := by rw [hX]; simp [bv, hxl]
  have hX1 : ∀ v ∈ X, v.oneCell' = true := by rw [hX]; exact bv_one _
  have H1 : Hid (0 < size) := by show 0 < size; omega
  have HX := Lib.hid hX
  have HXL := Lib.hid hXl
  have HX1 := Lib.hid hX1
  have HG := Lib.hid hg
  have HO := Lib.hid ho
  have HH := Lib.hid (And.intro hat (And.intro hl (And.intro hbase (And.intro hbg (And.intro hnc (And.intro hcs (And.intro hgl hxl)))))))
  have k1 : (at_ : Int) ≤ l.length := by omega
  clear hX hXl hX1 hxl ho hg hn h1 h8 hat hl hbase hbg hnc hcs hgl
  go_enter Try.func129, Try.ntmps129
  go_wp2_with fail
  refine HP.out.mono ?_
  rintro e w1 ⟨v1, rfl, hby, hb1⟩
  obtain ⟨a1, c1, rfl⟩ := hby.form
  obtain ⟨N1, hN1⟩ : ∃ k, k = (putL n size).length := ⟨_, rfl⟩
  have hby2 := hby
  rw [← hN1] at hby ⊢
  have hc1 := cell_later hb1 hc
  have hc' := hcut w1
  have HB1 := Lib.hid hb1
  have HBY := Lib.hid hby2
  have HN1 := Lib.hid hN1
  have hb1b : Below base w w1 := hb1.mono HH.out.2.2.1
  have HB1b := Lib.hid hb1b
  have hg1 : w1.heap[g]? = some (.cells cur 5 (0, 0)) := (hb1.block g HH.out.2.2.2.2.2.2.1).trans HG.out
  have HG1 := Lib.hid hg1
  clear hcut hb1 hb1b hby hby2 hN1 hc hg1
  obtain ⟨b1, o1, rfl, _⟩ := (show Bytes w1 (.slice a1 (putL n size).length c1) (putL n size) from HBY.out).at (i := 0) (by rw [HH.out.2.2.2.2.2.2.2]; exact H1.out)
  go_wp2_with (with_reducible refine wpList_copy_put rfl (.tmp 17) (.tmp 18) rfl g at_ (l.length - at_) (cap - at_) ⟨b1, o1, none⟩ N1 c1 rfl rfl cur HG1.out X ?_ ?_ ?_ HX1.out ?_)
  · rw [HXL.out, HN1.out, HH.out.2.2.2.2.2.2.2]
    have := HH.out.1
    exact (Nat.min_eq_left (by omega)).symm
  · rw [HX.out]; exact Bytes.news HBY.out
  · rw [HXL.out]; have := HH.out; omega
  · intro w2 hr hk hbl
    go_wp2_with fail
    go_end0
    refine ⟨⟨_, rfl⟩, ?_, HB1b.out.trans (hbl.out _ HH.out.2.2.2.1), fun b hb hne => (hk.out b hne).trans (HB1.out.block b hb)⟩
    have hx : at_ + (putL n size).length ≤ l.length := by rw [HH.out.2.2.2.2.2.2.2]; exact HH.out.1
    have ho1 : OwnB w1 base (.slice (some ⟨g, 0, none⟩) l.length cap) l := OwnB.later HO.out HB1.out
    have h2 := OwnB.splice (w' := w2) ho1 HG1.out (by rw [← HX.out]; exact hr.out) hx
    rw [spl_length hx] at h2
    exact h2
end Go.Proofs.Ytdjhgahdiggahaa

namespace Go.Proofs.Ytdjhgahdiggahaa
open Go.RowKit
attribute [local go_sem ↓] Go.wp_at_zero Go.wp_at_succ

theorem or_bit (x k : Nat) (h : x / 2 ^ k % 2 = 0) : x ||| 2 ^ k = x + 2 ^ k := by
  have hp : 0 < 2 ^ k := Nat.pow_pos (by decide)
  have hlt : x % 2 ^ (k + 1) < 2 ^ k := by
    rw [Nat.pow_succ, Nat.mod_mul, h, Nat.mul_zero, Nat.add_zero]
    exact Nat.mod_lt _ hp
  have e : x = x / 2 ^ (k + 1) * 2 ^ (k + 1) + x % 2 ^ (k + 1) := by rw [Nat.mul_comm]; exact (Nat.div_add_mod _ _).symm
  obtain ⟨hi, hhi⟩ : ∃ y, y = x / 2 ^ (k + 1) * 2 ^ (k + 1) := ⟨_, rfl⟩
  obtain ⟨lo, hlo⟩ : ∃ y, y = x % 2 ^ (k + 1) := ⟨_, rfl⟩
  rw [← hlo] at hlt
  rw [← hhi, ← hlo] at e
  have hm : hi % 2 ^ (k + 1) = 0 := by rw [hhi]; exact Nat.mul_mod_left _ _
  have hk1 : 2 ^ (k + 1) = 2 * 2 ^ k := by rw [Nat.pow_succ, Nat.mul_comm]
  rw [e, ← nat_join (k + 1) hi lo hm (by omega), Nat.or_assoc, Nat.or_comm lo, nat_join k (2 ^ k) lo (Nat.mod_self _) hlt, nat_join (k + 1) hi _ hm (by omega), nat_join (k + 1) hi lo hm (by omega)]
  omega
theorem or_u64 (x m k : Nat) (hm : m = 2 ^ k) (hk : m < 65536) (hx : x < 65536) (h : x / 2 ^ k % 2 = 0) : bits .or .u64 (x : Int) (m : Int) = ((x + m : Nat) : Int) := by
  rw [u64_or_nat _ _ (by omega) (by omega), hm, or_bit _ _ h]
theorem or64 (k : Nat) (h : k < 16) : bits .or .i64 64 (k : Int) = ((64 + k : Nat) : Int) := by
  have hall : ∀ k : Fin 16, bits .or .i64 64 ((k.val : Nat) : Int) = ((64 + k.val : Nat) : Int) := by decide +kernel
  exact hall ⟨k, h⟩

/-- The first twenty bytes of a header. -/
def hd20 (h : Hd) (size total chk : Nat) : List UInt8 :=
  putL (64 + size / 4) 1 ++ (putL h.tos 1 ++ (putL total 2 ++ (putL h.id 2 ++ (putL (flagsN h) 2 ++ (putL h.ttl 1 ++ (putL h.pr 1 ++ (putL chk 2 ++ (putL h.src 4 ++ putL h.dst 4))))))))
theorem hd20_length (h : Hd) (size total chk : Nat) : (hd20 h size total chk).length = 20 := rfl
/-- A header's bytes, with a checksum. -/
def hdrS (h : Hd) (O P : List UInt8) (chk : Nat) : List UInt8 := hd20 h (20 + O.length) (20 + O.length + P.length) chk ++ O
def chkN (h : Hd) (O P : List UInt8) : Nat := 65535 - Sm.tot (hdrS h O P 0)
/-- A packet's bytes. -/
def pktL (h : Hd) (O P : List UInt8) : List UInt8 := hdrS h O P (chkN h O P) ++ P
theorem spl_hd (h : Hd) (size total chk : Nat) (R : List UInt8) :
    spl (spl (spl (spl (spl (spl (spl (spl (spl (List.replicate 20 0 ++ R) 0 (putL (64 + size / 4) 1)) 1 (putL h.tos 1)) 2 (putL total 2)) 4 (putL h.id 2)) 6 (putL (flagsN h) 2)) 8 (putL h.ttl 1)) 9 (putL h.pr 1)) 12 (putL h.src 4)) 16 (putL h.dst 4) = hd20 h size total 0 ++ R := rfl
theorem spl_chk (h : Hd) (size total chk : Nat) (R : List UInt8) : spl (hd20 h size total 0 ++ R) 10 (putL chk 2) = hd20 h size total chk ++ R := rfl
end Go.Proofs.Ytdjhgahdiggahaa

namespace Go.Proofs.Ytdjhgahdiggahaa
open Go.RowKit
end Go.Proofs.Ytdjhgahdiggahaa

namespace Go.Proofs.Ytdjhgahdiggahaa
open Go.RowKit
attribute [local go_sem ↓] Go.wp_at_zero Go.wp_at_succ

/-- While a header is written: the header's box, the closures' box, the bytes that are owned. -/
structure BS (wm : World) (N g cap n base : Nat) (cs : List Value) (l : List UInt8) (w : World) : Prop where
  hd : HdAt wm.heap.size cs w
  bx : w.heap[N]? = some (.cells #[.slice (some ⟨g, 0, none⟩) n cap] 97 (0, 0))
  ow : OwnB w base (.slice (some ⟨g, 0, none⟩) n cap) l
  len : l.length = n
  bel : Below wm.heap.size wm w
  ne1 : wm.heap.size ≠ g
  ne2 : N ≠ g
  b0 : wm.heap.size ≤ base
  bs : base ≤ w.heap.size
theorem BS.later {wm : World} {N g cap n base : Nat} {cs : List Value} {l : List UInt8} {w w' : World} (h : BS wm N g cap n base cs l w) (hb : Below w.heap.size w w') : BS wm N g cap n base cs l w' :=
  ⟨h.hd.later hb, (hb.block N (Array.getElem?_eq_some_iff.1 h.bx).1).trans h.bx, OwnB.later h.ow hb, h.len, h.bel.trans (hb.mono h.bel.size), h.ne1, h.ne2, h.b0, Nat.le_trans h.bs hb.size⟩
theorem BS.put {wm : World} {N g cap n base : Nat} {cs : List Value} {l : List UInt8} {w : World} (h : BS wm N g cap n base cs l w) (at_ size x : Nat) (h1 : 1 ≤ size) (h8 : size ≤ 8) (hx : x < 256 ^ size) (hat : at_ + size ≤ n) (hl : n ≤ 1000000) :
    Calls Try.prog 129 #[.int .i64 (at_ : Int), .int .i64 (size : Int), .int .u64 (x : Nat), .pointer (some ⟨N, 0, none⟩)] w fun e w' => (∃ v, e = .returned v) ∧ BS wm N g cap n base cs (spl l at_ (putL x size)) w' := by
  obtain ⟨hd, bx, ow, rfl, bel, ne1, ne2, b0, bs⟩ := h
  refine (putC_any at_ size x N g cap base l w (by simp [World.cell?, bx]) ow h1 h8 hx hat hl bs ne2).mono ?_
  rintro e w' ⟨hv, ho, hb, hk⟩
  refine ⟨hv, (hk _ hd.lt ne1).trans hd, (hk _ (Array.getElem?_eq_some_iff.1 bx).1 ne2).trans bx, ho, spl_length (by rw [putL_length]; exact hat), bel.trans (hb.mono b0), ne1, ne2, b0, Nat.le_trans bs hb.size⟩

theorem lists_three3 {W : World} {u v x : Value} {k l m : List UInt8} {n : Nat} (g : Bytes W u k) (h : Bytes W v l) (i : Bytes W x m) (hu : W.cell? ⟨n, 0, none⟩ = some u) (hv : W.cell? ⟨n, 1, none⟩ = some v) (hx : W.cell? ⟨n, 2, none⟩ = some x) (hn : n < W.heap.size) : Lists W (.slice (some ⟨n, 0, none⟩) 3 3) [k, l, m] :=
  .inr ⟨n, 0, 3, rfl, hn, Nat.le_refl _, fun j x hx => by
    match j, hx with
    | 0, hx => simp at hx; subst hx; exact ⟨u, by simpa using hu, g⟩
    | 1, hx => simp at hx; subst hx; exact ⟨v, by simpa using hv, h⟩
    | 2, hx => simp at hx; subst hx; exact ⟨_, by simpa using ‹W.cell? ⟨n, 2, none⟩ = _›, i⟩⟩
/-- The answer of Bytes: the bytes, and no error. -/
def BytesYes (wm : World) (h : Hd) (O P : List UInt8) (e : Ending) (w' : World) : Prop := ∃ v, e = .returned (.tuple #[v, .int .i64 0]) ∧ OwnB w' wm.heap.size v (pktL h O P) ∧ Below wm.heap.size wm w'

end Go.Proofs.Ytdjhgahdiggahaa
