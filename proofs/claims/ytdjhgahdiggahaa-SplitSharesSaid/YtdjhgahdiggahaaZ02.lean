/- Path-compressed trees of prefixes, plainly: what they hold, put in, taken out, looked up.
   Prefixes, plainly: a bit, the longest prefix that two are within.
   Plain numbers: the order of prefixes and what is within what.
   Plain numbers of the layer wire: prefixes, their order; no program in it.
   May ways be? The reference's walk.
   May ways be? The program's walk and the reference's.
   A block of cells in memory, whatever its type.
   Ways in memory; weights. -/
import Derived.Deep.MidRow
import Derived.RangeFuncRecord
import Derived.BigQuiet
import Derived.Deep.QuietTactic
import Derived.Lib.AtoiAll
import Derived.Lib.ItoaNum
import Derived.Lib.IndexMore
import Derived.Test.YtdjhgahdiggahaaZ01

set_option linter.unusedSimpArgs false
set_option linter.unusedVariables false
namespace Go.Proofs.Ytdjhgahdiggahaa
open Go.RowKit
attribute [local go_sem ↓] Go.wp_at_zero Go.wp_at_succ
open Sp

def nxc (n : WyN) : List Value := [.int .i64 n.1, .int .i64 n.2]
structure NxOk (n : WyN) : Prop where
  p0 : -9223372036854775808 ≤ n.1
  p1 : n.1 ≤ 9223372036854775807
  d0 : -9223372036854775808 ≤ n.2
  d1 : n.2 ≤ 9223372036854775807
abbrev Nxs (w : World) (v : Value) (l : List WyN) : Prop := Rds 2 nxc w v l
set_option maxRecDepth 100000 in
theorem wt_quo {d : Int} (h0 : 0 ≤ d) (h1 : d < 255) : (65536 : Int) / (d + 1) = (wt d : Nat) := by
  unfold wt
  rw [if_pos ⟨h0, h1⟩]
  obtain ⟨n, rfl⟩ : ∃ n : Nat, d = n := ⟨d.toNat, by omega⟩
  simp
set_option maxRecDepth 100000 in
theorem wt_no {d : Int} (h : ¬ (0 ≤ d ∧ d < 255)) : (0 : Int) = (wt d : Nat) := by
  rw [wt_zero.2 h]
  rfl
set_option maxRecDepth 100000 in
theorem weightL (p d : Int) (w : World) : Calls Try.prog 31 #[.agg #[.int .i64 p, .int .i64 d]] w fun e w' => e = .returned (.int .i64 (wt d : Nat)) ∧ Below w.heap.size w w' := by
  have HQ : Hid (0 ≤ d → d < 255 → (65536 : Int) / (d + 1) = (wt d : Nat)) := by
    have : 0 ≤ d → d < 255 → (65536 : Int) / (d + 1) = (wt d : Nat) := wt_quo
    exact this
  have HN : Hid (¬ (0 ≤ d ∧ d < 255) → (0 : Int) = (wt d : Nat)) := by
    have : ¬ (0 ≤ d ∧ d < 255) → (0 : Int) = (wt d : Nat) := wt_no
    exact this
  obtain ⟨z, hz⟩ : ∃ z : Int, z = (wt d : Nat) := ⟨_, rfl⟩
  rw [← hz] at HQ HN ⊢
  clear hz
  go_enter Try.func31, Try.ntmps31
  go_wp2
  all_goals first
    | (go_ret; exact ⟨by rw [← HN.out (by omega)]; rfl, ba1 _ _⟩)
    | (go_ret; exact ⟨by rw [← HQ.out (by omega) (by omega)]; rfl, ba1 _ _⟩)
set_option maxRecDepth 100000 in
theorem weightR (p d : Int) (w : World) : Calls Try.prog 32 #[.agg #[.int .i64 p, .int .i64 d]] w fun e w' => e = .returned (.int .i64 (wt d : Nat)) ∧ Below w.heap.size w w' := by
  have HQ : Hid (0 ≤ d → d < 255 → (65536 : Int) / (d + 1) = (wt d : Nat)) := by
    have : 0 ≤ d → d < 255 → (65536 : Int) / (d + 1) = (wt d : Nat) := wt_quo
    exact this
  have HN : Hid (¬ (0 ≤ d ∧ d < 255) → (0 : Int) = (wt d : Nat)) := by
    have : ¬ (0 ≤ d ∧ d < 255) → (0 : Int) = (wt d : Nat) := wt_no
    exact this
  obtain ⟨z, hz⟩ : ∃ z : Int, z = (wt d : Nat) := ⟨_, rfl⟩
  rw [← hz] at HQ HN ⊢
  clear hz
  go_enter Try.func32, Try.ntmps32
  go_wp2
  all_goals first
    | (go_ret; exact ⟨by rw [← HN.out (by omega)]; rfl, ba1 _ _⟩)
    | (go_ret; exact ⟨by rw [← HQ.out (by omega) (by omega)]; rfl, ba1 _ _⟩)
end Go.Proofs.Ytdjhgahdiggahaa

namespace Go.Proofs.Ytdjhgahdiggahaa
open Go.RowKit

/-- A block whose cells are these. -/
def BlkAt (t : TypeId) (g : Nat) (cs : List Value) (w : World) : Prop := w.heap[g]? = some (.cells cs.toArray t (0, 0))
section
variable {t : TypeId}
theorem BlkAt.lt {g : Nat} {cs : List Value} {w : World} (h : BlkAt t g cs w) : g < w.heap.size := (Array.getElem?_eq_some_iff.1 h).1
theorem BlkAt.later {g : Nat} {cs : List Value} {w w' : World} (h : BlkAt t g cs w) (hb : Below w.heap.size w w') : BlkAt t g cs w' := (hb.block g h.lt).trans h
theorem BlkAt.new (w : World) (cs : List Value) : BlkAt t w.heap.size cs (w.alloc (.cells cs.toArray t)) := World.alloc_heap_new w _
theorem BlkAt.cell {g : Nat} {cs : List Value} {w : World} (h : BlkAt t g cs w) {j : Nat} {x : Value} (hx : cs[j]? = some x) : w.cell? ⟨g, j, none⟩ = some x := by
  rw [cell_of_row w g j cs.toArray _ (0, 0) h]; simpa using hx
theorem BlkAt.frozen {g : Nat} {cs : List Value} {w : World} (h : BlkAt t g cs w) (j : Nat) : w.frozen? ⟨g, j, none⟩ = false := by
  unfold World.frozen?; simp [show w.heap[g]? = _ from h]
theorem BlkAt.set {g : Nat} {cs : List Value} {w : World} (h : BlkAt t g cs w) (j : Nat) (x : Value) : BlkAt t g (cs.set j x) (w.setCell ⟨g, j, none⟩ x) := by
  have hl := h.lt
  have hk : w.heap[g] = .cells cs.toArray t (0, 0) := (Array.getElem?_eq_some_iff.1 h).2
  show (w.heap.modify g _)[g]? = _
  rw [Array.getElem?_eq_getElem (by rw [Array.size_modify]; exact hl), Array.getElem_modify_self, hk]
  simp
theorem BlkAt.other {g b : Nat} {cs : List Value} {w : World} (h : BlkAt t g cs w) (hne : g ≠ b) (j : Nat) (x : Value) : BlkAt t g cs (w.setCell ⟨b, j, none⟩ x) := by
  show (w.setCell ⟨b, j, none⟩ x).heap[g]? = _
  rw [Below.heap_setCell _ _ _ _ (by simpa using hne)]; exact h
theorem BlkAt.range {g : Nat} {cs : List Value} {w : World} (h : BlkAt t g cs w) : w.rangeAt g 0 cs := fun j v hv => by rw [Nat.zero_add]; exact h.cell hv
end
end Go.Proofs.Ytdjhgahdiggahaa

namespace Go.Proofs.Ytdjhgahdiggahaa
open Go.RowKit
attribute [local go_sem ↓] Go.wp_at_zero Go.wp_at_succ
open Sp

set_option maxRecDepth 100000 in
theorem ok_at {l : List WyN} {i : Nat} {n : WyN} (h : l[i]? = some n) : okAt l i ↔ lst l i < n.1 ∧ n.1 < 8 ∧ 0 ≤ n.2 ∧ n.2 < 255 := by
  unfold okAt
  rw [wyAt_get h]
set_option maxRecDepth 100000 in
theorem may_end {l : List WyN} {n : Nat} (hn : n = l.length) (h : okTo l n) : decide (0 < n) = decide (mayP l) := by
  rw [decide_eq_decide]
  unfold mayP
  subst hn
  constructor
  · intro h0
    exact ⟨fun e => by rw [e] at h0; simp at h0, h⟩
  · intro h0
    exact (mayP_len h0).1
set_option maxRecDepth 100000 in
theorem mayW {w : World} {v : Value} {l : List WyN} (hv : Nxs w v l) (hl : l.length ≤ 1000000) (ho : ∀ n ∈ l, NxOk n) : Calls Try.prog 35 #[v] w fun e w' => e = .returned (.bool (decide (mayP l))) ∧ Below w.heap.size w w' := by
  have HV := Lib.hid hv
  have HO : Hid (∀ n ∈ l, NxOk n) := by
    have : ∀ n ∈ l, NxOk n := ho
    exact this
  obtain ⟨a, c, rfl⟩ := hv.form
  obtain ⟨n, hn⟩ : ∃ n, n = l.length := ⟨_, rfl⟩
  rw [← hn] at HV ⊢ hl
  have HNN := Lib.hid hn
  have g0 : (n : Int) ≤ 1000000 := by omega
  obtain ⟨r, hr⟩ : ∃ r, r = decide (mayP l) := ⟨_, rfl⟩
  have HR := Lib.hid hr
  rw [← hr]
  clear hr hv ho hn hl
  go_enter Try.func35, Try.ntmps35
  go_wp2_with fail
  go_loopw [3, 8] (fun y x wr => ∃ i : Nat, i ≤ n ∧ y = .int .i64 (lst l i) ∧ x = .int .i64 i ∧ Hid (okTo l i) ∧ Hid (Below w.heap.size w wr)) (fun _ x _ => n - (intOf x).toNat)
  case atStart =>
    refine ⟨0, Nat.zero_le _, rfl, rfl, ?_, Below.refl _ _⟩
    have : okTo l 0 := fun j hj => by omega
    exact this
  case round =>
    obtain ⟨i, hi, rfl, rfl, HOK, HB⟩ := hrel
    rcases Nat.lt_or_ge i n with hlt | hge
    · have g1 : (i : Int) < n := by omega
      obtain ⟨x, hx⟩ : ∃ x, l[i]? = some x := ⟨l[i]'(by have := HNN.out; omega), List.getElem?_eq_getElem _⟩
      obtain ⟨bb, oo, ha, _, hcell⟩ := (HV.out.later HB.out).at hx
      have c0 := hcell 0 _ rfl
      have c1 := hcell 1 _ rfl
      simp only [Nat.add_zero] at c0
      subst ha
      obtain ⟨xp, xd⟩ := x
      simp only [nxc] at c0 c1
      have HK := Lib.hid (ok_at hx)
      have HM : Hid (¬ okAt l i → ¬ mayP l) := by
        have : ¬ okAt l i → ¬ mayP l := not_may (by have := HNN.out; omega)
        exact this
      have HAT := Lib.hid (wyAt_get hx)
      obtain ⟨la, hla⟩ : ∃ la, la = lst l i := ⟨_, rfl⟩
      rw [← hla] at HK ⊢
      have HLA := Lib.hid hla
      have HWT := Lib.hid (weightL xp xd)
      obtain ⟨wx, hwx⟩ : ∃ wx : Int, wx = (wt xd : Nat) := ⟨_, rfl⟩
      rw [← hwx] at HWT
      have HWX := Lib.hid hwx
      obtain ⟨wA, hwA⟩ : ∃ wA, wA = wr.alloc (.cells #[.int .i64 xp, .int .i64 xd] 76) := ⟨_, rfl⟩
      have hbA : Below wr.heap.size wr wA := by rw [hwA]; exact ba1 _ _
      have hXA : BlkAt 76 wr.heap.size [.int .i64 xp, .int .i64 xd] wA := by rw [hwA]; exact BlkAt.new wr _
      have HXA := Lib.hid hXA
      have HBA := Lib.hid (HB.out.trans (hbA.mono HB.out.size))
      have HWA := Lib.hid hwA
      clear hcell hx hla hwx hwA hbA hXA
      have fin : ∀ W, Below w.heap.size w W → ¬ okAt l i → (false = r ∧ Below w.heap.size w W) := fun W hW hk => ⟨by rw [HR.out]; exact (decide_eq_false (HM.out hk)).symm, hW⟩
      have FIN := Lib.hid fin
      clear fin
      go_wp2_with fail
      · rw [← HWA.out]
        refine (HWT.out _).mono ?_
        rintro e w1 ⟨rfl, hb1⟩
        have d0 := (HXA.out.later hb1).cell (j := 0) rfl
        have HB1 := Lib.hid (below_of HBA.out hb1)
        clear hb1 c0 c1
        have HZ : Hid (wx = 0 ↔ ¬ (0 ≤ xd ∧ xd < 255)) := by
          have : wx = 0 ↔ ¬ (0 ≤ xd ∧ xd < 255) := by
            rw [HWX.out, ← wt_zero]
            omega
          exact this
        go_wp2_with fail
        · rename_i hz
          go_ret
          have hz0 : wx = 0 := by simp at hz; omega
          obtain ⟨h1, h2⟩ := FIN.out _ HB1.out (fun h => HZ.out.1 hz0 (HK.out.1 h).2.2)
          exact ⟨by rw [← h1]; rfl, h2⟩
        · rename_i hz
          have hz0 : wx ≠ 0 := by simpa using hz.2
          have hok : okAt l i := HK.out.2 ⟨by assumption, by assumption, by
            have := HZ.out
            have h9 : ¬ ¬ (0 ≤ xd ∧ xd < 255) := fun h => hz0 (this.2 h)
            omega⟩
          refine ⟨⟨i + 1, by omega, ?_, by simp, okTo_succ HOK.out hok, HB1.out⟩, by simp [intOf]; omega⟩
          rw [lst_succ, HAT.out]
      · rw [← HWA.out]
        go_ret
        obtain ⟨h1, h2⟩ := FIN.out _ HBA.out (fun h => by have := HK.out.1 h; omega)
        exact ⟨by rw [← h1]; rfl, h2⟩
      · rw [← HWA.out]
        go_ret
        obtain ⟨h1, h2⟩ := FIN.out _ HBA.out (fun h => by have := HK.out.1 h; omega)
        exact ⟨by rw [← h1]; rfl, h2⟩
    · obtain rfl : i = n := by omega
      go_wp2_with fail
      go_ret
      refine ⟨ret_b ?_, HB.out⟩
      rw [HR.out]
      exact may_end HNN.out HOK.out
end Go.Proofs.Ytdjhgahdiggahaa

namespace Go.Proofs.Ytdjhgahdiggahaa
open Go.RowKit
attribute [local go_sem ↓] Go.wp_at_zero Go.wp_at_succ
open Sp

set_option maxRecDepth 100000 in
theorem mayR {w : World} {v : Value} {l : List WyN} (hv : Nxs w v l) (hl : l.length ≤ 1000000) : Calls Try.prog 36 #[v] w fun e w' => e = .returned (.bool (decide (mayP l))) ∧ Below w.heap.size w w' := by
  have HV := Lib.hid hv
  obtain ⟨a, c, rfl⟩ := hv.form
  obtain ⟨n, hn⟩ : ∃ n, n = l.length := ⟨_, rfl⟩
  rw [← hn] at HV ⊢ hl
  have HNN := Lib.hid hn
  have g0 : (n : Int) ≤ 1000000 := by omega
  obtain ⟨r, hr⟩ : ∃ r, r = decide (mayP l) := ⟨_, rfl⟩
  have HR := Lib.hid hr
  rw [← hr]
  have FIN : Hid (¬ (1 ≤ n ∧ n ≤ 8) → false = r) := by
    have : ¬ (1 ≤ n ∧ n ≤ 8) → false = r := fun h => by
      rw [HR.out]
      refine (decide_eq_false fun hm => h ?_).symm
      have := mayP_len hm
      rw [HNN.out]; exact this
    exact this
  clear hr hv hn hl
  by_cases hn1 : n < 1
  · go_enter Try.func36, Try.ntmps36
    go_wp2_with fail
    go_ret
    exact ⟨by rw [← FIN.out (by omega)]; rfl, Below.refl _ _⟩
  · by_cases hn8 : 8 < n
    · have g8 : (8 : Int) < n := by omega
      have g1 : ¬ (n : Int) < 1 := by omega
      go_enter Try.func36, Try.ntmps36
      go_wp2_with fail
      go_ret
      exact ⟨by rw [← FIN.out (by omega)]; rfl, Below.refl _ _⟩
    · have g8 : ¬ (8 : Int) < n := by omega
      have g1 : ¬ (n : Int) < 1 := by omega
      have HN1 := Lib.hid hn1
      clear hn1 hn8
      go_enter Try.func36, Try.ntmps36
      go_wp2_with fail
      go_loopw [3] (fun x wr => ∃ i : Nat, i ≤ n ∧ x = .int .i64 i ∧ Hid (okTo l i) ∧ Hid (Below w.heap.size w wr)) (fun x _ => n - (intOf x).toNat)
      case atStart =>
        refine ⟨0, Nat.zero_le _, rfl, ?_, Below.refl _ _⟩
        have : okTo l 0 := fun j hj => by omega
        exact this
      case round =>
        obtain ⟨i, hi, rfl, HOK, HB⟩ := hrel
        rcases Nat.lt_or_ge i n with hlt | hge
        · have g3 : (i : Int) < n := by omega
          obtain ⟨x, hx⟩ : ∃ x, l[i]? = some x := ⟨l[i]'(by have := HNN.out; omega), List.getElem?_eq_getElem _⟩
          obtain ⟨bb, oo, ha, _, hcell⟩ := (HV.out.later HB.out).at hx
          have c0 := hcell 0 _ rfl
          have c1 := hcell 1 _ rfl
          simp only [Nat.add_zero] at c0
          subst ha
          obtain ⟨xp, xd⟩ := x
          simp only [nxc] at c0 c1
          have HK := Lib.hid (ok_at hx)
          have HM : Hid (¬ okAt l i → false = r) := by
            have : ¬ okAt l i → false = r := fun hk => by
              rw [HR.out]
              exact (decide_eq_false (not_may (by have := HNN.out; omega) hk)).symm
            exact this
          have HAT := Lib.hid (wyAt_get hx)
          have HGE := Lib.hid (lst_ge HOK.out)
          clear hcell hx
          by_cases t0 : xp < 0
          · have d0 : decide (xp < 0) = true := decide_eq_true t0
            go_wp2_with fail
            go_quiet (fail)
            have HB2 := Lib.hid (below_drewN HB.out nq)
            go_wp2_with fail
            go_ret
            exact ⟨by rw [← HM.out (fun h => by have := HK.out.1 h; have := HGE.out; omega)]; rfl, HB2.out⟩
          · have d0 : decide (xp < 0) = false := decide_eq_false t0
            by_cases t1 : 8 ≤ xp
            · have d1 : decide (8 ≤ xp) = true := decide_eq_true t1
              go_wp2_with fail
              go_quiet (fail)
              have HB2 := Lib.hid (below_drewN HB.out nq)
              go_wp2_with fail
              go_ret
              exact ⟨by rw [← HM.out (fun h => by have := HK.out.1 h; omega)]; rfl, HB2.out⟩
            · have d1 : decide (8 ≤ xp) = false := decide_eq_false t1
              have HL1 := Lib.hid HGE
              clear HGE
              rcases Nat.eq_zero_or_pos i with hz | hz
              · subst hz
                have hl0 : lst l 0 = -1 := rfl
                rw [hl0] at HK
                simp only [Nat.zero_mul, Nat.add_zero] at c0 c1
                clear hl0
                by_cases t3 : xd < 0
                · have d3 : decide (xd < 0) = true := decide_eq_true t3
                  go_wp2_with fail
                  go_quiet (fail)
                  have HB2 := Lib.hid (below_drewN HB.out nq)
                  go_wp2_with fail
                  go_ret
                  exact ⟨by rw [← HM.out (fun h => by have := HK.out.1 h; omega)]; rfl, HB2.out⟩
                · have d3 : decide (xd < 0) = false := decide_eq_false t3
                  by_cases t4 : 255 ≤ xd
                  · have d4 : decide (255 ≤ xd) = true := decide_eq_true t4
                    go_wp2_with fail
                    go_quiet (fail)
                    have HB2 := Lib.hid (below_drewN HB.out nq)
                    go_wp2_with fail
                    go_ret
                    exact ⟨by rw [← HM.out (fun h => by have := HK.out.1 h; omega)]; rfl, HB2.out⟩
                  · have d4 : decide (255 ≤ xd) = false := decide_eq_false t4
                    go_wp2_with fail
                    go_quiet (fail)
                    have HB2 := Lib.hid (below_drewN HB.out nq)
                    go_wp2_with fail
                    go_roundw
                    case rel => exact ⟨_, by omega, by go_num, okTo_succ HOK.out (HK.out.2 ⟨by omega, by omega, by omega, by omega⟩), HB2.out⟩
                    case measure => simp [intOf]; omega
              · obtain ⟨j, rfl⟩ : ∃ j, i = j + 1 := ⟨i - 1, by omega⟩
                obtain ⟨y, hy⟩ : ∃ y, l[j]? = some y := ⟨l[j]'(by have := HNN.out; omega), List.getElem?_eq_getElem _⟩
                obtain ⟨b3, o3, ha3, _, hcell3⟩ := (HV.out.later HB.out).at hy
                cases ha3
                have e0 := hcell3 0 _ rfl
                simp only [Nat.add_zero] at e0
                obtain ⟨yp, yd⟩ := y
                simp only [nxc] at e0
                have hl1 : lst l (j + 1) = yp := by rw [lst_succ, wyAt_get hy]
                rw [hl1] at HK
                clear hl1 hcell3 hy
                by_cases t2 : xp ≤ yp
                · have d2 : decide (xp ≤ yp) = true := decide_eq_true t2
                  go_wp2_with fail
                  go_quiet (fail)
                  have HB2 := Lib.hid (below_drewN HB.out nq)
                  go_wp2_with fail
                  go_ret
                  exact ⟨by rw [← HM.out (fun h => by have := HK.out.1 h; omega)]; rfl, HB2.out⟩
                · have d2 : decide (xp ≤ yp) = false := decide_eq_false t2
                  by_cases t3 : xd < 0
                  · have d3 : decide (xd < 0) = true := decide_eq_true t3
                    go_wp2_with fail
                    go_quiet (fail)
                    have HB2 := Lib.hid (below_drewN HB.out nq)
                    go_wp2_with fail
                    go_ret
                    exact ⟨by rw [← HM.out (fun h => by have := HK.out.1 h; omega)]; rfl, HB2.out⟩
                  · have d3 : decide (xd < 0) = false := decide_eq_false t3
                    by_cases t4 : 255 ≤ xd
                    · have d4 : decide (255 ≤ xd) = true := decide_eq_true t4
                      go_wp2_with fail
                      go_quiet (fail)
                      have HB2 := Lib.hid (below_drewN HB.out nq)
                      go_wp2_with fail
                      go_ret
                      exact ⟨by rw [← HM.out (fun h => by have := HK.out.1 h; omega)]; rfl, HB2.out⟩
                    · have d4 : decide (255 ≤ xd) = false := decide_eq_false t4
                      go_wp2_with fail
                      go_quiet (fail)
                      have HB2 := Lib.hid (below_drewN HB.out nq)
                      go_wp2_with fail
                      go_roundw
                      case rel => exact ⟨_, by omega, by go_num, okTo_succ HOK.out (HK.out.2 ⟨by omega, by omega, by omega, by omega⟩), HB2.out⟩
                      case measure => simp [intOf]; omega
        · obtain rfl : i = n := by omega
          have q0 : ¬ (i : Int) < i := by omega
          go_wp2_with fail
          go_ret
          refine ⟨ret_b ?_, HB.out⟩
          rw [HR.out, ← may_end HNN.out HOK.out]
          exact (decide_eq_true (by have := HN1.out; omega)).symm
end Go.Proofs.Ytdjhgahdiggahaa

namespace Go.Proofs.Ytdjhgahdiggahaa
namespace Wp

/-- The first n of 32 bits, the others noughts. -/
def fst (a n : Int) : Int := a / 2 ^ (32 - n).toNat * 2 ^ (32 - n).toNat
/-- A prefix that may be. -/
def mayB (a n : Int) : Bool := decide (0 ≤ n) && (decide (n ≤ 32) && decide (fst a n = a))
def hasB (a n b : Int) : Bool := mayB a n && decide (fst b n = a)
def inB (a n b m : Int) : Bool := mayB a n && (mayB b m && (decide (n ≤ m) && decide (fst b n = a)))
def cmpI (a n b m : Int) : Int := if a < b then -1 else if b < a then 1 else if n < m then -1 else if m < n then 1 else 0

theorem pow_pos' (k : Nat) : (0 : Int) < 2 ^ k := Int.pow_pos (by decide)

theorem fst_nonneg {a n : Int} (h : 0 ≤ a) : 0 ≤ fst a n := by
  unfold fst
  exact Int.mul_nonneg (Int.ediv_nonneg h (Int.le_of_lt (pow_pos' _))) (Int.le_of_lt (pow_pos' _))
theorem fst_le {a n : Int} : fst a n ≤ a := by
  unfold fst
  exact Int.ediv_mul_le a (Int.ne_of_gt (pow_pos' _))

/-- The shift to the left leaves nothing: the bits behind the first n are noughts. -/
theorem shl_zero {a n : Int} (hn : 0 ≤ n) (hn2 : n ≤ 32) : (a * 2 ^ n.toNat % 4294967296 == 0) = decide (fst a n = a) := by
  have e : (4294967296 : Int) = 2 ^ (32 - n).toNat * 2 ^ n.toNat := by
    rw [← Int.pow_add]
    have : (32 - n).toNat + n.toNat = 32 := by omega
    rw [this]; decide
  have hp := pow_pos' n.toNat
  rw [Bool.eq_iff_iff]
  simp only [beq_iff_eq, decide_eq_true_eq]
  rw [e, Int.mul_comm a, Int.mul_comm (2 ^ (32 - n).toNat : Int), Int.mul_emod_mul_of_pos _ _ hp]
  constructor
  · intro h
    have h2 : a % 2 ^ (32 - n).toNat = 0 := by
      rcases Int.mul_eq_zero.1 h with h | h
      · omega
      · exact h
    unfold fst
    have := Int.mul_ediv_add_emod a (2 ^ (32 - n).toNat)
    rw [h2] at this
    rw [Int.mul_comm]; omega
  · intro h
    unfold fst at h
    have := Int.mul_ediv_add_emod a (2 ^ (32 - n).toNat)
    rw [Int.mul_comm] at h
    have h2 : a % 2 ^ (32 - n).toNat = 0 := by omega
    rw [h2]; simp


theorem div_lo (a : Int) (k : Nat) (h : 0 ≤ a) : 0 ≤ a / 2 ^ k := Int.ediv_nonneg h (Int.le_of_lt (pow_pos' _))
theorem div_hi (a : Int) (k : Nat) (h : 0 ≤ a) (h2 : a < 4294967296) : a / 2 ^ k < 4294967296 := by
  have := Int.ediv_le_self (2 ^ k) h
  omega
theorem div_succ (a : Int) (k : Nat) : a / 2 ^ (k + 1) = a / 2 ^ k / 2 := by
  rw [Int.pow_succ, Int.ediv_ediv_of_nonneg (Int.le_of_lt (pow_pos' _))]

theorem nat_xor_self_iff (a b : Nat) : a ^^^ b = 0 ↔ a = b := by
  constructor
  · intro h
    have h2 : a ^^^ b ^^^ b = 0 ^^^ b := by rw [h]
    rw [Nat.xor_assoc, Nat.xor_self, Nat.xor_zero, Nat.zero_xor] at h2
    exact h2
  · rintro rfl; exact Nat.xor_self a
theorem nat_xor_zero (a b k : Nat) : ((a ^^^ b) / 2 ^ k = 0) ↔ a / 2 ^ k = b / 2 ^ k := by
  rw [← Nat.shiftRight_eq_div_pow, ← Nat.shiftRight_eq_div_pow, ← Nat.shiftRight_eq_div_pow, Nat.shiftRight_xor_distrib]
  exact nat_xor_self_iff _ _
theorem fst_nat (a k : Nat) (n : Int) (hk : (32 - n).toNat = k) : fst (a : Int) n = ((a / 2 ^ k * 2 ^ k : Nat) : Int) := by
  unfold fst; rw [hk]; simp
theorem xor_fst (a b k : Nat) (n : Int) (hk : (32 - n).toNat = k) (h : fst (a : Int) n = a) : ((((a ^^^ b : Nat) : Int) / 2 ^ k) == 0) = decide (fst (b : Int) n = (a : Int)) := by
  rw [Bool.eq_iff_iff, decide_eq_true_eq, beq_iff_eq]
  rw [fst_nat b k n hk]
  rw [fst_nat a k n hk] at h
  have e : ((((a ^^^ b : Nat) : Int) / 2 ^ k) = 0) ↔ ((a ^^^ b) / 2 ^ k = 0) := by
    constructor
    · intro h2
      have : (((a ^^^ b) / 2 ^ k : Nat) : Int) = 0 := by simpa using h2
      omega
    · intro h2
      have : (((a ^^^ b) / 2 ^ k : Nat) : Int) = 0 := by rw [h2]; rfl
      simpa using this
  rw [e, nat_xor_zero]
  have hp : 0 < 2 ^ k := Nat.pow_pos (by decide)
  constructor
  · intro h2; rw [← h2]; exact h
  · intro h2
    have h3 : a / 2 ^ k * 2 ^ k = b / 2 ^ k * 2 ^ k := by omega
    exact Nat.eq_of_mul_eq_mul_right hp h3

theorem mul_lo (a : Int) (m k : Nat) (h : 0 ≤ a) : 0 ≤ a / 2 ^ m * 2 ^ k := Int.mul_nonneg (div_lo a m h) (Int.le_of_lt (pow_pos' _))
theorem mul_hi (a : Int) (m k : Nat) (h : 0 ≤ a) (h2 : a < 4294967296) (hk : k ≤ m) : a / 2 ^ m * 2 ^ k < 4294967296 := by
  have h3 : a / 2 ^ m * 2 ^ k ≤ a / 2 ^ m * 2 ^ m := by
    refine Int.mul_le_mul_of_nonneg_left ?_ (div_lo a m h)
    have := Nat.pow_le_pow_right (n := 2) (by decide) hk
    exact_mod_cast this
  have h4 := Int.ediv_mul_le a (Int.ne_of_gt (pow_pos' m))
  omega
theorem mul_succ' (a : Int) (m k : Nat) : a / 2 ^ m * 2 ^ (k + 1) = a / 2 ^ m * 2 ^ k * 2 := by
  rw [Int.pow_succ, Int.mul_assoc]
theorem mul_hi2 (a : Int) (m k : Nat) (h : 0 ≤ a) (h2 : a < 4294967296) (hk : k + 1 ≤ m) : a / 2 ^ m * 2 ^ k * 2 < 4294967296 := by
  rw [← mul_succ']; exact mul_hi a m (k + 1) h h2 hk

theorem inB_has (a n b m : Int) : inB a n b m = (mayB b m && (decide (n ≤ m) && hasB a n b)) := by
  unfold inB hasB
  cases mayB a n <;> cases mayB b m <;> cases decide (n ≤ m) <;> simp

theorem atoi_range {l : List UInt8} {v : Int} (h : Lib.atoiAll l = .ok v) : -9223372036854775808 ≤ v ∧ v ≤ 9223372036854775807 := by
  unfold Lib.atoiAll at h
  split at h
  · cases h
  · dsimp only at h
    split at h
    · cases h
    · cases h
    · split at h
      · cases h
      · split at h
        · cases h
        · split at h <;> (injection h with h; omega)

theorem cut_len (l sep : List UInt8) : (Lib.cut l sep).1.length ≤ l.length ∧ (Lib.cut l sep).2.1.length ≤ l.length := by
  unfold Lib.cut
  split
  · simp; omega
  · simp
theorem bsize (t : ByteArray) : t.size = t.data.toList.length := by
  show t.data.size = _
  rw [Array.length_toList]
theorem cut_left {t p : ByteArray} {sep : List UInt8} (h : p.data.toList = (Lib.cut t.data.toList sep).1) (ht : t.size ≤ 1000000) : p.size ≤ 1000000 := by
  have h1 := (cut_len t.data.toList sep).1
  rw [← h] at h1
  have e1 := bsize p
  have e2 := bsize t
  omega
theorem cut_right {t p : ByteArray} {sep : List UInt8} (h : p.data.toList = (Lib.cut t.data.toList sep).2.1) (ht : t.size ≤ 1000000) : p.size ≤ 1000000 := by
  have h1 := (cut_len t.data.toList sep).2
  rw [← h] at h1
  have e1 := bsize p
  have e2 := bsize t
  omega
theorem pow256 {k : Nat} (h : k ≤ 3) : (256 : Int) ^ k ≤ 16777216 := by
  have : k = 0 ∨ k = 1 ∨ k = 2 ∨ k = 3 := by omega
  rcases this with rfl | rfl | rfl | rfl <;> decide

theorem pow256_succ {x n : Int} {k : Nat} (h : x < 256 ^ k) (hn : n ≤ 255) : x * 256 + n < 256 ^ (k + 1) := by
  rw [Int.pow_succ]; omega

end Wp
end Go.Proofs.Ytdjhgahdiggahaa

namespace Go.Proofs.Ytdjhgahdiggahaa
namespace Wp

theorem pow_split {n m : Int} (_h0 : 0 ≤ n) (h : n ≤ m) (h2 : m ≤ 32) : (2 : Int) ^ (32 - n).toNat = 2 ^ (32 - m).toNat * 2 ^ (m - n).toNat := by
  rw [← Int.pow_add]
  congr 1
  omega
theorem fst_fst {c n m : Int} (h0 : 0 ≤ n) (h : n ≤ m) (h2 : m ≤ 32) : fst (fst c m) n = fst c n := by
  have hp := pow_pos' (32 - m).toNat
  unfold fst
  rw [pow_split h0 h h2, ← Int.ediv_ediv_of_nonneg (Int.le_of_lt hp), ← Int.ediv_ediv_of_nonneg (Int.le_of_lt hp), Int.mul_ediv_cancel _ (Int.ne_of_gt hp)]
theorem fst_mono {a b n : Int} (h : a ≤ b) : fst a n ≤ fst b n := by
  unfold fst
  exact Int.mul_le_mul_of_nonneg_right (Int.ediv_le_ediv (pow_pos' _) h) (Int.le_of_lt (pow_pos' _))
theorem fst_more {b n m : Int} (h0 : 0 ≤ m) (h : m ≤ n) (h2 : n ≤ 32) (hb : fst b m = b) : fst b n = b := by
  unfold fst at *
  have hp := pow_pos' (32 - n).toNat
  rw [pow_split h0 h h2] at hb
  have h3 : b % 2 ^ (32 - n).toNat = 0 := by
    rw [← hb, Int.mul_comm (2 ^ (32 - n).toNat : Int), ← Int.mul_assoc]
    exact Int.mul_emod_left _ _
  have := Int.mul_ediv_add_emod b (2 ^ (32 - n).toNat)
  rw [Int.mul_comm]; omega

theorem may_of {a n : Int} (h : mayB a n = true) : 0 ≤ n ∧ n ≤ 32 ∧ fst a n = a := by simpa [mayB] using h
theorem in_of {a n b m : Int} (h : inB a n b m = true) : mayB a n = true ∧ mayB b m = true ∧ n ≤ m ∧ fst b n = a := by simpa [inB] using h
theorem in_mk {a n b m : Int} (h1 : mayB a n = true) (h2 : mayB b m = true) (h3 : n ≤ m) (h4 : fst b n = a) : inB a n b m = true := by simp [inB, h1, h2, h3, h4]

theorem cmp_neg (a n b m : Int) : cmpI b m a n = - cmpI a n b m := by
  unfold cmpI; (repeat' split) <;> omega
theorem cmp_bd (a n b m : Int) : -1 ≤ cmpI a n b m ∧ cmpI a n b m ≤ 1 := by
  unfold cmpI; (repeat' split) <;> omega
theorem cmp_le {a n b m : Int} : cmpI a n b m ≤ 0 ↔ a < b ∨ (a = b ∧ n ≤ m) := by
  unfold cmpI; (repeat' split) <;> omega
theorem cmp_lt {a n b m : Int} : cmpI a n b m < 0 ↔ a < b ∨ (a = b ∧ n < m) := by
  unfold cmpI; (repeat' split) <;> omega
theorem cmp_tr {a n b m c r : Int} (h : cmpI a n b m < 0) (h2 : cmpI b m c r < 0) : cmpI a n c r < 0 := by
  rw [cmp_lt] at *; omega
theorem in_cmp {a n c r : Int} (h : inB a n c r = true) : cmpI a n c r ≤ 0 := by
  obtain ⟨_, _, h3, h4⟩ := in_of h
  have := fst_le (a := c) (n := n)
  rw [cmp_le]; omega
theorem in_mid {a n b m c r : Int} (h : inB a n c r = true) (hb : mayB b m = true) (h1 : cmpI a n b m ≤ 0) (h2 : cmpI b m c r ≤ 0) : inB a n b m = true := by
  obtain ⟨ha, _, h3, h4⟩ := in_of h
  obtain ⟨n0, n1, n2⟩ := may_of ha
  obtain ⟨m0, m1, m2⟩ := may_of hb
  rw [cmp_le] at h1 h2
  have e1 := fst_mono (a := a) (b := b) (n := n) (by omega)
  have e2 := fst_mono (a := b) (b := c) (n := n) (by omega)
  have e3 : fst b n = a := by omega
  refine in_mk ha hb ?_ e3
  rcases Int.lt_or_le m n with hlt | hle
  · have := fst_more m0 (Int.le_of_lt hlt) n1 m2
    omega
  · exact hle
theorem in_tr {a n b m c r : Int} (h : inB a n b m = true) (h2 : inB b m c r = true) : inB a n c r = true := by
  obtain ⟨ha, hb, h3, h4⟩ := in_of h
  obtain ⟨_, hc, h5, h6⟩ := in_of h2
  obtain ⟨n0, n1, n2⟩ := may_of ha
  obtain ⟨m0, m1, m2⟩ := may_of hb
  refine in_mk ha hc (by omega) ?_
  rw [← fst_fst n0 h3 m1, h6]; exact h4

end Wp
end Go.Proofs.Ytdjhgahdiggahaa

namespace Go.Proofs.Ytdjhgahdiggahaa
namespace Tp
open Wp

/-- A prefix: its address, its length. -/
abbrev Pf := Int × Int
/-- A prefix that may be, of an address. -/
structure Ok (p : Pf) : Prop where
  a0 : 0 ≤ p.1
  a1 : p.1 < 4294967296
  may : mayB p.1 p.2 = true
theorem Ok.n0 {p : Pf} (h : Ok p) : 0 ≤ p.2 := (may_of h.may).1
theorem Ok.n1 {p : Pf} (h : Ok p) : p.2 ≤ 32 := (may_of h.may).2.1
theorem Ok.fs {p : Pf} (h : Ok p) : fst p.1 p.2 = p.1 := (may_of h.may).2.2
/-- The bit behind the first n. -/
def bit (a n : Int) : Int := a / 2 ^ (31 - n).toNat % 2
theorem bit_or (a n : Int) : bit a n = 0 ∨ bit a n = 1 := by unfold bit; omega
/-- One bit more. -/
theorem fst_bit {a n : Int} (h0 : 0 ≤ n) (h1 : n ≤ 31) : fst a (n + 1) = fst a n + bit a n * 2 ^ (31 - n).toNat := by
  unfold fst bit
  have e1 : (32 - (n + 1)).toNat = (31 - n).toNat := by omega
  have e2 : (32 - n).toNat = (31 - n).toNat + 1 := by omega
  rw [e1, e2, Int.pow_succ]
  have hp := pow_pos' (31 - n).toNat
  obtain ⟨P, hP⟩ : ∃ P : Int, P = 2 ^ (31 - n).toNat := ⟨_, rfl⟩
  rw [← hP] at hp ⊢
  rw [← Int.ediv_ediv_of_nonneg (Int.le_of_lt hp)]
  obtain ⟨q, hq⟩ : ∃ q, q = a / P := ⟨_, rfl⟩
  rw [← hq]
  have := Int.mul_ediv_add_emod q 2
  have e3 : q / 2 * (P * 2) = (2 * (q / 2)) * P := by rw [Int.mul_comm P 2, ← Int.mul_assoc, Int.mul_comm (q / 2) 2]
  rw [e3, ← Int.add_mul]
  congr 1
  omega
theorem bit_eq {a b n : Int} (h0 : 0 ≤ n) (h1 : n ≤ 31) (h : fst a (n + 1) = fst b (n + 1)) (h2 : fst a n = fst b n) : bit a n = bit b n := by
  rw [fst_bit h0 h1, fst_bit h0 h1, h2] at h
  have hp := pow_pos' (31 - n).toNat
  have h3 : bit a n * 2 ^ (31 - n).toNat = bit b n * 2 ^ (31 - n).toNat := by omega
  exact Int.eq_of_mul_eq_mul_right (Int.ne_of_gt hp) h3
theorem eq_bit {a b n : Int} (h0 : 0 ≤ n) (h1 : n ≤ 31) (h : bit a n = bit b n) (h2 : fst a n = fst b n) : fst a (n + 1) = fst b (n + 1) := by
  rw [fst_bit h0 h1, fst_bit h0 h1, h2, h]
/-- Of the same first bits, that with the bit 0 is smaller. -/
theorem bit_lt {a b n : Int} (h0 : 0 ≤ n) (h1 : n ≤ 31) (h : fst a n = fst b n) (ha : bit a n = 0) (hb : bit b n = 1) : a < b := by
  rcases Int.lt_or_le a b with h2 | h2
  · exact h2
  · have h3 := fst_mono (n := n + 1) h2
    rw [fst_bit h0 h1, fst_bit h0 h1, h, ha, hb] at h3
    have hp := pow_pos' (31 - n).toNat
    omega
theorem fst_zero {a : Int} (h0 : 0 ≤ a) (h1 : a < 4294967296) : fst a 0 = 0 := by
  unfold fst
  have e : ((32 : Int) - 0).toNat = 32 := by decide
  have h2 : a / 2 ^ 32 = 0 := Int.ediv_eq_zero_of_lt h0 h1
  rw [e, h2, Int.zero_mul]
theorem fst_eq_less {a b n m : Int} (h0 : 0 ≤ n) (h : n ≤ m) (h2 : m ≤ 32) (e : fst a m = fst b m) : fst a n = fst b n := by
  rw [← fst_fst h0 h h2, e, fst_fst h0 h h2]

/-- q lies within p. -/
def wi (p q : Pf) : Bool := inB p.1 p.2 q.1 q.2
theorem wi_iff {p q : Pf} (hp : Ok p) (hq : Ok q) : wi p q = true ↔ p.2 ≤ q.2 ∧ fst q.1 p.2 = p.1 := by
  unfold wi
  constructor
  · intro h; obtain ⟨_, _, h3, h4⟩ := in_of h; exact ⟨h3, h4⟩
  · rintro ⟨h3, h4⟩; exact in_mk hp.may hq.may h3 h4
/-- The order. -/
def lt (p q : Pf) : Prop := p.1 < q.1 ∨ (p.1 = q.1 ∧ p.2 < q.2)
theorem lt_iff {p q : Pf} : lt p q ↔ cmpI p.1 p.2 q.1 q.2 < 0 := by unfold lt; rw [cmp_lt]
theorem lt_irrefl (p : Pf) : ¬ lt p p := by unfold lt; omega
theorem lt_trans {p q r : Pf} (h : lt p q) (h2 : lt q r) : lt p r := by unfold lt at *; omega
theorem lt_ne {p q : Pf} (h : lt p q) : p ≠ q := by rintro rfl; exact lt_irrefl _ h
theorem lt_tri (p q : Pf) : lt p q ∨ p = q ∨ lt q p := by
  obtain ⟨a, n⟩ := p
  obtain ⟨b, m⟩ := q
  unfold lt
  simp only [Prod.mk.injEq]
  omega
instance (p q : Pf) : Decidable (lt p q) := by unfold lt; infer_instance
/-- q lies below p, on its way b. -/
structure Bel (p : Pf) (b : Int) (q : Pf) : Prop where
  ok : Ok q
  len : p.2 < q.2
  fs : fst q.1 p.2 = p.1
  bt : bit q.1 p.2 = b
theorem Bel.n31 {p : Pf} {b : Int} {q : Pf} (h : Bel p b q) : p.2 ≤ 31 := by have := h.ok.n1; have := h.len; omega
theorem Bel.lt {p : Pf} {b : Int} {q : Pf} (h : Bel p b q) : lt p q := by
  have := fst_le (a := q.1) (n := p.2)
  have := h.fs
  have := h.len
  unfold Tp.lt; omega
theorem Bel.wi {p : Pf} {b : Int} {q : Pf} (hp : Ok p) (h : Bel p b q) : wi p q = true := (wi_iff hp h.ok).2 ⟨Int.le_of_lt h.len, h.fs⟩
theorem Bel.sides {p : Pf} {x y : Pf} (hp : Ok p) (hx : Bel p 0 x) (hy : Bel p 1 y) : Tp.lt x y := by
  have := bit_lt hp.n0 hx.n31 (hx.fs.trans hy.fs.symm) hx.bt hy.bt
  exact .inl this
theorem Bel.of {p q : Pf} (hp : Ok p) (hq : Ok q) (hw : Tp.wi p q = true) (hne : p ≠ q) : Bel p (bit q.1 p.2) q := by
  obtain ⟨h1, h2⟩ := (wi_iff hp hq).1 hw
  refine ⟨hq, ?_, h2, rfl⟩
  rcases Int.lt_or_le p.2 q.2 with h | h
  · exact h
  · have e : p.2 = q.2 := by omega
    have : q.1 = p.1 := by rw [← hq.fs, ← e]; exact h2
    exact absurd (Prod.ext this.symm e) hne

/-- Do they share so many bits? -/
def shr (p q : Pf) (n : Int) : Prop := n ≤ p.2 ∧ n ≤ q.2 ∧ fst p.1 n = fst q.1 n
instance (p q : Pf) (n : Int) : Decidable (shr p q n) := by unfold shr; infer_instance
/-- The longest prefix that both are within, up to a length. -/
def comF (p q : Pf) : Nat → Pf
  | 0 => (0, 0)
  | k + 1 => if shr p q ((k + 1 : Nat) : Int) then (fst p.1 ((k + 1 : Nat) : Int), ((k + 1 : Nat) : Int)) else comF p q k
def com (p q : Pf) : Pf := comF p q 32
theorem comF_eq {p q : Pf} (hp : Ok p) (n : Nat) (h : shr p q n) : ∀ k, n ≤ k → (∀ m, n < m → m ≤ k → ¬ shr p q (m : Int)) → comF p q k = (fst p.1 n, (n : Int))
  | 0, hk, _ => by
    obtain rfl : n = 0 := by omega
    simp only [comF]
    rw [show ((0 : Nat) : Int) = 0 from rfl, fst_zero hp.a0 hp.a1]
  | k + 1, hk, hf => by
    unfold comF
    by_cases hn : n = k + 1
    · subst hn; rw [if_pos h]
    · rw [if_neg (hf (k + 1) (by omega) (Nat.le_refl _))]
      exact comF_eq hp n h k (by omega) (fun m h1 h2 => hf m h1 (by omega))
/-- Where they part is the longest prefix of both. -/
theorem com_eq {p q : Pf} (hp : Ok p) {n : Int} (h0 : 0 ≤ n) (h : shr p q n) (hn : p.2 = n ∨ q.2 = n ∨ bit p.1 n ≠ bit q.1 n) : com p q = (fst p.1 n, n) := by
  obtain ⟨N, rfl⟩ := Int.eq_ofNat_of_zero_le h0
  have h32 : N ≤ 32 := by have := hp.n1; have := h.1; omega
  refine comF_eq hp N h 32 h32 (fun m h1 h2 hs => ?_)
  obtain ⟨s1, s2, s3⟩ := hs
  rcases hn with hn | hn | hn
  · omega
  · omega
  · have e := fst_eq_less (n := (N : Int) + 1) (by omega) (by omega) (by omega) s3
    exact hn (bit_eq (by omega) (by omega) e h.2.2)
theorem comF_ok {p q : Pf} (hp : Ok p) (hq : Ok q) : ∀ k : Nat, k ≤ 32 → ∃ n : Nat, n ≤ k ∧ shr p q n ∧ (∀ m, n < m → m ≤ k → ¬ shr p q (m : Int)) ∧ comF p q k = (fst p.1 n, (n : Int))
  | 0, _ => ⟨0, Nat.le_refl _, ⟨hp.n0, hq.n0, by rw [show ((0 : Nat) : Int) = 0 from rfl, fst_zero hp.a0 hp.a1, fst_zero hq.a0 hq.a1]⟩, fun m h1 h2 => by omega, by
      simp only [comF]
      rw [show ((0 : Nat) : Int) = 0 from rfl, fst_zero hp.a0 hp.a1]⟩
  | k + 1, hk => by
    by_cases hs : shr p q ((k + 1 : Nat) : Int)
    · exact ⟨k + 1, Nat.le_refl _, hs, fun m h1 h2 => by omega, by unfold comF; rw [if_pos hs]⟩
    · obtain ⟨n, h1, h2, h3, h4⟩ := comF_ok hp hq k (by omega)
      refine ⟨n, by omega, h2, fun m h5 h6 => ?_, by unfold comF; rw [if_neg hs]; exact h4⟩
      rcases Nat.lt_or_ge k m with h7 | h7
      · obtain rfl : m = k + 1 := by omega
        exact hs
      · exact h3 m h5 h7
theorem fst_may {a n : Int} (h0 : 0 ≤ n) (h1 : n ≤ 32) : mayB (fst a n) n = true := by
  unfold mayB
  simp only [Bool.and_eq_true, decide_eq_true_eq]
  exact ⟨h0, h1, fst_fst h0 (Int.le_refl _) h1⟩
/-- What the longest prefix of two is, where neither is within the other. -/
theorem com_part {p q : Pf} (hp : Ok p) (hq : Ok q) (h1 : wi p q = false) (h2 : wi q p = false) :
    Ok (com p q) ∧ Bel (com p q) (bit p.1 (com p q).2) p ∧ Bel (com p q) (bit q.1 (com p q).2) q ∧ bit p.1 (com p q).2 ≠ bit q.1 (com p q).2 := by
  obtain ⟨n, hn, hs, hm, he⟩ := comF_ok hp hq 32 (Nat.le_refl _)
  have e : com p q = (fst p.1 n, (n : Int)) := he
  obtain ⟨s1, s2, s3⟩ := hs
  have hpn : (n : Int) < p.2 := by
    rcases Int.lt_or_le (n : Int) p.2 with h | h
    · exact h
    · have e2 : p.2 = (n : Int) := by omega
      have : wi p q = true := (wi_iff hp hq).2 ⟨by omega, by rw [e2, ← s3, ← e2]; exact hp.fs⟩
      rw [h1] at this; cases this
  have hqn : (n : Int) < q.2 := by
    rcases Int.lt_or_le (n : Int) q.2 with h | h
    · exact h
    · have e2 : q.2 = (n : Int) := by omega
      have : wi q p = true := (wi_iff hq hp).2 ⟨by omega, by rw [e2, s3, ← e2]; exact hq.fs⟩
      rw [h2] at this; cases this
  have hp1 := hp.n1
  have hq1 := hq.n1
  have hb : bit p.1 n ≠ bit q.1 n := by
    intro hb
    have hx := eq_bit (by omega) (by omega) hb s3
    exact hm (n + 1) (by omega) (by omega) ⟨by omega, by omega, by simpa using hx⟩
  have hok : Ok (com p q) := by
    rw [e]
    exact ⟨fst_nonneg hp.a0, by have := fst_le (a := p.1) (n := (n : Int)); have := hp.a1; simp only; omega, fst_may (by omega) (by omega)⟩
  rw [e] at hok ⊢
  exact ⟨hok, ⟨hp, hpn, rfl, rfl⟩, ⟨hq, hqn, s3.symm, rfl⟩, hb⟩
/-- The longest prefix of two that lie below p on one way lies there, too. -/
theorem com_bel {p : Pf} {b : Int} {x y : Pf} (hp : Ok p) (hx : Bel p b x) (hy : Bel p b y) : Bel p b (com x y) := by
  obtain ⟨n, hn, hs, hm, he⟩ := comF_ok hx.ok hy.ok 32 (Nat.le_refl _)
  have e : com x y = (fst x.1 n, (n : Int)) := he
  have h31 := hx.n31
  have h0 := hp.n0
  have hlen : p.2 < (n : Int) := by
    rcases Int.lt_or_le p.2 (n : Int) with h | h
    · exact h
    · obtain ⟨P, hP⟩ := Int.eq_ofNat_of_zero_le h0
      have h1 := hx.len
      have h2 := hy.len
      have hx2 := eq_bit h0 h31 (hx.bt.trans hy.bt.symm) (hx.fs.trans hy.fs.symm)
      exact absurd ⟨by rw [hP] at h1; omega, by rw [hP] at h2; omega, by rw [hP] at hx2; simpa using hx2⟩ (hm (P + 1) (by omega) (by rw [hP] at h31; omega))
  have hx1 := hx.ok.n1
  have hle := hs.1
  rw [e]
  refine ⟨⟨fst_nonneg hx.ok.a0, by have := fst_le (a := x.1) (n := (n : Int)); have := hx.ok.a1; simp only; omega, fst_may (by omega) (by omega)⟩, hlen, ?_, ?_⟩
  · simp only
    rw [fst_fst h0 (Int.le_of_lt hlen) (by omega)]; exact hx.fs
  · simp only
    have e1 := fst_fst (c := x.1) (n := p.2 + 1) (m := (n : Int)) (by omega) (by omega) (by omega)
    have e2 := fst_fst (c := x.1) (n := p.2) (m := (n : Int)) (by omega) (by omega) (by omega)
    rw [bit_eq h0 h31 e1 e2]; exact hx.bt
/-- Of two on p's two ways, the longest prefix is p. -/
theorem com_sides {p : Pf} {x y : Pf} (hp : Ok p) (hx : Bel p 0 x) (hy : Bel p 1 y) : com x y = p := by
  have := com_eq hx.ok (n := p.2) hp.n0 ⟨Int.le_of_lt hx.len, Int.le_of_lt hy.len, hx.fs.trans hy.fs.symm⟩ (.inr (.inr (by rw [hx.bt, hy.bt]; decide)))
  rw [this, hx.fs]
theorem com_up {p : Pf} {b : Int} {y : Pf} (hp : Ok p) (hy : Bel p b y) : com p y = p := by
  have := com_eq hp (q := y) (n := p.2) hp.n0 ⟨Int.le_refl _, Int.le_of_lt hy.len, by rw [hp.fs]; exact hy.fs.symm⟩ (.inl rfl)
  rw [this, hp.fs]
end Tp
end Go.Proofs.Ytdjhgahdiggahaa

namespace Go.Proofs.Ytdjhgahdiggahaa
namespace Tp
open Wp

abbrev En := Pf × Int
inductive Tr where
  | nil : Tr
  | node : Pf → Option Int → Tr → Tr → Tr
/-- Its nodes' prefixes. -/
def Tr.pl : Tr → List Pf
  | .nil => []
  | .node p _ l r => p :: (l.pl ++ r.pl)
def one (p : Pf) : Option Int → List En
  | some v => [(p, v)]
  | none => []
/-- Its entries, in their order. -/
def Tr.el : Tr → List En
  | .nil => []
  | .node p v l r => one p v ++ (l.el ++ r.el)
def Tr.size : Tr → Nat
  | .nil => 0
  | .node _ _ l r => 1 + l.size + r.size
theorem Tr.pl_length : ∀ T : Tr, T.pl.length = T.size
  | .nil => rfl
  | .node p v l r => by simp only [Tr.pl, Tr.size, List.length_cons, List.length_append, pl_length l, pl_length r]; omega
/-- Its form is right. -/
def Tr.Inv : Tr → Prop
  | .nil => True
  | .node p v l r => Ok p ∧ (∀ q ∈ l.pl, Bel p 0 q) ∧ (∀ q ∈ r.pl, Bel p 1 q) ∧ (v = none → l ≠ .nil ∧ r ≠ .nil) ∧ l.Inv ∧ r.Inv
theorem Tr.el_pl : ∀ (T : Tr) (x : En), x ∈ T.el → x.1 ∈ T.pl
  | .node p v l r, x, h => by
    simp only [Tr.el, List.mem_append] at h
    simp only [Tr.pl, List.mem_cons, List.mem_append]
    rcases h with h | h | h
    · cases v with
      | none => simp [one] at h
      | some v => simp [one] at h; subst h; exact .inl rfl
    · exact .inr (.inl (el_pl l x h))
    · exact .inr (.inr (el_pl r x h))
theorem Tr.Inv.ok : ∀ {T : Tr}, T.Inv → ∀ q ∈ T.pl, Ok q
  | .node p v l r, h, q, hq => by
    obtain ⟨h1, h2, h3, _, h5, h6⟩ := h
    simp only [Tr.pl, List.mem_cons, List.mem_append] at hq
    rcases hq with rfl | hq | hq
    · exact h1
    · exact (h2 q hq).ok
    · exact (h3 q hq).ok
theorem Tr.Inv.some : ∀ {T : Tr}, T.Inv → T ≠ .nil → T.el ≠ []
  | .node p v l r, h, _ => by
    obtain ⟨h1, h2, h3, h4, h5, h6⟩ := h
    cases v with
    | some v => simp [Tr.el, one]
    | none =>
      have := Tr.Inv.some h5 (h4 rfl).1
      simp only [Tr.el, one, List.nil_append]
      intro h
      exact this (List.append_eq_nil_iff.1 h).1
/-- No more nodes than twice the entries, less one. -/
theorem Tr.Inv.few : ∀ {T : Tr}, T.Inv → T.size ≤ 2 * T.el.length - 1 ∧ (T ≠ .nil → 1 ≤ T.el.length)
  | .nil, _ => ⟨by simp [Tr.size], fun h => absurd rfl h⟩
  | .node p v l r, h => by
    obtain ⟨h1, h2, h3, h4, h5, h6⟩ := h
    obtain ⟨a1, a2⟩ := Tr.Inv.few h5
    obtain ⟨b1, b2⟩ := Tr.Inv.few h6
    simp only [Tr.size, Tr.el, List.length_append]
    have zl : l = .nil → l.size = 0 := by rintro rfl; rfl
    have zr : r = .nil → r.size = 0 := by rintro rfl; rfl
    cases v with
    | some v =>
      simp only [one, List.length_cons, List.length_nil]
      refine ⟨?_, fun _ => by omega⟩
      by_cases hl : l = .nil
      · by_cases hr : r = .nil
        · have := zl hl; have := zr hr; omega
        · have := zl hl; have := b2 hr; omega
      · by_cases hr : r = .nil
        · have := zr hr; have := a2 hl; omega
        · have := a2 hl; have := b2 hr; omega
    | none =>
      have := a2 (h4 rfl).1
      have := b2 (h4 rfl).2
      simp only [one, List.length_nil]
      omega
/-- Rising. -/
def Up (L : List En) : Prop := L.Pairwise fun x y => lt x.1 y.1
theorem Tr.Inv.up : ∀ {T : Tr}, T.Inv → Up T.el
  | .nil, _ => List.Pairwise.nil
  | .node p v l r, h => by
    obtain ⟨h1, h2, h3, h4, h5, h6⟩ := h
    have hlr : Up (l.el ++ r.el) := List.pairwise_append.2 ⟨Tr.Inv.up h5, Tr.Inv.up h6, fun x hx y hy => Bel.sides h1 (h2 _ (l.el_pl x hx)) (h3 _ (r.el_pl y hy))⟩
    cases v with
    | none => exact hlr
    | some v =>
      show Up ((p, v) :: (l.el ++ r.el))
      refine List.Pairwise.cons (fun y hy => ?_) hlr
      rcases List.mem_append.1 hy with hy | hy
      · exact (h2 _ (l.el_pl y hy)).lt
      · exact (h3 _ (r.el_pl y hy)).lt

/-- Put into a rising list. -/
def insE : List En → Pf → Int → List En
  | [], p, v => [(p, v)]
  | (q, w) :: L, p, v => if q = p then (p, v) :: L else if lt q p then (q, w) :: insE L p v else (p, v) :: (q, w) :: L
theorem insE_left : ∀ (A B : List En) (p : Pf) (v : Int), (∀ x ∈ A, lt x.1 p) → insE (A ++ B) p v = A ++ insE B p v
  | [], _, _, _, _ => rfl
  | (q, w) :: A, B, p, v, h => by
    have hq := h (q, w) (List.mem_cons_self ..)
    rw [List.cons_append, insE, if_neg (lt_ne hq), if_pos hq, insE_left A B p v (fun x hx => h x (List.mem_cons_of_mem _ hx)), List.cons_append]
theorem insE_head {B : List En} {p : Pf} {v : Int} (h : ∀ x ∈ B, lt p x.1) : insE B p v = (p, v) :: B := by
  cases B with
  | nil => rfl
  | cons x B =>
    obtain ⟨q, w⟩ := x
    have hq := h (q, w) (List.mem_cons_self ..)
    unfold insE
    rw [if_neg (fun e => lt_ne hq e.symm), if_neg (fun h2 => lt_irrefl _ (lt_trans hq h2))]
theorem insE_right : ∀ (A B : List En) (p : Pf) (v : Int), (∀ x ∈ B, lt p x.1) → insE (A ++ B) p v = insE A p v ++ B
  | [], B, p, v, h => insE_head h
  | (q, w) :: A, B, p, v, h => by
    rw [List.cons_append]
    unfold insE
    by_cases h1 : q = p
    · rw [if_pos h1, if_pos h1]; rfl
    · rw [if_neg h1, if_neg h1]
      by_cases h2 : lt q p
      · rw [if_pos h2, if_pos h2, insE_right A B p v h]; rfl
      · rw [if_neg h2, if_neg h2]; rfl
def delE (L : List En) (p : Pf) : List En := L.filter fun x => decide (x.1 ≠ p)
def getE' (L : List En) (p : Pf) : Option Int := (L.find? fun x => decide (x.1 = p)).map Prod.snd

/-- Put in. -/
def ins (p : Pf) (v : Int) : Tr → Tr
  | .nil => .node p (some v) .nil .nil
  | .node q w l r =>
    if q = p then .node q (some v) l r
    else if wi q p = true then (if bit p.1 q.2 = 0 then .node q w (ins p v l) r else .node q w l (ins p v r))
    else if wi p q = true then (if bit q.1 p.2 = 0 then .node p (some v) (.node q w l r) .nil else .node p (some v) .nil (.node q w l r))
    else (if bit p.1 (com p q).2 = 0 then .node (com p q) none (.node p (some v) .nil .nil) (.node q w l r) else .node (com p q) none (.node q w l r) (.node p (some v) .nil .nil))
theorem ins_pl (p : Pf) (v : Int) : ∀ T : Tr, ∀ x ∈ (ins p v T).pl, x = p ∨ x ∈ T.pl ∨ ∃ y ∈ T.pl, x = com p y
  | .nil, x, hx => by simp [ins, Tr.pl] at hx; exact .inl hx
  | .node q w l r, x, hx => by
    unfold ins at hx
    by_cases h1 : q = p
    · rw [if_pos h1] at hx
      exact .inr (.inl hx)
    · rw [if_neg h1] at hx
      by_cases h2 : wi q p = true
      · rw [if_pos h2] at hx
        by_cases h3 : bit p.1 q.2 = 0
        · rw [if_pos h3] at hx
          simp only [Tr.pl, List.mem_cons, List.mem_append] at hx ⊢
          rcases hx with hx | hx | hx
          · exact .inr (.inl (.inl hx))
          · rcases ins_pl p v l x hx with h | h | ⟨y, hy, h⟩
            · exact .inl h
            · exact .inr (.inl (.inr (.inl h)))
            · exact .inr (.inr ⟨y, .inr (.inl hy), h⟩)
          · exact .inr (.inl (.inr (.inr hx)))
        · rw [if_neg h3] at hx
          simp only [Tr.pl, List.mem_cons, List.mem_append] at hx ⊢
          rcases hx with hx | hx | hx
          · exact .inr (.inl (.inl hx))
          · exact .inr (.inl (.inr (.inl hx)))
          · rcases ins_pl p v r x hx with h | h | ⟨y, hy, h⟩
            · exact .inl h
            · exact .inr (.inl (.inr (.inr h)))
            · exact .inr (.inr ⟨y, .inr (.inr hy), h⟩)
      · rw [if_neg h2] at hx
        by_cases h3 : wi p q = true
        · rw [if_pos h3] at hx
          split at hx <;> simp [Tr.pl] at hx ⊢ <;> rcases hx with hx | hx <;> simp [hx]
        · rw [if_neg h3] at hx
          split at hx <;> simp only [Tr.pl, List.mem_cons, List.mem_append, List.not_mem_nil, or_false, false_or, List.append_nil, List.nil_append] at hx ⊢
          · rcases hx with rfl | rfl | hx
            · exact .inr (.inr ⟨q, .inl rfl, rfl⟩)
            · exact .inl rfl
            · exact .inr (.inl hx)
          · rcases hx with rfl | hx | rfl
            · exact .inr (.inr ⟨q, .inl rfl, rfl⟩)
            · exact .inr (.inl hx)
            · exact .inl rfl
theorem ins_ne (p : Pf) (v : Int) (T : Tr) : ins p v T ≠ .nil := by
  cases T with
  | nil => simp [ins]
  | node q w l r =>
    unfold ins
    repeat' split
    all_goals simp
theorem Bel.down {p q x : Pf} {b : Int} (hp : Ok p) (hq : Bel p b q) {c : Int} (hx : Bel q c x) : Bel p b x := by
  have h0 := hp.n0
  have h1 := hq.len
  have h2 := hx.len
  have h3 := hq.ok.n1
  have e : fst x.1 q.2 = fst q.1 q.2 := by rw [hq.ok.fs]; exact hx.fs
  have e0 := fst_eq_less h0 (Int.le_of_lt h1) h3 e
  have e1 := fst_eq_less (n := p.2 + 1) (by omega) (by omega) h3 e
  exact ⟨hx.ok, by omega, e0.trans hq.fs, (bit_eq h0 hq.n31 e1 e0).trans hq.bt⟩
theorem ins_inv {p : Pf} (hp : Ok p) (v : Int) : ∀ T : Tr, T.Inv → (ins p v T).Inv
  | .nil, _ => ⟨hp, fun q h => by simp [Tr.pl] at h, fun q h => by simp [Tr.pl] at h, (fun h => by cases h), trivial, trivial⟩
  | .node q w l r, h => by
    have hh := h
    obtain ⟨h1, h2, h3, h4, h5, h6⟩ := h
    unfold ins
    by_cases e1 : q = p
    · rw [if_pos e1]
      exact ⟨h1, h2, h3, (fun h => by cases h), h5, h6⟩
    · rw [if_neg e1]
      by_cases e2 : wi q p = true
      · rw [if_pos e2]
        have hb := Bel.of h1 hp e2 e1
        by_cases e3 : bit p.1 q.2 = 0
        · rw [if_pos e3]
          rw [e3] at hb
          refine ⟨h1, fun x hx => ?_, h3, fun h => ⟨ins_ne _ _ _, (h4 h).2⟩, ins_inv hp v l h5, h6⟩
          rcases ins_pl p v l x hx with h | h | ⟨y, hy, h⟩
          · rw [h]; exact hb
          · exact h2 x h
          · rw [h]; exact com_bel h1 hb (h2 y hy)
        · rw [if_neg e3]
          have e4 : bit p.1 q.2 = 1 := by rcases bit_or p.1 q.2 with h | h; exact absurd h e3; exact h
          rw [e4] at hb
          refine ⟨h1, h2, fun x hx => ?_, fun h => ⟨(h4 h).1, ins_ne _ _ _⟩, h5, ins_inv hp v r h6⟩
          rcases ins_pl p v r x hx with h | h | ⟨y, hy, h⟩
          · rw [h]; exact hb
          · exact h3 x h
          · rw [h]; exact com_bel h1 hb (h3 y hy)
      · rw [if_neg e2]
        have nil_pl : ∀ (P : Pf → Prop), ∀ x ∈ Tr.pl .nil, P x := fun P x hx => by simp [Tr.pl] at hx
        by_cases e3 : wi p q = true
        · rw [if_pos e3]
          have hb := Bel.of hp h1 e3 (fun h => e1 h.symm)
          have all : ∀ x ∈ (Tr.node q w l r).pl, Bel p (bit q.1 p.2) x := by
            intro x hx
            simp only [Tr.pl, List.mem_cons, List.mem_append] at hx
            rcases hx with rfl | hx | hx
            · exact hb
            · exact Bel.down hp hb (h2 x hx)
            · exact Bel.down hp hb (h3 x hx)
          by_cases e4 : bit q.1 p.2 = 0
          · rw [if_pos e4]
            rw [e4] at all
            exact ⟨hp, all, nil_pl _, (fun h => by cases h), hh, trivial⟩
          · rw [if_neg e4]
            have e5 : bit q.1 p.2 = 1 := by rcases bit_or q.1 p.2 with h | h; exact absurd h e4; exact h
            rw [e5] at all
            exact ⟨hp, nil_pl _, all, (fun h => by cases h), trivial, hh⟩
        · rw [if_neg e3]
          obtain ⟨c1, c2, c3, c4⟩ := com_part hp h1 (by simpa using e3) (by simpa using e2)
          have all : ∀ x ∈ (Tr.node q w l r).pl, Bel (com p q) (bit q.1 (com p q).2) x := by
            intro x hx
            simp only [Tr.pl, List.mem_cons, List.mem_append] at hx
            rcases hx with rfl | hx | hx
            · exact c3
            · exact Bel.down c1 c3 (h2 x hx)
            · exact Bel.down c1 c3 (h3 x hx)
          have leaf : ∀ x ∈ (Tr.node p (some v) .nil .nil).pl, Bel (com p q) (bit p.1 (com p q).2) x := by
            intro x hx
            simp [Tr.pl] at hx
            subst hx; exact c2
          have li : (Tr.node p (some v) .nil .nil).Inv := ⟨hp, nil_pl _, nil_pl _, (fun h => by cases h), trivial, trivial⟩
          by_cases e4 : bit p.1 (com p q).2 = 0
          · rw [if_pos e4]
            have e5 : bit q.1 (com p q).2 = 1 := by
              rcases bit_or q.1 (com p q).2 with h | h
              · rw [e4, h] at c4; exact absurd rfl c4
              · exact h
            rw [e4] at leaf
            rw [e5] at all
            exact ⟨c1, leaf, all, fun _ => ⟨by simp, by simp⟩, li, hh⟩
          · rw [if_neg e4]
            have e6 : bit p.1 (com p q).2 = 1 := by rcases bit_or p.1 (com p q).2 with h | h; exact absurd h e4; exact h
            have e5 : bit q.1 (com p q).2 = 0 := by
              rcases bit_or q.1 (com p q).2 with h | h
              · exact h
              · rw [e6, h] at c4; exact absurd rfl c4
            rw [e6] at leaf
            rw [e5] at all
            exact ⟨c1, all, leaf, fun _ => ⟨by simp, by simp⟩, hh, li⟩
theorem ins_el {p : Pf} (hp : Ok p) (v : Int) : ∀ T : Tr, T.Inv → (ins p v T).el = insE T.el p v
  | .nil, _ => rfl
  | .node q w l r, h => by
    have hh := h
    obtain ⟨h1, h2, h3, h4, h5, h6⟩ := h
    have l1 : ∀ x ∈ l.el, Bel q 0 x.1 := fun x hx => h2 _ (l.el_pl x hx)
    have r1 : ∀ x ∈ r.el, Bel q 1 x.1 := fun x hx => h3 _ (r.el_pl x hx)
    have o1 : ∀ x ∈ one q w, x.1 = q := by
      intro x hx
      cases w with
      | none => simp [one] at hx
      | some w => simp [one] at hx; rw [hx]
    have up : ∀ x ∈ l.el ++ r.el, lt q x.1 := by
      intro x hx
      rcases List.mem_append.1 hx with hx | hx
      · exact (l1 x hx).lt
      · exact (r1 x hx).lt
    unfold ins
    by_cases e1 : q = p
    · rw [if_pos e1]
      subst e1
      simp only [Tr.el, one]
      cases w with
      | none =>
        simp only [List.nil_append]
        rw [insE_head up]; rfl
      | some w =>
        simp only [List.cons_append, List.nil_append]
        unfold insE
        rw [if_pos rfl]
    · rw [if_neg e1]
      by_cases e2 : wi q p = true
      · rw [if_pos e2]
        have hb := Bel.of h1 hp e2 e1
        have oq : ∀ x ∈ one q w, lt x.1 p := fun x hx => by rw [o1 x hx]; exact hb.lt
        by_cases e3 : bit p.1 q.2 = 0
        · rw [if_pos e3]
          rw [e3] at hb
          simp only [Tr.el]
          rw [ins_el hp v l h5, insE_left _ _ p v oq, insE_right _ _ p v (fun x hx => Bel.sides h1 hb (r1 x hx))]
        · rw [if_neg e3]
          have e4 : bit p.1 q.2 = 1 := by rcases bit_or p.1 q.2 with h | h; exact absurd h e3; exact h
          rw [e4] at hb
          simp only [Tr.el]
          rw [ins_el hp v r h6, insE_left _ _ p v oq, insE_left _ _ p v (fun x hx => Bel.sides h1 (l1 x hx) hb)]
      · rw [if_neg e2]
        by_cases e3 : wi p q = true
        · rw [if_pos e3]
          have hb := Bel.of hp h1 e3 (fun h => e1 h.symm)
          have all : ∀ x ∈ (Tr.node q w l r).el, lt p x.1 := by
            intro x hx
            have := (Tr.node q w l r).el_pl x hx
            simp only [Tr.pl, List.mem_cons, List.mem_append] at this
            rcases this with e | e | e
            · rw [e]; exact hb.lt
            · exact (Bel.down hp hb (h2 _ e)).lt
            · exact (Bel.down hp hb (h3 _ e)).lt
          rw [insE_head all]
          split
          · simp [Tr.el, one]
          · simp [Tr.el, one]
        · rw [if_neg e3]
          obtain ⟨c1, c2, c3, c4⟩ := com_part hp h1 (by simpa using e3) (by simpa using e2)
          have all : ∀ x ∈ (Tr.node q w l r).el, Bel (com p q) (bit q.1 (com p q).2) x.1 := by
            intro x hx
            have := (Tr.node q w l r).el_pl x hx
            simp only [Tr.pl, List.mem_cons, List.mem_append] at this
            rcases this with e | e | e
            · rw [e]; exact c3
            · exact Bel.down c1 c3 (h2 _ e)
            · exact Bel.down c1 c3 (h3 _ e)
          by_cases e4 : bit p.1 (com p q).2 = 0
          · rw [if_pos e4]
            have e5 : bit q.1 (com p q).2 = 1 := by
              rcases bit_or q.1 (com p q).2 with h | h
              · rw [e4, h] at c4; exact absurd rfl c4
              · exact h
            rw [e4] at c2
            rw [e5] at all
            rw [insE_head (fun x hx => Bel.sides c1 c2 (all x hx))]
            simp [Tr.el, one]
          · rw [if_neg e4]
            have e6 : bit p.1 (com p q).2 = 1 := by rcases bit_or p.1 (com p q).2 with h | h; exact absurd h e4; exact h
            have e5 : bit q.1 (com p q).2 = 0 := by
              rcases bit_or q.1 (com p q).2 with h | h
              · exact h
              · rw [e6, h] at c4; exact absurd rfl c4
            rw [e6] at c2
            rw [e5] at all
            have := insE_left (Tr.node q w l r).el [] p v (fun x hx => Bel.sides c1 (all x hx) c2)
            rw [List.append_nil] at this
            rw [this]
            simp [Tr.el, one, insE]
end Tp
end Go.Proofs.Ytdjhgahdiggahaa
