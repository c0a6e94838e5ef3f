/- The walk of ip.fault.
   The walks of sum.Total, sum.Check, sum.Good.
   The walk of the closure that goes over the bytes of lists.
   The walks of sum.Add, the reference's Add, sum.Change, the reference's Change.
   What goes over options, as a contract; the walk of ip.mayOptions.
   The walk of ip.each and of what goes over options.
   The walks of ip.numbers, ip.sizes, ip.first. -/
import Derived.RangeFuncNested
import Derived.RangeFuncBound
import Derived.RangeFuncCalls
import Derived.RangeFuncLeaves
import Derived.Shelf.Abstract
import Derived.Shelf.RegionOpen
import Derived.OwnWalkIn
import Derived.TacticsInMore
import Derived.LoopNIn
import Derived.LoopIn
import Derived.Lib.SliceRun
import Derived.Deep.LoopGhost
import Derived.Test.YtnhkkpcepppgoaaZ01

set_option linter.unusedSimpArgs false
set_option linter.unusedVariables false
namespace Go.Proofs.Ytnhkkpcepppgoaa
open Go.RowKit
attribute [local go_sem ↓] Go.wp_at_zero Go.wp_at_succ

/-- The number that stands at a place, of so many bytes. -/
def numAt (l : List UInt8) (i k : Nat) : Nat := getL ((l.take (i + k)).drop i)
/-- How many bytes a header says that it has. -/
def hsz (l : List UInt8) : Nat := Sm.at0 l 0 % 16 * 4
theorem numAt_lt {l : List UInt8} {i k : Nat} (h : i + k ≤ l.length) : numAt l i k < 256 ^ k := getL_lt _ _ (by simp; omega)
theorem at0_get {l : List UInt8} {i : Nat} (h : i < l.length) : Sm.at0 l i = l[i].toNat := by unfold Sm.at0; rw [List.getElem?_eq_getElem h]; rfl
theorem Bytes.at1 {w : World} {a : Option Addr} {n c : Nat} {l : List UInt8} (h : Bytes w (.slice a n c) l) {i : Nat} (hi : i < l.length) :
    ∃ b o, a = some ⟨b, o, none⟩ ∧ b < w.heap.size ∧ w.cell? ⟨b, o + i, none⟩ = some (.int .u8 (Sm.at0 l i : Nat)) := by
  rw [at0_get hi]; exact h.at hi

theorem numbersW_any (a : Option Addr) (n c : Nat) (w : World) :
    Calls Try.prog 53 #[.slice a n c] w fun e w' => e = .returned (.tuple #[.func (.func 77) #[] #[.pointer (some ⟨w.heap.size, 0, none⟩)], .func (.func 79) #[] #[.pointer (some ⟨w.heap.size, 0, none⟩)]]) ∧ w' = w.alloc (.cells #[.slice a n c] 22) := by
  go_enter Try.func53, Try.ntmps53
  go_wp2_with fail
  go_ret2
  exact ⟨rfl, rfl⟩
theorem and15 {x : Nat} (h : x < 256) : bits .and .u8 (x : Int) 15 = ((x % 16 : Nat) : Int) := by
  rw [u8_and _ 15 (by omega) (by omega) (by omega) (by omega), Int.toNat_natCast]
  have : (15 : Int).toNat = 15 := rfl
  rw [this, Nat.and_two_pow_sub_one_eq_mod x 4]

theorem numG_in (at_ size : Nat) (B : Nat) (v : Value) (l : List UInt8) (w w1 : World) (hb : Below w.heap.size w w1) (hB : B < w.heap.size) (hc : w.cell? ⟨B, 0, none⟩ = some v) (hv : Bytes w v l) (h1 : 1 ≤ size) (h8 : size ≤ 8) (h2 : at_ + size ≤ l.length) (hl : l.length ≤ 1000000) :
    Calls Try.prog 77 #[.int .i64 (at_ : Int), .int .i64 (size : Int), .pointer (some ⟨B, 0, none⟩)] w1 fun e w' => e = .returned (.int .u64 (numAt l at_ size : Nat)) ∧ w1 = w' :=
  numG_any at_ size B v l w1 ((hb.cell (p := ⟨B, 0, none⟩) hB).trans hc) (hv.later hb) h1 h8 h2 hl

set_option maxHeartbeats 1000000 in
theorem sizes_any (v : Value) (l : List UInt8) (w : World) (hv : Bytes w v l) (h20 : 20 ≤ l.length) (hl : l.length ≤ 1000000) :
    Calls Try.prog 52 #[v] w fun e w' => e = .returned (.tuple #[.int .i64 (hsz l : Nat), .int .i64 (numAt l 2 2 : Nat)]) ∧ Below w.heap.size w w' := by
  obtain ⟨a, c, rfl⟩ := hv.form
  obtain ⟨bl, bo, rfl, hbl, hcell⟩ := hv.at1 (i := 0) (by omega)
  have hx := Sm.at0_lt l 0
  obtain ⟨x, hxe⟩ : ∃ x, x = Sm.at0 l 0 := ⟨_, rfl⟩
  rw [← hxe] at hx hcell
  have hA : Below w.heap.size w (w.alloc (.cells #[.slice (some ⟨bl, bo, none⟩) l.length c] 22)) := (Below.refl _ _).alloc (Nat.le_refl _) _
  have hget := fun n => quiet_left (numG_in 2 2 w.heap.size _ l _ ((w.alloc (.cells #[.slice (some ⟨bl, bo, none⟩) l.length c] 22)).drewN n) (below_dr0 _ _ n) (by simp) (by simp) (hv.later hA) (by omega) (by omega) (by omega) hl)
  have hnl := numAt_lt (l := l) (i := 2) (k := 2) (by omega)
  obtain ⟨n, hn⟩ : ∃ n, n = numAt l 2 2 := ⟨_, rfl⟩
  have hn2 : n < 65536 := by rw [hn]; exact hnl
  have hcell0 : w.cell? ⟨bl, bo, none⟩ = some (.int .u8 (x : Int)) := hcell
  have h15 := and15 hx
  have g0 : (0 : Int) < l.length := by omega
  obtain ⟨y, hy⟩ : ∃ y, y = x % 16 := ⟨_, rfl⟩
  have hy2 : y < 16 := by omega
  rw [← hy] at h15
  have H15 := Lib.hid h15
  have HY := Lib.hid hy
  rw [← hn] at hget
  have HG := Lib.hid hget
  have HN := Lib.hid hn
  have HX := Lib.hid hxe
  have HA := Lib.hid hA
  clear hget hv hcell hA h15 hy hn hnl hxe hx
  go_enter Try.func52, Try.ntmps52
  go_wp2_with fail
  refine (numbersW_any _ _ _ _).mono ?_
  rintro e w1 ⟨rfl, rfl⟩
  go_wp2_with fail
  go_quiet ((go_at_call 77; exact HG.out _))
  go_wp2_with fail
  go_ret2
  have e1 : wrap64 (y : Int) = y := IntWalk.wrap64_in _ ⟨by omega, by omega⟩
  have e2 : wrap64 ((y : Int) * 4) = ((y * 4 : Nat) : Int) := by rw [IntWalk.wrap64_in _ ⟨by omega, by omega⟩]; omega
  refine ⟨ret_ii ?_ (by rw [← HN.out]), below_drewN HA.out _⟩
  rw [H15.out, e1, e2, HY.out, HX.out]; rfl
theorem first_no (v : Value) (l : List UInt8) (w : World) (hv : Bytes w v l) (h : l.length < 2 ∨ Sm.at0 l 1 < 2 ∨ l.length < Sm.at0 l 1) (hl : l.length ≤ 1000000) :
    Calls Try.prog 86 #[v] w fun e w' => e = .returned (.slice none 0 0) ∧ w = w' := by
  obtain ⟨a, c, rfl⟩ := hv.form
  rcases Nat.lt_or_ge l.length 2 with h1 | h1
  · have g1 : (l.length : Int) < 2 := by omega
    clear hv h
    go_enter Try.func86, Try.ntmps86
    go_wp2
    go_ret
    exact ⟨rfl, rfl⟩
  · obtain ⟨bl, bo, rfl, hbl, hcell⟩ := hv.at1 (i := 1) (by omega)
    obtain ⟨x, hxe⟩ : ∃ x, x = Sm.at0 l 1 := ⟨_, rfl⟩
    have hx : x < 256 := by rw [hxe]; exact Sm.at0_lt l 1
    rw [← hxe] at hcell h
    have g1 : (2 : Int) ≤ l.length := by omega
    clear hv hxe
    rcases Nat.lt_or_ge x 2 with h2 | h2
    · have g2 : (x : Int) < 2 := by omega
      clear h
      go_enter Try.func86, Try.ntmps86
      go_wp2
      go_ret
      exact ⟨rfl, rfl⟩
    · have g2 : (2 : Int) ≤ x := by omega
      have g3 : (l.length : Int) < x := by omega
      clear h
      go_enter Try.func86, Try.ntmps86
      go_wp2
      go_ret
      exact ⟨rfl, rfl⟩
set_option maxRecDepth 100000 in
theorem first_yes (bl bo c : Nat) (l : List UInt8) (w : World) (hv : Bytes w (.slice (some ⟨bl, bo, none⟩) l.length c) l) (h : 2 ≤ Sm.at0 l 1) (h2 : Sm.at0 l 1 ≤ l.length) (hl : l.length ≤ 1000000) :
    Calls Try.prog 86 #[.slice (some ⟨bl, bo, none⟩) l.length c] w fun e w' => e = .returned (.slice (some ⟨bl, bo, none⟩) (Sm.at0 l 1) c) ∧ w = w' := by
  obtain ⟨b2, o2, e1, hbl, hcell⟩ := hv.at1 (i := 1) (by omega)
  simp only [Option.some.injEq, Addr.mk.injEq, and_true] at e1
  obtain ⟨rfl, rfl⟩ := e1
  obtain ⟨x, hxe⟩ : ∃ x, x = Sm.at0 l 1 := ⟨_, rfl⟩
  have hx : x < 256 := by rw [hxe]; exact Sm.at0_lt l 1
  obtain ⟨hs, _⟩ := hv.cut_hk .u8 (x : Int) x rfl (by omega)
  rw [← hxe] at hcell h h2 ⊢
  have hs' := hs w
  have g1 : (2 : Int) ≤ l.length := by omega
  have g2 : (2 : Int) ≤ x := by omega
  have g3 : (x : Int) ≤ l.length := by omega
  clear hv hxe hs h h2 hl
  go_enter Try.func86, Try.ntmps86
  go_wp2_with fail
  go_ret
  exact ⟨rfl, rfl⟩
end Go.Proofs.Ytnhkkpcepppgoaa

namespace Go.Proofs.Ytnhkkpcepppgoaa
open Go.RowKit Go.Shelf
attribute [local go_sem] Oper.semAt_some

/-- What is told: an option's bytes, or nil. -/
def OptV (w : World) (v : Value) : Option (List UInt8) → Prop
  | none => v = .slice none 0 0
  | some r => ∃ b o c, v = .slice (some ⟨b, o, none⟩) r.length c ∧ b < w.heap.size ∧ 2 ≤ r.length ∧ r.length < 256 ∧ Bytes w v r
/-- One of them. -/
def Opt (w : World) : Type := { p : Value × Option (List UInt8) // OptV w p.1 p.2 }
def Opt.raw {w : World} (x : Opt w) : Option (List UInt8) := x.1.2
def Opt.val {w : World} (x : Opt w) : Value := x.1.1
def slen : Value → Nat
  | .slice _ n _ => n
  | _ => 0

theorem wpIn_scope_wide {n : Nat} {P : Program} {c : Code} {Q : Exit → Act → World → Prop} {a : Act} {w : World} (h : c.wpIn Fence.wide n P (Exit.noGoto Q) a w) : (Code.scope c).wpIn Fence.wide n P Q a w :=
  wpIn_wide.2 (wp_scope_straight (wpIn_wide.1 h))

theorem each_any (a : Option Addr) (n c : Nat) (w : World) :
    Calls Try.prog 74 #[.slice a n c] w fun e w' => e = .returned (.func (.func 85) #[] #[.pointer (some ⟨w.heap.size, 0, none⟩)]) ∧ w' = w.alloc (.cells #[.slice a n c] 22) := by
  go_enter Try.func74, Try.ntmps74
  go_wp2_with fail
  go_ret
  exact ⟨rfl, rfl⟩

set_option maxRecDepth 100000 in
set_option maxHeartbeats 2000000 in
theorem each1_in (n : Nat) (hn : 1 ≤ n) (w0 : World) (l Bn : Nat) (L : List UInt8) (v : Value) (hL : L.length ≤ 1000000) (J Jx : List (Opt w0) → World → Prop)
    (hY : ∀ pre x W, J pre W → pre.length < L.length → YieldAt Fence.wide (n - 1) Try.prog l #[x.val] W fun e W' =>
      (e = .returned (.bool true) ∧ J (pre ++ [x]) W' ∧ Below w0.heap.size W W') ∨ (e = .returned (.bool false) ∧ Jx (pre ++ [x]) W'))
    (W : World) (hBn : W.cell? ⟨Bn, 0, none⟩ = some v) (hv : Bytes w0 v L) (hW : Below w0.heap.size w0 W) (h0 : J [] W) :
    CallsIn Fence.wide n Try.prog 85 #[.func (.yield l) #[] #[], .pointer (some ⟨Bn, 0, none⟩)] W fun e W' => (∃ v, e = .returned v) ∧
      ((∃ ys, ys.map Opt.raw = Om.seq L ∧ J ys W') ∨ (∃ pre, pre.map Opt.raw <+: Om.seq L ∧ Jx pre W')) := by
  obtain ⟨a, c, rfl⟩ := hv.form
  refine callsIn_of_wp Try.func85 rfl trivial ?_ rfl
  simp only [Try.ntmps85, List.size_toArray, List.length_cons, List.length_nil, Nat.reduceAdd, Nat.reduceSub, Array.replicate_succ, Array.replicate_zero, List.push_toArray, List.append_toArray, List.nil_append, List.cons_append]
  have HV := Lib.hid hv
  have HY := Lib.hid hY
  have HW := Lib.hid hW
  clear hv hY hW
  refine wpIn_scope_wide ?_
  gi_wp2_with fail
  refine wpIn_label ?_
  gi_wp2_with fail
  gi_loopw [3] (fun r wr => ∃ (rest : List UInt8) (a' : Option Addr) (c' : Nat) (pre : List (Opt w0)), r = .slice a' rest.length c' ∧ rest.length ≤ L.length ∧ Hid (Bytes w0 (.slice a' rest.length c') rest) ∧ Hid (pre.map Opt.raw ++ Om.seq rest = Om.seq L) ∧ Hid (J pre wr) ∧ Hid (Below w0.heap.size w0 wr)) (fun r _ => slen r)
  case atStart => exact ⟨L, a, c, [], rfl, Nat.le_refl _, HV.out, rfl, h0, HW.out⟩
  case round =>
    obtain ⟨rest, a', c', pre, rfl, hrl, HB, HS, HJ, HL⟩ := hrel
    rcases Nat.eq_zero_or_pos rest.length with hz | hz
    · obtain rfl : rest = [] := List.length_eq_zero_iff.1 hz
      have HE : Hid (pre.map Opt.raw = Om.seq L) := by have := HS.out; rw [Om.seq_nil, List.append_nil] at this; exact this
      simp only [List.length_nil]
      clear HS HB hz hrl
      gi_wp2_with fail
      simp only [Exit.noGoto]
      go_end0
      exact ⟨⟨_, rfl⟩, .inl ⟨pre, HE.out, HJ.out⟩⟩
    · obtain ⟨b, o, rfl, hb, hcell⟩ := HB.out.at1 hz
      have hcw := cell_later' HL.out hb hcell
      have hx := Sm.at0_lt rest 0
      obtain ⟨x, hxe⟩ : ∃ x, x = Sm.at0 rest 0 := ⟨_, rfl⟩
      rw [← hxe] at hx hcw
      have hcw0 : wr.cell? ⟨b, o, none⟩ = some (.int .u8 (x : Int)) := hcw
      have g0 : (0 : Int) < rest.length := by omega
      have HX := Lib.hid hxe
      clear hcell hcw hxe
      rcases Nat.eq_zero_or_pos x with hx0 | hx0
      · subst hx0
        have HE : Hid (pre.map Opt.raw = Om.seq L) := by have := HS.out; rw [Om.seq_end HX.out.symm, List.append_nil] at this; exact this
        clear HS HB
        gi_wp2_with fail
        simp only [Exit.noGoto]
        go_end0
        exact ⟨⟨_, rfl⟩, .inl ⟨pre, HE.out, HJ.out⟩⟩
      · rcases Nat.lt_or_ge 1 x with hx1 | hx1
        · by_cases hbad : rest.length < 2 ∨ Sm.at0 rest 1 < 2 ∨ rest.length < Sm.at0 rest 1
          · have hf := callsIn_wide (n := n - 1).2 (first_no _ rest wr (HB.out.later HL.out) hbad (by omega))
            have hsq := Om.seq_bad hz (by rw [← HX.out]; omega) hbad
            have HE : Hid (pre.map Opt.raw ++ [none] = Om.seq L) := by have := HS.out; rw [hsq] at this; exact this
            have hlen : pre.length < L.length := by
              have := congrArg List.length HE.out
              have h2 := Om.seq_len _ L (Nat.le_refl _)
              simp at this; omega
            obtain ⟨fn, tmps, assign, body, hy, hR⟩ := HY.out pre ⟨(.slice none 0 0, none), rfl⟩ wr HJ.out hlen
            have HF := Lib.hid hf
            have HR := Lib.hid hR
            dsimp only [Opt.val] at hy
            have g1 : ((x : Int) == 0) = false := by simp; omega
            have g2 : ((x : Int) == 1) = false := by simp; omega
            have hnn : ∀ W, (binOp .eql 22 (.slice none 0 0) (.slice none 0 0)).run Try.prog W = .ok (.bool true) W := fun W => Lib.run_eql_slice_nil W _ _ none 0 0 0 0 Try.underlying22
            clear hbad hsq hlen hf HS HB hR
            gi_wp2_with fail
            refine ⟨trivial, HF.out.mono ?_⟩
            rintro e w1 ⟨rfl, rfl⟩
            gi_wp2_with fail
            refine HR.out.mono ?_
            rintro e W3 (⟨rfl, hJ3, hk3⟩ | ⟨rfl, hJx3⟩)
            · have HJ3 := Lib.hid hJ3
              clear hJ3
              gi_wp2_with fail
              simp only [Exit.noGoto]
              go_end0
              exact ⟨⟨_, rfl⟩, .inl ⟨pre ++ [⟨(.slice none 0 0, none), rfl⟩], by rw [List.map_append]; exact HE.out, HJ3.out⟩⟩
            · have HJ3 := Lib.hid hJx3
              clear hJx3
              gi_wp2_with fail
              simp only [Exit.noGoto]
              go_end0
              exact ⟨⟨_, rfl⟩, .inr ⟨pre ++ [⟨(.slice none 0 0, none), rfl⟩], by rw [List.map_append, show List.map Opt.raw [(⟨(.slice none 0 0, none), rfl⟩ : Opt w0)] = [none] from rfl, HE.out]; exact List.prefix_refl _, HJ3.out⟩⟩
          · have n1 : 2 ≤ rest.length := by omega
            have n2 : 2 ≤ Sm.at0 rest 1 := by omega
            have n3 : Sm.at0 rest 1 ≤ rest.length := by omega
            have hf := callsIn_wide (n := n - 1).2 (first_yes b o c' rest wr (HB.out.later HL.out) n2 n3 (by omega))
            have hsq := Om.seq_opt (l := rest) (by rw [← HX.out]; omega) n2 n3
            obtain ⟨m, hm⟩ : ∃ m, m = Sm.at0 rest 1 := ⟨_, rfl⟩
            rw [← hm] at n2 n3 hf hsq
            have hopt : OptV w0 (.slice (some ⟨b, o, none⟩) m c') (some (rest.take m)) := ⟨b, o, c', by rw [List.length_take, Nat.min_eq_left n3], hb, by rw [List.length_take, Nat.min_eq_left n3]; exact n2, by rw [List.length_take, Nat.min_eq_left n3, hm]; exact Sm.at0_lt _ _, (HB.out.cut_hk .i64 m m rfl n3).2⟩
            have HE : Hid (pre.map Opt.raw ++ some (rest.take m) :: Om.seq (rest.drop m) = Om.seq L) := by have := HS.out; rw [hsq] at this; exact this
            have hlen : pre.length < L.length := by
              have := congrArg List.length HE.out
              have h2 := Om.seq_len _ L (Nat.le_refl _)
              simp at this; omega
            obtain ⟨y, hyv, hyr⟩ : ∃ y : Opt w0, y.val = .slice (some ⟨b, o, none⟩) m c' ∧ y.raw = some (rest.take m) := ⟨⟨(_, _), hopt⟩, rfl, rfl⟩
            obtain ⟨fn, tmps, assign, body, hy, hR⟩ := HY.out pre y wr HJ.out hlen
            rw [hyv] at hy
            obtain ⟨a', hs, hb'⟩ := HB.out.cut_l (m : Int) m rfl n3
            have HF := Lib.hid hf
            have HR := Lib.hid hR
            have HYR := Lib.hid hyr
            have HB' := Lib.hid hb'
            have g1 : ((x : Int) == 0) = false := by simp; omega
            have g2 : ((x : Int) == 1) = false := by simp; omega
            clear hbad hsq hlen hf HS HB hR hopt hyv hyr hm hb'
            gi_wp2_with fail
            refine ⟨trivial, HF.out.mono ?_⟩
            rintro e w1 ⟨rfl, rfl⟩
            gi_wp2_with fail
            refine HR.out.mono ?_
            rintro e W3 (⟨rfl, hJ3, hk3⟩ | ⟨rfl, hJx3⟩)
            · have HJ3 := Lib.hid hJ3
              have HL3 : Hid (Below w0.heap.size w0 W3) := HL.out.trans hk3
              have hs' := hs W3
              clear hJ3 hk3 hs
              have hsn : ∀ W, (binOp .eql 22 (.slice (some ⟨b, o, none⟩) m c') (.slice none 0 0)).run Try.prog W = .ok (.bool false) W := fun W => Lib.run_eql_slice_nil W _ _ (some ⟨b, o, none⟩) m c' 0 0 Try.underlying22
              gi_wp2_with fail
              go_roundw
              case rel => exact ⟨rest.drop m, a', c' - m, pre ++ [y], by rw [List.length_drop], by rw [List.length_drop]; omega, by rw [List.length_drop]; exact HB', by show _ = _; rw [List.map_append, List.append_assoc, show List.map Opt.raw [y] = [some (rest.take m)] from by rw [List.map_singleton, HYR.out]]; exact HE.out, HJ3, HL3⟩
              case measure => simp [slen]; omega
            · have HJ3 := Lib.hid hJx3
              clear hJx3 hs
              gi_wp2_with fail
              simp only [Exit.noGoto]
              go_end0
              exact ⟨⟨_, rfl⟩, .inr ⟨pre ++ [y], ⟨Om.seq (rest.drop m), by rw [List.map_append, List.append_assoc, show List.map Opt.raw [y] = [some (rest.take m)] from by rw [List.map_singleton, HYR.out]]; exact HE.out⟩, HJ3.out⟩⟩
        · obtain rfl : x = 1 := by omega
          obtain ⟨a', hs, hb'⟩ := HB.out.cut_l 1 1 rfl (by omega)
          have hs' := hs wr
          have HB' := Lib.hid hb'
          have HE : Hid (pre.map Opt.raw ++ Om.seq (rest.drop 1) = Om.seq L) := by have := HS.out; rw [Om.seq_nop hz HX.out.symm] at this; exact this
          clear HS HB hs hb'
          gi_wp2_with fail
          go_roundw
          case rel => exact ⟨rest.drop 1, a', c' - 1, pre, by rw [List.length_drop], by rw [List.length_drop]; omega, by rw [List.length_drop]; exact HB', HE, HJ, HL⟩
          case measure => simp [slen]; omega
end Go.Proofs.Ytnhkkpcepppgoaa

namespace Go.Proofs.Ytnhkkpcepppgoaa
open Go.RowKit Go.Shelf
attribute [local go_sem] Oper.semAt_some

theorem nil_nil (W : World) : (binOp .eql 22 (.slice none 0 0) (.slice none 0 0)).run Try.prog W = .ok (.bool true) W := Lib.run_eql_slice_nil W _ _ none 0 0 0 0 Try.underlying22
theorem some_nil (W : World) (x : Addr) (n c : Nat) : (binOp .eql 22 (.slice (some x) n c) (.slice none 0 0)).run Try.prog W = .ok (.bool false) W := Lib.run_eql_slice_nil W _ _ (some x) n c 0 0 Try.underlying22

theorem each_stops (n : Nat) (hn : 1 ≤ n) (w0 w : World) (Bs : Nat) (v : Value) (L : List UInt8) (hL : L.length ≤ 1000000) (hBs : Bs < w.heap.size) (hc : w.cell? ⟨Bs, 0, none⟩ = some v) (hv : Bytes w0 v L) (hb : Below w0.heap.size w0 w) :
    SeqStopsK Fence.wide n Try.prog 85 #[.pointer (some ⟨Bs, 0, none⟩)] (fun x : Opt w0 => #[x.val]) (Below w0.heap.size) (fun ys => ys.map Opt.raw = Om.seq L) (fun pre => pre.map Opt.raw <+: Om.seq L) L.length w := fun l J Jx W hW _ _ hY h0 =>
  each1_in n hn w0 l Bs L v hL J Jx hY W ((hW.cell (p := ⟨Bs, 0, none⟩) hBs).trans hc) hv (hb.trans (hW.mono hb.size)) h0

theorem ok_all {L : List UInt8} {ys : List (Option (List UInt8))} (h : ys = Om.seq L) (hn : ∀ p ∈ ys, p ≠ none) : Om.ok L = true := by
  unfold Om.ok; rw [← h]; simp
  intro h2; exact hn _ h2 rfl
theorem ok_none {L : List UInt8} (h : none ∈ Om.seq L) : Om.ok L = false := by
  unfold Om.ok; simp [h]

set_option maxRecDepth 100000 in
set_option maxHeartbeats 2000000 in
theorem mayOptions_in (n : Nat) (hn : 3 ≤ n) (a : Option Addr) (c : Nat) (L : List UInt8) (hL : L.length ≤ 1000000) (w : World) (hv : Bytes w (.slice a L.length c) L) :
    CallsIn Fence.wide n Try.prog 58 #[.slice a L.length c] w fun e W' => e = .returned (.bool (Om.ok L)) ∧ Below w.heap.size w W' := by
  have h1 : 1 ≤ n := by omega
  refine callsIn_of_wp_marks Try.func58 rfl trivial ?_ rfl
  simp only [Try.ntmps58, List.size_toArray, List.length_cons, List.length_nil, Nat.reduceAdd, Nat.reduceSub, Array.replicate_succ, Array.replicate_zero, List.push_toArray, List.append_toArray, List.nil_append, List.cons_append]
  have HV := Lib.hid hv
  clear hv
  gi_wp2_with fail
  refine ⟨trivial, (callsIn_wide.2 (each_any a L.length c _)).mono ?_⟩
  rintro e w' ⟨rfl, rfl⟩
  gi_wp2_with fail
  have bR := Boxed.new w 4 (.bool false)
  have bN := Boxed.new (w.alloc (.cells #[.bool false] 4)) 22 (.slice a L.length c)
  rw [World.size_alloc] at bN
  have hB0 : Below w.heap.size w ((w.alloc (.cells #[.bool false] 4)).alloc (.cells #[.slice a L.length c] 22)) := ((Below.refl _ w).alloc (Nat.le_refl _) _).alloc (by simp) _
  refine wpIn_rangeFunc_ownG rfl h1 (gf := 85) (lb := #[.pointer (some ⟨w.heap.size + 1, 0, none⟩)]) rfl trivial (enters_of Try.func85 (by kernel_rfl) rfl)
    (each_stops (n - 1) (by omega) w _ (w.heap.size + 1) _ L hL (by simp) bN.cell HV.out hB0) belowK_t (belowK_b (by simp; omega)) (Below.refl _ _) (fun _ => rfl)
    (fun pre W => ((∀ p ∈ pre, p.raw ≠ none) ∧ W.cell? ⟨w.heap.size, 0, none⟩ = some (.bool false) ∧ W.frozen? ⟨w.heap.size, 0, none⟩ = false) ∧ Below w.heap.size w W)
    (fun c pre W => (c = .ret ∧ (∃ p ∈ pre, p.raw = none) ∧ W.cell? ⟨w.heap.size, 0, none⟩ = some (.bool false)) ∧ Below w.heap.size w W)
    (OwnFrom.and (Own.from (fun s A B row hs hg hr => ⟨hs.1, cell_kept hs.2.1 hg hr, (frozen_kept hs.2.1 hg hr).trans hs.2.2⟩) _) (ownFrom_below (Nat.le_refl _) (by simp; omega)))
    (fun c => OwnFrom.and (Own.from (fun s A B row hs hg hr => ⟨hs.1, hs.2.1, cell_kept hs.2.2 hg hr⟩) _) (ownFrom_below (Nat.le_refl _) (by simp; omega)))
    ⟨⟨by simp, (bR.alloc _).cell, (bR.alloc _).frozen⟩, hB0⟩
    (fun x => { tmps := #[.slice a L.length c, undef, .pointer (some ⟨w.heap.size, 0, none⟩), x.val, .slice a L.length c, .func (.func 85) #[] #[.pointer (some ⟨w.heap.size + 1, 0, none⟩)], x.val, undef, undef], defers := [] }) ?assign ?body ?done ?stop
  case assign =>
    intro l x W K hK
    gi_wp2
    exact hK
  case body =>
    rintro l pre x W ⟨⟨hp, hcr, hfr⟩, hB⟩ _
    obtain ⟨⟨v, o⟩, hov⟩ := x
    cases o with
    | none =>
      obtain rfl : v = .slice none 0 0 := hov
      have hnn := nil_nil W
      simp only [Opt.val]
      gi_wp2
      exact ⟨(KeepsOthers.setCell _ _ _).from _, ⟨rfl, ⟨_, List.mem_append_right _ (List.mem_singleton.2 rfl), rfl⟩, World.cell?_setCell_same' _ _ _ (by rw [hcr]; rfl)⟩, hB.setCell (p := ⟨w.heap.size, 0, none⟩) (Nat.le_refl _) _⟩
    | some r =>
      obtain ⟨b, o, c', rfl, hb, _, _, hby⟩ := id hov
      have hsn := some_nil W ⟨b, o, none⟩ r.length c'
      simp only [Opt.val]
      clear hby
      gi_wp2
      exact ⟨KeepsFrom.refl _ _, Below.refl _ _, ⟨fun p hp' => (List.mem_append.1 hp').elim (hp p) (fun e => by rw [List.mem_singleton.1 e]; exact fun h => by cases h), hcr, hfr⟩, hB⟩
  case done =>
    rintro D ys W hD hys ⟨⟨hne, hcr, hfr⟩, hB⟩ hK
    gi_wp2
    have hK' := (KeepsOthers.setCell W ⟨w.heap.size, 0, none⟩ (.bool true)).same D _ hK rfl
    refine ⟨by simp, .inl ⟨_, _, rfl, run_takeDeferred hK', ?_⟩⟩
    have hc5 := cell_kept (World.cell?_setCell_same' W ⟨w.heap.size, 0, none⟩ (.bool true) (by rw [hcr]; rfl)) (grownBy_putObj' _ D (.deferred none)) (fun r e => by cases e; exact ⟨_, hK', rfl⟩)
    have hok := ok_all hys (fun p hp => by obtain ⟨q, hq, rfl⟩ := List.mem_map.1 hp; exact hne q hq)
    refine ⟨.bool true, ?_, by rw [hok], (hB.setCell (p := ⟨w.heap.size, 0, none⟩) (Nat.le_refl _) _).trans (belowK_b (w := w) (Nat.le_refl _) _ D _ _ (by simp at hD; omega) hK' rfl rfl)⟩
    simp [results, Try.f58, go_sem, hc5]
  case stop =>
    rintro D c pre W hD hpre ⟨⟨rfl, ⟨p, hp, hpr⟩, hcr⟩, hB⟩ hK
    gi_wp2
    refine ⟨by simp, .inl ⟨_, _, rfl, run_takeDeferred hK, ?_⟩⟩
    have hc5 := cell_kept hcr (grownBy_putObj' _ D (.deferred none)) (fun r e => by cases e; exact ⟨_, hK, rfl⟩)
    have hok : Om.ok L = false := ok_none (hpre.subset (List.mem_map.2 ⟨p, hp, hpr⟩))
    refine ⟨.bool false, ?_, by rw [hok], hB.trans (belowK_b (w := w) (Nat.le_refl _) W D _ _ (by simp at hD; omega) hK rfl rfl)⟩
    simp [results, Try.f58, go_sem, hc5]
theorem mayOptions_any (v : Value) (L : List UInt8) (hL : L.length ≤ 1000000) (w : World) (hv : Bytes w v L) :
    Calls Try.prog 58 #[v] w fun e W' => e = .returned (.bool (Om.ok L)) ∧ Below w.heap.size w W' := by
  obtain ⟨a, c, rfl⟩ := hv.form
  exact callsIn_wide.1 (mayOptions_in 3 (by omega) a c L hL w hv)
end Go.Proofs.Ytnhkkpcepppgoaa

namespace Go.Proofs.Ytnhkkpcepppgoaa
open Go.RowKit
attribute [local go_sem ↓] Go.wp_at_zero Go.wp_at_succ

theorem addW_any (x y : Nat) (w : World) (hx : x < 65536) (hy : y < 65536) :
    Calls Try.prog 90 #[.int .u16 (x : Int), .int .u16 (y : Int)] w fun e w' => e = .returned (.int .u16 (Sm.addC x y : Nat)) ∧ w = w' := by
  have hx2 : (x : Int) < 65536 := by omega
  have hy2 : (y : Int) < 65536 := by omega
  go_enter Try.func90, Try.ntmps90
  go_wp2
  go_ret
  refine ⟨ret_i ?_, rfl⟩
  rw [wrap16]
  unfold Sm.addC
  split <;> omega
theorem addR_any (x y : Nat) (w : World) (hx : x < 65536) (hy : y < 65536) :
    Calls Try.prog 82 #[.int .u16 (x : Int), .int .u16 (y : Int)] w fun e w' => e = .returned (.int .u16 (Sm.addC x y : Nat)) ∧ w = w' := by
  have hx2 : (x : Int) < 65536 := by omega
  have hy2 : (y : Int) < 65536 := by omega
  by_cases h : 65536 ≤ (x : Int) + y
  all_goals
    go_enter Try.func82, Try.ntmps82
    go_wp2
    go_ret
    refine ⟨ret_i ?_, rfl⟩
    (try rw [wrap16])
    unfold Sm.addC
    split <;> omega
theorem addW_int (x y : Int) (w : World) (hx0 : 0 ≤ x) (hx : x < 65536) (hy0 : 0 ≤ y) (hy : y < 65536) (z : Int) (hz : z = (Sm.addC x.toNat y.toNat : Nat)) :
    Calls Try.prog 90 #[.int .u16 x, .int .u16 y] w fun e w' => e = .returned (.int .u16 z) ∧ w = w' := by
  have := addW_any x.toNat y.toNat w (by omega) (by omega)
  rw [show ((x.toNat : Nat) : Int) = x by omega, show ((y.toNat : Nat) : Int) = y by omega, ← hz] at this
  exact this
theorem addR_int (x y : Int) (w : World) (hx0 : 0 ≤ x) (hx : x < 65536) (hy0 : 0 ≤ y) (hy : y < 65536) (z : Int) (hz : z = (Sm.addC x.toNat y.toNat : Nat)) :
    Calls Try.prog 82 #[.int .u16 x, .int .u16 y] w fun e w' => e = .returned (.int .u16 z) ∧ w = w' := by
  have := addR_any x.toNat y.toNat w (by omega) (by omega)
  rw [show ((x.toNat : Nat) : Int) = x by omega, show ((y.toNat : Nat) : Int) = y by omega, ← hz] at this
  exact this

/-- The first words of a number, the highest first, summed. -/
def foldK (x : Nat) : Nat → Nat
  | 0 => 0
  | 1 => Sm.addC 0 (x / 281474976710656 % 65536)
  | 2 => Sm.addC (Sm.addC 0 (x / 281474976710656 % 65536)) (x / 4294967296 % 65536)
  | 3 => Sm.addC (Sm.addC (Sm.addC 0 (x / 281474976710656 % 65536)) (x / 4294967296 % 65536)) (x / 65536 % 65536)
  | _ => Sm.addC (Sm.addC (Sm.addC (Sm.addC 0 (x / 281474976710656 % 65536)) (x / 4294967296 % 65536)) (x / 65536 % 65536)) (x % 65536)
theorem foldK_lt (x k : Nat) : foldK x k < 65536 := by
  have h1 : Sm.addC 0 (x / 281474976710656 % 65536) < 65536 := Sm.addC_lt (by omega) (by omega)
  have h2 : Sm.addC (Sm.addC 0 (x / 281474976710656 % 65536)) (x / 4294967296 % 65536) < 65536 := Sm.addC_lt h1 (by omega)
  have h3 := Sm.addC_lt h2 (show x / 65536 % 65536 < 65536 by omega)
  have h4 := Sm.addC_lt h3 (show x % 65536 < 65536 by omega)
  unfold foldK
  split
  · omega
  · exact h1
  · exact h2
  · exact h3
  · exact h4
theorem fold_arg0 (x : Nat) (y : Int) (h : y.toNat = x / 281474976710656 % 65536) : ((foldK x 1 : Nat) : Int) = (Sm.addC ((foldK x 0 : Nat) : Int).toNat y.toNat : Nat) := by
  rw [Int.toNat_natCast, h]; rfl
theorem fold_arg1 (x : Nat) (y : Int) (h : y.toNat = x / 4294967296 % 65536) : ((foldK x 2 : Nat) : Int) = (Sm.addC ((foldK x 1 : Nat) : Int).toNat y.toNat : Nat) := by
  rw [Int.toNat_natCast, h]; rfl
theorem fold_arg2 (x : Nat) (y : Int) (h : y.toNat = x / 65536 % 65536) : ((foldK x 3 : Nat) : Int) = (Sm.addC ((foldK x 2 : Nat) : Int).toNat y.toNat : Nat) := by
  rw [Int.toNat_natCast, h]; rfl
theorem fold_arg3 (x : Nat) (y : Int) (h : y.toNat = x / 1 % 65536) : ((foldK x 4 : Nat) : Int) = (Sm.addC ((foldK x 3 : Nat) : Int).toNat y.toNat : Nat) := by
  rw [Int.toNat_natCast, h]; simp [foldK]
def foldN (x : Nat) : Nat := foldK x 4
end Go.Proofs.Ytnhkkpcepppgoaa

namespace Go.Proofs.Ytnhkkpcepppgoaa
open Go.RowKit
attribute [local go_sem ↓] Go.wp_at_zero Go.wp_at_succ

/-- What is still to come behind a place. -/
def rest (L : List (List UInt8)) (i a : Nat) : List UInt8 := (L.drop i).flatten.drop a
/-- What the closure holds. -/
structure Nx (w0 : World) (N i a : Nat) (v : Value) (w : World) : Prop where
  bel : Below w0.heap.size w0 w
  le : w0.heap.size ≤ N
  c0 : w.heap[N]? = some (.cells #[v] 92)
  c1 : w.heap[N + 1]? = some (.cells #[.int .i64 (i : Int)] 3)
  c2 : w.heap[N + 2]? = some (.cells #[.int .i64 (a : Int)] 3)

theorem Nx.set {w0 w : World} {N i a : Nat} {v : Value} (h : Nx w0 N i a v w) (i' a' : Nat) : Nx w0 N i' a' v ((w.setCell ⟨N + 1, 0, none⟩ (.int .i64 (i' : Int))).setCell ⟨N + 2, 0, none⟩ (.int .i64 (a' : Int))) := by
  have hl := h.le
  refine ⟨(h.bel.setCell (by simp; omega) _).setCell (by simp; omega) _, hl, ?_, ?_, ?_⟩
  · rw [Below.heap_setCell _ _ _ _ (by simp), Below.heap_setCell _ _ _ _ (by simp)]; exact h.c0
  · rw [Below.heap_setCell _ _ _ _ (by simp)]; exact one_setCell h.c1
  · refine one_setCell (v := .int .i64 (a : Int)) ?_
    rw [Below.heap_setCell _ _ _ _ (by simp)]; exact h.c2
theorem Nx.set2 {w0 w : World} {N i a : Nat} {v : Value} (h : Nx w0 N i a v w) (a' : Nat) : Nx w0 N i a' v (w.setCell ⟨N + 2, 0, none⟩ (.int .i64 (a' : Int))) := by
  have hl := h.le
  refine ⟨h.bel.setCell (by simp; omega) _, hl, ?_, ?_, ?_⟩
  · rw [Below.heap_setCell _ _ _ _ (by simp)]; exact h.c0
  · rw [Below.heap_setCell _ _ _ _ (by simp)]; exact h.c1
  · exact one_setCell h.c2
theorem Nx.drewN {w0 w : World} {N i a : Nat} {v : Value} (h : Nx w0 N i a v w) (n : Nat) : Nx w0 N i a v (w.drewN n) :=
  ⟨⟨h.bel.os, h.bel.tape, h.bel.output, h.bel.size, h.bel.block⟩, h.le, h.c0, h.c1, h.c2⟩

theorem rest_none {L : List (List UInt8)} {a : Nat} : rest L L.length a = [] := by simp [rest]
theorem rest_in {L : List (List UInt8)} {i a : Nat} (hi : i < L.length) (ha : a < L[i].length) : rest L i a = L[i][a] :: rest L i (a + 1) := by
  unfold rest
  rw [List.drop_eq_getElem_cons hi, List.flatten_cons, List.drop_append_of_le_length (by omega), List.drop_append_of_le_length (by omega), List.drop_eq_getElem_cons ha]
  rfl
theorem rest_end {L : List (List UInt8)} {i : Nat} (hi : i < L.length) : rest L i L[i].length = rest L (i + 1) 0 := by
  unfold rest
  rw [List.drop_eq_getElem_cons hi, List.flatten_cons, List.drop_append_of_le_length (by omega)]
  simp

/-- One byte more: what comes of it. -/
def NextGives (w0 : World) (N : Nat) (v : Value) (L : List (List UInt8)) (i a : Nat) (e : Ending) (w' : World) : Prop :=
  ∃ i' a', e = .returned (.int .u8 (Sm.at0 (rest L i a) 0 : Nat)) ∧ Nx w0 N i' a' v w' ∧ i' ≤ L.length ∧ (∀ h : i' < L.length, a' ≤ L[i'].length) ∧ rest L i' a' = (rest L i a).drop 1

theorem at0_cons {l : List UInt8} {x : UInt8} {r : List UInt8} (h : l = x :: r) : Sm.at0 l 0 = x.toNat := by subst h; rfl
theorem at0_nil {l : List UInt8} (h : l = []) : Sm.at0 l 0 = 0 := by subst h; rfl

set_option maxHeartbeats 1000000 in
theorem next_any (w0 w : World) (N i a c : Nat) (b : Option Addr) (L : List (List UInt8)) (hv : Lists w0 (.slice b L.length c) L) (hx : Nx w0 N i a (.slice b L.length c) w)
    (hi : i ≤ L.length) (ha : ∀ h : i < L.length, a ≤ L[i].length) (hL : L.length ≤ 10000) (hS : ∀ l ∈ L, l.length ≤ 10000) :
    Calls Try.prog 91 #[.pointer (some ⟨N + 1, 0, none⟩), .pointer (some ⟨N, 0, none⟩), .pointer (some ⟨N + 1 + 1, 0, none⟩)] w (NextGives w0 N (.slice b L.length c) L i a) := by
  go_enter Try.func91, Try.ntmps91
  go_wp2_with fail
  go_loopg [4] (L.length - i) (fun k _ wr => ∃ i' a' : Nat, Nx w0 N i' a' (.slice b L.length c) wr ∧ k = L.length - i' ∧ i' ≤ L.length ∧ (∀ h : i' < L.length, a' ≤ L[i'].length) ∧ Hid (rest L i' a' = rest L i a))
  case atStart => exact ⟨i, a, hx, rfl, hi, ha, rfl⟩
  case round =>
    obtain ⟨i', a', hn, rfl, hi', ha', hr⟩ := hrel
    have c0 := cell_of_one hn.c0
    have c1 := cell_of_one hn.c1
    have c2 := cell_of_one hn.c2
    have f1 := free_of_one hn.c1
    have f2 := free_of_one hn.c2
    rcases Nat.lt_or_ge i' L.length with hlt | hge
    · obtain ⟨bl, bo, rfl, hbl, x, d, he, hbe⟩ := hv.at hlt
      have he' := cell_later' hn.bel hbl he
      have hal := ha' hlt
      have hsl := hS _ (List.getElem_mem hlt)
      obtain ⟨m, hm⟩ : ∃ m, m = L[i'].length := ⟨_, rfl⟩
      rw [← hm] at he he' hbe hal hsl
      have g1 : (i' : Int) < L.length := by omega
      have Hm := Lib.hid hm
      clear hm
      have b1 : bl < wr.heap.size := Nat.lt_of_lt_of_le hbl hn.bel.size
      rcases Nat.lt_or_ge a' m with hlt2 | hge2
      · have g2 : decide ((a' : Int) = m) = false := by simp; omega
        have g3 : ((a' : Int) == m) = false := by simp; omega
        have hlx : a' < L[i'].length := by rw [← Hm.out]; exact hlt2
        obtain ⟨bx, ox, rfl, hbx, hex⟩ := hbe.at hlx
        have hex' := cell_later' hn.bel hbx hex
        have b2 : bx < wr.heap.size := Nat.lt_of_lt_of_le hbx hn.bel.size
        obtain ⟨y, hy⟩ : ∃ y, y = L[i'][a'] := ⟨_, rfl⟩
        rw [← hy] at hex'
        have Hy := Lib.hid hy
        have n1 := hn.le
        have n2 : bx ≠ N + 2 := by omega
        have n3 : bl ≠ N + 2 := by omega
        have HN := Lib.hid hn
        have HV := Lib.hid hv
        clear hy hex he hbe hv hx hn
        go_wp2_with fail
        go_quiet (fail)
        go_wp2_with fail
        go_quiet (fail)
        go_wp2_with fail
        go_ret
        have hro := rest_in hlt hlx
        rw [← Hy.out, hr.out] at hro
        refine ⟨i', a' + 1, ret_i ?_, ?_, hi', fun h => ?_, ?_⟩
        · rw [at0_cons hro]
        · exact ((HN.out.drewN _).set2 (a' + 1)).drewN _
        · omega
        · rw [hro]; rfl
      · have e2 : a' = m := by omega
        subst e2
        have hn2 := fun n => (hn.drewN n).set (i' + 1) 0
        have HN := Lib.hid hn2
        clear he hbe hv hx hn hn2
        go_wp2_with fail
        go_quiet (fail)
        go_wp2_with fail
        go_roundg (L.length - (i' + 1))
        case measure => omega
        case rel =>
          refine ⟨i' + 1, 0, ?_, rfl, by omega, fun _ => Nat.zero_le _, ?_⟩
          · exact HN.out nq
          · show _ = _
            rw [← rest_end hlt, ← Hm.out]; exact hr.out
    · have e : i' = L.length := by omega
      subst e
      have g1 : decide ((L.length : Int) < L.length) = false := by simp
      have HN := Lib.hid hn
      clear hv hx hn
      go_wp2_with fail
      go_quiet (fail)
      go_wp2_with fail
      go_ret
      refine ⟨L.length, a', ret_i ?_, HN.out.drewN _, Nat.le_refl _, fun h => absurd h (by omega), ?_⟩
      · rw [at0_nil (hr.out.symm.trans rest_none)]; rfl
      · rw [← hr.out, rest_none]; rfl
end Go.Proofs.Ytnhkkpcepppgoaa

namespace Go.Proofs.Ytnhkkpcepppgoaa
open Go.RowKit
attribute [local go_sem ↓] Go.wp_at_zero Go.wp_at_succ

/-- The bytes of the first lists. -/
def sizes (L : List (List UInt8)) (k : Nat) : Nat := (L.take k).flatten.length
theorem sizes_succ {L : List (List UInt8)} {k : Nat} (h : k < L.length) : sizes L (k + 1) = sizes L k + L[k].length := by
  unfold sizes
  rw [List.take_succ_eq_append_getElem h, List.flatten_append, List.length_append, List.flatten_singleton]
theorem sizes_all (L : List (List UInt8)) : sizes L L.length = L.flatten.length := by unfold sizes; rw [List.take_length]
theorem mem_le {L : List (List UInt8)} {l : List UInt8} (h : l ∈ L) : l.length ≤ L.flatten.length := by
  obtain ⟨a, b, rfl⟩ := List.append_of_mem h
  simp; omega
theorem at0_drop (l : List UInt8) (i j : Nat) : Sm.at0 (l.drop i) j = Sm.at0 l (i + j) := by
  unfold Sm.at0; rw [List.getElem?_drop]
theorem or_word (h l : Nat) (hh : h < 256) (hl : l < 256) : bits .or .u16 ((h : Int) * 256) (l : Int) = ((256 * h + l : Nat) : Int) := by
  rw [show (h : Int) * 256 = ((256 * h : Nat) : Int) by omega, u16_or_nat _ _ (by omega) (by omega)]
  rw [show 256 * h = h <<< 8 by rw [Nat.shiftLeft_eq]; omega, ← Nat.shiftLeft_add_eq_or_of_lt (b := l) (i := 8) (by omega) h]
theorem Nx.start (w : World) (v : Value) : Nx w w.heap.size 0 0 v (((w.alloc (.cells #[v] 92)).alloc (.cells #[.int .i64 0] 3)).alloc (.cells #[.int .i64 0] 3)) := by
  have s1 : (w.alloc (.cells #[v] 92)).heap.size = w.heap.size + 1 := by simp
  have s2 : ((w.alloc (.cells #[v] 92)).alloc (.cells #[.int .i64 0] 3)).heap.size = w.heap.size + 2 := by simp
  refine ⟨?_, Nat.le_refl _, ?_, ?_, ?_⟩
  · go_grown
  · rw [Below.heap_alloc _ _ _ (by omega), Below.heap_alloc _ _ _ (by omega)]; exact heap_alloc_new _ _
  · rw [Below.heap_alloc _ _ _ (by omega), ← s1]; exact heap_alloc_new _ _
  · rw [← s2]; exact heap_alloc_new _ _
theorem sizes_le {L : List (List UInt8)} {k : Nat} : sizes L k ≤ L.flatten.length := by
  unfold sizes
  have : L.flatten = (L.take k).flatten ++ (L.drop k).flatten := by rw [← List.flatten_append, List.take_append_drop]
  rw [this]; simp

set_option maxHeartbeats 1000000 in
theorem totalW_some (w : World) (c : Nat) (b : Option Addr) (L : List (List UInt8)) (hv : Lists w (.slice b L.length c) L) (hL : L.length ≤ 10000) (hS : L.flatten.length ≤ 10000) :
    Calls Try.prog 84 #[.slice b L.length c] w fun e w' => e = .returned (.int .u16 (Sm.tot L.flatten : Nat)) ∧ Below w.heap.size w w' := by
  go_enter Try.func84, Try.ntmps84
  go_wp2_with fail
  go_loop [3, 12] (fun s i => ∃ k : Nat, k ≤ L.length ∧ i = .int .i64 k ∧ s = .int .i64 (sizes L k)) (fun _ i => L.length - (intOf i).toNat)
  case atStart => exact ⟨0, Nat.zero_le _, rfl, rfl⟩
  case round =>
    obtain ⟨k, hk, rfl, rfl⟩ := hrel
    have hsz := sizes_le (L := L) (k := k)
    obtain ⟨z, hz⟩ : ∃ z, z = sizes L k := ⟨_, rfl⟩
    rw [← hz] at hsz ⊢
    have Hz := Lib.hid hz
    clear hz
    rcases Nat.lt_or_ge k L.length with hlt | hge
    · obtain ⟨bl, bo, rfl, hbl, x, d, he, hbe⟩ := hv.at hlt
      have hs2 := sizes_succ hlt
      rw [← Hz.out] at hs2
      have hsz2 := sizes_le (L := L) (k := k + 1)
      obtain ⟨m, hm⟩ : ∃ m, m = L[k].length := ⟨_, rfl⟩
      rw [← hm] at he hs2
      have hm2 : m ≤ 10000 := by omega
      have Hs2 := Lib.hid hs2
      have HV := Lib.hid hv
      have g1 : (k : Int) < L.length := by omega
      clear hm hs2 hv hbe hsz2
      go_wp2_with fail
      go_round
      case rel => exact ⟨k + 1, by omega, by go_num, by rw [Hs2.out]; go_num⟩
      case measure => simp [intOf]; omega
    · have e : k = L.length := by omega
      subst e
      have HV := Lib.hid hv
      clear hv
      have hz1 := Hz.out
      rw [sizes_all] at hz1
      have Hz2 := Lib.hid hz1
      clear hz1
      have hS2 : ∀ l ∈ L, l.length ≤ 10000 := fun l h => Nat.le_trans (mem_le h) hS
      go_wp2_with (go_in)
      go_loopw [7, 26] (fun t j wr => ∃ k i' a' : Nat, k ≤ (z + 1) / 2 ∧ j = .int .i64 k ∧ t = .int .u16 (Sm.canon (Sm.upto L.flatten k) : Nat) ∧ Hid (Nx w w.heap.size i' a' (.slice b L.length c) wr) ∧ i' ≤ L.length ∧ (∀ h : i' < L.length, a' ≤ L[i'].length) ∧ Hid (rest L i' a' = L.flatten.drop (2 * k))) (fun _ j _ => (z + 1) / 2 - (intOf j).toNat)
      case atStart => exact ⟨0, 0, 0, Nat.zero_le _, rfl, rfl, Nx.start w _, Nat.zero_le _, fun _ => Nat.zero_le _, rfl⟩
      case round =>
        obtain ⟨k, i', a', hk, rfl, rfl, HN, hi', ha', HR⟩ := hrel
        rcases Nat.lt_or_ge k ((z + 1) / 2) with hlt | hge
        · have g1 : (k : Int) < ((z : Int) + 1) / 2 := by omega
          go_wp2_with fail
          refine (next_any w wr w.heap.size i' a' c b L HV.out HN.out hi' ha' hL hS2).mono ?_
          rintro e w1 ⟨i1, a1, rfl, hn1, hi1, ha1, hr1⟩
          have HN1 := Lib.hid hn1
          have HR1 := Lib.hid hr1
          clear hn1 hr1
          go_wp2_with fail
          refine (next_any w w1 w.heap.size i1 a1 c b L HV.out HN1.out hi1 ha1 hL hS2).mono ?_
          rintro e w2 ⟨i2, a2, rfl, hn2, hi2, ha2, hr2⟩
          have hq1 : Sm.at0 (rest L i' a') 0 = Sm.at0 L.flatten (2 * k) := by rw [HR.out, at0_drop]; rfl
          have hq2 : Sm.at0 (rest L i1 a1) 0 = Sm.at0 L.flatten (2 * k + 1) := by rw [HR1.out, HR.out, List.drop_drop, at0_drop]
          have hr3 : rest L i2 a2 = L.flatten.drop (2 * (k + 1)) := by rw [hr2, HR1.out, HR.out, List.drop_drop, List.drop_drop]; rfl
          rw [hq1, hq2]
          have HN2 := Lib.hid hn2
          have HR3 := Lib.hid hr3
          have b1 := Sm.at0_lt L.flatten (2 * k)
          have b2 := Sm.at0_lt L.flatten (2 * k + 1)
          obtain ⟨x, hx⟩ : ∃ x, x = Sm.at0 L.flatten (2 * k) := ⟨_, rfl⟩
          obtain ⟨y, hy⟩ : ∃ y, y = Sm.at0 L.flatten (2 * k + 1) := ⟨_, rfl⟩
          rw [← hx] at b1 ⊢
          rw [← hy] at b2 ⊢
          have hwd : Sm.word L.flatten k = 256 * x + y := by rw [hx, hy]; rfl
          have HW := Lib.hid hwd
          have HO := Lib.hid (or_word x y b1 b2)
          clear hn2 hr2 hr3 hq1 hq2 hx hy hwd
          have c1 := Sm.canon_lt (Sm.upto L.flatten k)
          go_wp2_with fail
          rw [HO.out]
          refine (addW_int _ _ _ (by omega) (by omega) (by omega) (by omega) (Sm.canon (Sm.upto L.flatten (k + 1)) : Nat) (by rw [Int.toNat_natCast, Int.toNat_natCast, ← HW.out, Sm.step])).mono ?_
          rintro e w3 ⟨rfl, rfl⟩
          go_wp2_with fail
          go_roundw
          case rel => exact ⟨k + 1, i2, a2, by omega, by go_num, rfl, HN2, hi2, ha2, HR3⟩
          case measure => simp [intOf]; omega
        · have e : k = (z + 1) / 2 := by omega
          have E := Lib.hid e
          have g1 : ((z : Int) + 1) / 2 ≤ (k : Int) := by omega
          clear e
          go_wp2_with fail
          go_ret
          refine ⟨ret_i ?_, HN.out.bel⟩
          rw [E.out, Hz2.out]; rfl

/-- What a list of lists comes to. -/
theorem totalW_any (w : World) (v : Value) (L : List (List UInt8)) (hv : Lists w v L) (hL : L.length ≤ 10000) (hS : L.flatten.length ≤ 10000) :
    Calls Try.prog 84 #[v] w fun e w' => e = .returned (.int .u16 (Sm.tot L.flatten : Nat)) ∧ Below w.heap.size w w' := by
  obtain ⟨b, c, rfl⟩ := hv.form
  exact totalW_some w c b L hv hL hS
theorem checkW_any (w : World) (v : Value) (L : List (List UInt8)) (hv : Lists w v L) (hL : L.length ≤ 10000) (hS : L.flatten.length ≤ 10000) :
    Calls Try.prog 62 #[v] w fun e w' => e = .returned (.int .u16 (65535 - Sm.tot L.flatten : Nat)) ∧ Below w.heap.size w w' := by
  have hb := Sm.tot_lt L.flatten
  have HV := Lib.hid hv
  clear hv
  go_enter Try.func62, Try.ntmps62
  go_wp2_with fail
  refine (totalW_any w v L HV.out hL hS).mono ?_
  rintro e w1 ⟨rfl, hb1⟩
  go_wp2_with fail
  go_ret
  exact ⟨ret_i (by omega), hb1⟩
/-- One list in new memory. -/
theorem lists_one {w : World} {v : Value} {l : List UInt8} (h : Bytes w v l) : Lists (w.alloc (.cells #[v] 22)) (.slice (some ⟨w.heap.size, 0, none⟩) 1 1) [l] :=
  .inr ⟨w.heap.size, 0, 1, rfl, by simp, Nat.le_refl _, fun j x hx => by
    match j, hx with
    | 0, hx => simp at hx; subst hx; exact ⟨v, by simp, h.later ((Below.refl _ _).alloc (Nat.le_refl _) _)⟩⟩
theorem lists_two {w : World} {u v : Value} {k l : List UInt8} (g : Bytes w u k) (h : Bytes w v l) : Lists (w.alloc (.cells #[u, v] 22)) (.slice (some ⟨w.heap.size, 0, none⟩) 2 2) [k, l] :=
  .inr ⟨w.heap.size, 0, 2, rfl, by simp, Nat.le_refl _, fun j x hx => by
    match j, hx with
    | 0, hx => simp at hx; subst hx; exact ⟨u, by simp, g.later ((Below.refl _ _).alloc (Nat.le_refl _) _)⟩
    | 1, hx => simp at hx; subst hx; exact ⟨v, by simp, h.later ((Below.refl _ _).alloc (Nat.le_refl _) _)⟩⟩
theorem total_one (w : World) (v : Value) (l : List UInt8) (h : Bytes w v l) (hl : l.length ≤ 10000) :
    Calls Try.prog 84 #[.slice (some ⟨w.heap.size, 0, none⟩) 1 1] (w.alloc (.cells #[v] 22)) fun e w' => e = .returned (.int .u16 (Sm.tot l : Nat)) ∧ Below w.heap.size w w' := by
  refine (totalW_any _ _ [l] (lists_one h) (by simp) (by simpa using hl)).mono ?_
  rintro e w1 ⟨rfl, hb⟩
  refine ⟨by simp, ?_⟩
  exact ((Below.refl _ _).alloc (Nat.le_refl _) _).trans (hb.mono (by simp))
theorem check_one (w : World) (v : Value) (l : List UInt8) (h : Bytes w v l) (hl : l.length ≤ 10000) :
    Calls Try.prog 62 #[.slice (some ⟨w.heap.size, 0, none⟩) 1 1] (w.alloc (.cells #[v] 22)) fun e w' => e = .returned (.int .u16 (65535 - Sm.tot l : Nat)) ∧ Below w.heap.size w w' := by
  refine (checkW_any _ _ [l] (lists_one h) (by simp) (by simpa using hl)).mono ?_
  rintro e w1 ⟨rfl, hb⟩
  refine ⟨by simp, ?_⟩
  exact ((Below.refl _ _).alloc (Nat.le_refl _) _).trans (hb.mono (by simp))
theorem goodW_any (w : World) (v : Value) (l : List UInt8) (h : Bytes w v l) (hl : l.length ≤ 10000) :
    Calls Try.prog 67 #[v] w fun e w' => e = .returned (.bool (Sm.tot l == 65535)) ∧ Below w.heap.size w w' := by
  obtain ⟨a, c, rfl⟩ := h.form
  have H := Lib.hid h
  clear h
  go_enter Try.func67, Try.ntmps67
  go_wp2_with fail
  refine (total_one w _ l H.out hl).mono ?_
  rintro e w1 ⟨rfl, hb1⟩
  obtain ⟨t, ht⟩ : ∃ t, t = Sm.tot l := ⟨_, rfl⟩
  rw [← ht]
  have HT := Lib.hid ht
  clear ht
  go_wp2_with fail
  go_ret
  refine ⟨ret_b ?_, hb1⟩
  rw [← HT.out, Bool.eq_iff_iff]; simp; omega
end Go.Proofs.Ytnhkkpcepppgoaa

namespace Go.Proofs.Ytnhkkpcepppgoaa
open Go.RowKit
attribute [local go_sem ↓] Go.wp_at_zero Go.wp_at_succ

/-- What is wrong with bytes, the first of it; 0: nothing. -/
def flt (l : List UInt8) : Nat :=
  if l.length < 20 then 1
  else if Sm.at0 l 0 / 16 ≠ 4 then 2
  else if hsz l < 20 ∨ l.length < hsz l then 3
  else if numAt l 2 2 < hsz l ∨ l.length < numAt l 2 2 then 4
  else if Sm.tot (l.take (hsz l)) ≠ 65535 then 5
  else if Om.ok ((l.take (hsz l)).drop 20) = false then 6 else 0
theorem hsz_le (l : List UInt8) : hsz l ≤ 60 := by unfold hsz; omega
theorem flt1 {l : List UInt8} (h : l.length < 20) : flt l = 1 := by unfold flt; rw [if_pos h]
theorem flt2 {l : List UInt8} (h : 20 ≤ l.length) (h2 : Sm.at0 l 0 / 16 ≠ 4) : flt l = 2 := by unfold flt; rw [if_neg (by omega), if_pos h2]
theorem flt3 {l : List UInt8} (h : 20 ≤ l.length) (h2 : Sm.at0 l 0 / 16 = 4) (h3 : hsz l < 20 ∨ l.length < hsz l) : flt l = 3 := by unfold flt; rw [if_neg (by omega), if_neg (by omega), if_pos h3]
theorem flt4 {l : List UInt8} (h : 20 ≤ l.length) (h2 : Sm.at0 l 0 / 16 = 4) (h3 : 20 ≤ hsz l ∧ hsz l ≤ l.length) (h4 : numAt l 2 2 < hsz l ∨ l.length < numAt l 2 2) : flt l = 4 := by
  unfold flt; rw [if_neg (by omega), if_neg (by omega), if_neg (by omega), if_pos h4]
theorem flt5 {l : List UInt8} (h : 20 ≤ l.length) (h2 : Sm.at0 l 0 / 16 = 4) (h3 : 20 ≤ hsz l ∧ hsz l ≤ l.length) (h4 : hsz l ≤ numAt l 2 2 ∧ numAt l 2 2 ≤ l.length) (h5 : Sm.tot (l.take (hsz l)) ≠ 65535) : flt l = 5 := by
  unfold flt; rw [if_neg (by omega), if_neg (by omega), if_neg (by omega), if_neg (by omega), if_pos h5]
theorem flt6 {l : List UInt8} (h : 20 ≤ l.length) (h2 : Sm.at0 l 0 / 16 = 4) (h3 : 20 ≤ hsz l ∧ hsz l ≤ l.length) (h4 : hsz l ≤ numAt l 2 2 ∧ numAt l 2 2 ≤ l.length) (h5 : Sm.tot (l.take (hsz l)) = 65535) (h6 : Om.ok ((l.take (hsz l)).drop 20) = false) : flt l = 6 := by
  unfold flt; rw [if_neg (by omega), if_neg (by omega), if_neg (by omega), if_neg (by omega), if_neg (fun h => h h5), if_pos h6]
theorem flt0 {l : List UInt8} (h : 20 ≤ l.length) (h2 : Sm.at0 l 0 / 16 = 4) (h3 : 20 ≤ hsz l ∧ hsz l ≤ l.length) (h4 : hsz l ≤ numAt l 2 2 ∧ numAt l 2 2 ≤ l.length) (h5 : Sm.tot (l.take (hsz l)) = 65535) (h6 : Om.ok ((l.take (hsz l)).drop 20) = true) : flt l = 0 := by
  unfold flt; rw [if_neg (by omega), if_neg (by omega), if_neg (by omega), if_neg (by omega), if_neg (fun h => h h5), if_neg (by rw [h6]; decide)]

set_option maxHeartbeats 2000000 in
theorem fault_any (v : Value) (l : List UInt8) (hl : l.length ≤ 1000000) (w : World) (hv : Bytes w v l) :
    Calls Try.prog 51 #[v] w fun e w' => e = .returned (.int .i64 (flt l : Nat)) ∧ Below w.heap.size w w' := by
  obtain ⟨a, c, rfl⟩ := hv.form
  have HV := Lib.hid hv
  rcases Nat.lt_or_ge l.length 20 with h20 | h20
  · have HF := Lib.hid (flt1 h20)
    have g1 : (l.length : Int) < 20 := by omega
    clear hv h20
    go_enter Try.func51, Try.ntmps51
    go_wp2_with fail
    go_ret
    exact ⟨ret_i (by rw [HF.out]; rfl), Below.refl _ _⟩
  · have g1 : (20 : Int) ≤ l.length := by omega
    obtain ⟨b, o, rfl, hb, hcell⟩ := hv.at1 (i := 0) (by omega)
    obtain ⟨x, hx⟩ : ∃ x, x = Sm.at0 l 0 := ⟨_, rfl⟩
    have hxl : x < 256 := by rw [hx]; exact Sm.at0_lt _ _
    rw [← hx] at hcell
    have hcell0 : w.cell? ⟨b, o, none⟩ = some (.int .u8 (x : Int)) := hcell
    have HX := Lib.hid hx
    clear hv hcell hx
    have hsl := hsz_le l
    have htl := numAt_lt (l := l) (i := 2) (k := 2) (by omega)
    obtain ⟨s, hs⟩ : ∃ s, s = hsz l := ⟨_, rfl⟩
    obtain ⟨t, ht⟩ : ∃ t, t = numAt l 2 2 := ⟨_, rfl⟩
    have hsz := sizes_any _ l w HV.out h20 hl
    rw [← hs, ← ht] at hsz
    rw [← hs] at hsl
    rw [← ht] at htl
    have ht2 : (t : Int) ≤ 70000 := by omega
    have HS := Lib.hid hs
    have HT := Lib.hid ht
    have HZ := Lib.hid hsz
    clear hs ht hsz htl
    by_cases h4 : x / 16 = 4
    · have G4 : ((x : Int) / 16 != 4) = false := by simp; omega
      by_cases h3 : 20 ≤ s ∧ s ≤ l.length
      · obtain ⟨h3a, h3b⟩ := h3
        have k3 : (20 : Int) ≤ s := by omega
        have k4 : (s : Int) ≤ l.length := by omega
        by_cases h5 : s ≤ t ∧ t ≤ l.length
        · obtain ⟨h5a, h5b⟩ := h5
          have k5 : (s : Int) ≤ t := by omega
          have k6 : (t : Int) ≤ l.length := by omega
          have hcut := HV.out.cut_h (s : Int) s rfl h3b
          have hcs := hcut.1
          have HCUT := Lib.hid hcut.2
          have HLT : Hid ((l.take s).length ≤ 10000) := by show _ ≤ _; rw [List.length_take]; omega
          obtain ⟨a2, hcs2, hcut2⟩ := HV.out.cut_lh 20 (s : Int) 20 s rfl rfl h3a h3b
          have HCUT2 := Lib.hid hcut2
          have HLD : Hid (((l.take s).drop 20).length ≤ 1000000) := by show _ ≤ _; rw [List.length_drop, List.length_take]; omega
          clear hcut hcut2
          by_cases h6 : Sm.tot (l.take s) = 65535
          · have HTOT : Hid ((Sm.tot (l.take s) == 65535) = true) := by show _ = _; rw [h6]; rfl
            cases h7 : Om.ok ((l.take s).drop 20) with
            | false =>
              have HMAY := Lib.hid h7
              have HF := Lib.hid (flt6 h20 (by rw [← HX.out]; exact h4) (by rw [← HS.out]; exact ⟨h3a, h3b⟩) (by rw [← HS.out, ← HT.out]; exact ⟨h5a, h5b⟩) (by rw [← HS.out]; exact h6) (by rw [← HS.out]; exact h7))
              clear h4 h6 h7
              go_enter Try.func51, Try.ntmps51
              go_wp2_with fail
              refine HZ.out.mono ?_
              rintro e w1 ⟨rfl, hb1⟩
              have hc1 := cell_later hb1 hcell0
              have HB1 := Lib.hid hb1
              clear hb1
              go_wp2_with fail
              refine (goodW_any w1 _ (l.take s) (HCUT.out.later HB1.out) HLT.out).mono ?_
              rintro e w2 ⟨rfl, hb2⟩
              rw [HTOT.out]
              have HB2 := Lib.hid (HB1.out.trans (hb2.mono HB1.out.size))
              clear hb2 hc1
              go_wp2_with fail
              refine (mayOptions_any _ ((l.take s).drop 20) HLD.out w2 (HCUT2.out.later HB2.out)).mono ?_
              rintro e w3 ⟨rfl, hb3⟩
              rw [HMAY.out]
              have HB3 := Lib.hid (HB2.out.trans (hb3.mono HB2.out.size))
              clear hb3
              go_wp2_with fail
              go_ret
              exact ⟨ret_i (by rw [HF.out]; rfl), HB3.out⟩
            | true =>
              have HMAY := Lib.hid h7
              have HF := Lib.hid (flt0 h20 (by rw [← HX.out]; exact h4) (by rw [← HS.out]; exact ⟨h3a, h3b⟩) (by rw [← HS.out, ← HT.out]; exact ⟨h5a, h5b⟩) (by rw [← HS.out]; exact h6) (by rw [← HS.out]; exact h7))
              clear h4 h6 h7
              go_enter Try.func51, Try.ntmps51
              go_wp2_with fail
              refine HZ.out.mono ?_
              rintro e w1 ⟨rfl, hb1⟩
              have hc1 := cell_later hb1 hcell0
              have HB1 := Lib.hid hb1
              clear hb1
              go_wp2_with fail
              refine (goodW_any w1 _ (l.take s) (HCUT.out.later HB1.out) HLT.out).mono ?_
              rintro e w2 ⟨rfl, hb2⟩
              rw [HTOT.out]
              have HB2 := Lib.hid (HB1.out.trans (hb2.mono HB1.out.size))
              clear hb2 hc1
              go_wp2_with fail
              refine (mayOptions_any _ ((l.take s).drop 20) HLD.out w2 (HCUT2.out.later HB2.out)).mono ?_
              rintro e w3 ⟨rfl, hb3⟩
              rw [HMAY.out]
              have HB3 := Lib.hid (HB2.out.trans (hb3.mono HB2.out.size))
              clear hb3
              go_wp2_with fail
              go_ret
              exact ⟨ret_i (by rw [HF.out]; rfl), HB3.out⟩
          · have HTOT : Hid ((Sm.tot (l.take s) == 65535) = false) := by show _ = _; simpa using h6
            have HF := Lib.hid (flt5 h20 (by rw [← HX.out]; exact h4) (by rw [← HS.out]; exact ⟨h3a, h3b⟩) (by rw [← HS.out, ← HT.out]; exact ⟨h5a, h5b⟩) (by rw [← HS.out]; exact h6))
            clear h4 h6
            go_enter Try.func51, Try.ntmps51
            go_wp2_with fail
            refine HZ.out.mono ?_
            rintro e w1 ⟨rfl, hb1⟩
            have hc1 := cell_later hb1 hcell0
            have HB1 := Lib.hid hb1
            clear hb1
            go_wp2_with fail
            refine (goodW_any w1 _ (l.take s) (HCUT.out.later HB1.out) HLT.out).mono ?_
            rintro e w2 ⟨rfl, hb2⟩
            rw [HTOT.out]
            have HB2 := Lib.hid (HB1.out.trans (hb2.mono HB1.out.size))
            clear hb2 hc1
            go_wp2_with fail
            go_ret
            exact ⟨ret_i (by rw [HF.out]; rfl), HB2.out⟩
        · have HF := Lib.hid (flt4 h20 (by rw [← HX.out]; exact h4) (by rw [← HS.out]; exact ⟨h3a, h3b⟩) (by rw [← HS.out, ← HT.out]; omega))
          rcases Nat.lt_or_ge t s with h8 | h8
          · have k5 : (t : Int) < s := by omega
            clear h4 h5
            go_enter Try.func51, Try.ntmps51
            go_wp2_with fail
            refine HZ.out.mono ?_
            rintro e w1 ⟨rfl, hb1⟩
            have hc1 := cell_later hb1 hcell0
            have HB1 := Lib.hid hb1
            clear hb1
            go_wp2_with fail
            go_ret
            exact ⟨ret_i (by rw [HF.out]; rfl), HB1.out⟩
          · have k5 : (s : Int) ≤ t := by omega
            have k6 : (l.length : Int) < t := by omega
            clear h4 h5
            go_enter Try.func51, Try.ntmps51
            go_wp2_with fail
            refine HZ.out.mono ?_
            rintro e w1 ⟨rfl, hb1⟩
            have hc1 := cell_later hb1 hcell0
            have HB1 := Lib.hid hb1
            clear hb1
            go_wp2_with fail
            go_ret
            exact ⟨ret_i (by rw [HF.out]; rfl), HB1.out⟩
      · have HF := Lib.hid (flt3 h20 (by rw [← HX.out]; exact h4) (by rw [← HS.out]; omega))
        rcases Nat.lt_or_ge s 20 with h8 | h8
        · have k5 : (s : Int) < 20 := by omega
          clear h4 h3
          go_enter Try.func51, Try.ntmps51
          go_wp2_with fail
          refine HZ.out.mono ?_
          rintro e w1 ⟨rfl, hb1⟩
          have hc1 := cell_later hb1 hcell0
          have HB1 := Lib.hid hb1
          clear hb1
          go_wp2_with fail
          go_ret
          exact ⟨ret_i (by rw [HF.out]; rfl), HB1.out⟩
        · have k5 : (20 : Int) ≤ s := by omega
          have k6 : (l.length : Int) < s := by omega
          clear h4 h3
          go_enter Try.func51, Try.ntmps51
          go_wp2_with fail
          refine HZ.out.mono ?_
          rintro e w1 ⟨rfl, hb1⟩
          have hc1 := cell_later hb1 hcell0
          have HB1 := Lib.hid hb1
          clear hb1
          go_wp2_with fail
          go_ret
          exact ⟨ret_i (by rw [HF.out]; rfl), HB1.out⟩
    · have HF := Lib.hid (flt2 h20 (by rw [← HX.out]; exact h4))
      have G4 : ((x : Int) / 16 != 4) = true := by simp; omega
      clear h4
      go_enter Try.func51, Try.ntmps51
      go_wp2_with fail
      refine HZ.out.mono ?_
      rintro e w1 ⟨rfl, hb1⟩
      have hc1 := cell_later hb1 hcell0
      have HB1 := Lib.hid hb1
      clear hb1
      go_wp2_with fail
      go_ret
      exact ⟨ret_i (by rw [HF.out]; rfl), HB1.out⟩
end Go.Proofs.Ytnhkkpcepppgoaa
