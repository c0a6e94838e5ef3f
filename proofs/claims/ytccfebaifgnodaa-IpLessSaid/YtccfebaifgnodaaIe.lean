/- The walk of ip.each and of what goes over options. -/
import Derived.RangeFuncNested
import Derived.RangeFuncBound
import Derived.RangeFuncCalls
import Derived.RangeFuncLeaves
import Derived.Shelf.Abstract
import Derived.Shelf.RegionOpen
import Derived.OwnWalkIn
import Derived.TacticsInMore
import Derived.LoopNIn
import Derived.LoopIn
import Derived.Lib.SliceRun
import Derived.Test.YtccfebaifgnodaaIs
namespace Go.Proofs.Ytccfebaifgnodaa
open Go.RowKit Go.Shelf
attribute [local go_sem] Oper.semAt_some

/-- What is told: an option's bytes, or nil. -/
def OptV (w : World) (v : Value) : Option (List UInt8) → Prop
  | none => v = .slice none 0 0
  | some r => ∃ b o c, v = .slice (some ⟨b, o, none⟩) r.length c ∧ b < w.heap.size ∧ 2 ≤ r.length ∧ r.length < 256 ∧ Bytes w v r
/-- One of them. -/
def Opt (w : World) : Type := { p : Value × Option (List UInt8) // OptV w p.1 p.2 }
def Opt.raw {w : World} (x : Opt w) : Option (List UInt8) := x.1.2
def Opt.val {w : World} (x : Opt w) : Value := x.1.1
def slen : Value → Nat
  | .slice _ n _ => n
  | _ => 0

theorem wpIn_scope_wide {n : Nat} {P : Program} {c : Code} {Q : Exit → Act → World → Prop} {a : Act} {w : World} (h : c.wpIn Fence.wide n P (Exit.noGoto Q) a w) : (Code.scope c).wpIn Fence.wide n P Q a w :=
  wpIn_wide.2 (wp_scope_straight (wpIn_wide.1 h))

theorem each_any (a : Option Addr) (n c : Nat) (w : World) :
    Calls Try.prog 50 #[.slice a n c] w fun e w' => e = .returned (.func (.func 64) #[] #[.pointer (some ⟨w.heap.size, 0, none⟩)]) ∧ w' = w.alloc (.cells #[.slice a n c] 22) := by
  go_enter Try.func50, Try.ntmps50
  go_wp2_with fail
  go_ret
  exact ⟨rfl, rfl⟩

set_option maxRecDepth 100000 in
set_option maxHeartbeats 2000000 in
theorem each1_in (n : Nat) (hn : 1 ≤ n) (w0 : World) (l Bn : Nat) (L : List UInt8) (v : Value) (hL : L.length ≤ 1000000) (J Jx : List (Opt w0) → World → Prop)
    (hY : ∀ pre x W, J pre W → pre.length < L.length → YieldAt Fence.wide (n - 1) Try.prog l #[x.val] W fun e W' =>
      (e = .returned (.bool true) ∧ J (pre ++ [x]) W' ∧ Below w0.heap.size W W') ∨ (e = .returned (.bool false) ∧ Jx (pre ++ [x]) W'))
    (W : World) (hBn : W.cell? ⟨Bn, 0, none⟩ = some v) (hv : Bytes w0 v L) (hW : Below w0.heap.size w0 W) (h0 : J [] W) :
    CallsIn Fence.wide n Try.prog 64 #[.func (.yield l) #[] #[], .pointer (some ⟨Bn, 0, none⟩)] W fun e W' => (∃ v, e = .returned v) ∧
      ((∃ ys, ys.map Opt.raw = Om.seq L ∧ J ys W') ∨ (∃ pre, pre.map Opt.raw <+: Om.seq L ∧ Jx pre W')) := by
  obtain ⟨a, c, rfl⟩ := hv.form
  refine callsIn_of_wp Try.func64 rfl trivial ?_ rfl
  simp only [Try.ntmps64, List.size_toArray, List.length_cons, List.length_nil, Nat.reduceAdd, Nat.reduceSub, Array.replicate_succ, Array.replicate_zero, List.push_toArray, List.append_toArray, List.nil_append, List.cons_append]
  have HV := Lib.hid hv
  have HY := Lib.hid hY
  have HW := Lib.hid hW
  clear hv hY hW
  refine wpIn_scope_wide ?_
  gi_wp2_with fail
  refine wpIn_label ?_
  gi_wp2_with fail
  gi_loopw [3] (fun r wr => ∃ (rest : List UInt8) (a' : Option Addr) (c' : Nat) (pre : List (Opt w0)), r = .slice a' rest.length c' ∧ rest.length ≤ L.length ∧ Hid (Bytes w0 (.slice a' rest.length c') rest) ∧ Hid (pre.map Opt.raw ++ Om.seq rest = Om.seq L) ∧ Hid (J pre wr) ∧ Hid (Below w0.heap.size w0 wr)) (fun r _ => slen r)
  case atStart => exact ⟨L, a, c, [], rfl, Nat.le_refl _, HV.out, rfl, h0, HW.out⟩
  case round =>
    obtain ⟨rest, a', c', pre, rfl, hrl, HB, HS, HJ, HL⟩ := hrel
    rcases Nat.eq_zero_or_pos rest.length with hz | hz
    · obtain rfl : rest = [] := List.length_eq_zero_iff.1 hz
      have HE : Hid (pre.map Opt.raw = Om.seq L) := by have := HS.out; rw [Om.seq_nil, List.append_nil] at this; exact this
      simp only [List.length_nil]
      clear HS HB hz hrl
      gi_wp2_with fail
      simp only [Exit.noGoto]
      go_end0
      exact ⟨⟨_, rfl⟩, .inl ⟨pre, HE.out, HJ.out⟩⟩
    · obtain ⟨b, o, rfl, hb, hcell⟩ := HB.out.at1 hz
      have hcw := cell_later' HL.out hb hcell
      have hx := Sm.at0_lt rest 0
      obtain ⟨x, hxe⟩ : ∃ x, x = Sm.at0 rest 0 := ⟨_, rfl⟩
      rw [← hxe] at hx hcw
      have hcw0 : wr.cell? ⟨b, o, none⟩ = some (.int .u8 (x : Int)) := hcw
      have g0 : (0 : Int) < rest.length := by omega
      have HX := Lib.hid hxe
      clear hcell hcw hxe
      rcases Nat.eq_zero_or_pos x with hx0 | hx0
      · subst hx0
        have HE : Hid (pre.map Opt.raw = Om.seq L) := by have := HS.out; rw [Om.seq_end HX.out.symm, List.append_nil] at this; exact this
        clear HS HB
        gi_wp2_with fail
        simp only [Exit.noGoto]
        go_end0
        exact ⟨⟨_, rfl⟩, .inl ⟨pre, HE.out, HJ.out⟩⟩
      · rcases Nat.lt_or_ge 1 x with hx1 | hx1
        · by_cases hbad : rest.length < 2 ∨ Sm.at0 rest 1 < 2 ∨ rest.length < Sm.at0 rest 1
          · have hf := callsIn_wide (n := n - 1).2 (first_no _ rest wr (HB.out.later HL.out) hbad (by omega))
            have hsq := Om.seq_bad hz (by rw [← HX.out]; omega) hbad
            have HE : Hid (pre.map Opt.raw ++ [none] = Om.seq L) := by have := HS.out; rw [hsq] at this; exact this
            have hlen : pre.length < L.length := by
              have := congrArg List.length HE.out
              have h2 := Om.seq_len _ L (Nat.le_refl _)
              simp at this; omega
            obtain ⟨fn, tmps, assign, body, hy, hR⟩ := HY.out pre ⟨(.slice none 0 0, none), rfl⟩ wr HJ.out hlen
            have HF := Lib.hid hf
            have HR := Lib.hid hR
            dsimp only [Opt.val] at hy
            have g1 : ((x : Int) == 0) = false := by simp; omega
            have g2 : ((x : Int) == 1) = false := by simp; omega
            have hnn : ∀ W, (binOp .eql 22 (.slice none 0 0) (.slice none 0 0)).run Try.prog W = .ok (.bool true) W := fun W => Lib.run_eql_slice_nil W _ _ none 0 0 0 0 Try.underlying22
            clear hbad hsq hlen hf HS HB hR
            gi_wp2_with fail
            refine ⟨trivial, HF.out.mono ?_⟩
            rintro e w1 ⟨rfl, rfl⟩
            gi_wp2_with fail
            refine HR.out.mono ?_
            rintro e W3 (⟨rfl, hJ3, hk3⟩ | ⟨rfl, hJx3⟩)
            · have HJ3 := Lib.hid hJ3
              clear hJ3
              gi_wp2_with fail
              simp only [Exit.noGoto]
              go_end0
              exact ⟨⟨_, rfl⟩, .inl ⟨pre ++ [⟨(.slice none 0 0, none), rfl⟩], by rw [List.map_append]; exact HE.out, HJ3.out⟩⟩
            · have HJ3 := Lib.hid hJx3
              clear hJx3
              gi_wp2_with fail
              simp only [Exit.noGoto]
              go_end0
              exact ⟨⟨_, rfl⟩, .inr ⟨pre ++ [⟨(.slice none 0 0, none), rfl⟩], by rw [List.map_append, show List.map Opt.raw [(⟨(.slice none 0 0, none), rfl⟩ : Opt w0)] = [none] from rfl, HE.out]; exact List.prefix_refl _, HJ3.out⟩⟩
          · have n1 : 2 ≤ rest.length := by omega
            have n2 : 2 ≤ Sm.at0 rest 1 := by omega
            have n3 : Sm.at0 rest 1 ≤ rest.length := by omega
            have hf := callsIn_wide (n := n - 1).2 (first_yes b o c' rest wr (HB.out.later HL.out) n2 n3 (by omega))
            have hsq := Om.seq_opt (l := rest) (by rw [← HX.out]; omega) n2 n3
            obtain ⟨m, hm⟩ : ∃ m, m = Sm.at0 rest 1 := ⟨_, rfl⟩
            rw [← hm] at n2 n3 hf hsq
            have hopt : OptV w0 (.slice (some ⟨b, o, none⟩) m c') (some (rest.take m)) := ⟨b, o, c', by rw [List.length_take, Nat.min_eq_left n3], hb, by rw [List.length_take, Nat.min_eq_left n3]; exact n2, by rw [List.length_take, Nat.min_eq_left n3, hm]; exact Sm.at0_lt _ _, (HB.out.cut_hk .i64 m m rfl n3).2⟩
            have HE : Hid (pre.map Opt.raw ++ some (rest.take m) :: Om.seq (rest.drop m) = Om.seq L) := by have := HS.out; rw [hsq] at this; exact this
            have hlen : pre.length < L.length := by
              have := congrArg List.length HE.out
              have h2 := Om.seq_len _ L (Nat.le_refl _)
              simp at this; omega
            obtain ⟨y, hyv, hyr⟩ : ∃ y : Opt w0, y.val = .slice (some ⟨b, o, none⟩) m c' ∧ y.raw = some (rest.take m) := ⟨⟨(_, _), hopt⟩, rfl, rfl⟩
            obtain ⟨fn, tmps, assign, body, hy, hR⟩ := HY.out pre y wr HJ.out hlen
            rw [hyv] at hy
            obtain ⟨a', hs, hb'⟩ := HB.out.cut_l (m : Int) m rfl n3
            have HF := Lib.hid hf
            have HR := Lib.hid hR
            have HYR := Lib.hid hyr
            have HB' := Lib.hid hb'
            have g1 : ((x : Int) == 0) = false := by simp; omega
            have g2 : ((x : Int) == 1) = false := by simp; omega
            clear hbad hsq hlen hf HS HB hR hopt hyv hyr hm hb'
            gi_wp2_with fail
            refine ⟨trivial, HF.out.mono ?_⟩
            rintro e w1 ⟨rfl, rfl⟩
            gi_wp2_with fail
            refine HR.out.mono ?_
            rintro e W3 (⟨rfl, hJ3, hk3⟩ | ⟨rfl, hJx3⟩)
            · have HJ3 := Lib.hid hJ3
              have HL3 : Hid (Below w0.heap.size w0 W3) := HL.out.trans hk3
              have hs' := hs W3
              clear hJ3 hk3 hs
              have hsn : ∀ W, (binOp .eql 22 (.slice (some ⟨b, o, none⟩) m c') (.slice none 0 0)).run Try.prog W = .ok (.bool false) W := fun W => Lib.run_eql_slice_nil W _ _ (some ⟨b, o, none⟩) m c' 0 0 Try.underlying22
              gi_wp2_with fail
              go_roundw
              case rel => exact ⟨rest.drop m, a', c' - m, pre ++ [y], by rw [List.length_drop], by rw [List.length_drop]; omega, by rw [List.length_drop]; exact HB', by show _ = _; rw [List.map_append, List.append_assoc, show List.map Opt.raw [y] = [some (rest.take m)] from by rw [List.map_singleton, HYR.out]]; exact HE.out, HJ3, HL3⟩
              case measure => simp [slen]; omega
            · have HJ3 := Lib.hid hJx3
              clear hJx3 hs
              gi_wp2_with fail
              simp only [Exit.noGoto]
              go_end0
              exact ⟨⟨_, rfl⟩, .inr ⟨pre ++ [y], ⟨Om.seq (rest.drop m), by rw [List.map_append, List.append_assoc, show List.map Opt.raw [y] = [some (rest.take m)] from by rw [List.map_singleton, HYR.out]]; exact HE.out⟩, HJ3.out⟩⟩
        · obtain rfl : x = 1 := by omega
          obtain ⟨a', hs, hb'⟩ := HB.out.cut_l 1 1 rfl (by omega)
          have hs' := hs wr
          have HB' := Lib.hid hb'
          have HE : Hid (pre.map Opt.raw ++ Om.seq (rest.drop 1) = Om.seq L) := by have := HS.out; rw [Om.seq_nop hz HX.out.symm] at this; exact this
          clear HS HB hs hb'
          gi_wp2_with fail
          go_roundw
          case rel => exact ⟨rest.drop 1, a', c' - 1, pre, by rw [List.length_drop], by rw [List.length_drop]; omega, by rw [List.length_drop]; exact HB', HE, HJ, HL⟩
          case measure => simp [slen]; omega
end Go.Proofs.Ytccfebaifgnodaa
