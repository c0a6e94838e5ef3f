/- The options that are copied, read again: plain mathematics.
   The walk of ref03.Copied.
   The chapter's rows of icmp, as the law asks them.
   A packet's bytes, plain: they parse to what they were made of; with its ninth byte one less.
   The walk of ip.Less.
   The walk of known: the chapter's rows hold. -/
import Derived.Lib.AppendZeros
import Derived.Lib.AppendZerosOnto
import Derived.Lib.SmallJoins
import Derived.Deep.RegionHeld
import Derived.Test.YtnhkkpcepppgoaaZ02
import Derived.Test.YtnhkkpcepppgoaaZ03
import Derived.Test.YtnhkkpcepppgoaaZ05
import Derived.Test.YtnhkkpcepppgoaaZ06
import Derived.Test.YtnhkkpcepppgoaaZ07
import Derived.Test.YtnhkkpcepppgoaaZ09
import Derived.Test.YtnhkkpcepppgoaaZ11
import Derived.Test.YtnhkkpcepppgoaaZ16

set_option linter.unusedSimpArgs false
set_option linter.unusedVariables false
namespace Go.Proofs.Ytnhkkpcepppgoaa
open Go.RowKit
attribute [local go_sem ↓] Go.wp_at_zero Go.wp_at_succ

theorem zcells (k : Nat) : (Builtin.zeroCells (Value.int .u8 0).cells k).toList = bv (List.replicate k 0) := by
  apply List.ext_getElem
  · simp [Builtin.zeroCells, Value.cells, bv]
  · intro i h1 h2
    simp [Builtin.zeroCells, Value.cells, bv, Nat.mod_one]
theorem app40 (w : World) (g : Nat) (hg : g < w.heap.size) (hc : w.cell? ⟨g, 0, none⟩ = some (.int .u8 68)) :
    ∃ v' w', (∀ ty, (Builtin.append_ #[22, 3] ty #[.slice (some ⟨g, 0, none⟩) 1 1, .int .i64 40]).run Try.prog w = .ok v' w') ∧ Bytes w' v' (68 :: List.replicate 40 0) ∧ Below w.heap.size w w' := by
  obtain ⟨i0, hi, hz0, hz1, hz2⟩ := info8
  have hold : (Builtin.firstCells i0.size 1 (.slice (some ⟨g, 0, none⟩) 1 1)).run Try.prog w.drew = .ok [Value.int .u8 68].toArray w.drew := by
    rw [hz1]
    refine run_firstCells_some (P := Try.prog) (w := w.drew) 1 1 ⟨g, 0, none⟩ 1 1 [.int .u8 68] rfl (fun j v hv => ?_)
    match j, hv with
    | 0, hv => simp at hv; subst hv; simpa [Addr.add] using hc
  have hG := grownCap_ge w 41 1 5
  have hr := fun ty => Lib.run_append_grow_zeros w 22 3 ty 5 i0 (.int .u8 0) .i64 .i64 Try.underlying22 Try.underlying3 hi hz0 (some ⟨g, 0, none⟩) 1 1 [.int .u8 68] hold 40 (by omega) (by omega) (by omega) (by omega) (by rw [hz2]; omega) (by rw [hz2]; decide)
  refine ⟨_, _, hr, ?_, ((Below.refl _ _).drew).alloc (Nat.le_refl _) _⟩
  refine .inr ⟨w.heap.size, 0, grownCap w (1 + 40) 1 5, by simp, by simp, by simpa using hG, fun j x hx => ?_⟩
  have hl : ([Value.int .u8 68].toArray ++ Builtin.zeroCells (Value.int .u8 0).cells 40 ++ Builtin.zeroCells (Value.int .u8 0).cells (grownCap w (1 + 40) 1 5 - (1 + 40))).toList = bv (68 :: List.replicate 40 0) ++ (Builtin.zeroCells (Value.int .u8 0).cells (grownCap w (1 + 40) 1 5 - (1 + 40))).toList := by
    rw [Array.toList_append, Array.toList_append, zcells]; rfl
  rw [Nat.zero_add]
  have hjl : j < (68 :: List.replicate 40 (0 : UInt8)).length := (List.getElem?_eq_some_iff.1 hx).1
  have key : ([Value.int .u8 68].toArray ++ Builtin.zeroCells (Value.int .u8 0).cells 40 ++ Builtin.zeroCells (Value.int .u8 0).cells (grownCap w (1 + 40) 1 5 - (1 + 40)))[j]? = some (.int .u8 (x.toNat : Int)) := by
    rw [← Array.getElem?_toList, hl, List.getElem?_append_left (by simpa [bv] using hjl)]
    show ((68 :: List.replicate 40 (0 : UInt8)).map fun b => Value.int .u8 (b.toNat : Int))[j]? = _
    rw [List.getElem?_map, hx]; rfl
  rw [cell_of_row _ w.heap.size j _ 5 (0, 0) (World.alloc_heap_new w.drew _)]
  exact key

theorem wpList_makeZ {w : World} {ops : Array Oper} {rest : List Oper} {o : Oper} {a : Act} {Q : Exit → Act → World → Prop} (hgd : o.guard = none) (n : Nat) (hn : n ≤ 1000000)
    (ho : o.op = .makeSlice 22 (.const (.int .i64 (n : Int))) (.const (.int .i64 (n : Int))))
    (h : ∀ w1, OwnB w1 w.heap.size (.slice (some ⟨w.heap.size, 0, none⟩) n n) (List.replicate n 0) → Below w.heap.size w w1 → wpList Try.prog ops Q rest (a.put o.dst (.slice (some ⟨w.heap.size, 0, none⟩) n n)) w1) :
    wpList Try.prog ops Q (o :: rest) a w := by
  refine wpList_plain hgd fun K hK => ?_
  obtain ⟨w1, hmk, h1, h2⟩ := make_zeros n w hn
  have hl : a.eval (.const (.int .i64 (n : Int))) = .int .i64 (n : Int) := rfl
  unfold Oper.wp
  simp [execOp, ho, hl, hmk, Result.andThen]
  exact hK _ _ (h w1 h1 h2)

theorem wpList_app40 {w : World} {ops : Array Oper} {rest : List Oper} {o : Oper} {a : Act} {Q : Exit → Act → World → Prop} (hgd : o.guard = none) (s : Operand)
    (ho : o.op = .call { callee := .builtin .append, args := #[s, .const (.int .i64 40)], argTypes := #[22, 3] }) (g : Nat) (hs : a.eval s = .slice (some ⟨g, 0, none⟩) 1 1) (hg : g < w.heap.size) (hc : w.cell? ⟨g, 0, none⟩ = some (.int .u8 68))
    (h : ∀ v w', Bytes w' v (68 :: List.replicate 40 0) → Below w.heap.size w w' → wpList Try.prog ops Q rest (a.put o.dst v) w') : wpList Try.prog ops Q (o :: rest) a w := by
  obtain ⟨v, w', hr, h1, h2⟩ := app40 w g hg hc
  exact Lib.wpList_append_run w hgd s _ _ _ ho _ _ hs rfl v w' (hr _) (h v w' h1 h2)
theorem wpList_gen {P : Program} {W0 W : World} {B : Nat} {ops : Array Oper} {rest : List Oper} {a : Act} {Q : Exit → Act → World → Prop} (hb : Below B W0 W) (h : ∀ W', Below B W0 W' → wpList P ops Q rest a W') : wpList P ops Q rest a W := h W hb

def ex8 : List UInt8 := [1, 131, 3, 9, 0, 5, 5, 5]
theorem ex_seq : Om.seq ex8 = [some [131, 3, 9]] := by
  unfold ex8
  rw [Om.seq_nop (by decide) (by decide)]
  rw [Om.seq_opt (by decide) (by decide) (by decide)]
  rw [Om.seq_end (by decide)]
  rfl
theorem ex_ok : Om.ok ex8 = true := by unfold Om.ok; rw [ex_seq]; rfl
theorem ex_raws : Om.raws ex8 = [[131, 3, 9]] := by unfold Om.raws; rw [ex_ok, ex_seq]; rfl
theorem ex_copied : copied ex8 = [131, 3, 9, 0] := by unfold copied; rw [ex_ok, ex_seq]; rfl
theorem ex_routed : routedB ex8 = true := by unfold routedB; rw [ex_raws]; rfl
def exH : Hd := ⟨0, 0, false, false, false, 0, 9, 1, 1, 2⟩
theorem exH_ok : exH.Ok := ⟨by decide, by decide, by decide, by decide, by decide, by decide⟩
theorem ex_may : mayB 0 [] = true := by unfold mayB Om.ok; rw [Om.seq_nil]; rfl
theorem ex_pkt : pktL exH [] [] = [69, 0, 0, 20, 0, 0, 0, 0, 9, 1, 177, 231, 0, 0, 0, 1, 0, 0, 0, 2] := by decide +kernel


theorem parse1 (v : Value) (w : World) (h : Bytes w v (List.replicate 19 0)) : Calls Try.prog 11 #[v] w fun e w' => e = .returned (.tuple #[.agg #[.int .u8 0, .int .u16 0, .bool false, .bool false, .bool false, .int .i64 0, .int .u8 0, .int .u8 0, .int .u32 0, .int .u32 0, .slice none 0 0], .slice none 0 0, .int .i64 1]) ∧ Below w.heap.size w w' := by
  have hf : flt (List.replicate 19 0) = 1 := flt1 (by decide)
  have := parse_no v (List.replicate 19 0) (by decide) w h (by rw [hf]; decide)
  rw [hf] at this
  exact this
theorem parse2 (v : Value) (w : World) (h : Bytes w v (List.replicate 20 0)) : Calls Try.prog 11 #[v] w fun e w' => e = .returned (.tuple #[.agg #[.int .u8 0, .int .u16 0, .bool false, .bool false, .bool false, .int .i64 0, .int .u8 0, .int .u8 0, .int .u32 0, .int .u32 0, .slice none 0 0], .slice none 0 0, .int .i64 2]) ∧ Below w.heap.size w w' := by
  have hf : flt (List.replicate 20 0) = 2 := flt2 (by decide) (by decide)
  have := parse_no v (List.replicate 20 0) (by decide) w h (by rw [hf]; decide)
  rw [hf] at this
  exact this
theorem parse3 (v : Value) (w : World) (h : Bytes w v (68 :: List.replicate 40 0)) : Calls Try.prog 11 #[v] w fun e w' => e = .returned (.tuple #[.agg #[.int .u8 0, .int .u16 0, .bool false, .bool false, .bool false, .int .i64 0, .int .u8 0, .int .u8 0, .int .u32 0, .int .u32 0, .slice none 0 0], .slice none 0 0, .int .i64 3]) ∧ Below w.heap.size w w' := by
  have hf : flt (68 :: List.replicate 40 0) = 3 := flt3 (by decide) (by decide) (by decide)
  have := parse_no v (68 :: List.replicate 40 0) (by decide) w h (by rw [hf]; decide)
  rw [hf] at this
  exact this
theorem bytes1 (w : World) : Calls Try.prog 22 #[.agg #[.int .u8 0, .int .u16 0, .bool false, .bool false, .bool false, .int .i64 0, .int .u8 9, .int .u8 1, .int .u32 1, .int .u32 2, .slice none 0 0], .slice none 0 0] w fun e w' => ∃ v, e = .returned (.tuple #[v, .int .i64 0]) ∧ OwnB w' w.heap.size v [69, 0, 0, 20, 0, 0, 0, 0, 9, 1, 177, 231, 0, 0, 0, 1, 0, 0, 0, 2] ∧ Below w.heap.size w w' := by
  have := bytes_yes exH exH_ok none 0 [] none 0 [] w (Bytes.nil _ _ _) (Bytes.nil _ _ _) ex_may (by decide)
  unfold BytesYes at this
  rw [ex_pkt] at this
  exact this

theorem num3_any (n : Int) (w : World) :
    Calls Try.prog 24 #[.int .i64 n] w fun e w' => e = .returned (.int .i64 n) ∧ w = w' := by
  go_enter Try.func24, Try.ntmps24
  go_wp2
  go_ret
  exact ⟨rfl, rfl⟩
set_option maxHeartbeats 8000000 in
set_option maxRecDepth 100000 in
theorem known3_any (w : World) : Calls Try.prog 10 #[] w fun e w' => e = .returned (.bool true) ∧ Below w.heap.size w w' := by
  go_enter Try.func10, Try.ntmps10
  go_wp2_with (with_reducible refine wpList_makeZ rfl 19 (by omega) rfl ?_)
  intro w1 ho1 hb1
  go_wp2_with fail
  refine (parse1 _ w1 ho1.bytes).mono ?_
  rintro e w2 ⟨rfl, hb2⟩
  have HB2 := Lib.hid (hb1.trans (hb2.mono hb1.size))
  clear ho1 hb1 hb2
  go_wp2_with (with_reducible refine wpList_makeZ rfl 20 (by omega) rfl ?_)
  intro w4 ho4 hb4
  have h4 : Below w2.heap.size w2 w4 := by refine Below.trans ?_ (hb4.mono ?_) <;> first | go_grown | (simp; done)
  have HB4 := Lib.hid (HB2.out.trans (h4.mono HB2.out.size))
  have HO4 := Lib.hid ho4.bytes
  clear hb4 ho4 h4
  go_wp2_with fail
  refine (parse2 _ w4 HO4.out).mono ?_
  rintro e w5 ⟨rfl, hb5⟩
  have HB5 := Lib.hid (HB4.out.trans (hb5.mono HB4.out.size))
  clear hb5 HO4
  go_wp2_with (at_builtin; refine wpList_app40 rfl _ rfl _ rfl (by simp) (by simp) ?_)
  intro v6 w6 h6 hb6
  have h6b : Below w5.heap.size w5 w6 := by refine Below.trans ?_ (hb6.mono ?_) <;> first | go_grown | (simp; omega)
  have HB6 := Lib.hid (HB5.out.trans (h6b.mono HB5.out.size))
  have H6 := Lib.hid h6
  clear h6 hb6 h6b
  go_wp2_with fail
  refine (parse3 _ w6 H6.out).mono ?_
  rintro e w7 ⟨rfl, hb7⟩
  have HB7 := Lib.hid (HB6.out.trans (hb7.mono HB6.out.size))
  clear hb7 H6
  go_wp2_with fail
  refine (bytes1 _).mono ?_
  rintro e w8 ⟨v8, rfl, ho8, hb8⟩
  have h8 : Below w7.heap.size w7 w8 := by refine Below.trans ?_ (hb8.mono ?_) <;> first | go_grown | (simp; done)
  have HB8 := Lib.hid (HB7.out.trans (h8.mono HB7.out.size))
  obtain ⟨g8, cap8, _, rfl, _⟩ := ho8.row (by decide)
  have H8 := Lib.hid ho8.bytes
  clear ho8 hb8 h8
  go_wp2_with fail
  have hL : Bytes (w8.alloc (.cells #[.int .u8 1, .int .u8 131, .int .u8 3, .int .u8 9, .int .u8 0, .int .u8 5, .int .u8 5, .int .u8 5] 5)) (.slice (some ⟨w8.heap.size, 0, none⟩) 8 8) ex8 := bytes_lit w8 ex8
  refine (optionsW_any _ ex8 (by decide) _ hL).mono ?_
  rintro e w9 ⟨v9, rfl, ho9, hb9⟩
  rw [ex_ok, ex_raws] at *
  obtain ⟨a9, c9, rfl⟩ := ho9.form
  have h9 : Below w8.heap.size w8 w9 := by refine Below.trans ?_ (hb9.mono ?_) <;> first | go_grown | (simp; done)
  have HB9 := Lib.hid (HB8.out.trans (h9.mono HB8.out.size))
  have HL9 := Lib.hid (hL.later hb9)
  have HO9 := Lib.hid ho9.reads
  have hby9 := (show Bytes w8 _ _ from H8.out).later h9
  have hcl : ∀ i, i < 20 → w9.cell? ⟨g8, i, none⟩ = some (.int .u8 (Sm.at0 [69, 0, 0, 20, 0, 0, 0, 0, 9, 1, 177, 231, 0, 0, 0, 1, 0, 0, 0, 2] i : Nat)) := fun i hi => by
    obtain ⟨b, o, e1, _, hc⟩ := hby9.at1 (i := i) hi
    simp only [Option.some.injEq, Addr.mk.injEq, and_true] at e1
    obtain ⟨rfl, rfl⟩ := e1
    rw [Nat.zero_add] at hc
    exact hc
  have d0 : w9.cell? ⟨g8, 0, none⟩ = some (.int .u8 69) := hcl 0 (by decide)
  have d3 : w9.cell? ⟨g8, 3, none⟩ = some (.int .u8 20) := hcl 3 (by decide)
  have d8 : w9.cell? ⟨g8, 8, none⟩ = some (.int .u8 9) := hcl 8 (by decide)
  have d10 : w9.cell? ⟨g8, 10, none⟩ = some (.int .u8 177) := hcl 10 (by decide)
  have d11 : w9.cell? ⟨g8, 11, none⟩ = some (.int .u8 231) := hcl 11 (by decide)
  clear ho9 hb9 h9 hL hby9 hcl
  go_wp2_with fail
  refine (num3_any 0 w9).mono ?_
  rintro e w10 ⟨rfl, rfl⟩
  go_wp2_with fail
  refine (sameOpt_any _ _ [(131, [9])] (by decide) _ ((show OptR w9 _ _ from HO9.out).later (by go_grown)) ?_).mono ?_
  · refine .inr ⟨w9.heap.size + 1, 0, 1, rfl, by simp, fun j k d hj => ?_⟩
    match j, hj with
    | 0, hj =>
      simp only [List.getElem?_cons_zero, Option.some.injEq, Prod.mk.injEq] at hj
      obtain ⟨rfl, rfl⟩ := hj
      exact ⟨by simp, .slice (some ⟨w9.heap.size, 0, none⟩) 1 1, by simp, (bytes_lit w9 [9]).later ((Below.refl _ _).alloc (Nat.le_refl _) _)⟩
  rintro e w11 ⟨rfl, hb11⟩
  have h11 : Below w9.heap.size w9 w11 := by refine Below.trans ?_ (hb11.mono ?_) <;> first | go_grown | (simp; omega)
  have HB11 := Lib.hid (HB9.out.trans (h11.mono HB9.out.size))
  have HL11 := Lib.hid ((show Bytes w9 _ _ from HL9.out).later h11)
  clear hb11 h11 d0 d3 d8 d10 d11
  go_wp2_with fail
  refine (copiedW_any _ ex8 (by decide) w11 HL11.out).mono ?_
  rintro e w12 ⟨v12, rfl, ho12, hb12⟩
  rw [ex_copied] at ho12
  obtain ⟨a12, c12, rfl⟩ := ho12.form
  have hcv : (convert 22 9 (.slice a12 4 c12)).run Try.prog w12 = .ok (.string ⟨#[131, 3, 9, 0]⟩) w12 := ho12.bytes.str (P := Try.prog) (src := 22) (dst := 9) Try.underlying22 Try.underlying5 Try.underlying9
  have HB12 := Lib.hid (HB11.out.trans (hb12.mono HB11.out.size))
  have HL12 := Lib.hid ((show Bytes w11 _ _ from HL11.out).later hb12)
  clear ho12 hb12
  go_wp2_with fail
  have hrt := routedW_any _ ex8 (by decide) w12 HL12.out
  rw [ex_routed] at hrt
  refine hrt.mono ?_
  rintro e w13 ⟨rfl, hb13⟩
  have HB13 := Lib.hid (HB12.out.trans (hb13.mono HB12.out.size))
  clear hb13 hrt hcv
  go_wp2_with fail
  go_ret
  exact ⟨rfl, HB13.out⟩
end Go.Proofs.Ytnhkkpcepppgoaa

namespace Go.Proofs.Ytnhkkpcepppgoaa
open Go.RowKit
attribute [local go_sem ↓] Go.wp_at_zero Go.wp_at_succ

/-- Bytes with the ninth one less. -/
def decL (l : List UInt8) : List UInt8 := l.set 8 (UInt8.ofNat (Sm.at0 l 8 - 1))
/-- The checksum that is changed by that. -/
def lessC (l : List UInt8) : Nat := Sm.changed (numAt l 10 2) (numAt l 8 2) (numAt (decL l) 8 2)
def lessL (l : List UInt8) : List UInt8 := spl (decL l) 10 (putL (lessC l) 2)
theorem flt_20 {l : List UInt8} (h : flt l = 0) : 20 ≤ l.length := by
  rcases Nat.lt_or_ge l.length 20 with h1 | h1
  · rw [flt1 h1] at h; cases h
  · exact h1

/-- An answer of bytes that are owned, and an error's number. -/
def AnsO (w : World) (l : List UInt8) (n : Int) (e : Ending) (w' : World) : Prop := ∃ v, e = .returned (.tuple #[v, .int .i64 n]) ∧ OwnB w' w.heap.size v l ∧ Below w.heap.size w w'

theorem bv_set (l : List UInt8) (i x : Nat) (hx : x < 256) : (bv l).set i (.int .u8 (x : Nat)) = bv (l.set i (UInt8.ofNat x)) := by
  unfold bv
  rw [List.map_set, UInt8.toNat_ofNat', Nat.mod_eq_of_lt (by simpa using hx)]
theorem OwnB.set {w : World} {B g cap : Nat} {l : List UInt8} (h : OwnB w B (.slice (some ⟨g, 0, none⟩) l.length cap) l) (i x : Nat) (hx : x < 256) (hi : i < l.length) :
    OwnB (w.setCell ⟨g, i, none⟩ (.int .u8 (x : Nat))) B (.slice (some ⟨g, 0, none⟩) l.length cap) (l.set i (UInt8.ofNat x)) := by
  have := (World.ownsRow.stored h i (.int .u8 (x : Nat))).1
  rw [bv_set l i x hx] at this
  show World.ownsRow _ _ _ _ _ _ _
  rw [List.length_set]; exact this
theorem OwnB.cellAt {w : World} {B g cap : Nat} {l : List UInt8} (h : OwnB w B (.slice (some ⟨g, 0, none⟩) l.length cap) l) {i : Nat} (hi : i < l.length) : w.cell? ⟨g, i, none⟩ = some (.int .u8 (Sm.at0 l i : Nat)) ∧ w.frozen? ⟨g, i, none⟩ = false := by
  obtain ⟨b, o, e1, _, hc⟩ := (OwnB.bytes h).at1 hi
  simp only [Option.some.injEq, Addr.mk.injEq, and_true] at e1
  obtain ⟨rfl, rfl⟩ := e1
  rw [Nat.zero_add] at hc
  exact ⟨hc, World.ownsRow.frozenAt h i⟩

end Go.Proofs.Ytnhkkpcepppgoaa

namespace Go.Proofs.Ytnhkkpcepppgoaa
open Go.RowKit
theorem getL_fr (l : List UInt8) : ∀ x : Nat, l.foldl (fun n b => n * 256 + b.toNat) x = x * 256 ^ l.length + getL l := by
  induction l with
  | nil => intro x; simp [getL]
  | cons b l ih =>
    intro x
    simp only [List.foldl_cons, getL, List.length_cons]
    rw [ih, ih (0 * 256 + b.toNat), Nat.pow_succ]
    rw [Nat.zero_mul, Nat.zero_add, Nat.add_mul, Nat.mul_comm (256 ^ l.length) 256, Nat.mul_assoc]
    omega
theorem get_putL (n : Nat) : ∀ k : Nat, getL (putL n k) = n % 256 ^ k
  | 0 => by simp [getL, putL, Nat.mod_one]
  | k + 1 => by
    show (UInt8.ofNat (n / 256 ^ k) :: putL n k).foldl (fun n b => n * 256 + b.toNat) 0 = _
    rw [List.foldl_cons, getL_fr, putL_length, get_putL n k, Nat.mod_pow_succ, UInt8.toNat_ofNat', Nat.zero_mul, Nat.zero_add]
    rw [show (2 : Nat) ^ 8 = 256 from rfl, Nat.mul_comm]
    omega
theorem putL_1 (n : Nat) : putL n 1 = [UInt8.ofNat n] := by simp [putL]
theorem putL_2 (n : Nat) : putL n 2 = [UInt8.ofNat (n / 256), UInt8.ofNat n] := by simp [putL]
theorem getL_put {n k : Nat} (h : n < 256 ^ k) : getL (putL n k) = n := by rw [get_putL]; exact Nat.mod_eq_of_lt h
theorem hd_0 (h : Hd) (s t c : Nat) (R : List UInt8) (hs : 64 + s / 4 < 256) : Sm.at0 (hd20 h s t c ++ R) 0 = 64 + s / 4 := by
  show (UInt8.ofNat ((64 + s / 4) / 256 ^ 0)).toNat = _
  rw [UInt8.toNat_ofNat']; simp; omega
theorem hd_1 (h : Hd) (s t c : Nat) (R : List UInt8) (hs : h.tos < 256) : Sm.at0 (hd20 h s t c ++ R) 1 = h.tos := by
  show (UInt8.ofNat (h.tos / 256 ^ 0)).toNat = _
  rw [UInt8.toNat_ofNat']; simp; omega
theorem hd_8 (h : Hd) (s t c : Nat) (R : List UInt8) (hs : h.ttl < 256) : Sm.at0 (hd20 h s t c ++ R) 8 = h.ttl := by
  show (UInt8.ofNat (h.ttl / 256 ^ 0)).toNat = _
  rw [UInt8.toNat_ofNat']; simp; omega
theorem hd_9 (h : Hd) (s t c : Nat) (R : List UInt8) (hs : h.pr < 256) : Sm.at0 (hd20 h s t c ++ R) 9 = h.pr := by
  show (UInt8.ofNat (h.pr / 256 ^ 0)).toNat = _
  rw [UInt8.toNat_ofNat']; simp; omega
theorem hd_2 (h : Hd) (s t c : Nat) (R : List UInt8) (ht : t < 65536) : numAt (hd20 h s t c ++ R) 2 2 = t := by
  show getL (putL t 2) = t
  exact getL_put ht
theorem hd_4 (h : Hd) (s t c : Nat) (R : List UInt8) (ht : h.id < 65536) : numAt (hd20 h s t c ++ R) 4 2 = h.id := by
  show getL (putL h.id 2) = _
  exact getL_put ht
theorem hd_6 (h : Hd) (s t c : Nat) (R : List UInt8) (ht : flagsN h < 65536) : numAt (hd20 h s t c ++ R) 6 2 = flagsN h := by
  show getL (putL (flagsN h) 2) = _
  exact getL_put ht
theorem hd_10 (h : Hd) (s t c : Nat) (R : List UInt8) (ht : c < 65536) : numAt (hd20 h s t c ++ R) 10 2 = c := by
  show getL (putL c 2) = _
  exact getL_put ht
theorem hd_12 (h : Hd) (s t c : Nat) (R : List UInt8) (ht : h.src < 4294967296) : numAt (hd20 h s t c ++ R) 12 4 = h.src := by
  show getL (putL h.src 4) = _
  exact getL_put ht
theorem hd_16 (h : Hd) (s t c : Nat) (R : List UInt8) (ht : h.dst < 4294967296) : numAt (hd20 h s t c ++ R) 16 4 = h.dst := by
  show getL (putL h.dst 4) = _
  exact getL_put ht
theorem flagsN_lt (h : Hd) (h2 : h.off ≤ 8191) : flagsN h < 65536 := by
  unfold flagsN
  have e1 : h.ev.toNat ≤ 1 := Bool.toNat_le _
  have e2 : h.df.toNat ≤ 1 := Bool.toNat_le _
  have e3 : h.mf.toNat ≤ 1 := Bool.toNat_le _
  omega
theorem flags_back (h : Hd) (h1 : 0 ≤ h.off) (h2 : h.off ≤ 8191) : evB (flagsN h) = h.ev ∧ dfB (flagsN h) = h.df ∧ mfB (flagsN h) = h.mf ∧ ((flagsN h % 8192 : Nat) : Int) = h.off := by
  obtain ⟨tos, id, ev, df, mf, off, ttl, pr, src, dst⟩ := h
  obtain ⟨o, rfl⟩ := Int.eq_ofNat_of_zero_le h1
  simp only at h1 h2 ⊢
  have ho : o < 8192 := by omega
  have e : flagsN ⟨tos, id, ev, df, mf, o, ttl, pr, src, dst⟩ = ev.toNat * 32768 + df.toNat * 16384 + mf.toNat * 8192 + o := by simp [flagsN]
  rw [e]
  unfold evB dfB mfB
  cases ev <;> cases df <;> cases mf <;> simp <;> omega
/-- The sum of a header's bytes goes along with its checksum. -/
theorem all_chk (h : Hd) (s t c : Nat) (R : List UInt8) (hc : c < 65536) : Sm.all (hd20 h s t c ++ R) = Sm.all (hd20 h s t 0 ++ R) + c := by
  have h1 : hd20 h s t c ++ R = (hd20 h s t c).take 10 ++ putL c 2 ++ ((hd20 h s t c).drop 12 ++ R) := rfl
  have h2 : hd20 h s t 0 ++ R = (hd20 h s t c).take 10 ++ [0, 0] ++ ((hd20 h s t c).drop 12 ++ R) := rfl
  have := Sm.all_change (a := (hd20 h s t c).take 10) (b := (hd20 h s t c).drop 12 ++ R) (n := 5) rfl 0 0 (UInt8.ofNat (c / 256)) (UInt8.ofNat c)
  rw [← putL_2, ← h1, ← h2] at this
  rw [UInt8.toNat_ofNat', UInt8.toNat_ofNat'] at this
  simp at this
  omega
theorem chkN_lt (h : Hd) (O P : List UInt8) : chkN h O P < 65536 := by unfold chkN; omega
theorem tot_hdr (h : Hd) (O P : List UInt8) : Sm.tot (hdrS h O P (chkN h O P)) = 65535 := by
  unfold hdrS
  rw [Sm.tot_all, all_chk _ _ _ _ _ (chkN_lt h O P), ← Sm.addC_canon _ _ (chkN_lt h O P)]
  unfold chkN hdrS
  rw [Sm.tot_all]
  exact Sm.addC_rest (Sm.canon_lt _)
/-- A header with another time to live. -/
def Hd.set (h : Hd) (t : Nat) : Hd := { h with ttl := t }
theorem all_ttl (h : Hd) (s t c x : Nat) (R : List UInt8) (h1 : h.ttl < 256) (h2 : h.pr < 256) (hx : x < 256) : Sm.all (hd20 (h.set x) s t c ++ R) + (256 * h.ttl + h.pr) = Sm.all (hd20 h s t c ++ R) + (256 * x + h.pr) := by
  have e1 : hd20 h s t c ++ R = (hd20 h s t c).take 8 ++ (putL h.ttl 1 ++ putL h.pr 1) ++ ((hd20 h s t c).drop 10 ++ R) := rfl
  have e2 : hd20 (h.set x) s t c ++ R = (hd20 h s t c).take 8 ++ (putL x 1 ++ putL h.pr 1) ++ ((hd20 h s t c).drop 10 ++ R) := rfl
  rw [putL_1, putL_1] at e1 e2
  have := Sm.all_change (a := (hd20 h s t c).take 8) (b := (hd20 h s t c).drop 10 ++ R) (n := 4) rfl (UInt8.ofNat h.ttl) (UInt8.ofNat h.pr) (UInt8.ofNat x) (UInt8.ofNat h.pr)
  rw [show [UInt8.ofNat x, UInt8.ofNat h.pr] = [UInt8.ofNat x] ++ [UInt8.ofNat h.pr] from rfl, show [UInt8.ofNat h.ttl, UInt8.ofNat h.pr] = [UInt8.ofNat h.ttl] ++ [UInt8.ofNat h.pr] from rfl, ← e1, ← e2] at this
  rw [UInt8.toNat_ofNat', UInt8.toNat_ofNat', UInt8.toNat_ofNat'] at this
  rw [Nat.mod_eq_of_lt (by simpa using h1), Nat.mod_eq_of_lt (by simpa using h2), Nat.mod_eq_of_lt (by simpa using hx)] at this
  exact this
theorem dec_hd (h : Hd) (s t c : Nat) (R : List UInt8) (h1 : h.ttl < 256) : decL (hd20 h s t c ++ R) = hd20 (h.set (h.ttl - 1)) s t c ++ R := by
  unfold decL
  rw [hd_8 h s t c R h1]
  have e : hd20 (h.set (h.ttl - 1)) s t c ++ R = (hd20 h s t c ++ R).set 8 (UInt8.ofNat ((h.ttl - 1) / 256 ^ 0)) := rfl
  rw [e]; simp
theorem all0_0 (h : Hd) (s t c : Nat) (R : List UInt8) (k : s / 4 < 16) : (Sm.at0 (hd20 h s t c ++ R) 0 = 0) = False := by rw [hd_0 h s t c R (by omega)]; simp
theorem pkt_eq (h : Hd) (O P : List UInt8) : pktL h O P = hd20 h (20 + O.length) (20 + O.length + P.length) (chkN h O P) ++ (O ++ P) := by unfold pktL hdrS; rw [List.append_assoc]
theorem less_pkt (h : Hd) (O P : List UInt8) (hh : h.Ok) (hO : O.length ≤ 40) : lessL (pktL h O P) = pktL (h.set (h.ttl - 1)) O P := by
  have hc := chkN_lt h O P
  have ht := hh.ttl
  have hp := hh.pr
  have hd := dec_hd h (20 + O.length) (20 + O.length + P.length) (chkN h O P) (O ++ P) ht
  have e1 : numAt (pktL h O P) 10 2 = chkN h O P := by rw [pkt_eq]; exact hd_10 _ _ _ _ _ hc
  have e2 : numAt (pktL h O P) 8 2 = 256 * h.ttl + h.pr := by
    rw [pkt_eq, numAt_2 (by rw [List.length_append, hd20_length]; omega), hd_8 _ _ _ _ _ ht, hd_9 _ _ _ _ _ hp]
  have e3 : numAt (decL (pktL h O P)) 8 2 = 256 * (h.ttl - 1) + h.pr := by
    rw [pkt_eq, hd, numAt_2 (by rw [List.length_append, hd20_length]; omega), hd_8 _ _ _ _ _ (show (h.set (h.ttl - 1)).ttl < 256 by show h.ttl - 1 < 256; omega), hd_9 (h.set (h.ttl - 1)) _ _ _ _ hp]
    rfl
  have hS := all_ttl h (20 + O.length) (20 + O.length + P.length) 0 (h.ttl - 1) O ht hp (by omega)
  have hcg := Sm.changed_of (S := Sm.all (hd20 h (20 + O.length) (20 + O.length + P.length) 0 ++ O)) (m := 256 * h.ttl + h.pr) (n := 256 * (h.ttl - 1) + h.pr) (by omega) (by omega) hS
  have e4 : lessC (pktL h O P) = chkN (h.set (h.ttl - 1)) O P := by
    unfold lessC
    rw [e1, e2, e3]
    show Sm.changed (65535 - Sm.canon (Sm.all (hd20 h _ _ 0 ++ O))) _ _ = 65535 - Sm.canon (Sm.all (hd20 _ _ _ 0 ++ O))
    rcases hcg with e | ⟨e, _⟩
    · exact e.symm
    · exfalso
      have := (Sm.all_zero_iff _).1 e 0 (by rw [List.length_append, hd20_length]; omega)
      rw [all0_0 _ _ _ _ _ (by omega)] at this
      exact this
  unfold lessL
  rw [e4, pkt_eq, hd]
  show hd20 _ _ _ _ ++ _ = _
  rw [pkt_eq]
theorem pkt_facts (h : Hd) (O P X : List UInt8) (hh : h.Ok) (hm : mayB h.off O = true) (hP : P.length ≤ 65535 - 20 - O.length) :
    hsz (pktL h O P ++ X) = 20 + O.length ∧ numAt (pktL h O P ++ X) 2 2 = 20 + O.length + P.length ∧ Sm.at0 (pktL h O P ++ X) 0 / 16 = 4 ∧ (pktL h O P ++ X).take (20 + O.length) = hdrS h O P (chkN h O P) ∧ ((pktL h O P ++ X).take (20 + O.length)).drop 20 = O ∧
    ((pktL h O P ++ X).take (20 + O.length + P.length)).drop (20 + O.length) = P ∧ (pktL h O P ++ X).length = 20 + O.length + P.length + X.length := by
  obtain ⟨hl40, hl4, ho0, ho1, _⟩ := mayB_len hm
  have e : pktL h O P ++ X = hd20 h (20 + O.length) (20 + O.length + P.length) (chkN h O P) ++ (O ++ P ++ X) := by rw [pkt_eq, List.append_assoc]
  have e2 : pktL h O P ++ X = hdrS h O P (chkN h O P) ++ (P ++ X) := by unfold pktL; rw [List.append_assoc]
  have hl : (hdrS h O P (chkN h O P)).length = 20 + O.length := by unfold hdrS; rw [List.length_append, hd20_length]
  have a0 := hd_0 h (20 + O.length) (20 + O.length + P.length) (chkN h O P) (O ++ P ++ X) (by omega)
  have ht : (pktL h O P ++ X).take (20 + O.length) = hdrS h O P (chkN h O P) := by rw [e2, ← hl, List.take_left]
  refine ⟨?_, ?_, ?_, ht, ?_, ?_, ?_⟩
  · unfold hsz; rw [e, a0]; omega
  · rw [e]; exact hd_2 _ _ _ _ _ (by omega)
  · rw [e, a0]; omega
  · rw [ht]; rfl
  · rw [e2, ← hl, ← List.length_append, ← List.append_assoc, List.take_left, List.drop_left]
  · rw [e2, List.length_append, hl, List.length_append]; omega
theorem pkt_len (h : Hd) (O P : List UInt8) : (pktL h O P).length = 20 + O.length + P.length := by rw [pkt_eq, List.length_append, hd20_length, List.length_append]; omega
theorem flt_pkt (h : Hd) (O P X : List UInt8) (hh : h.Ok) (hm : mayB h.off O = true) (hP : P.length ≤ 65535 - 20 - O.length) : flt (pktL h O P ++ X) = 0 := by
  obtain ⟨f1, f2, f3, f4, f5, f6, f7⟩ := pkt_facts h O P X hh hm hP
  obtain ⟨hl40, hl4, ho0, ho1, hok⟩ := mayB_len hm
  refine flt0 (by omega) f3 (by omega) (by omega) ?_ ?_
  · rw [f1, f4]; exact tot_hdr h O P
  · rw [f1, f5]; exact hok
theorem pkt_fields (h : Hd) (O P X : List UInt8) (hh : h.Ok) (hm : mayB h.off O = true) :
    Sm.at0 (pktL h O P ++ X) 1 = h.tos ∧ numAt (pktL h O P ++ X) 4 2 = h.id ∧ numAt (pktL h O P ++ X) 6 2 = flagsN h ∧ Sm.at0 (pktL h O P ++ X) 8 = h.ttl ∧ Sm.at0 (pktL h O P ++ X) 9 = h.pr ∧ numAt (pktL h O P ++ X) 12 4 = h.src ∧ numAt (pktL h O P ++ X) 16 4 = h.dst := by
  obtain ⟨hl40, hl4, ho0, ho1, hok⟩ := mayB_len hm
  have e : pktL h O P ++ X = hd20 h (20 + O.length) (20 + O.length + P.length) (chkN h O P) ++ (O ++ P ++ X) := by rw [pkt_eq, List.append_assoc]
  rw [e]
  exact ⟨hd_1 _ _ _ _ _ hh.tos, hd_4 _ _ _ _ _ hh.id, hd_6 _ _ _ _ _ (flagsN_lt h ho1), hd_8 _ _ _ _ _ hh.ttl, hd_9 _ _ _ _ _ hh.pr, hd_12 _ _ _ _ _ hh.src, hd_16 _ _ _ _ _ hh.dst⟩
/-- A header parsed back. -/
def ParsedH (wm : World) (h : Hd) (O P : List UInt8) (e : Ending) (w' : World) : Prop :=
  ∃ (u v : Value) (B : Nat), e = .returned (.tuple #[.agg #[.int .u8 (h.tos : Nat), .int .u16 (h.id : Nat), .bool h.ev, .bool h.df, .bool h.mf, .int .i64 h.off, .int .u8 (h.ttl : Nat), .int .u8 (h.pr : Nat), .int .u32 (h.src : Nat), .int .u32 (h.dst : Nat), u], v, .int .i64 0]) ∧ OwnB w' wm.heap.size u O ∧ OwnB w' B v P ∧ wm.heap.size ≤ B ∧ (∀ g, u.ownBlock = some g → g < B) ∧ Below wm.heap.size wm w'
theorem parse_pkt (a : Option Addr) (c : Nat) (h : Hd) (O P X : List UInt8) (hh : h.Ok) (hm : mayB h.off O = true) (hP : P.length ≤ 65535 - 20 - O.length) (hX : X.length ≤ 900000) (wm : World) (hv : Bytes wm (.slice a (pktL h O P ++ X).length c) (pktL h O P ++ X)) :
    Calls Try.prog 11 #[.slice a (pktL h O P ++ X).length c] wm (ParsedH wm h O P) := by
  obtain ⟨f1, f2, f3, f4, f5, f6, f7⟩ := pkt_facts h O P X hh hm hP
  obtain ⟨g1, g2, g3, g4, g5, g6, g7⟩ := pkt_fields h O P X hh hm
  obtain ⟨hl40, hl4, ho0, ho1, hok⟩ := mayB_len hm
  obtain ⟨b1, b2, b3, b4⟩ := flags_back h ho0 ho1
  have := parse_yes a c (pktL h O P ++ X) (by omega) wm hv (flt_pkt h O P X hh hm hP)
  refine this.mono ?_
  rintro e w' ⟨u, v, B, rfl, hu, hv', hB, hg, hb⟩
  rw [f1] at hu hv'
  rw [f2] at hv'
  rw [f5] at hu
  rw [f6] at hv'
  rw [g1, g2, g3, g4, g5, g6, g7, b1, b2, b3, b4]
  exact ⟨u, v, B, rfl, hu, hv', hB, hg, hb⟩
end Go.Proofs.Ytnhkkpcepppgoaa

namespace Go.Proofs.Ytnhkkpcepppgoaa
open Go.RowKit
attribute [local go_sem ↓] Go.wp_at_zero Go.wp_at_succ

/-- What a packet that may be parses to. -/
theorem prs_pkt (h : Hd) (O P : List UInt8) (hh : h.Ok) (hm : mayB h.off O = true) (hP : P.length ≤ 65535 - 20 - O.length) :
    flt (pktL h O P) = 0 ∧ hdP (pktL h O P) = h ∧ opP (pktL h O P) = O ∧ plP (pktL h O P) = P := by
  have e : pktL h O P = pktL h O P ++ [] := by simp
  have f := flt_pkt h O P [] hh hm hP
  obtain ⟨f1, f2, f3, f4, f5, f6, f7⟩ := pkt_facts h O P [] hh hm hP
  obtain ⟨g1, g2, g3, g4, g5, g6, g7⟩ := pkt_fields h O P [] hh hm
  obtain ⟨hl40, hl4, ho0, ho1, hok⟩ := mayB_len hm
  obtain ⟨b1, b2, b3, b4⟩ := flags_back h ho0 ho1
  rw [← e] at f f1 f2 f3 f4 f5 f6 f7 g1 g2 g3 g4 g5 g6 g7
  refine ⟨f, ?_, ?_, ?_⟩
  · rw [hdP_yes f, g1, g2, g3, g4, g5, g6, g7, b1, b2, b3, b4]
  · rw [opP_yes f, f1, f5]
  · rw [plP_yes f, f1, f2, f6]

def k8 : List UInt8 := [8, 0, 247, 254, 0, 0, 0, 1]
theorem k8_eq : msgL ⟨8, 0, 0, 0, 0, 1⟩ [] = k8 := by decide +kernel
def abc : List UInt8 := [97, 98, 99, 100, 101, 102, 103, 104, 105, 106]
def pH : Hd := ⟨0, 0, false, false, false, 0, 1, 17, 5, 6⟩
theorem pH_ok : pH.Ok := ⟨by decide, by decide, by decide, by decide, by decide, by decide⟩
def kP : List UInt8 := pktL pH [] abc
theorem kP_facts : flt kP = 0 ∧ hdP kP = pH ∧ opP kP = [] ∧ plP kP = abc := prs_pkt pH [] abc pH_ok (may_nil rfl) (by decide)
theorem kP_len : kP.length = 30 := by unfold kP; rw [pkt_len]; rfl
theorem e1_kP : errN 1 1 kP = 2 := rfl
theorem e0_kP : errN 1 0 kP = 0 := by
  obtain ⟨a, b, c, d⟩ := kP_facts
  unfold errN
  rw [if_neg (by decide), if_neg (by rw [a]; simp), b, d]
  rw [if_neg (by decide)]
def kQ : List UInt8 := errL 1 0 kP 9
theorem kQ_eq : kQ = pktL (ansH (eH 9 5)) [] (msgL (eM 1 0) (quoL kP)) := by
  unfold kQ errL
  rw [if_pos e0_kP, kP_facts.2.1]; rfl
theorem quoP_len : (quoL kP).length = 28 := by
  unfold quoL quoN
  rw [kP_facts.2.2.1, kP_facts.2.2.2, List.length_take, kP_len]; rfl
theorem kQ_len : kQ.length = 56 := by rw [kQ_eq, pkt_len, msgL_length, quoP_len]; rfl
theorem kQ_facts : flt kQ = 0 ∧ hdP kQ = ansH (eH 9 5) ∧ opP kQ = [] ∧ plP kQ = msgL (eM 1 0) (quoL kP) := by
  rw [kQ_eq]
  exact prs_pkt _ _ _ (ansH_ok ⟨by decide, by decide, by decide, by decide, by decide, by decide⟩) (may_nil rfl) (by rw [msgL_length, quoP_len]; decide)
theorem msgL_at0 (m : Mg) (hm : m.Ok) (B : List UInt8) : Sm.at0 (msgL m B) 0 = m.ty := by
  unfold msgL spl msg0 h4 Sm.at0
  simp [u8n_nat hm.ty]
theorem e7_kQ : errN 1 0 kQ = 7 := by
  obtain ⟨a, b, c, d⟩ := kQ_facts
  unfold errN
  rw [if_neg (by decide), if_neg (by rw [a]; simp), b, d]
  have : ansB (ansH (eH 9 5)) (msgL (eM 1 0) (quoL kP)) = false := by
    unfold ansB
    rw [msgL_at0 _ (eM_ok (by decide))]
    have : errB (eM 1 0).ty = true := by decide
    rw [this]
    have : ((((ansH (eH 9 5)).pr : Nat) : Int) != 1) = false := by decide
    rw [this]
    simp
  rw [if_pos this]
theorem num4_any (n : Int) (w : World) :
    Calls Try.prog 30 #[.int .i64 n] w fun e w' => e = .returned (.int .i64 n) ∧ w = w' := by
  go_enter Try.func30, Try.ntmps30
  go_wp2
  go_ret
  exact ⟨rfl, rfl⟩
theorem bytesk (w : World) : Calls Try.prog 31 #[.agg #[.int .u8 8, .int .u8 0, .int .u8 0, .int .u8 0, .int .u8 0, .int .u8 1, .slice none 0 0]] w fun e w' => ∃ v, e = .returned v ∧ OwnB w' w.heap.size v k8 ∧ Below w.heap.size w w' := by
  have h := bytesM_any ⟨8, 0, 0, 0, 0, 1⟩ ⟨by decide, by decide, by decide, by decide, by decide, by decide⟩ none 0 [] w (Bytes.nil _ _ _) (by decide)
  rw [k8_eq] at h
  exact h
theorem ofk (v : Value) (w : World) (hv : Bytes w v (List.replicate 7 0)) : Calls Try.prog 27 #[v] w fun e w' => e = .returned (.tuple #[MZ, .int .i64 4]) ∧ Below w.heap.size w w' := by
  obtain ⟨a, c, rfl⟩ := hv.form
  exact of_no a c _ w hv (by simp) (by decide +kernel)
theorem refk (v : Value) (w : World) (hv : Bytes w v abc) : Calls Try.prog 25 #[.agg #[.int .u8 0, .int .u16 0, .bool false, .bool false, .bool false, .int .i64 0, .int .u8 1, .int .u8 17, .int .u32 5, .int .u32 6, .slice none 0 0], v] w fun e w' => ∃ v, e = .returned v ∧ OwnB w' w.heap.size v kP ∧ Below w.heap.size w w' := by
  obtain ⟨a, c, rfl⟩ := hv.form
  exact bytesR_yes pH pH_ok none 0 [] a c abc w (Bytes.nil _ _ _) hv (may_nil rfl) (by decide)
theorem errk1 (v : Value) (w : World) (hv : Bytes w v kP) : Calls Try.prog 40 #[.int .i64 1, v, .int .u32 9, .int .i64 1] w fun e w' => ∃ v, e = .returned (.tuple #[v, .int .i64 2]) ∧ Below w.heap.size w w' := by
  refine (errW_any 1 v kP (by rw [kP_len]; decide) 9 (by decide) 1 w hv).mono ?_
  rintro e w' ⟨v, rfl, _, hb⟩
  exact ⟨v, by rw [e1_kP]; rfl, hb⟩
theorem errk2 (v : Value) (w : World) (hv : Bytes w v kP) : Calls Try.prog 40 #[.int .i64 1, v, .int .u32 9, .int .i64 0] w fun e w' => ∃ v, e = .returned (.tuple #[v, .int .i64 0]) ∧ Bytes w' v kQ ∧ Below w.heap.size w w' := by
  refine (errW_any 1 v kP (by rw [kP_len]; decide) 9 (by decide) 0 w hv).mono ?_
  rintro e w' ⟨v, rfl, ho, hb⟩
  exact ⟨v, by rw [e0_kP]; rfl, ho.bytes, hb⟩
theorem errk3 (v : Value) (w : World) (hv : Bytes w v kQ) : Calls Try.prog 40 #[.int .i64 1, v, .int .u32 9, .int .i64 0] w fun e w' => ∃ v, e = .returned (.tuple #[v, .int .i64 7]) ∧ Below w.heap.size w w' := by
  refine (errW_any 1 v kQ (by rw [kQ_len]; decide) 9 (by decide) 0 w hv).mono ?_
  rintro e w' ⟨v, rfl, _, hb⟩
  exact ⟨v, by rw [e7_kQ]; rfl, hb⟩
theorem isk (t : Nat) (w : World) : Calls Try.prog 34 #[.agg #[.int .u8 (t : Nat), .int .u8 0, .int .u8 0, .int .u8 0, .int .u8 0, .int .u8 0, .slice none 0 0]] w fun e w' => e = .returned (.bool (errB t)) ∧ Below w.heap.size w w' := isErrW_any ⟨t, 0, 0, 0, 0, 0⟩ (.slice none 0 0) w ⟨_, _, _, rfl⟩

theorem abc_conv (W : World) (g : Nat) (hg : g = W.heap.size) : (convert 22 22 (.slice (some ⟨g, 0, none⟩) 10 10)).run Try.prog (W.alloc (.cells #[.int .u8 97, .int .u8 98, .int .u8 99, .int .u8 100, .int .u8 101, .int .u8 102, .int .u8 103, .int .u8 104, .int .u8 105, .int .u8 106] 5)) = .ok (.slice (some ⟨g, 0, none⟩) 10 10) (W.alloc (.cells #[.int .u8 97, .int .u8 98, .int .u8 99, .int .u8 100, .int .u8 101, .int .u8 102, .int .u8 103, .int .u8 104, .int .u8 105, .int .u8 106] 5 (10, 11))) :=
  Joins.run_convert_bytes_const_at (P := Try.prog) W 22 5 _ 10 10 g hg Try.underlying22 Try.underlying5
theorem abc_bytes (W : World) (g : Nat) (hg : g = W.heap.size) : Bytes (W.alloc (.cells #[.int .u8 97, .int .u8 98, .int .u8 99, .int .u8 100, .int .u8 101, .int .u8 102, .int .u8 103, .int .u8 104, .int .u8 105, .int .u8 106] 5 (10, 11))) (.slice (some ⟨g, 0, none⟩) 10 10) abc :=
  .inr ⟨g, 0, 10, rfl, by rw [hg, World.size_alloc]; omega, Nat.le_refl _, fun j x hx => by
    rw [Nat.zero_add, Joins.cell_alloc_mark_at W _ 5 (10, 11) g j hg]
    have h : (bv abc)[j]? = some (.int .u8 (x.toNat : Int)) := by unfold bv; rw [List.getElem?_map, hx]; rfl
    rw [← h]
    show (bv abc).toArray[j]? = _
    simp⟩
set_option maxHeartbeats 8000000 in
set_option maxRecDepth 100000 in
theorem known4_any (w : World) : Calls Try.prog 26 #[] w fun e w' => e = .returned (.bool true) ∧ Below w.heap.size w w' := by
  go_enter Try.func26, Try.ntmps26
  go_wp2_with fail
  refine (bytesk w).mono ?_
  rintro e w1 ⟨v1, rfl, ho1, hb1⟩
  obtain ⟨g1, cap1, _, rfl, _⟩ := ho1.row (by decide)
  have HB1 := Lib.hid hb1
  have H1 := Lib.hid ho1.bytes
  clear ho1 hb1
  go_wp2_with (with_reducible refine wpList_makeZ rfl 7 (by omega) rfl ?_)
  intro w2 ho2 hb2
  have HB2 := Lib.hid (HB1.out.trans (hb2.mono HB1.out.size))
  have h1b := (show Bytes w1 _ _ from H1.out).later hb2
  have H1b := Lib.hid h1b
  have H2 := Lib.hid ho2.bytes
  clear hb2 ho2 h1b H1
  go_wp2_with fail
  refine (ofk _ w2 H2.out).mono ?_
  rintro e w3 ⟨rfl, hb3⟩
  have HB3 := Lib.hid (HB2.out.trans (hb3.mono HB2.out.size))
  have H1c := Lib.hid ((show Bytes w2 _ _ from H1b.out).later hb3)
  clear hb3 H2 H1b
  unfold MZ
  have hcv := abc_conv (w3.alloc (.cells #[.int .u8 0, .int .u8 0, .int .u8 0, .int .u8 0, .int .u8 0, .int .u8 0, .slice none 0 0] 46)) (w3.heap.size + 1) (by simp)
  have hb4 : Below w3.heap.size w3 ((w3.alloc (.cells #[.int .u8 0, .int .u8 0, .int .u8 0, .int .u8 0, .int .u8 0, .int .u8 0, .slice none 0 0] 46)).alloc (.cells #[.int .u8 97, .int .u8 98, .int .u8 99, .int .u8 100, .int .u8 101, .int .u8 102, .int .u8 103, .int .u8 104, .int .u8 105, .int .u8 106] 5 (10, 11))) := by go_grown
  have H4 := Lib.hid (abc_bytes (w3.alloc (.cells #[.int .u8 0, .int .u8 0, .int .u8 0, .int .u8 0, .int .u8 0, .int .u8 0, .slice none 0 0] 46)) (w3.heap.size + 1) (by simp))
  have HB4 := Lib.hid (HB3.out.trans (hb4.mono HB3.out.size))
  have H1d := Lib.hid ((show Bytes w3 _ _ from H1c.out).later hb4)
  clear hb4 H1c
  go_wp2_with fail
  refine (refk _ _ H4.out).mono ?_
  rintro e w5 ⟨v5, rfl, ho5, hb5⟩
  have HB5 := Lib.hid (HB4.out.trans (hb5.mono HB4.out.size))
  have H1e := Lib.hid ((show Bytes _ _ _ from H1d.out).later hb5)
  obtain ⟨a5, c5, rfl⟩ := ho5.form
  obtain ⟨n5, hn5⟩ : ∃ n, n = kP.length := ⟨_, rfl⟩
  have H5 : Hid (Bytes w5 (.slice a5 n5 c5) kP) := by rw [hn5]; exact ho5.bytes
  rw [← hn5]
  clear hb5 H1d H4 ho5 hn5 hcv
  go_wp2_with fail
  refine (errk1 _ w5 H5.out).mono ?_
  rintro e w6 ⟨v6, rfl, hb6⟩
  have HB6 := Lib.hid (HB5.out.trans (hb6.mono HB5.out.size))
  have H1f := Lib.hid ((show Bytes _ _ _ from H1e.out).later hb6)
  have H6 := Lib.hid ((show Bytes _ _ _ from H5.out).later hb6)
  clear hb6 H1e H5
  go_wp2_with fail
  refine (errk2 _ w6 H6.out).mono ?_
  rintro e w7 ⟨v7, rfl, hq7, hb7⟩
  have HB7 := Lib.hid (HB6.out.trans (hb7.mono HB6.out.size))
  have H1g := Lib.hid ((show Bytes _ _ _ from H1f.out).later hb7)
  obtain ⟨a7, c7, rfl⟩ := hq7.form
  rw [kQ_len] at hq7 ⊢
  have H7 := Lib.hid hq7
  clear hb7 H1f H6 hq7
  go_wp2_with fail
  refine (errk3 _ w7 H7.out).mono ?_
  rintro e w8 ⟨v8, rfl, hb8⟩
  have HB8 := Lib.hid (HB7.out.trans (hb8.mono HB7.out.size))
  have hby := (show Bytes _ _ _ from H1g.out).later hb8
  have hcl : ∀ i, i < 8 → w8.cell? ⟨g1, i, none⟩ = some (.int .u8 (Sm.at0 k8 i : Nat)) := fun i hi => by
    obtain ⟨b, o, e1, _, hc⟩ := hby.at1 (i := i) hi
    simp only [Option.some.injEq, Addr.mk.injEq, and_true] at e1
    obtain ⟨rfl, rfl⟩ := e1
    rw [Nat.zero_add] at hc
    exact hc
  have d2 : w8.cell? ⟨g1, 2, none⟩ = some (.int .u8 247) := hcl 2 (by decide)
  have d3 : w8.cell? ⟨g1, 3, none⟩ = some (.int .u8 254) := hcl 3 (by decide)
  rw [show k8.length = 8 from rfl]
  have i11 := Lib.hid (fun W => isk 11 W)
  have i8 := Lib.hid (fun W => isk 8 W)
  rw [show errB 11 = true from rfl] at i11
  rw [show errB 8 = false from rfl] at i8
  clear hb8 hby hcl H1g
  go_wp2_with fail
  refine (i11.out _).mono ?_
  rintro e w9 ⟨rfl, hb9⟩
  have HB9 := Lib.hid (HB8.out.trans (hb9.mono HB8.out.size))
  clear hb9
  go_wp2_with fail
  refine (i8.out _).mono ?_
  rintro e w10 ⟨rfl, hb10⟩
  have HB10 := Lib.hid (HB9.out.trans (hb10.mono HB9.out.size))
  clear hb10
  go_wp2_with fail
  refine (num4_any _ _).mono ?_
  rintro e w11 ⟨rfl, rfl⟩
  go_wp2_with fail
  refine (num4_any _ _).mono ?_
  rintro e w11 ⟨rfl, rfl⟩
  go_wp2_with fail
  refine (num4_any _ _).mono ?_
  rintro e w11 ⟨rfl, rfl⟩
  go_wp2_with fail
  refine (num4_any _ _).mono ?_
  rintro e w11 ⟨rfl, rfl⟩
  go_wp2_with fail
  go_ret
  exact ⟨rfl, HB10.out⟩
end Go.Proofs.Ytnhkkpcepppgoaa

namespace Go.Proofs.Ytnhkkpcepppgoaa
open Go.RowKit
attribute [local go_sem ↓] Go.wp_at_zero Go.wp_at_succ

def copP (L : List UInt8) (A : List (Nat × Nat)) : List UInt8 := A.flatMap fun p => if 128 ≤ Sm.at0 L p.1 then cutP L p else []
theorem copOf_fm : ∀ s : List (Option (List UInt8)), copOf s = (s.filterMap id).flatMap fun r => if 128 ≤ Sm.at0 r 0 then r else []
  | [] => rfl
  | none :: s => by
    have := copOf_fm s
    unfold copOf at this ⊢
    rw [List.flatMap_cons, this]; rfl
  | some r :: s => by
    have := copOf_fm s
    unfold copOf at this ⊢
    rw [List.flatMap_cons, this]; rfl
theorem copied_raws (L : List UInt8) : copied L = pad ((Om.raws L).flatMap fun r => if 128 ≤ Sm.at0 r 0 then r else []) := by
  cases h : Om.ok L with
  | true =>
    have e : Om.raws L = (Om.seq L).filterMap id := by unfold Om.raws; rw [h]; rfl
    unfold copied
    rw [h, if_pos rfl, copOf_fm, e]
  | false => rw [copied_no h, raws_no h]; rfl
theorem copied_parts {L : List UInt8} {A : List (Nat × Nat)} (hr : Om.raws L = rawsP L A) (hp : ∀ p ∈ A, PtOk L p) : copied L = pad (copP L A) := by
  rw [copied_raws, hr, flat_raws A hp]; rfl
theorem copP_len {L : List UInt8} : ∀ A : List (Nat × Nat), (copP L A).length ≤ A.length * L.length
  | [] => Nat.zero_le _
  | p :: A => by
    have := copP_len (L := L) A
    unfold copP at this ⊢
    rw [List.flatMap_cons, List.length_append, List.length_cons, Nat.succ_mul]
    have h2 : (if 128 ≤ Sm.at0 L p.1 then cutP L p else []).length ≤ L.length := by
      split
      · unfold cutP; rw [List.length_take, List.length_drop]; omega
      · exact Nat.zero_le _
    omega
theorem copP_succ {L : List UInt8} {A : List (Nat × Nat)} {k : Nat} {p : Nat × Nat} (h : A[k]? = some p) : copP L (A.take (k + 1)) = copP L (A.take k) ++ (if 128 ≤ Sm.at0 L p.1 then cutP L p else []) := by
  unfold copP; rw [List.take_add_one, List.flatMap_append, h]; simp

end Go.Proofs.Ytnhkkpcepppgoaa

namespace Go.Proofs.Ytnhkkpcepppgoaa
open Go.RowKit Sm

theorem seq_flat2 : ∀ (R : List (List UInt8)) (Z : List UInt8), (∀ r ∈ R, 2 ≤ r.length ∧ 2 ≤ at0 r 0 ∧ at0 r 1 = r.length) → Om.seq (R.flatten ++ Z) = R.map some ++ Om.seq Z
  | [], Z, _ => rfl
  | r :: R, Z, h => by
    obtain ⟨h1, h2, h3⟩ := h r (List.mem_cons_self ..)
    rw [List.flatten_cons, List.append_assoc]
    have e0 : at0 (r ++ (R.flatten ++ Z)) 0 = at0 r 0 := at0_app (by omega)
    have e1 : at0 (r ++ (R.flatten ++ Z)) 1 = at0 r 1 := at0_app (by omega)
    rw [Om.seq_opt (by omega) (by omega) (by rw [e1, h3, List.length_append]; omega), e1, h3, List.take_left, List.drop_left, seq_flat2 R Z (fun q hq => h q (List.mem_cons_of_mem _ hq))]
    rfl
theorem seq_zeros (n : Nat) : Om.seq (List.replicate n 0) = [] := by
  cases n with
  | zero => exact Om.seq_nil
  | succ n => exact Om.seq_end rfl
/-- Is it copied? -/
def isCop (r : List UInt8) : Bool := decide (128 ≤ at0 r 0)
theorem flat_filter (R : List (List UInt8)) : (R.flatMap fun r => if 128 ≤ at0 r 0 then r else []) = (R.filter isCop).flatten := by
  induction R with
  | nil => rfl
  | cons r R ih =>
    rw [List.flatMap_cons, ih]
    by_cases h : 128 ≤ at0 r 0
    · rw [List.filter_cons_of_pos (by simp [isCop, h]), if_pos h]; rfl
    · rw [List.filter_cons_of_neg (by simp [isCop, h]), if_neg h]; rfl
theorem fm_map_some (R : List (List UInt8)) : (R.map some).filterMap id = R := by induction R <;> simp_all
theorem cop_again (L : List UInt8) : Om.ok (copied L) = true ∧ Om.raws (copied L) = (Om.raws L).filter isCop := by
  have hs : Om.seq (copied L) = ((Om.raws L).filter isCop).map some := by
    rw [copied_raws, flat_filter]
    unfold pad
    rw [seq_flat2 _ _ (fun r hr => raws_wf L r ((List.mem_filter.1 hr).1)), seq_zeros, List.append_nil]
  have hok : Om.ok (copied L) = true := by unfold Om.ok; rw [hs]; simp
  exact ⟨hok, by unfold Om.raws; rw [hok, if_pos rfl, hs, fm_map_some]; rfl⟩
theorem flat_filter_le (R : List (List UInt8)) (f : List UInt8 → Bool) : (R.filter f).flatten.length ≤ R.flatten.length := by
  induction R with
  | nil => exact Nat.le_refl _
  | cons r R ih =>
    rw [List.flatten_cons, List.length_append]
    by_cases h : f r = true
    · rw [List.filter_cons_of_pos h, List.flatten_cons, List.length_append]; omega
    · rw [List.filter_cons_of_neg h]; omega
theorem copied_le (L : List UInt8) : (copied L).length ≤ L.length + 3 := by
  rw [copied_raws, flat_filter]
  unfold pad
  rw [List.length_append, List.length_replicate]
  have h1 := flat_filter_le (Om.raws L) isCop
  have h2 := raws_total L
  omega
theorem filter_at {R : List (List UInt8)} {k : Nat} (h : k < R.length) (f : List UInt8 → Bool) (hf : f R[k] = true) : (R.filter f)[((R.take k).filter f).length]? = some R[k] := by
  have e : R = R.take k ++ R[k] :: R.drop (k + 1) := by rw [← List.drop_eq_getElem_cons h, List.take_append_drop]
  have e2 : R.filter f = (R.take k).filter f ++ R[k] :: (R.drop (k + 1)).filter f := by
    conv => lhs; rw [e]
    rw [List.filter_append, List.filter_cons_of_pos hf]
  rw [e2, List.getElem?_append_right (Nat.le_refl _), Nat.sub_self]; rfl
theorem filter_len_succ {R : List (List UInt8)} {k : Nat} (h : k < R.length) (f : List UInt8 → Bool) : ((R.take (k + 1)).filter f).length = ((R.take k).filter f).length + (if f R[k] = true then 1 else 0) := by
  rw [List.take_add_one, List.getElem?_eq_getElem h, Option.toList_some, List.filter_append, List.length_append]
  by_cases h1 : f R[k] = true <;> simp [h1]
/-- A region under a promise that holds more. -/
theorem wpAnyH_str {P : Program} {md : Region.Mode} {ops : Array Oper} {Q : Exit → Act → World → Prop} {S S' : World → Prop} (h : ∀ w, S' w → S w) : ∀ (fuel : Nat) (listed : Array Bool) (a : Act) (w : World), wpAnyH P md ops Q S' fuel listed a w → wpAnyH P md ops Q S fuel listed a w
  | 0, _, _, _, H => H
  | fuel + 1, _, _, _, H => ⟨H.1, fun i hi => wpOp_mono (fun a' w' h' => ⟨h _ h'.1, wpAnyH_str h fuel _ a' w' h'.2⟩) (H.2 i hi)⟩
end Go.Proofs.Ytnhkkpcepppgoaa
