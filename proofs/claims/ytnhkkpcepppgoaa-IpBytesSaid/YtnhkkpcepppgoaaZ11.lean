/- The options that are copied, read again: plain mathematics.
   The walk of ref03.Copied.
   The walk of known: the chapter's rows hold. -/
import Derived.Lib.AppendZeros
import Derived.Lib.AppendZerosOnto
import Derived.Deep.RegionHeld
import Derived.Test.YtnhkkpcepppgoaaZ04
import Derived.Test.YtnhkkpcepppgoaaZ06
import Derived.Test.YtnhkkpcepppgoaaZ09
import Derived.Test.YtnhkkpcepppgoaaZ10

namespace Go.Proofs.Ytnhkkpcepppgoaa
open Go.RowKit
attribute [local go_sem ↓] Go.wp_at_zero Go.wp_at_succ

theorem zcells (k : Nat) : (Builtin.zeroCells (Value.int .u8 0).cells k).toList = bv (List.replicate k 0) := by
  apply List.ext_getElem
  · simp [Builtin.zeroCells, Value.cells, bv]
  · intro i h1 h2
    simp [Builtin.zeroCells, Value.cells, bv, Nat.mod_one]
theorem app40 (w : World) (g : Nat) (hg : g < w.heap.size) (hc : w.cell? ⟨g, 0, none⟩ = some (.int .u8 68)) :
    ∃ v' w', (∀ ty, (Builtin.append_ #[22, 3] ty #[.slice (some ⟨g, 0, none⟩) 1 1, .int .i64 40]).run Try.prog w = .ok v' w') ∧ Bytes w' v' (68 :: List.replicate 40 0) ∧ Below w.heap.size w w' := by
  obtain ⟨i0, hi, hz0, hz1, hz2⟩ := info8
  have hold : (Builtin.firstCells i0.size 1 (.slice (some ⟨g, 0, none⟩) 1 1)).run Try.prog w.drew = .ok [Value.int .u8 68].toArray w.drew := by
    rw [hz1]
    refine run_firstCells_some (P := Try.prog) (w := w.drew) 1 1 ⟨g, 0, none⟩ 1 1 [.int .u8 68] rfl (fun j v hv => ?_)
    match j, hv with
    | 0, hv => simp at hv; subst hv; simpa [Addr.add] using hc
  have hG := grownCap_ge w 41 1 5
  have hr := fun ty => Lib.run_append_grow_zeros w 22 3 ty 5 i0 (.int .u8 0) .i64 .i64 Try.underlying22 Try.underlying3 hi hz0 (some ⟨g, 0, none⟩) 1 1 [.int .u8 68] hold 40 (by omega) (by omega) (by omega) (by omega) (by rw [hz2]; omega) (by rw [hz2]; decide)
  refine ⟨_, _, hr, ?_, ((Below.refl _ _).drew).alloc (Nat.le_refl _) _⟩
  refine .inr ⟨w.heap.size, 0, grownCap w (1 + 40) 1 5, by simp, by simp, by simpa using hG, fun j x hx => ?_⟩
  have hl : ([Value.int .u8 68].toArray ++ Builtin.zeroCells (Value.int .u8 0).cells 40 ++ Builtin.zeroCells (Value.int .u8 0).cells (grownCap w (1 + 40) 1 5 - (1 + 40))).toList = bv (68 :: List.replicate 40 0) ++ (Builtin.zeroCells (Value.int .u8 0).cells (grownCap w (1 + 40) 1 5 - (1 + 40))).toList := by
    rw [Array.toList_append, Array.toList_append, zcells]; rfl
  rw [Nat.zero_add]
  have hjl : j < (68 :: List.replicate 40 (0 : UInt8)).length := (List.getElem?_eq_some_iff.1 hx).1
  have key : ([Value.int .u8 68].toArray ++ Builtin.zeroCells (Value.int .u8 0).cells 40 ++ Builtin.zeroCells (Value.int .u8 0).cells (grownCap w (1 + 40) 1 5 - (1 + 40)))[j]? = some (.int .u8 (x.toNat : Int)) := by
    rw [← Array.getElem?_toList, hl, List.getElem?_append_left (by simpa [bv] using hjl)]
    show ((68 :: List.replicate 40 (0 : UInt8)).map fun b => Value.int .u8 (b.toNat : Int))[j]? = _
    rw [List.getElem?_map, hx]; rfl
  rw [cell_of_row _ w.heap.size j _ 5 (0, 0) (World.alloc_heap_new w.drew _)]
  exact key

theorem wpList_makeZ {w : World} {ops : Array Oper} {rest : List Oper} {o : Oper} {a : Act} {Q : Exit → Act → World → Prop} (hgd : o.guard = none) (n : Nat) (hn : n ≤ 1000000)
    (ho : o.op = .makeSlice 22 (.const (.int .i64 (n : Int))) (.const (.int .i64 (n : Int))))
    (h : ∀ w1, OwnB w1 w.heap.size (.slice (some ⟨w.heap.size, 0, none⟩) n n) (List.replicate n 0) → Below w.heap.size w w1 → wpList Try.prog ops Q rest (a.put o.dst (.slice (some ⟨w.heap.size, 0, none⟩) n n)) w1) :
    wpList Try.prog ops Q (o :: rest) a w := by
  refine wpList_plain hgd fun K hK => ?_
  obtain ⟨w1, hmk, h1, h2⟩ := make_zeros n w hn
  have hl : a.eval (.const (.int .i64 (n : Int))) = .int .i64 (n : Int) := rfl
  unfold Oper.wp
  simp [execOp, ho, hl, hmk, Result.andThen]
  exact hK _ _ (h w1 h1 h2)

theorem wpList_app40 {w : World} {ops : Array Oper} {rest : List Oper} {o : Oper} {a : Act} {Q : Exit → Act → World → Prop} (hgd : o.guard = none) (s : Operand)
    (ho : o.op = .call { callee := .builtin .append, args := #[s, .const (.int .i64 40)], argTypes := #[22, 3] }) (g : Nat) (hs : a.eval s = .slice (some ⟨g, 0, none⟩) 1 1) (hg : g < w.heap.size) (hc : w.cell? ⟨g, 0, none⟩ = some (.int .u8 68))
    (h : ∀ v w', Bytes w' v (68 :: List.replicate 40 0) → Below w.heap.size w w' → wpList Try.prog ops Q rest (a.put o.dst v) w') : wpList Try.prog ops Q (o :: rest) a w := by
  obtain ⟨v, w', hr, h1, h2⟩ := app40 w g hg hc
  exact Lib.wpList_append_run w hgd s _ _ _ ho _ _ hs rfl v w' (hr _) (h v w' h1 h2)
theorem wpList_gen {P : Program} {W0 W : World} {B : Nat} {ops : Array Oper} {rest : List Oper} {a : Act} {Q : Exit → Act → World → Prop} (hb : Below B W0 W) (h : ∀ W', Below B W0 W' → wpList P ops Q rest a W') : wpList P ops Q rest a W := h W hb

def ex8 : List UInt8 := [1, 131, 3, 9, 0, 5, 5, 5]
theorem ex_seq : Om.seq ex8 = [some [131, 3, 9]] := by
  unfold ex8
  rw [Om.seq_nop (by decide) (by decide)]
  rw [Om.seq_opt (by decide) (by decide) (by decide)]
  rw [Om.seq_end (by decide)]
  rfl
theorem ex_ok : Om.ok ex8 = true := by unfold Om.ok; rw [ex_seq]; rfl
theorem ex_raws : Om.raws ex8 = [[131, 3, 9]] := by unfold Om.raws; rw [ex_ok, ex_seq]; rfl
theorem ex_copied : copied ex8 = [131, 3, 9, 0] := by unfold copied; rw [ex_ok, ex_seq]; rfl
theorem ex_routed : routedB ex8 = true := by unfold routedB; rw [ex_raws]; rfl
def exH : Hd := ⟨0, 0, false, false, false, 0, 9, 1, 1, 2⟩
theorem exH_ok : exH.Ok := ⟨by decide, by decide, by decide, by decide, by decide, by decide⟩
theorem ex_may : mayB 0 [] = true := by unfold mayB Om.ok; rw [Om.seq_nil]; rfl
theorem ex_pkt : pktL exH [] [] = [69, 0, 0, 20, 0, 0, 0, 0, 9, 1, 177, 231, 0, 0, 0, 1, 0, 0, 0, 2] := by decide +kernel


theorem parse1 (v : Value) (w : World) (h : Bytes w v (List.replicate 19 0)) : Calls Try.prog 11 #[v] w fun e w' => e = .returned (.tuple #[.agg #[.int .u8 0, .int .u16 0, .bool false, .bool false, .bool false, .int .i64 0, .int .u8 0, .int .u8 0, .int .u32 0, .int .u32 0, .slice none 0 0], .slice none 0 0, .int .i64 1]) ∧ Below w.heap.size w w' := by
  have hf : flt (List.replicate 19 0) = 1 := flt1 (by decide)
  have := parse_no v (List.replicate 19 0) (by decide) w h (by rw [hf]; decide)
  rw [hf] at this
  exact this
theorem parse2 (v : Value) (w : World) (h : Bytes w v (List.replicate 20 0)) : Calls Try.prog 11 #[v] w fun e w' => e = .returned (.tuple #[.agg #[.int .u8 0, .int .u16 0, .bool false, .bool false, .bool false, .int .i64 0, .int .u8 0, .int .u8 0, .int .u32 0, .int .u32 0, .slice none 0 0], .slice none 0 0, .int .i64 2]) ∧ Below w.heap.size w w' := by
  have hf : flt (List.replicate 20 0) = 2 := flt2 (by decide) (by decide)
  have := parse_no v (List.replicate 20 0) (by decide) w h (by rw [hf]; decide)
  rw [hf] at this
  exact this
theorem parse3 (v : Value) (w : World) (h : Bytes w v (68 :: List.replicate 40 0)) : Calls Try.prog 11 #[v] w fun e w' => e = .returned (.tuple #[.agg #[.int .u8 0, .int .u16 0, .bool false, .bool false, .bool false, .int .i64 0, .int .u8 0, .int .u8 0, .int .u32 0, .int .u32 0, .slice none 0 0], .slice none 0 0, .int .i64 3]) ∧ Below w.heap.size w w' := by
  have hf : flt (68 :: List.replicate 40 0) = 3 := flt3 (by decide) (by decide) (by decide)
  have := parse_no v (68 :: List.replicate 40 0) (by decide) w h (by rw [hf]; decide)
  rw [hf] at this
  exact this
theorem bytes1 (w : World) : Calls Try.prog 22 #[.agg #[.int .u8 0, .int .u16 0, .bool false, .bool false, .bool false, .int .i64 0, .int .u8 9, .int .u8 1, .int .u32 1, .int .u32 2, .slice none 0 0], .slice none 0 0] w fun e w' => ∃ v, e = .returned (.tuple #[v, .int .i64 0]) ∧ OwnB w' w.heap.size v [69, 0, 0, 20, 0, 0, 0, 0, 9, 1, 177, 231, 0, 0, 0, 1, 0, 0, 0, 2] ∧ Below w.heap.size w w' := by
  have := bytes_yes exH exH_ok none 0 [] none 0 [] w (Bytes.nil _ _ _) (Bytes.nil _ _ _) ex_may (by decide)
  unfold BytesYes at this
  rw [ex_pkt] at this
  exact this

theorem num3_any (n : Int) (w : World) :
    Calls Try.prog 24 #[.int .i64 n] w fun e w' => e = .returned (.int .i64 n) ∧ w = w' := by
  go_enter Try.func24, Try.ntmps24
  go_wp2
  go_ret
  exact ⟨rfl, rfl⟩
set_option maxHeartbeats 8000000 in
set_option maxRecDepth 100000 in
theorem known3_any (w : World) : Calls Try.prog 10 #[] w fun e w' => e = .returned (.bool true) ∧ Below w.heap.size w w' := by
  go_enter Try.func10, Try.ntmps10
  go_wp2_with (with_reducible refine wpList_makeZ rfl 19 (by omega) rfl ?_)
  intro w1 ho1 hb1
  go_wp2_with fail
  refine (parse1 _ w1 ho1.bytes).mono ?_
  rintro e w2 ⟨rfl, hb2⟩
  have HB2 := Lib.hid (hb1.trans (hb2.mono hb1.size))
  clear ho1 hb1 hb2
  go_wp2_with (with_reducible refine wpList_makeZ rfl 20 (by omega) rfl ?_)
  intro w4 ho4 hb4
  have h4 : Below w2.heap.size w2 w4 := by refine Below.trans ?_ (hb4.mono ?_) <;> first | go_grown | (simp; done)
  have HB4 := Lib.hid (HB2.out.trans (h4.mono HB2.out.size))
  have HO4 := Lib.hid ho4.bytes
  clear hb4 ho4 h4
  go_wp2_with fail
  refine (parse2 _ w4 HO4.out).mono ?_
  rintro e w5 ⟨rfl, hb5⟩
  have HB5 := Lib.hid (HB4.out.trans (hb5.mono HB4.out.size))
  clear hb5 HO4
  go_wp2_with (at_builtin; refine wpList_app40 rfl _ rfl _ rfl (by simp) (by simp) ?_)
  intro v6 w6 h6 hb6
  have h6b : Below w5.heap.size w5 w6 := by refine Below.trans ?_ (hb6.mono ?_) <;> first | go_grown | (simp; omega)
  have HB6 := Lib.hid (HB5.out.trans (h6b.mono HB5.out.size))
  have H6 := Lib.hid h6
  clear h6 hb6 h6b
  go_wp2_with fail
  refine (parse3 _ w6 H6.out).mono ?_
  rintro e w7 ⟨rfl, hb7⟩
  have HB7 := Lib.hid (HB6.out.trans (hb7.mono HB6.out.size))
  clear hb7 H6
  go_wp2_with fail
  refine (bytes1 _).mono ?_
  rintro e w8 ⟨v8, rfl, ho8, hb8⟩
  have h8 : Below w7.heap.size w7 w8 := by refine Below.trans ?_ (hb8.mono ?_) <;> first | go_grown | (simp; done)
  have HB8 := Lib.hid (HB7.out.trans (h8.mono HB7.out.size))
  obtain ⟨g8, cap8, _, rfl, _⟩ := ho8.row (by decide)
  have H8 := Lib.hid ho8.bytes
  clear ho8 hb8 h8
  go_wp2_with fail
  have hL : Bytes (w8.alloc (.cells #[.int .u8 1, .int .u8 131, .int .u8 3, .int .u8 9, .int .u8 0, .int .u8 5, .int .u8 5, .int .u8 5] 5)) (.slice (some ⟨w8.heap.size, 0, none⟩) 8 8) ex8 := bytes_lit w8 ex8
  refine (optionsW_any _ ex8 (by decide) _ hL).mono ?_
  rintro e w9 ⟨v9, rfl, ho9, hb9⟩
  rw [ex_ok, ex_raws] at *
  obtain ⟨a9, c9, rfl⟩ := ho9.form
  have h9 : Below w8.heap.size w8 w9 := by refine Below.trans ?_ (hb9.mono ?_) <;> first | go_grown | (simp; done)
  have HB9 := Lib.hid (HB8.out.trans (h9.mono HB8.out.size))
  have HL9 := Lib.hid (hL.later hb9)
  have HO9 := Lib.hid ho9.reads
  have hby9 := (show Bytes w8 _ _ from H8.out).later h9
  have hcl : ∀ i, i < 20 → w9.cell? ⟨g8, i, none⟩ = some (.int .u8 (Sm.at0 [69, 0, 0, 20, 0, 0, 0, 0, 9, 1, 177, 231, 0, 0, 0, 1, 0, 0, 0, 2] i : Nat)) := fun i hi => by
    obtain ⟨b, o, e1, _, hc⟩ := hby9.at1 (i := i) hi
    simp only [Option.some.injEq, Addr.mk.injEq, and_true] at e1
    obtain ⟨rfl, rfl⟩ := e1
    rw [Nat.zero_add] at hc
    exact hc
  have d0 : w9.cell? ⟨g8, 0, none⟩ = some (.int .u8 69) := hcl 0 (by decide)
  have d3 : w9.cell? ⟨g8, 3, none⟩ = some (.int .u8 20) := hcl 3 (by decide)
  have d8 : w9.cell? ⟨g8, 8, none⟩ = some (.int .u8 9) := hcl 8 (by decide)
  have d10 : w9.cell? ⟨g8, 10, none⟩ = some (.int .u8 177) := hcl 10 (by decide)
  have d11 : w9.cell? ⟨g8, 11, none⟩ = some (.int .u8 231) := hcl 11 (by decide)
  clear ho9 hb9 h9 hL hby9 hcl
  go_wp2_with fail
  refine (num3_any 0 w9).mono ?_
  rintro e w10 ⟨rfl, rfl⟩
  go_wp2_with fail
  refine (sameOpt_any _ _ [(131, [9])] (by decide) _ ((show OptR w9 _ _ from HO9.out).later (by go_grown)) ?_).mono ?_
  · refine .inr ⟨w9.heap.size + 1, 0, 1, rfl, by simp, fun j k d hj => ?_⟩
    match j, hj with
    | 0, hj =>
      simp only [List.getElem?_cons_zero, Option.some.injEq, Prod.mk.injEq] at hj
      obtain ⟨rfl, rfl⟩ := hj
      exact ⟨by simp, .slice (some ⟨w9.heap.size, 0, none⟩) 1 1, by simp, (bytes_lit w9 [9]).later ((Below.refl _ _).alloc (Nat.le_refl _) _)⟩
  rintro e w11 ⟨rfl, hb11⟩
  have h11 : Below w9.heap.size w9 w11 := by refine Below.trans ?_ (hb11.mono ?_) <;> first | go_grown | (simp; omega)
  have HB11 := Lib.hid (HB9.out.trans (h11.mono HB9.out.size))
  have HL11 := Lib.hid ((show Bytes w9 _ _ from HL9.out).later h11)
  clear hb11 h11 d0 d3 d8 d10 d11
  go_wp2_with fail
  refine (copiedW_any _ ex8 (by decide) w11 HL11.out).mono ?_
  rintro e w12 ⟨v12, rfl, ho12, hb12⟩
  rw [ex_copied] at ho12
  obtain ⟨a12, c12, rfl⟩ := ho12.form
  have hcv : (convert 22 9 (.slice a12 4 c12)).run Try.prog w12 = .ok (.string ⟨#[131, 3, 9, 0]⟩) w12 := ho12.bytes.str (P := Try.prog) (src := 22) (dst := 9) Try.underlying22 Try.underlying5 Try.underlying9
  have HB12 := Lib.hid (HB11.out.trans (hb12.mono HB11.out.size))
  have HL12 := Lib.hid ((show Bytes w11 _ _ from HL11.out).later hb12)
  clear ho12 hb12
  go_wp2_with fail
  have hrt := routedW_any _ ex8 (by decide) w12 HL12.out
  rw [ex_routed] at hrt
  refine hrt.mono ?_
  rintro e w13 ⟨rfl, hb13⟩
  have HB13 := Lib.hid (HB12.out.trans (hb13.mono HB12.out.size))
  clear hb13 hrt hcv
  go_wp2_with fail
  go_ret
  exact ⟨rfl, HB13.out⟩
end Go.Proofs.Ytnhkkpcepppgoaa

namespace Go.Proofs.Ytnhkkpcepppgoaa
open Go.RowKit
attribute [local go_sem ↓] Go.wp_at_zero Go.wp_at_succ

def copP (L : List UInt8) (A : List (Nat × Nat)) : List UInt8 := A.flatMap fun p => if 128 ≤ Sm.at0 L p.1 then cutP L p else []
theorem copOf_fm : ∀ s : List (Option (List UInt8)), copOf s = (s.filterMap id).flatMap fun r => if 128 ≤ Sm.at0 r 0 then r else []
  | [] => rfl
  | none :: s => by
    have := copOf_fm s
    unfold copOf at this ⊢
    rw [List.flatMap_cons, this]; rfl
  | some r :: s => by
    have := copOf_fm s
    unfold copOf at this ⊢
    rw [List.flatMap_cons, this]; rfl
theorem copied_raws (L : List UInt8) : copied L = pad ((Om.raws L).flatMap fun r => if 128 ≤ Sm.at0 r 0 then r else []) := by
  cases h : Om.ok L with
  | true =>
    have e : Om.raws L = (Om.seq L).filterMap id := by unfold Om.raws; rw [h]; rfl
    unfold copied
    rw [h, if_pos rfl, copOf_fm, e]
  | false => rw [copied_no h, raws_no h]; rfl
theorem copied_parts {L : List UInt8} {A : List (Nat × Nat)} (hr : Om.raws L = rawsP L A) (hp : ∀ p ∈ A, PtOk L p) : copied L = pad (copP L A) := by
  rw [copied_raws, hr, flat_raws A hp]; rfl
theorem copP_len {L : List UInt8} : ∀ A : List (Nat × Nat), (copP L A).length ≤ A.length * L.length
  | [] => Nat.zero_le _
  | p :: A => by
    have := copP_len (L := L) A
    unfold copP at this ⊢
    rw [List.flatMap_cons, List.length_append, List.length_cons, Nat.succ_mul]
    have h2 : (if 128 ≤ Sm.at0 L p.1 then cutP L p else []).length ≤ L.length := by
      split
      · unfold cutP; rw [List.length_take, List.length_drop]; omega
      · exact Nat.zero_le _
    omega
theorem copP_succ {L : List UInt8} {A : List (Nat × Nat)} {k : Nat} {p : Nat × Nat} (h : A[k]? = some p) : copP L (A.take (k + 1)) = copP L (A.take k) ++ (if 128 ≤ Sm.at0 L p.1 then cutP L p else []) := by
  unfold copP; rw [List.take_add_one, List.flatMap_append, h]; simp

end Go.Proofs.Ytnhkkpcepppgoaa

namespace Go.Proofs.Ytnhkkpcepppgoaa
open Go.RowKit Sm

theorem seq_flat2 : ∀ (R : List (List UInt8)) (Z : List UInt8), (∀ r ∈ R, 2 ≤ r.length ∧ 2 ≤ at0 r 0 ∧ at0 r 1 = r.length) → Om.seq (R.flatten ++ Z) = R.map some ++ Om.seq Z
  | [], Z, _ => rfl
  | r :: R, Z, h => by
    obtain ⟨h1, h2, h3⟩ := h r (List.mem_cons_self ..)
    rw [List.flatten_cons, List.append_assoc]
    have e0 : at0 (r ++ (R.flatten ++ Z)) 0 = at0 r 0 := at0_app (by omega)
    have e1 : at0 (r ++ (R.flatten ++ Z)) 1 = at0 r 1 := at0_app (by omega)
    rw [Om.seq_opt (by omega) (by omega) (by rw [e1, h3, List.length_append]; omega), e1, h3, List.take_left, List.drop_left, seq_flat2 R Z (fun q hq => h q (List.mem_cons_of_mem _ hq))]
    rfl
theorem seq_zeros (n : Nat) : Om.seq (List.replicate n 0) = [] := by
  cases n with
  | zero => exact Om.seq_nil
  | succ n => exact Om.seq_end rfl
/-- Is it copied? -/
def isCop (r : List UInt8) : Bool := decide (128 ≤ at0 r 0)
theorem flat_filter (R : List (List UInt8)) : (R.flatMap fun r => if 128 ≤ at0 r 0 then r else []) = (R.filter isCop).flatten := by
  induction R with
  | nil => rfl
  | cons r R ih =>
    rw [List.flatMap_cons, ih]
    by_cases h : 128 ≤ at0 r 0
    · rw [List.filter_cons_of_pos (by simp [isCop, h]), if_pos h]; rfl
    · rw [List.filter_cons_of_neg (by simp [isCop, h]), if_neg h]; rfl
theorem fm_map_some (R : List (List UInt8)) : (R.map some).filterMap id = R := by induction R <;> simp_all
theorem cop_again (L : List UInt8) : Om.ok (copied L) = true ∧ Om.raws (copied L) = (Om.raws L).filter isCop := by
  have hs : Om.seq (copied L) = ((Om.raws L).filter isCop).map some := by
    rw [copied_raws, flat_filter]
    unfold pad
    rw [seq_flat2 _ _ (fun r hr => raws_wf L r ((List.mem_filter.1 hr).1)), seq_zeros, List.append_nil]
  have hok : Om.ok (copied L) = true := by unfold Om.ok; rw [hs]; simp
  exact ⟨hok, by unfold Om.raws; rw [hok, if_pos rfl, hs, fm_map_some]; rfl⟩
theorem flat_filter_le (R : List (List UInt8)) (f : List UInt8 → Bool) : (R.filter f).flatten.length ≤ R.flatten.length := by
  induction R with
  | nil => exact Nat.le_refl _
  | cons r R ih =>
    rw [List.flatten_cons, List.length_append]
    by_cases h : f r = true
    · rw [List.filter_cons_of_pos h, List.flatten_cons, List.length_append]; omega
    · rw [List.filter_cons_of_neg h]; omega
theorem copied_le (L : List UInt8) : (copied L).length ≤ L.length + 3 := by
  rw [copied_raws, flat_filter]
  unfold pad
  rw [List.length_append, List.length_replicate]
  have h1 := flat_filter_le (Om.raws L) isCop
  have h2 := raws_total L
  omega
theorem filter_at {R : List (List UInt8)} {k : Nat} (h : k < R.length) (f : List UInt8 → Bool) (hf : f R[k] = true) : (R.filter f)[((R.take k).filter f).length]? = some R[k] := by
  have e : R = R.take k ++ R[k] :: R.drop (k + 1) := by rw [← List.drop_eq_getElem_cons h, List.take_append_drop]
  have e2 : R.filter f = (R.take k).filter f ++ R[k] :: (R.drop (k + 1)).filter f := by
    conv => lhs; rw [e]
    rw [List.filter_append, List.filter_cons_of_pos hf]
  rw [e2, List.getElem?_append_right (Nat.le_refl _), Nat.sub_self]; rfl
theorem filter_len_succ {R : List (List UInt8)} {k : Nat} (h : k < R.length) (f : List UInt8 → Bool) : ((R.take (k + 1)).filter f).length = ((R.take k).filter f).length + (if f R[k] = true then 1 else 0) := by
  rw [List.take_add_one, List.getElem?_eq_getElem h, Option.toList_some, List.filter_append, List.length_append]
  by_cases h1 : f R[k] = true <;> simp [h1]
/-- A region under a promise that holds more. -/
theorem wpAnyH_str {P : Program} {md : Region.Mode} {ops : Array Oper} {Q : Exit → Act → World → Prop} {S S' : World → Prop} (h : ∀ w, S' w → S w) : ∀ (fuel : Nat) (listed : Array Bool) (a : Act) (w : World), wpAnyH P md ops Q S' fuel listed a w → wpAnyH P md ops Q S fuel listed a w
  | 0, _, _, _, H => H
  | fuel + 1, _, _, _, H => ⟨H.1, fun i hi => wpOp_mono (fun a' w' h' => ⟨h _ h'.1, wpAnyH_str h fuel _ a' w' h'.2⟩) (H.2 i hi)⟩
end Go.Proofs.Ytnhkkpcepppgoaa
