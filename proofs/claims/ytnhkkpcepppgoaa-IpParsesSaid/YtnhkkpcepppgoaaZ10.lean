/- IpParses: for every input the law's call returns true, and each argument reads behind it as before.
   Arguments that are bytes, and lists of bytes, opened.
   The walk of the law IpParses.
   The walk of known: the chapter's rows hold. -/
import Derived.Lib.AppendZeros
import Derived.Lib.AppendZerosOnto
import Derived.ProofKit
import Derived.OpenShut
import Derived.Deep.Matrix
import Derived.Test.YtnhkkpcepppgoaaZ01
import Derived.Test.YtnhkkpcepppgoaaZ04
import Derived.Test.YtnhkkpcepppgoaaZ05
import Derived.Test.YtnhkkpcepppgoaaZ06
import Derived.Test.YtnhkkpcepppgoaaZ08
import Derived.Test.YtnhkkpcepppgoaaZ09

namespace Go.Proofs.Ytnhkkpcepppgoaa
open Go.RowKit
attribute [local go_sem ↓] Go.wp_at_zero Go.wp_at_succ

theorem zcells (k : Nat) : (Builtin.zeroCells (Value.int .u8 0).cells k).toList = bv (List.replicate k 0) := by
  apply List.ext_getElem
  · simp [Builtin.zeroCells, Value.cells, bv]
  · intro i h1 h2
    simp [Builtin.zeroCells, Value.cells, bv, Nat.mod_one]
theorem app40 (w : World) (g : Nat) (hg : g < w.heap.size) (hc : w.cell? ⟨g, 0, none⟩ = some (.int .u8 68)) :
    ∃ v' w', (∀ ty, (Builtin.append_ #[22, 3] ty #[.slice (some ⟨g, 0, none⟩) 1 1, .int .i64 40]).run Try.prog w = .ok v' w') ∧ Bytes w' v' (68 :: List.replicate 40 0) ∧ Below w.heap.size w w' := by
  obtain ⟨i0, hi, hz0, hz1, hz2⟩ := info8
  have hold : (Builtin.firstCells i0.size 1 (.slice (some ⟨g, 0, none⟩) 1 1)).run Try.prog w.drew = .ok [Value.int .u8 68].toArray w.drew := by
    rw [hz1]
    refine run_firstCells_some (P := Try.prog) (w := w.drew) 1 1 ⟨g, 0, none⟩ 1 1 [.int .u8 68] rfl (fun j v hv => ?_)
    match j, hv with
    | 0, hv => simp at hv; subst hv; simpa [Addr.add] using hc
  have hG := grownCap_ge w 41 1 5
  have hr := fun ty => Lib.run_append_grow_zeros w 22 3 ty 5 i0 (.int .u8 0) .i64 .i64 Try.underlying22 Try.underlying3 hi hz0 (some ⟨g, 0, none⟩) 1 1 [.int .u8 68] hold 40 (by omega) (by omega) (by omega) (by omega) (by rw [hz2]; omega) (by rw [hz2]; decide)
  refine ⟨_, _, hr, ?_, ((Below.refl _ _).drew).alloc (Nat.le_refl _) _⟩
  refine .inr ⟨w.heap.size, 0, grownCap w (1 + 40) 1 5, by simp, by simp, by simpa using hG, fun j x hx => ?_⟩
  have hl : ([Value.int .u8 68].toArray ++ Builtin.zeroCells (Value.int .u8 0).cells 40 ++ Builtin.zeroCells (Value.int .u8 0).cells (grownCap w (1 + 40) 1 5 - (1 + 40))).toList = bv (68 :: List.replicate 40 0) ++ (Builtin.zeroCells (Value.int .u8 0).cells (grownCap w (1 + 40) 1 5 - (1 + 40))).toList := by
    rw [Array.toList_append, Array.toList_append, zcells]; rfl
  rw [Nat.zero_add]
  have hjl : j < (68 :: List.replicate 40 (0 : UInt8)).length := (List.getElem?_eq_some_iff.1 hx).1
  have key : ([Value.int .u8 68].toArray ++ Builtin.zeroCells (Value.int .u8 0).cells 40 ++ Builtin.zeroCells (Value.int .u8 0).cells (grownCap w (1 + 40) 1 5 - (1 + 40)))[j]? = some (.int .u8 (x.toNat : Int)) := by
    rw [← Array.getElem?_toList, hl, List.getElem?_append_left (by simpa [bv] using hjl)]
    show ((68 :: List.replicate 40 (0 : UInt8)).map fun b => Value.int .u8 (b.toNat : Int))[j]? = _
    rw [List.getElem?_map, hx]; rfl
  rw [cell_of_row _ w.heap.size j _ 5 (0, 0) (World.alloc_heap_new w.drew _)]
  exact key

theorem wpList_makeZ {w : World} {ops : Array Oper} {rest : List Oper} {o : Oper} {a : Act} {Q : Exit → Act → World → Prop} (hgd : o.guard = none) (n : Nat) (hn : n ≤ 1000000)
    (ho : o.op = .makeSlice 22 (.const (.int .i64 (n : Int))) (.const (.int .i64 (n : Int))))
    (h : ∀ w1, OwnB w1 w.heap.size (.slice (some ⟨w.heap.size, 0, none⟩) n n) (List.replicate n 0) → Below w.heap.size w w1 → wpList Try.prog ops Q rest (a.put o.dst (.slice (some ⟨w.heap.size, 0, none⟩) n n)) w1) :
    wpList Try.prog ops Q (o :: rest) a w := by
  refine wpList_plain hgd fun K hK => ?_
  obtain ⟨w1, hmk, h1, h2⟩ := make_zeros n w hn
  have hl : a.eval (.const (.int .i64 (n : Int))) = .int .i64 (n : Int) := rfl
  unfold Oper.wp
  simp [execOp, ho, hl, hmk, Result.andThen]
  exact hK _ _ (h w1 h1 h2)

theorem wpList_app40 {w : World} {ops : Array Oper} {rest : List Oper} {o : Oper} {a : Act} {Q : Exit → Act → World → Prop} (hgd : o.guard = none) (s : Operand)
    (ho : o.op = .call { callee := .builtin .append, args := #[s, .const (.int .i64 40)], argTypes := #[22, 3] }) (g : Nat) (hs : a.eval s = .slice (some ⟨g, 0, none⟩) 1 1) (hg : g < w.heap.size) (hc : w.cell? ⟨g, 0, none⟩ = some (.int .u8 68))
    (h : ∀ v w', Bytes w' v (68 :: List.replicate 40 0) → Below w.heap.size w w' → wpList Try.prog ops Q rest (a.put o.dst v) w') : wpList Try.prog ops Q (o :: rest) a w := by
  obtain ⟨v, w', hr, h1, h2⟩ := app40 w g hg hc
  exact Lib.wpList_append_run w hgd s _ _ _ ho _ _ hs rfl v w' (hr _) (h v w' h1 h2)
theorem wpList_gen {P : Program} {W0 W : World} {B : Nat} {ops : Array Oper} {rest : List Oper} {a : Act} {Q : Exit → Act → World → Prop} (hb : Below B W0 W) (h : ∀ W', Below B W0 W' → wpList P ops Q rest a W') : wpList P ops Q rest a W := h W hb

def ex8 : List UInt8 := [1, 131, 3, 9, 0, 5, 5, 5]
theorem ex_seq : Om.seq ex8 = [some [131, 3, 9]] := by
  unfold ex8
  rw [Om.seq_nop (by decide) (by decide)]
  rw [Om.seq_opt (by decide) (by decide) (by decide)]
  rw [Om.seq_end (by decide)]
  rfl
theorem ex_ok : Om.ok ex8 = true := by unfold Om.ok; rw [ex_seq]; rfl
theorem ex_raws : Om.raws ex8 = [[131, 3, 9]] := by unfold Om.raws; rw [ex_ok, ex_seq]; rfl
theorem ex_copied : copied ex8 = [131, 3, 9, 0] := by unfold copied; rw [ex_ok, ex_seq]; rfl
theorem ex_routed : routedB ex8 = true := by unfold routedB; rw [ex_raws]; rfl
def exH : Hd := ⟨0, 0, false, false, false, 0, 9, 1, 1, 2⟩
theorem exH_ok : exH.Ok := ⟨by decide, by decide, by decide, by decide, by decide, by decide⟩
theorem ex_may : mayB 0 [] = true := by unfold mayB Om.ok; rw [Om.seq_nil]; rfl
theorem ex_pkt : pktL exH [] [] = [69, 0, 0, 20, 0, 0, 0, 0, 9, 1, 177, 231, 0, 0, 0, 1, 0, 0, 0, 2] := by decide +kernel


theorem parse1 (v : Value) (w : World) (h : Bytes w v (List.replicate 19 0)) : Calls Try.prog 11 #[v] w fun e w' => e = .returned (.tuple #[.agg #[.int .u8 0, .int .u16 0, .bool false, .bool false, .bool false, .int .i64 0, .int .u8 0, .int .u8 0, .int .u32 0, .int .u32 0, .slice none 0 0], .slice none 0 0, .int .i64 1]) ∧ Below w.heap.size w w' := by
  have hf : flt (List.replicate 19 0) = 1 := flt1 (by decide)
  have := parse_no v (List.replicate 19 0) (by decide) w h (by rw [hf]; decide)
  rw [hf] at this
  exact this
theorem parse2 (v : Value) (w : World) (h : Bytes w v (List.replicate 20 0)) : Calls Try.prog 11 #[v] w fun e w' => e = .returned (.tuple #[.agg #[.int .u8 0, .int .u16 0, .bool false, .bool false, .bool false, .int .i64 0, .int .u8 0, .int .u8 0, .int .u32 0, .int .u32 0, .slice none 0 0], .slice none 0 0, .int .i64 2]) ∧ Below w.heap.size w w' := by
  have hf : flt (List.replicate 20 0) = 2 := flt2 (by decide) (by decide)
  have := parse_no v (List.replicate 20 0) (by decide) w h (by rw [hf]; decide)
  rw [hf] at this
  exact this
theorem parse3 (v : Value) (w : World) (h : Bytes w v (68 :: List.replicate 40 0)) : Calls Try.prog 11 #[v] w fun e w' => e = .returned (.tuple #[.agg #[.int .u8 0, .int .u16 0, .bool false, .bool false, .bool false, .int .i64 0, .int .u8 0, .int .u8 0, .int .u32 0, .int .u32 0, .slice none 0 0], .slice none 0 0, .int .i64 3]) ∧ Below w.heap.size w w' := by
  have hf : flt (68 :: List.replicate 40 0) = 3 := flt3 (by decide) (by decide) (by decide)
  have := parse_no v (68 :: List.replicate 40 0) (by decide) w h (by rw [hf]; decide)
  rw [hf] at this
  exact this
theorem bytes1 (w : World) : Calls Try.prog 22 #[.agg #[.int .u8 0, .int .u16 0, .bool false, .bool false, .bool false, .int .i64 0, .int .u8 9, .int .u8 1, .int .u32 1, .int .u32 2, .slice none 0 0], .slice none 0 0] w fun e w' => ∃ v, e = .returned (.tuple #[v, .int .i64 0]) ∧ OwnB w' w.heap.size v [69, 0, 0, 20, 0, 0, 0, 0, 9, 1, 177, 231, 0, 0, 0, 1, 0, 0, 0, 2] ∧ Below w.heap.size w w' := by
  have := bytes_yes exH exH_ok none 0 [] none 0 [] w (Bytes.nil _ _ _) (Bytes.nil _ _ _) ex_may (by decide)
  unfold BytesYes at this
  rw [ex_pkt] at this
  exact this

theorem num3_any (n : Int) (w : World) :
    Calls Try.prog 24 #[.int .i64 n] w fun e w' => e = .returned (.int .i64 n) ∧ w = w' := by
  go_enter Try.func24, Try.ntmps24
  go_wp2
  go_ret
  exact ⟨rfl, rfl⟩
set_option maxHeartbeats 8000000 in
set_option maxRecDepth 100000 in
theorem known3_any (w : World) : Calls Try.prog 10 #[] w fun e w' => e = .returned (.bool true) ∧ Below w.heap.size w w' := by
  go_enter Try.func10, Try.ntmps10
  go_wp2_with (with_reducible refine wpList_makeZ rfl 19 (by omega) rfl ?_)
  intro w1 ho1 hb1
  go_wp2_with fail
  refine (parse1 _ w1 ho1.bytes).mono ?_
  rintro e w2 ⟨rfl, hb2⟩
  have HB2 := Lib.hid (hb1.trans (hb2.mono hb1.size))
  clear ho1 hb1 hb2
  go_wp2_with (with_reducible refine wpList_makeZ rfl 20 (by omega) rfl ?_)
  intro w4 ho4 hb4
  have h4 : Below w2.heap.size w2 w4 := by refine Below.trans ?_ (hb4.mono ?_) <;> first | go_grown | (simp; done)
  have HB4 := Lib.hid (HB2.out.trans (h4.mono HB2.out.size))
  have HO4 := Lib.hid ho4.bytes
  clear hb4 ho4 h4
  go_wp2_with fail
  refine (parse2 _ w4 HO4.out).mono ?_
  rintro e w5 ⟨rfl, hb5⟩
  have HB5 := Lib.hid (HB4.out.trans (hb5.mono HB4.out.size))
  clear hb5 HO4
  go_wp2_with (at_builtin; refine wpList_app40 rfl _ rfl _ rfl (by simp) (by simp) ?_)
  intro v6 w6 h6 hb6
  have h6b : Below w5.heap.size w5 w6 := by refine Below.trans ?_ (hb6.mono ?_) <;> first | go_grown | (simp; omega)
  have HB6 := Lib.hid (HB5.out.trans (h6b.mono HB5.out.size))
  have H6 := Lib.hid h6
  clear h6 hb6 h6b
  go_wp2_with fail
  refine (parse3 _ w6 H6.out).mono ?_
  rintro e w7 ⟨rfl, hb7⟩
  have HB7 := Lib.hid (HB6.out.trans (hb7.mono HB6.out.size))
  clear hb7 H6
  go_wp2_with fail
  refine (bytes1 _).mono ?_
  rintro e w8 ⟨v8, rfl, ho8, hb8⟩
  have h8 : Below w7.heap.size w7 w8 := by refine Below.trans ?_ (hb8.mono ?_) <;> first | go_grown | (simp; done)
  have HB8 := Lib.hid (HB7.out.trans (h8.mono HB7.out.size))
  obtain ⟨g8, cap8, _, rfl, _⟩ := ho8.row (by decide)
  have H8 := Lib.hid ho8.bytes
  clear ho8 hb8 h8
  go_wp2_with fail
  have hL : Bytes (w8.alloc (.cells #[.int .u8 1, .int .u8 131, .int .u8 3, .int .u8 9, .int .u8 0, .int .u8 5, .int .u8 5, .int .u8 5] 5)) (.slice (some ⟨w8.heap.size, 0, none⟩) 8 8) ex8 := bytes_lit w8 ex8
  refine (optionsW_any _ ex8 (by decide) _ hL).mono ?_
  rintro e w9 ⟨v9, rfl, ho9, hb9⟩
  rw [ex_ok, ex_raws] at *
  obtain ⟨a9, c9, rfl⟩ := ho9.form
  have h9 : Below w8.heap.size w8 w9 := by refine Below.trans ?_ (hb9.mono ?_) <;> first | go_grown | (simp; done)
  have HB9 := Lib.hid (HB8.out.trans (h9.mono HB8.out.size))
  have HL9 := Lib.hid (hL.later hb9)
  have HO9 := Lib.hid ho9.reads
  have hby9 := (show Bytes w8 _ _ from H8.out).later h9
  have hcl : ∀ i, i < 20 → w9.cell? ⟨g8, i, none⟩ = some (.int .u8 (Sm.at0 [69, 0, 0, 20, 0, 0, 0, 0, 9, 1, 177, 231, 0, 0, 0, 1, 0, 0, 0, 2] i : Nat)) := fun i hi => by
    obtain ⟨b, o, e1, _, hc⟩ := hby9.at1 (i := i) hi
    simp only [Option.some.injEq, Addr.mk.injEq, and_true] at e1
    obtain ⟨rfl, rfl⟩ := e1
    rw [Nat.zero_add] at hc
    exact hc
  have d0 : w9.cell? ⟨g8, 0, none⟩ = some (.int .u8 69) := hcl 0 (by decide)
  have d3 : w9.cell? ⟨g8, 3, none⟩ = some (.int .u8 20) := hcl 3 (by decide)
  have d8 : w9.cell? ⟨g8, 8, none⟩ = some (.int .u8 9) := hcl 8 (by decide)
  have d10 : w9.cell? ⟨g8, 10, none⟩ = some (.int .u8 177) := hcl 10 (by decide)
  have d11 : w9.cell? ⟨g8, 11, none⟩ = some (.int .u8 231) := hcl 11 (by decide)
  clear ho9 hb9 h9 hL hby9 hcl
  go_wp2_with fail
  refine (num3_any 0 w9).mono ?_
  rintro e w10 ⟨rfl, rfl⟩
  go_wp2_with fail
  refine (sameOpt_any _ _ [(131, [9])] (by decide) _ ((show OptR w9 _ _ from HO9.out).later (by go_grown)) ?_).mono ?_
  · refine .inr ⟨w9.heap.size + 1, 0, 1, rfl, by simp, fun j k d hj => ?_⟩
    match j, hj with
    | 0, hj =>
      simp only [List.getElem?_cons_zero, Option.some.injEq, Prod.mk.injEq] at hj
      obtain ⟨rfl, rfl⟩ := hj
      exact ⟨by simp, .slice (some ⟨w9.heap.size, 0, none⟩) 1 1, by simp, (bytes_lit w9 [9]).later ((Below.refl _ _).alloc (Nat.le_refl _) _)⟩
  rintro e w11 ⟨rfl, hb11⟩
  have h11 : Below w9.heap.size w9 w11 := by refine Below.trans ?_ (hb11.mono ?_) <;> first | go_grown | (simp; omega)
  have HB11 := Lib.hid (HB9.out.trans (h11.mono HB9.out.size))
  have HL11 := Lib.hid ((show Bytes w9 _ _ from HL9.out).later h11)
  clear hb11 h11 d0 d3 d8 d10 d11
  go_wp2_with fail
  refine (copiedW_any _ ex8 (by decide) w11 HL11.out).mono ?_
  rintro e w12 ⟨v12, rfl, ho12, hb12⟩
  rw [ex_copied] at ho12
  obtain ⟨a12, c12, rfl⟩ := ho12.form
  have hcv : (convert 22 9 (.slice a12 4 c12)).run Try.prog w12 = .ok (.string ⟨#[131, 3, 9, 0]⟩) w12 := ho12.bytes.str (P := Try.prog) (src := 22) (dst := 9) Try.underlying22 Try.underlying5 Try.underlying9
  have HB12 := Lib.hid (HB11.out.trans (hb12.mono HB11.out.size))
  have HL12 := Lib.hid ((show Bytes w11 _ _ from HL11.out).later hb12)
  clear ho12 hb12
  go_wp2_with fail
  have hrt := routedW_any _ ex8 (by decide) w12 HL12.out
  rw [ex_routed] at hrt
  refine hrt.mono ?_
  rintro e w13 ⟨rfl, hb13⟩
  have HB13 := Lib.hid (HB12.out.trans (hb13.mono HB12.out.size))
  clear hb13 hrt hcv
  go_wp2_with fail
  go_ret
  exact ⟨rfl, HB13.out⟩
end Go.Proofs.Ytnhkkpcepppgoaa

namespace Go.Proofs.Ytnhkkpcepppgoaa
open Go.RowKit
attribute [local go_sem ↓] Go.wp_at_zero Go.wp_at_succ

theorem opP_len (l : List UInt8) : (opP l).length ≤ l.length := by
  unfold opP; split
  · simp; omega
  · simp
theorem plP_len (l : List UInt8) : (plP l).length ≤ l.length := by
  unfold plP; split
  · simp; omega
  · simp
theorem str_seven' (l : List UInt8) : (l ++ [7] == ((⟨l.toArray⟩ : ByteArray) ++ (⟨#[7]⟩ : ByteArray)).toList) = true := by
  have e : ((⟨l.toArray⟩ : ByteArray) ++ (⟨#[7]⟩ : ByteArray)) = ⟨(l ++ [7]).toArray⟩ := by
    apply ByteArray.ext
    simp
  rw [e]; simp
/-- What is owned stays, where another block is written into. -/
theorem OwnB.other {w : World} {B : Nat} {v : Value} {l : List UInt8} (h : OwnB w B v l) (g j : Nat) (x : Value) (hne : v.ownBlock ≠ some g) : OwnB (w.setCell ⟨g, j, none⟩ x) B v l :=
  World.ownsRow.kept h (grownBy_setCell_at w g j x) (.inr hne)
set_option maxRecDepth 100000 in
set_option maxHeartbeats 8000000 in
theorem ipParses_in (a : Option Addr) (c : Nat) (l : List UInt8) (w : World) (hv : Bytes w (.slice a l.length c) l) (hl : l.length ≤ 70000) :
    Calls Try.prog 3 #[.slice a l.length c] w fun e w' => e = .returned (.bool true) ∧ Below w.heap.size w w' := by
  have g1 : (l.length : Int) ≤ 70000 := by omega
  have hpw := fun v wm hv => prsW_any v l (by omega) wm hv
  have hpr := fun v wm hv => prsR_any v l (by omega) wm hv
  unfold PrsW at hpw
  unfold PrsR at hpr
  obtain ⟨H, hH⟩ : ∃ H, H = hdP l := ⟨_, rfl⟩
  obtain ⟨O, hO⟩ : ∃ O, O = opP l := ⟨_, rfl⟩
  obtain ⟨P, hP⟩ : ∃ P, P = plP l := ⟨_, rfl⟩
  obtain ⟨n, hn⟩ : ∃ n, n = flt l := ⟨_, rfl⟩
  have hol := opP_len l
  have hpl := plP_len l
  rw [← hO] at hol
  rw [← hP] at hpl
  rw [← hH, ← hO, ← hP, ← hn] at hpw hpr
  have HPW := Lib.hid hpw
  have HPR := Lib.hid hpr
  have HV := Lib.hid hv
  have HL := Lib.hid hl
  have hq0 : ([] : List UInt8).length + l.length ≤ 140737488355328 := by simp; omega
  have hq1 : l.length + [(7 : UInt8)].length ≤ 140737488355328 := by simp; omega
  have HOP := Lib.hid (And.intro (Nat.le_trans hol hl) (Nat.le_trans hpl hl))
  clear hpw hpr hH hO hP hn hv hl hol hpl
  go_enter Try.func3, Try.ntmps3
  go_wp2_with (at_builtin; refine wpList_app rfl (.const (.slice none 0 0)) (.tmp 16) rfl w.heap.size (.slice none 0 0) _ [] l rfl rfl (OwnB.nil _ _) HV.out hq0 (Nat.le_refl _) ?_)
  intro v1 w1 ho1 hb1 _
  have HB1 := Lib.hid hb1
  have HO1 : Hid (OwnB w1 w.heap.size v1 l) := ho1
  clear ho1 hb1
  go_wp2_with (at_builtin; refine wpList_app rfl (.tmp 17) (.tmp 18) rfl w.heap.size _ _ l [7] rfl rfl (OwnB.alloc HO1.out _) (bytes_lit w1 [7]) hq1 (by rw [World.size_alloc]; exact Nat.le_succ_of_le HB1.out.size) ?_)
  intro v2 w2 ho2 hb2 _
  obtain ⟨a2, c2, rfl⟩ := OwnB.form ho2
  have HB2 : Hid (Below w.heap.size w w2) := (HB1.out.alloc HB1.out.size _).trans hb2
  have HO2 := Lib.hid (OwnB.bytes ho2)
  obtain ⟨s, hs⟩ : ∃ s, s = (l ++ [(7 : UInt8)]).length := ⟨_, rfl⟩
  rw [← hs] at HO2 ⊢
  obtain ⟨hct, hcb⟩ := Bytes.cut_hk .i64 HO2.out (l.length : Int) l.length rfl (by simp)
  rw [List.take_left] at hcb
  have HCB := Lib.hid hcb
  clear ho2 hb2 hs hcb
  go_wp2_with fail
  refine (HPW.out _ w2 HCB.out).mono ?_
  rintro e w3 ⟨u, v, B, rfl, hu, hvv, hB, hgu, hb3⟩
  obtain ⟨ua, uc, rfl⟩ := hu.form
  obtain ⟨va, vc, rfl⟩ := hvv.form
  have hult := own_lt hu
  have hvlt := own_lt hvv
  have hvb := fun g hg => own_base hvv (j := g) hg
  obtain ⟨on, hon⟩ : ∃ m, m = O.length := ⟨_, rfl⟩
  obtain ⟨pn, hpn⟩ : ∃ m, m = P.length := ⟨_, rfl⟩
  rw [← hon] at hu hgu hult ⊢
  rw [← hpn] at hvv hvlt hvb ⊢
  have HN := Lib.hid (And.intro hon hpn)
  have hon7 : (on : Int) ≤ 70000 := by have := HOP.out.1; omega
  have hpn7 : (pn : Int) ≤ 70000 := by have := HOP.out.2; omega
  have HB3 := Lib.hid hb3
  have HU3 := Lib.hid hu
  have HV3 := Lib.hid hvv
  have HG := Lib.hid (And.intro hB (And.intro hgu (And.intro hult (And.intro hvlt hvb))))
  clear hon hpn hb3 hu hvv hB hgu hult hvlt hvb hct
  have hb4 : Below w3.heap.size w3 (w3.alloc (.cells #[.int .u8 (H.tos : Nat), .int .u16 (H.id : Nat), .bool H.ev, .bool H.df, .bool H.mf, .int .i64 H.off, .int .u8 (H.ttl : Nat), .int .u8 (H.pr : Nat), .int .u32 (H.src : Nat), .int .u32 (H.dst : Nat), .slice ua on uc] 28)) := (Below.refl _ _).alloc (Nat.le_refl _) _
  have hh4 : HdAt w3.heap.size [.int .u8 (H.tos : Nat), .int .u16 (H.id : Nat), .bool H.ev, .bool H.df, .bool H.mf, .int .i64 H.off, .int .u8 (H.ttl : Nat), .int .u8 (H.pr : Nat), .int .u32 (H.src : Nat), .int .u32 (H.dst : Nat), .slice ua on uc] (w3.alloc (.cells #[.int .u8 (H.tos : Nat), .int .u16 (H.id : Nat), .bool H.ev, .bool H.df, .bool H.mf, .int .i64 H.off, .int .u8 (H.ttl : Nat), .int .u8 (H.pr : Nat), .int .u32 (H.src : Nat), .int .u32 (H.dst : Nat), .slice ua on uc] 28)) := HdAt.new w3 _
  go_wp2_with fail
  generalize hw4 : (w3.alloc (.cells #[.int .u8 (H.tos : Nat), .int .u16 (H.id : Nat), .bool H.ev, .bool H.df, .bool H.mf, .int .i64 H.off, .int .u8 (H.ttl : Nat), .int .u8 (H.pr : Nat), .int .u32 (H.src : Nat), .int .u32 (H.dst : Nat), .slice ua on uc] 28)) = w4 at hb4 hh4 ⊢
  clear hw4
  have HB4 : Hid (Below w2.heap.size w2 w4) := HB3.out.trans (hb4.mono HB3.out.size)
  obtain ⟨g4, hg4⟩ : ∃ g, g = w3.heap.size := ⟨_, rfl⟩
  rw [← hg4] at hh4 ⊢
  have HG4 := Lib.hid hg4
  have HH4 := Lib.hid hh4
  have HU4 : Hid (OwnB w4 w2.heap.size (.slice ua on uc) O) := (show OwnB w3 _ _ _ from HU3.out).later hb4
  have HV4 : Hid (OwnB w4 B (.slice va pn vc) P) := (show OwnB w3 _ _ _ from HV3.out).later hb4
  clear hb4 hh4 hg4
  refine (HPR.out _ w4 ((show Bytes w _ l from HV.out).later (HB2.out.trans (HB4.out.mono HB2.out.size)))).mono ?_
  rintro e w5 ⟨x, y, rfl, hx, hy, hb5⟩
  obtain ⟨xa, xc, rfl⟩ := hx.form
  obtain ⟨ya, yc, rfl⟩ := hy.form
  rw [← HN.out.1] at hx ⊢
  rw [← HN.out.2] at hy ⊢
  have hb6 : Below w5.heap.size w5 (w5.alloc (.cells #[.int .u8 (H.tos : Nat), .int .u16 (H.id : Nat), .bool H.ev, .bool H.df, .bool H.mf, .int .i64 H.off, .int .u8 (H.ttl : Nat), .int .u8 (H.pr : Nat), .int .u32 (H.src : Nat), .int .u32 (H.dst : Nat), .slice xa on xc] 28)) := (Below.refl _ _).alloc (Nat.le_refl _) _
  have hh6 := (show HdAt _ _ w4 from HH4.out).later (hb5.trans (hb6.mono hb5.size))
  have HX5 := Lib.hid hx
  have HY5 := Lib.hid hy
  have HB5 := Lib.hid hb5
  have HB6 := Lib.hid hb6
  have hcz := fun j x hx => HdAt.cell hh6 (j := j) (x := x) hx
  have HH6 := Lib.hid hh6
  have c0 := hcz 0 _ rfl
  have c1 := hcz 1 _ rfl
  have c2' := hcz 2 _ rfl
  have c3 := hcz 3 _ rfl
  have c4 := hcz 4 _ rfl
  have c5 := hcz 5 _ rfl
  have c6 := hcz 6 _ rfl
  have c7 := hcz 7 _ rfl
  have c8 := hcz 8 _ rfl
  have c9 := hcz 9 _ rfl
  have c10 := hcz 10 _ rfl
  clear hcz hh6 hx hy hb5 hb6
  go_wp2_with fail
  have hsm := sameH_any H ua xa uc xc O _ (by rw [← HN.out.1]; exact (HU4.out.bytes.later HB5.out).later HB6.out) (by rw [← HN.out.1]; exact (show Bytes w5 _ _ from HX5.out).later HB6.out)
  rw [← HN.out.1] at hsm
  refine hsm.mono ?_
  rintro e w7 ⟨rfl, hb7⟩
  have HH7 := Lib.hid ((show HdAt _ _ _ from HH6.out).later hb7)
  have HB57 : Hid (Below w5.heap.size w5 w7) := HB6.out.trans (hb7.mono HB6.out.size)
  have HB47 : Hid (Below w4.heap.size w4 w7) := HB5.out.trans (HB57.out.mono HB5.out.size)
  have hz1 := (HV4.out.bytes.later HB47.out).str (P := Try.prog) (src := 22) (dst := 9) Try.underlying22 Try.underlying5 Try.underlying9
  have hz2 := ((show Bytes w5 _ _ from HY5.out).later HB57.out).str (P := Try.prog) (src := 22) (dst := 9) Try.underlying22 Try.underlying5 Try.underlying9
  clear hsm hb7 c0 c1 c2' c3 c4 c5 c6 c7 c8 c9 c10
  have hnn : ((n : Int) != n) = false := by simp
  go_wp2_with fail
  clear hz1 hz2
  have HU7 : Hid (OwnB w7 w2.heap.size (.slice ua on uc) O) := HU4.out.later HB47.out
  have HV7 : Hid (OwnB w7 B (.slice va pn vc) P) := HV4.out.later HB47.out
  have HB7 : Hid (Below w2.heap.size w2 w7) := HB4.out.trans (HB47.out.mono HB4.out.size)
  go_loopw [10] (fun i wr => ∃ (k : Nat) (y : List UInt8), k ≤ pn ∧ i = .int .i64 k ∧ Hid (y.length = pn) ∧ Hid (OwnB wr B (.slice va pn vc) y) ∧ Hid (HdAt g4 [.int .u8 (H.tos : Nat), .int .u16 (H.id : Nat), .bool H.ev, .bool H.df, .bool H.mf, .int .i64 H.off, .int .u8 (H.ttl : Nat), .int .u8 (H.pr : Nat), .int .u32 (H.src : Nat), .int .u32 (H.dst : Nat), .slice ua on uc] wr) ∧ Hid (OwnB wr w2.heap.size (.slice ua on uc) O) ∧ Hid (Below w2.heap.size w2 wr)) (fun i _ => pn - (intOf i).toNat)
  case atStart => exact ⟨0, P, Nat.zero_le _, rfl, HN.out.2.symm, HV7.out, HH7.out, HU7.out, HB7.out⟩
  case round =>
    obtain ⟨k, y, hk, rfl, HYL, HYO, HHr, HUr, HBr⟩ := hrel
    rcases Nat.lt_or_ge k pn with hlt | hge
    · have hyl := HYL.out
      have hyo := HYO.out
      rw [← hyl] at hyo
      obtain ⟨g, cap, cur, e1, hbg, hgc, hnc, hcs⟩ := OwnB.row hyo (by omega)
      simp only [Value.slice.injEq] at e1
      obtain ⟨rfl, _, rfl⟩ := e1
      have hgx := HG.out.2.2.2.1 g rfl
      have hgne : g ≠ g4 := by rw [HG4.out]; omega
      obtain ⟨hc0, hf0⟩ := OwnB.cellAt hyo (i := k) (by omega)
      have hset := OwnB.set hyo k 9 (by omega) (by omega)
      have hU2 := OwnB.other HUr.out g k (.int .u8 9) (fun e => by have := HG.out.2.1 g e; omega)
      have hH2 := HdAt.other (show HdAt g4 _ wr from HHr.out) (b := g) (fun e => hgne e.symm) k (.int .u8 9)
      have hB2 : Below w2.heap.size w2 (wr.setCell ⟨g, k, none⟩ (.int .u8 9)) := HBr.out.setCell (p := ⟨g, k, none⟩) (Nat.le_trans HG.out.1 hbg) _
      rw [hyl] at hset
      have HS := Lib.hid hset
      have HU2 := Lib.hid hU2
      have HH2 := Lib.hid hH2
      have HB2' := Lib.hid hB2
      have g3 : (k : Int) < pn := by omega
      clear hyo hyl hset hU2 hH2 hB2 hgc hcs hnc
      go_wp2_with fail
      go_roundw
      case rel => exact ⟨k + 1, y.set k 9, by omega, by go_num, by show _ = _; rw [List.length_set]; exact HYL.out, HS.out, HH2.out, HU2.out, HB2'.out⟩
      case measure => simp [intOf]; omega
    · have g3 : (pn : Int) ≤ k := by omega
      clear HYL
      go_wp2_with fail
      obtain ⟨wo, hwo⟩ : ∃ wo : World, wo = wr := ⟨_, rfl⟩
      rw [← hwo] at HYO HHr HUr HBr ⊢
      clear hwo
      go_loopw [11] (fun i wr => ∃ (j : Nat) (z : List UInt8), j ≤ on ∧ i = .int .i64 j ∧ Hid (z.length = on) ∧ Hid (OwnB wr w2.heap.size (.slice ua on uc) z) ∧ Hid (HdAt g4 [.int .u8 (H.tos : Nat), .int .u16 (H.id : Nat), .bool H.ev, .bool H.df, .bool H.mf, .int .i64 H.off, .int .u8 (H.ttl : Nat), .int .u8 (H.pr : Nat), .int .u32 (H.src : Nat), .int .u32 (H.dst : Nat), .slice ua on uc] wr) ∧ Hid (Below w2.heap.size w2 wr)) (fun i _ => on - (intOf i).toNat)
      case atStart => exact ⟨0, O, Nat.zero_le _, rfl, HN.out.1.symm, HUr.out, HHr.out, HBr.out⟩
      case round =>
        obtain ⟨j, z, hj, rfl, HZL, HZO, HHs, HBs⟩ := hrel
        have co := HdAt.cell (show HdAt g4 _ wr from HHs.out) (j := 10) rfl
        rcases Nat.lt_or_ge j on with hlt2 | hge2
        · have hyl := HZL.out
          have hyo := HZO.out
          rw [← hyl] at hyo
          obtain ⟨g, cap, cur, e1, hbg, hgc, hnc, hcs⟩ := OwnB.row hyo (by omega)
          simp only [Value.slice.injEq] at e1
          obtain ⟨rfl, _, rfl⟩ := e1
          have hgx := HG.out.2.2.1 g rfl
          have hgne : g ≠ g4 := by rw [HG4.out]; omega
          obtain ⟨hc0, hf0⟩ := OwnB.cellAt hyo (i := j) (by omega)
          have hset := OwnB.set hyo j 9 (by omega) (by omega)
          have hH2 := HdAt.other (show HdAt g4 _ wr from HHs.out) (b := g) (fun e => hgne e.symm) j (.int .u8 9)
          have hB2 : Below w2.heap.size w2 (wr.setCell ⟨g, j, none⟩ (.int .u8 9)) := HBs.out.setCell (p := ⟨g, j, none⟩) hbg _
          rw [hyl] at hset
          have HS := Lib.hid hset
          have HH2 := Lib.hid hH2
          have HB2' := Lib.hid hB2
          have g3' : (j : Int) < on := by omega
          clear hyo hyl hset hH2 hB2 hgc hcs hnc
          go_wp2_with fail
          go_roundw
          case rel => exact ⟨j + 1, z.set j 9, by omega, by go_num, by show _ = _; rw [List.length_set]; exact HZL.out, HS.out, HH2.out, HB2'.out⟩
          case measure => simp [intOf]; omega
        · have g3' : (on : Int) ≤ j := by omega
          have z3 := ((show Bytes w2 _ _ from HO2.out).later HBs.out).str (P := Try.prog) (src := 22) (dst := 9) Try.underlying22 Try.underlying5 Try.underlying9
          have HBw : Hid (Below w.heap.size w wr) := HB2.out.trans (HBs.out.mono HB2.out.size)
          have z4 := ((show Bytes w _ l from HV.out).later HBw.out).str (P := Try.prog) (src := 22) (dst := 9) Try.underlying22 Try.underlying5 Try.underlying9
          have hst := str_seven' l
          go_wp2_with fail
          refine (known3_any wr).mono ?_
          rintro e w9 ⟨rfl, hb9⟩
          have HB9 := Lib.hid (HBw.out.trans (hb9.mono HBw.out.size))
          clear hb9
          go_wp2_with fail
          go_ret
          exact ⟨rfl, HB9.out⟩
theorem ipParses_walk (v : Value) (L : List UInt8) (w : World) (hv : Bytes w v L) (hl : L.length ≤ 9223372036854775807) :
    Calls Try.prog 3 #[v] w fun e w' => e = .returned (.bool true) ∧ Below w.heap.size w w' := by
  obtain ⟨a, c, rfl⟩ := hv.form
  rcases Nat.lt_or_ge 70000 L.length with h | h
  · have g1 : (70000 : Int) < L.length := by omega
    clear hv h
    go_enter Try.func3, Try.ntmps3
    go_wp2_with fail
    refine (known3_any w).mono ?_
    rintro e w1 ⟨rfl, hb1⟩
    go_wp2_with fail
    go_ret
    exact ⟨rfl, hb1⟩
  · exact ipParses_in a c L w hv h
end Go.Proofs.Ytnhkkpcepppgoaa

namespace Go.Proofs.Ytnhkkpcepppgoaa
open Go.ChangeShapes Go.WideShapes Go.ChangeAt Go.RowKit

theorem lt_u8 {a : Int} (h : 0 ≤ a ∧ a ≤ 255) : a < 256 := by omega
theorem lt_u16 {a : Int} (h : 0 ≤ a ∧ a ≤ 65535) : a < 65536 := by omega
theorem lt_u32 {a : Int} (h : 0 ≤ a ∧ a ≤ 4294967295) : a < 4294967296 := by omega
theorem lt_u64 {a : Int} (h : 0 ≤ a ∧ a ≤ 18446744073709551615) : a < 18446744073709551616 := by omega

theorem own : ownKnob Try.prog.godebug = none := by kernel_rfl
theorem laidOut : laidOutB Try.prog = true := by kernel_rfl


theorem spot_none {W : World} {a : Addr} {v : Value} (h : W.cell? (a.add 0) = some v) : a.spot = none := by
  obtain ⟨b, o, sp⟩ := a
  cases sp with
  | none => rfl
  | some s =>
    simp [World.cell?, Addr.add] at h
    split at h <;> cases h
theorem bytes_of_ints {W : World} {A : Option Addr} {len cap : Nat} {zs : List Int} (hl : len ≤ cap) (hz : zs.length = cap) (hwz : ∀ n ∈ zs, (Lit.int .u8 n).wf = true) (h0 : A = none → cap = 0)
    (hc : ∀ a, A = some a → ∀ c, c < cap → W.cell? (a.add c) = some (.int .u8 (zs.getD c 0))) : Bytes W (.slice A len cap) ((zs.take len).map fun z => UInt8.ofNat z.toNat) := by
  have hlen : ((zs.take len).map fun z => UInt8.ofNat z.toNat).length = len := by simp; omega
  rcases Nat.eq_zero_or_pos len with hp | hp
  · subst hp
    exact .inl ⟨by simp, A, cap, rfl, h0⟩
  · cases A with
    | none => have := h0 rfl; omega
    | some x =>
      have hcell := hc x rfl
      have hc0 := hcell 0 (by omega)
      have hsp := spot_none hc0
      obtain ⟨b, o, sp⟩ := x
      simp only at hsp
      subst hsp
      refine .inr ⟨b, o, cap, by rw [hlen], ?_, by rw [hlen]; exact hl, ?_⟩
      · have := World.block_lt_of_cell? _ _ hc0
        simpa [Addr.add] using this
      · intro j y hy
        simp only [List.getElem?_map, Option.map_eq_some_iff] at hy
        obtain ⟨z, hz1, rfl⟩ := hy
        have hj : j < len := by
          have := (List.getElem?_eq_some_iff.1 hz1).1
          simp at this; omega
        have hz2 : zs[j]? = some z := by rw [List.getElem?_take, if_pos hj] at hz1; exact hz1
        have hb := bounds_u8 (hwz z (List.mem_of_getElem? hz2))
        have hcj := hcell j (by omega)
        have he : zs.getD j 0 = z := by simp [List.getD, hz2]
        rw [he] at hcj
        have hn : ((UInt8.ofNat z.toNat).toNat : Int) = z := by rw [UInt8.toNat_ofNat']; omega
        rw [hn]
        cases j with
        | zero => simpa [Addr.add] using hcj
        | succ j => simpa [Addr.add] using hcj

set_option maxRecDepth 100000 in
theorem open_bytes {H : Type} {enc : TypeId × Value → H} {W : World} {base : Nat} {v : Value} {d : DataW H} {p : List MemPlace}
    (hv : Value.okWide Try.prog W .any base 22 v) (h : DataW.Trod enc Try.prog W 0 (fun _ => true) true 22 v d p) : ∃ l : List UInt8, Bytes W v l ∧ l.length ≤ 9223372036854775807 := by
  obtain ⟨a, len, cap, rfl⟩ := okWide_slice Try.underlying22 hv
  obtain ⟨fuel, hf⟩ := h
  rcases open_ints Try.underlying22 Try.underlying5 (by kernel_rfl) hf with ⟨hcs, _⟩ | ⟨x, l, c, zs, hcs, _, hl, hm, hz, _, hcell, hwz⟩
  · simp [Value.cells] at hcs
    obtain ⟨rfl, rfl, rfl⟩ := hcs
    exact ⟨[], Bytes.nil _ _ _, by simp⟩
  · simp [Value.cells] at hcs
    obtain ⟨rfl, rfl, rfl⟩ := hcs
    unfold maxLen at hm
    have hzl : zs.length = cap := by simpa using hz
    exact ⟨_, bytes_of_ints hl hzl hwz (fun h => by cases h) (fun a ha c hc => by cases ha; exact hcell c (by omega)), by simp; omega⟩

set_option maxRecDepth 100000 in
theorem open_lists {H : Type} {enc : TypeId × Value → H} {W : World} {base : Nat} {v : Value} {d : DataW H} {p : List MemPlace}
    (hv : Value.okWide Try.prog W .any base 92 v) (h : DataW.Trod enc Try.prog W 0 (fun _ => true) true 92 v d p) :
    ∃ L : List (List UInt8), Lists W v L ∧ L.length ≤ 9223372036854775807 ∧ ∀ l ∈ L, l.length ≤ 9223372036854775807 := by
  obtain ⟨a, len, cap, rfl⟩ := okWide_slice Try.underlying92 hv
  obtain ⟨fuel, hf⟩ := h
  rcases Deep.open_int_rows Try.underlying92 Try.underlying22 Try.underlying5 (by kernel_rfl) (by kernel_rfl) hf with ⟨hcs, _⟩ | ⟨x, l, c, A, Ln, C, Z, hcs, _, hl, hm, _, hr⟩
  · simp [Value.cells] at hcs
    obtain ⟨rfl, rfl, rfl⟩ := hcs
    exact ⟨[], Lists.nil _ _ _, by simp, by simp⟩
  · simp [Value.cells] at hcs
    obtain ⟨rfl, rfl, rfl⟩ := hcs
    unfold maxLen at hm hr
    have each : ∀ r, r < cap → Bytes W (.slice (A r) (Ln r) (C r)) (((Z r).take (Ln r)).map fun z => UInt8.ofNat z.toNat) := fun r hrr => by
      obtain ⟨_, h1, h2, h3, h4, h5, h6⟩ := hr r hrr
      exact bytes_of_ints h1 h3 h4 h5 (fun a ha c hc => (h6 a ha).2 c hc)
    refine ⟨(List.range len).map fun r => ((Z r).take (Ln r)).map fun z => UInt8.ofNat z.toNat, ?_, by simp; omega, ?_⟩
    · rcases Nat.eq_zero_or_pos len with hp | hp
      · subst hp
        exact .inl ⟨by simp, _, _, rfl, fun h => by cases h⟩
      · have hc0 := (hr 0 (by omega)).1
        have hsp := spot_none hc0
        obtain ⟨b, o, sp⟩ := x
        simp only at hsp
        subst hsp
        refine .inr ⟨b, o, cap, by simp, ?_, by simpa using hl, ?_⟩
        · have := World.block_lt_of_cell? _ _ hc0
          simpa [Addr.add] using this
        · intro j l hjl
          simp only [List.getElem?_map, Option.map_eq_some_iff] at hjl
          obtain ⟨r, hr1, rfl⟩ := hjl
          have hj : j < len := by
            have := (List.getElem?_eq_some_iff.1 hr1).1
            simpa using this
          have hr2 : r = j := by rw [List.getElem?_range hj] at hr1; cases hr1; rfl
          subst hr2
          refine ⟨_, ?_, each r (by omega)⟩
          have := (hr r (by omega)).1
          cases r with
          | zero => simpa [Addr.add] using this
          | succ r => simpa [Addr.add] using this
    · intro l hl2
      simp only [List.mem_map, List.mem_range] at hl2
      obtain ⟨r, hr1, rfl⟩ := hl2
      obtain ⟨_, h1, h2, h3, _⟩ := hr r (by omega)
      simp; omega

end Go.Proofs.Ytnhkkpcepppgoaa

namespace Go.Proofs.Ytnhkkpcepppgoaa.ipParses
open Go.ChangeShapes Go.WideShapes Go.ChangeAt Go.RowKit

set_option maxRecDepth 100000 in
theorem lifted (os : Os) (started : os.Started) (H : Type) (enc : TypeId × Value → H) :
    ReturnsInHanded {} Try.checked os 3 .any (Rows.ipParsesSpec.pre6 enc Try.prog Try.f3 Rows.ipParsesRow.domain false) (Rows.ipParsesSpec.post enc Try.prog Try.f3 false true false false) := by
  refine returnsInHanded_of_change (C := Try.checked) own started (by kernel_rfl) Try.func3
    (ChangeSpec.witness6 (enc := enc) (C := Try.checked) false ⟨#[], #[.slice none 0 0], []⟩ 8 (by kernel_rfl) (by kernel_rfl) (by kernel_rfl) (by kernel_rfl)) ?_
  intro W base args ds gs before hval0 hW hcnd _
  have hval : ∀ (j : Nat) t v, Try.f3.params[j]? = some t → args[j]? = some v → Value.okWide Try.prog W .any base t v := hval0
  have hW' := hW
  obtain ⟨p, q, hA0, hV, rfl, hfz, hnd⟩ := hW
  have hA : DataW.TrodAll enc Try.prog W 0 (fun _ => true) true Try.f3.params.toList args.toList ds p := hA0
  rw [Try.params3] at hA hval
  obtain ⟨v0, vs0, d0, ds0, p0, q0, hargs, rfl, rfl, h0, r0⟩ := trodAll_cons hA
  obtain ⟨rfl, rfl, rfl⟩ := trodAll_nil r0
  obtain rfl : args = #[v0] := by cases args; simp_all
  obtain ⟨rfl, rfl⟩ := trodVars_none hV
  have k0 := h0
  have lt0 : ∀ x ∈ p0, x.block < W.heap.size := by obtain ⟨m, hm⟩ := k0; exact DataW.trod_lt m _ _ _ hm
  obtain ⟨l0, hb0, hl0⟩ := open_bytes (hval 0 22 v0 rfl rfl) h0
  refine (ipParses_walk v0 l0 W hb0 hl0).mono fun e W' ⟨he, bel⟩ => ?_
  subst he
  exact ⟨_, rfl, _, _, _, [], _, [], hW', trodAll_mk1 (shut_bool Try.underlying4 _), (trodAll_cons_mk (Below.trod laidOut (by kernel_rfl) (of_decide_eq_true (by kernel_rfl)) k0 bel lt0) trodAll_mk0), rfl, bel.frame _, fun h => by cases h⟩

/-- The statement. -/
theorem said : Rows.IpParsesSaid :=
  OpenClaim.holds_of_wide 3 Try.f3 rfl rfl rfl rfl rfl rfl rfl ⟨rfl, rfl, rfl, rfl, rfl⟩ rfl rfl rfl rfl rfl (by kernel_rfl) Try.func3 (by kernel_rfl)
    (of_decide_eq_true (by kernel_rfl)) (by unfold Func.isWrapper; first | (rw [if_pos (by decide +kernel)]; kernel_rfl) | (rw [if_neg (by decide +kernel)]; exact ⟨rfl, rfl⟩))
    (fun os started H enc _ => lifted os started H enc)
#print axioms said
end Go.Proofs.Ytnhkkpcepppgoaa.ipParses
