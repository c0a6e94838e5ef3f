/- Both hold the same: the walk of the law's 'bytes'.
   StoreTears: the law's walk, for every input.
   StoreTears: one loss of power, plainly; the law's walk.
   StoreKeeps: the law's walk.
   A store that is not there, and a zero one: the walks; StoreNil's walk.
   A slice of flags, and a loss of power, opened.
   Arguments that are bytes, and lists of bytes, opened.
   The reference's Begin: the walk, way by way. -/
import Derived.ProofKit
import Derived.OpenShut
import Derived.Deep.Matrix
import Derived.Deep.Grids
import Derived.Test.YtoinjapmioldaaaZ01
import Derived.Test.YtoinjapmioldaaaZ02
import Derived.Test.YtoinjapmioldaaaZ05

set_option linter.unusedSimpArgs false
set_option linter.unusedVariables false
namespace Go.Proofs.Ytoinjapmioldaaa
open Go.RowKit
attribute [local go_sem ↓] Go.wp_at_zero Go.wp_at_succ

/-- What the reference's Begin leaves. -/
def BeR (q b u cb cu : Nat) (s : St) (w : World) (e : Ending) (w' : World) : Prop :=
  e = .returned (.tuple #[.int .u64 (bN s : Nat), .int .i64 (bE s)]) ∧ RSt q b u cb cu (bS s) w' ∧ Chg [q, b, u] w w'
/-- The same, where a slot is written. -/
def BeY (q b u cb cu : Nat) (s : St) (A : Int) (M : Nat) (w : World) (e : Ending) (w' : World) : Prop :=
  e = .returned (.tuple #[.int .u64 (if wrE s A (sl (M + 1)) = 0 then (M : Int) + 1 else 0), .int .i64 (wrE s A (sl (M + 1)))]) ∧ RSt q b u cb cu (wrS s A (sl (M + 1))) w' ∧ Chg [q, b, u] w w'
set_option maxHeartbeats 8000000 in
set_option maxRecDepth 100000 in
theorem begAy {q b u cb cu : Nat} {s : St} {w : World} (h : RSt q b u cb cu s w) (x y : Nat) (e0 : cE s = 0) (eM : cM s = x) (ex : sN s 0 = x) (ey : sN s 1 = y) (eo : sO s 0 = true) (ek : sO s 1 = false) (hm : x < 18446744073709551615) :
    Calls Try.prog 18 #[.pointer (some ⟨q, 0, none⟩)] w (BeY q b u cb cu s 16 x w) := by
  unfold BeY
  have HP := Lib.hid h
  have HC := Lib.hid (countR h)
  rw [show cN s = x by unfold cN; rw [if_pos e0, eM], e0] at HC
  have HLT := Lib.hid h.lt
  have HSL : Hid (∀ w', Below w.heap.size w w' → Calls Try.prog 32 #[.pointer (some ⟨q, 0, none⟩)] w' fun e w'' => e = .returned (.tuple #[.agg #[.int .u64 (x : Nat), .int .u64 (y : Nat)], .agg #[.bool true, .bool false]]) ∧ Below w'.heap.size w' w'') := fun w' hb => by
    have := slotsR (HP.out.later hb)
    rw [ex, ey, eo, ek] at this
    exact this
  have ht : ((x : Int) == 18446744073709551615) = false := beq_eq_false_iff_ne.2 (by omega)
  have hw : IntKind.u64.wrap ((x : Int) + 1) = (x : Int) + 1 := IntWalk.u64_in _ ⟨by omega, by omega⟩
  have HS := fun w => slotR (x + 1) w (by omega)
  rw [show ((x + 1 : Nat) : Int) = (x : Int) + 1 by omega] at HS
  have HS := Lib.hid HS
  obtain ⟨r, hr⟩ : ∃ r, r = wrE s 16 (sl (x + 1)) := ⟨_, rfl⟩
  rw [← hr]
  have HR := Lib.hid hr
  clear h e0 eM ex ey eo ek hm hr
  by_cases hz : r = 0
  · subst hz
    rw [if_pos rfl]
    go_enter Try.func18, Try.ntmps18
    go_wp2_with fail
    refine HC.out.mono ?_
    rintro e w1 ⟨rfl, hb⟩
    have HB := Lib.hid hb
    clear hb HC
    go_wp2_with fail
    refine (HSL.out w1 HB.out).mono ?_
    rintro e w2 ⟨rfl, hb⟩
    have HB2 := Lib.hid (below_of HB.out hb)
    have HBW := Lib.hid (two_more HB2.out (.cells #[.int .u64 (x : Int), .int .u64 (y : Int)] 63) (.cells #[.bool true, .bool false] 64))
    obtain ⟨w3, hw3⟩ : ∃ w3, w3 = (w2.alloc (.cells #[.int .u64 (x : Int), .int .u64 (y : Int)] 63)).alloc (.cells #[.bool true, .bool false] 64) := ⟨_, rfl⟩
    have HW := Lib.hid hw3
    rw [← hw3] at HBW
    clear hb hw3 HSL
    go_wp2_with fail
    rw [← HW.out]
    refine (HS.out w3).mono ?_
    rintro e w4 ⟨v, rfl, hv, hb⟩
    obtain ⟨g2, cap2, cur, rfl, hg2, _, _, _⟩ := OwnB.row hv (by rw [sl_length]; omega)
    rw [sl_length]
    have hby := hv.bytes
    rw [sl_length] at hby
    have HB4 := Lib.hid (below_of HBW.out hb)
    have HK := Lib.hid (writeR (HP.out.later HB4.out) 16 _ (sl (x + 1)) (by rw [sl_length]; omega) (fun W hW => hby.chg hW (by have := HLT.out; have := HBW.out.size; simp; omega)))
    unfold WrR at HK
    rw [← HR.out] at HK
    clear hv hg2 hby hb
    go_wp2_with fail
    refine HK.out.mono ?_
    rintro e w5 ⟨rfl, hP, hC⟩
    have HP5 := Lib.hid hP
    have HC5 := Lib.hid ((Chg.of_below [q, b, u] HB4.out).trans hC)
    clear hP hC HK
    go_wp2_with fail
    go_ret2
    exact ⟨rfl, HP5.out, HC5.out⟩
  · rw [if_neg hz]
    have t1 : (r != 0) = true := bne_iff_ne.2 hz
    clear hz
    go_enter Try.func18, Try.ntmps18
    go_wp2_with fail
    refine HC.out.mono ?_
    rintro e w1 ⟨rfl, hb⟩
    have HB := Lib.hid hb
    clear hb HC
    go_wp2_with fail
    refine (HSL.out w1 HB.out).mono ?_
    rintro e w2 ⟨rfl, hb⟩
    have HB2 := Lib.hid (below_of HB.out hb)
    have HBW := Lib.hid (two_more HB2.out (.cells #[.int .u64 (x : Int), .int .u64 (y : Int)] 63) (.cells #[.bool true, .bool false] 64))
    obtain ⟨w3, hw3⟩ : ∃ w3, w3 = (w2.alloc (.cells #[.int .u64 (x : Int), .int .u64 (y : Int)] 63)).alloc (.cells #[.bool true, .bool false] 64) := ⟨_, rfl⟩
    have HW := Lib.hid hw3
    rw [← hw3] at HBW
    clear hb hw3 HSL
    go_wp2_with fail
    rw [← HW.out]
    refine (HS.out w3).mono ?_
    rintro e w4 ⟨v, rfl, hv, hb⟩
    obtain ⟨g2, cap2, cur, rfl, hg2, _, _, _⟩ := OwnB.row hv (by rw [sl_length]; omega)
    rw [sl_length]
    have hby := hv.bytes
    rw [sl_length] at hby
    have HB4 := Lib.hid (below_of HBW.out hb)
    have HK := Lib.hid (writeR (HP.out.later HB4.out) 16 _ (sl (x + 1)) (by rw [sl_length]; omega) (fun W hW => hby.chg hW (by have := HLT.out; have := HBW.out.size; simp; omega)))
    unfold WrR at HK
    rw [← HR.out] at HK
    clear hv hg2 hby hb
    go_wp2_with fail
    refine HK.out.mono ?_
    rintro e w5 ⟨rfl, hP, hC⟩
    have HP5 := Lib.hid hP
    have HC5 := Lib.hid ((Chg.of_below [q, b, u] HB4.out).trans hC)
    clear hP hC HK
    go_wp2_with fail
    go_ret2
    exact ⟨rfl, HP5.out, HC5.out⟩
set_option maxHeartbeats 8000000 in
set_option maxRecDepth 100000 in
theorem begBy {q b u cb cu : Nat} {s : St} {w : World} (h : RSt q b u cb cu s w) (x y : Nat) (hlt : y < x) (e0 : cE s = 0) (eM : cM s = x) (ex : sN s 0 = x) (ey : sN s 1 = y) (eo : sO s 0 = true) (ek : sO s 1 = true) (hm : x < 18446744073709551615) :
    Calls Try.prog 18 #[.pointer (some ⟨q, 0, none⟩)] w (BeY q b u cb cu s 16 x w) := by
  unfold BeY
  have HP := Lib.hid h
  have HC := Lib.hid (countR h)
  rw [show cN s = x by unfold cN; rw [if_pos e0, eM], e0] at HC
  have HLT := Lib.hid h.lt
  have HSL : Hid (∀ w', Below w.heap.size w w' → Calls Try.prog 32 #[.pointer (some ⟨q, 0, none⟩)] w' fun e w'' => e = .returned (.tuple #[.agg #[.int .u64 (x : Nat), .int .u64 (y : Nat)], .agg #[.bool true, .bool true]]) ∧ Below w'.heap.size w' w'') := fun w' hb => by
    have := slotsR (HP.out.later hb)
    rw [ex, ey, eo, ek] at this
    exact this
  have ht : ((x : Int) == 18446744073709551615) = false := beq_eq_false_iff_ne.2 (by omega)
  have hw : IntKind.u64.wrap ((x : Int) + 1) = (x : Int) + 1 := IntWalk.u64_in _ ⟨by omega, by omega⟩
  have HS := fun w => slotR (x + 1) w (by omega)
  rw [show ((x + 1 : Nat) : Int) = (x : Int) + 1 by omega] at HS
  have HS := Lib.hid HS
  have q1 : ((y : Int) == (x : Int)) = false := beq_eq_false_iff_ne.2 (by omega)
  have q2 : (y == x) = false := beq_eq_false_iff_ne.2 (by omega)
  clear hlt
  obtain ⟨r, hr⟩ : ∃ r, r = wrE s 16 (sl (x + 1)) := ⟨_, rfl⟩
  rw [← hr]
  have HR := Lib.hid hr
  clear h e0 eM ex ey eo ek hm hr
  by_cases hz : r = 0
  · subst hz
    rw [if_pos rfl]
    go_enter Try.func18, Try.ntmps18
    go_wp2_with fail
    refine HC.out.mono ?_
    rintro e w1 ⟨rfl, hb⟩
    have HB := Lib.hid hb
    clear hb HC
    go_wp2_with fail
    refine (HSL.out w1 HB.out).mono ?_
    rintro e w2 ⟨rfl, hb⟩
    have HB2 := Lib.hid (below_of HB.out hb)
    have HBW := Lib.hid (two_more HB2.out (.cells #[.int .u64 (x : Int), .int .u64 (y : Int)] 63) (.cells #[.bool true, .bool true] 64))
    obtain ⟨w3, hw3⟩ : ∃ w3, w3 = (w2.alloc (.cells #[.int .u64 (x : Int), .int .u64 (y : Int)] 63)).alloc (.cells #[.bool true, .bool true] 64) := ⟨_, rfl⟩
    have HW := Lib.hid hw3
    rw [← hw3] at HBW
    clear hb hw3 HSL
    go_wp2_with fail
    rw [← HW.out]
    refine (HS.out w3).mono ?_
    rintro e w4 ⟨v, rfl, hv, hb⟩
    obtain ⟨g2, cap2, cur, rfl, hg2, _, _, _⟩ := OwnB.row hv (by rw [sl_length]; omega)
    rw [sl_length]
    have hby := hv.bytes
    rw [sl_length] at hby
    have HB4 := Lib.hid (below_of HBW.out hb)
    have HK := Lib.hid (writeR (HP.out.later HB4.out) 16 _ (sl (x + 1)) (by rw [sl_length]; omega) (fun W hW => hby.chg hW (by have := HLT.out; have := HBW.out.size; simp; omega)))
    unfold WrR at HK
    rw [← HR.out] at HK
    clear hv hg2 hby hb
    go_wp2_with fail
    refine HK.out.mono ?_
    rintro e w5 ⟨rfl, hP, hC⟩
    have HP5 := Lib.hid hP
    have HC5 := Lib.hid ((Chg.of_below [q, b, u] HB4.out).trans hC)
    clear hP hC HK
    go_wp2_with fail
    go_ret2
    exact ⟨rfl, HP5.out, HC5.out⟩
  · rw [if_neg hz]
    have t1 : (r != 0) = true := bne_iff_ne.2 hz
    clear hz
    go_enter Try.func18, Try.ntmps18
    go_wp2_with fail
    refine HC.out.mono ?_
    rintro e w1 ⟨rfl, hb⟩
    have HB := Lib.hid hb
    clear hb HC
    go_wp2_with fail
    refine (HSL.out w1 HB.out).mono ?_
    rintro e w2 ⟨rfl, hb⟩
    have HB2 := Lib.hid (below_of HB.out hb)
    have HBW := Lib.hid (two_more HB2.out (.cells #[.int .u64 (x : Int), .int .u64 (y : Int)] 63) (.cells #[.bool true, .bool true] 64))
    obtain ⟨w3, hw3⟩ : ∃ w3, w3 = (w2.alloc (.cells #[.int .u64 (x : Int), .int .u64 (y : Int)] 63)).alloc (.cells #[.bool true, .bool true] 64) := ⟨_, rfl⟩
    have HW := Lib.hid hw3
    rw [← hw3] at HBW
    clear hb hw3 HSL
    go_wp2_with fail
    rw [← HW.out]
    refine (HS.out w3).mono ?_
    rintro e w4 ⟨v, rfl, hv, hb⟩
    obtain ⟨g2, cap2, cur, rfl, hg2, _, _, _⟩ := OwnB.row hv (by rw [sl_length]; omega)
    rw [sl_length]
    have hby := hv.bytes
    rw [sl_length] at hby
    have HB4 := Lib.hid (below_of HBW.out hb)
    have HK := Lib.hid (writeR (HP.out.later HB4.out) 16 _ (sl (x + 1)) (by rw [sl_length]; omega) (fun W hW => hby.chg hW (by have := HLT.out; have := HBW.out.size; simp; omega)))
    unfold WrR at HK
    rw [← HR.out] at HK
    clear hv hg2 hby hb
    go_wp2_with fail
    refine HK.out.mono ?_
    rintro e w5 ⟨rfl, hP, hC⟩
    have HP5 := Lib.hid hP
    have HC5 := Lib.hid ((Chg.of_below [q, b, u] HB4.out).trans hC)
    clear hP hC HK
    go_wp2_with fail
    go_ret2
    exact ⟨rfl, HP5.out, HC5.out⟩
set_option maxHeartbeats 8000000 in
set_option maxRecDepth 100000 in
theorem begCy {q b u cb cu : Nat} {s : St} {w : World} (h : RSt q b u cb cu s w) (x y : Nat) (e0 : cE s = 0) (eM : cM s = y) (ex : sN s 0 = x) (ey : sN s 1 = y) (eo : sO s 0 = false) (ek : sO s 1 = true) (hm : y < 18446744073709551615) :
    Calls Try.prog 18 #[.pointer (some ⟨q, 0, none⟩)] w (BeY q b u cb cu s 0 y w) := by
  unfold BeY
  have HP := Lib.hid h
  have HC := Lib.hid (countR h)
  rw [show cN s = y by unfold cN; rw [if_pos e0, eM], e0] at HC
  have HLT := Lib.hid h.lt
  have HSL : Hid (∀ w', Below w.heap.size w w' → Calls Try.prog 32 #[.pointer (some ⟨q, 0, none⟩)] w' fun e w'' => e = .returned (.tuple #[.agg #[.int .u64 (x : Nat), .int .u64 (y : Nat)], .agg #[.bool false, .bool true]]) ∧ Below w'.heap.size w' w'') := fun w' hb => by
    have := slotsR (HP.out.later hb)
    rw [ex, ey, eo, ek] at this
    exact this
  have ht : ((y : Int) == 18446744073709551615) = false := beq_eq_false_iff_ne.2 (by omega)
  have hw : IntKind.u64.wrap ((y : Int) + 1) = (y : Int) + 1 := IntWalk.u64_in _ ⟨by omega, by omega⟩
  have HS := fun w => slotR (y + 1) w (by omega)
  rw [show ((y + 1 : Nat) : Int) = (y : Int) + 1 by omega] at HS
  have HS := Lib.hid HS
  obtain ⟨r, hr⟩ : ∃ r, r = wrE s 0 (sl (y + 1)) := ⟨_, rfl⟩
  rw [← hr]
  have HR := Lib.hid hr
  clear h e0 eM ex ey eo ek hm hr
  by_cases hz : r = 0
  · subst hz
    rw [if_pos rfl]
    go_enter Try.func18, Try.ntmps18
    go_wp2_with fail
    refine HC.out.mono ?_
    rintro e w1 ⟨rfl, hb⟩
    have HB := Lib.hid hb
    clear hb HC
    go_wp2_with fail
    refine (HSL.out w1 HB.out).mono ?_
    rintro e w2 ⟨rfl, hb⟩
    have HB2 := Lib.hid (below_of HB.out hb)
    have HBW := Lib.hid (two_more HB2.out (.cells #[.int .u64 (x : Int), .int .u64 (y : Int)] 63) (.cells #[.bool false, .bool true] 64))
    obtain ⟨w3, hw3⟩ : ∃ w3, w3 = (w2.alloc (.cells #[.int .u64 (x : Int), .int .u64 (y : Int)] 63)).alloc (.cells #[.bool false, .bool true] 64) := ⟨_, rfl⟩
    have HW := Lib.hid hw3
    rw [← hw3] at HBW
    clear hb hw3 HSL
    go_wp2_with fail
    rw [← HW.out]
    refine (HS.out w3).mono ?_
    rintro e w4 ⟨v, rfl, hv, hb⟩
    obtain ⟨g2, cap2, cur, rfl, hg2, _, _, _⟩ := OwnB.row hv (by rw [sl_length]; omega)
    rw [sl_length]
    have hby := hv.bytes
    rw [sl_length] at hby
    have HB4 := Lib.hid (below_of HBW.out hb)
    have HK := Lib.hid (writeR (HP.out.later HB4.out) 0 _ (sl (y + 1)) (by rw [sl_length]; omega) (fun W hW => hby.chg hW (by have := HLT.out; have := HBW.out.size; simp; omega)))
    unfold WrR at HK
    rw [← HR.out] at HK
    clear hv hg2 hby hb
    go_wp2_with fail
    refine HK.out.mono ?_
    rintro e w5 ⟨rfl, hP, hC⟩
    have HP5 := Lib.hid hP
    have HC5 := Lib.hid ((Chg.of_below [q, b, u] HB4.out).trans hC)
    clear hP hC HK
    go_wp2_with fail
    go_ret2
    exact ⟨rfl, HP5.out, HC5.out⟩
  · rw [if_neg hz]
    have t1 : (r != 0) = true := bne_iff_ne.2 hz
    clear hz
    go_enter Try.func18, Try.ntmps18
    go_wp2_with fail
    refine HC.out.mono ?_
    rintro e w1 ⟨rfl, hb⟩
    have HB := Lib.hid hb
    clear hb HC
    go_wp2_with fail
    refine (HSL.out w1 HB.out).mono ?_
    rintro e w2 ⟨rfl, hb⟩
    have HB2 := Lib.hid (below_of HB.out hb)
    have HBW := Lib.hid (two_more HB2.out (.cells #[.int .u64 (x : Int), .int .u64 (y : Int)] 63) (.cells #[.bool false, .bool true] 64))
    obtain ⟨w3, hw3⟩ : ∃ w3, w3 = (w2.alloc (.cells #[.int .u64 (x : Int), .int .u64 (y : Int)] 63)).alloc (.cells #[.bool false, .bool true] 64) := ⟨_, rfl⟩
    have HW := Lib.hid hw3
    rw [← hw3] at HBW
    clear hb hw3 HSL
    go_wp2_with fail
    rw [← HW.out]
    refine (HS.out w3).mono ?_
    rintro e w4 ⟨v, rfl, hv, hb⟩
    obtain ⟨g2, cap2, cur, rfl, hg2, _, _, _⟩ := OwnB.row hv (by rw [sl_length]; omega)
    rw [sl_length]
    have hby := hv.bytes
    rw [sl_length] at hby
    have HB4 := Lib.hid (below_of HBW.out hb)
    have HK := Lib.hid (writeR (HP.out.later HB4.out) 0 _ (sl (y + 1)) (by rw [sl_length]; omega) (fun W hW => hby.chg hW (by have := HLT.out; have := HBW.out.size; simp; omega)))
    unfold WrR at HK
    rw [← HR.out] at HK
    clear hv hg2 hby hb
    go_wp2_with fail
    refine HK.out.mono ?_
    rintro e w5 ⟨rfl, hP, hC⟩
    have HP5 := Lib.hid hP
    have HC5 := Lib.hid ((Chg.of_below [q, b, u] HB4.out).trans hC)
    clear hP hC HK
    go_wp2_with fail
    go_ret2
    exact ⟨rfl, HP5.out, HC5.out⟩
set_option maxHeartbeats 8000000 in
set_option maxRecDepth 100000 in
theorem begDy {q b u cb cu : Nat} {s : St} {w : World} (h : RSt q b u cb cu s w) (y : Nat) (e0 : cE s = 0) (eM : cM s = y) (ex : sN s 0 = y) (ey : sN s 1 = y) (eo : sO s 0 = true) (ek : sO s 1 = true) (hm : y < 18446744073709551615) :
    Calls Try.prog 18 #[.pointer (some ⟨q, 0, none⟩)] w (BeY q b u cb cu s 0 y w) := by
  unfold BeY
  have HP := Lib.hid h
  have HC := Lib.hid (countR h)
  rw [show cN s = y by unfold cN; rw [if_pos e0, eM], e0] at HC
  have HLT := Lib.hid h.lt
  have HSL : Hid (∀ w', Below w.heap.size w w' → Calls Try.prog 32 #[.pointer (some ⟨q, 0, none⟩)] w' fun e w'' => e = .returned (.tuple #[.agg #[.int .u64 (y : Nat), .int .u64 (y : Nat)], .agg #[.bool true, .bool true]]) ∧ Below w'.heap.size w' w'') := fun w' hb => by
    have := slotsR (HP.out.later hb)
    rw [ex, ey, eo, ek] at this
    exact this
  have ht : ((y : Int) == 18446744073709551615) = false := beq_eq_false_iff_ne.2 (by omega)
  have hw : IntKind.u64.wrap ((y : Int) + 1) = (y : Int) + 1 := IntWalk.u64_in _ ⟨by omega, by omega⟩
  have HS := fun w => slotR (y + 1) w (by omega)
  rw [show ((y + 1 : Nat) : Int) = (y : Int) + 1 by omega] at HS
  have HS := Lib.hid HS
  obtain ⟨r, hr⟩ : ∃ r, r = wrE s 0 (sl (y + 1)) := ⟨_, rfl⟩
  rw [← hr]
  have HR := Lib.hid hr
  clear h e0 eM ex ey eo ek hm hr
  by_cases hz : r = 0
  · subst hz
    rw [if_pos rfl]
    go_enter Try.func18, Try.ntmps18
    go_wp2_with fail
    refine HC.out.mono ?_
    rintro e w1 ⟨rfl, hb⟩
    have HB := Lib.hid hb
    clear hb HC
    go_wp2_with fail
    refine (HSL.out w1 HB.out).mono ?_
    rintro e w2 ⟨rfl, hb⟩
    have HB2 := Lib.hid (below_of HB.out hb)
    have HBW := Lib.hid (two_more HB2.out (.cells #[.int .u64 (y : Int), .int .u64 (y : Int)] 63) (.cells #[.bool true, .bool true] 64))
    obtain ⟨w3, hw3⟩ : ∃ w3, w3 = (w2.alloc (.cells #[.int .u64 (y : Int), .int .u64 (y : Int)] 63)).alloc (.cells #[.bool true, .bool true] 64) := ⟨_, rfl⟩
    have HW := Lib.hid hw3
    rw [← hw3] at HBW
    clear hb hw3 HSL
    go_wp2_with fail
    rw [← HW.out]
    refine (HS.out w3).mono ?_
    rintro e w4 ⟨v, rfl, hv, hb⟩
    obtain ⟨g2, cap2, cur, rfl, hg2, _, _, _⟩ := OwnB.row hv (by rw [sl_length]; omega)
    rw [sl_length]
    have hby := hv.bytes
    rw [sl_length] at hby
    have HB4 := Lib.hid (below_of HBW.out hb)
    have HK := Lib.hid (writeR (HP.out.later HB4.out) 0 _ (sl (y + 1)) (by rw [sl_length]; omega) (fun W hW => hby.chg hW (by have := HLT.out; have := HBW.out.size; simp; omega)))
    unfold WrR at HK
    rw [← HR.out] at HK
    clear hv hg2 hby hb
    go_wp2_with fail
    refine HK.out.mono ?_
    rintro e w5 ⟨rfl, hP, hC⟩
    have HP5 := Lib.hid hP
    have HC5 := Lib.hid ((Chg.of_below [q, b, u] HB4.out).trans hC)
    clear hP hC HK
    go_wp2_with fail
    go_ret2
    exact ⟨rfl, HP5.out, HC5.out⟩
  · rw [if_neg hz]
    have t1 : (r != 0) = true := bne_iff_ne.2 hz
    clear hz
    go_enter Try.func18, Try.ntmps18
    go_wp2_with fail
    refine HC.out.mono ?_
    rintro e w1 ⟨rfl, hb⟩
    have HB := Lib.hid hb
    clear hb HC
    go_wp2_with fail
    refine (HSL.out w1 HB.out).mono ?_
    rintro e w2 ⟨rfl, hb⟩
    have HB2 := Lib.hid (below_of HB.out hb)
    have HBW := Lib.hid (two_more HB2.out (.cells #[.int .u64 (y : Int), .int .u64 (y : Int)] 63) (.cells #[.bool true, .bool true] 64))
    obtain ⟨w3, hw3⟩ : ∃ w3, w3 = (w2.alloc (.cells #[.int .u64 (y : Int), .int .u64 (y : Int)] 63)).alloc (.cells #[.bool true, .bool true] 64) := ⟨_, rfl⟩
    have HW := Lib.hid hw3
    rw [← hw3] at HBW
    clear hb hw3 HSL
    go_wp2_with fail
    rw [← HW.out]
    refine (HS.out w3).mono ?_
    rintro e w4 ⟨v, rfl, hv, hb⟩
    obtain ⟨g2, cap2, cur, rfl, hg2, _, _, _⟩ := OwnB.row hv (by rw [sl_length]; omega)
    rw [sl_length]
    have hby := hv.bytes
    rw [sl_length] at hby
    have HB4 := Lib.hid (below_of HBW.out hb)
    have HK := Lib.hid (writeR (HP.out.later HB4.out) 0 _ (sl (y + 1)) (by rw [sl_length]; omega) (fun W hW => hby.chg hW (by have := HLT.out; have := HBW.out.size; simp; omega)))
    unfold WrR at HK
    rw [← HR.out] at HK
    clear hv hg2 hby hb
    go_wp2_with fail
    refine HK.out.mono ?_
    rintro e w5 ⟨rfl, hP, hC⟩
    have HP5 := Lib.hid hP
    have HC5 := Lib.hid ((Chg.of_below [q, b, u] HB4.out).trans hC)
    clear hP hC HK
    go_wp2_with fail
    go_ret2
    exact ⟨rfl, HP5.out, HC5.out⟩
set_option maxHeartbeats 8000000 in
set_option maxRecDepth 100000 in
theorem begEy {q b u cb cu : Nat} {s : St} {w : World} (h : RSt q b u cb cu s w) (x y : Nat) (hlt : x < y) (e0 : cE s = 0) (eM : cM s = y) (ex : sN s 0 = x) (ey : sN s 1 = y) (eo : sO s 0 = true) (ek : sO s 1 = true) (hm : y < 18446744073709551615) :
    Calls Try.prog 18 #[.pointer (some ⟨q, 0, none⟩)] w (BeY q b u cb cu s 0 y w) := by
  unfold BeY
  have HP := Lib.hid h
  have HC := Lib.hid (countR h)
  rw [show cN s = y by unfold cN; rw [if_pos e0, eM], e0] at HC
  have HLT := Lib.hid h.lt
  have HSL : Hid (∀ w', Below w.heap.size w w' → Calls Try.prog 32 #[.pointer (some ⟨q, 0, none⟩)] w' fun e w'' => e = .returned (.tuple #[.agg #[.int .u64 (x : Nat), .int .u64 (y : Nat)], .agg #[.bool true, .bool true]]) ∧ Below w'.heap.size w' w'') := fun w' hb => by
    have := slotsR (HP.out.later hb)
    rw [ex, ey, eo, ek] at this
    exact this
  have ht : ((y : Int) == 18446744073709551615) = false := beq_eq_false_iff_ne.2 (by omega)
  have hw : IntKind.u64.wrap ((y : Int) + 1) = (y : Int) + 1 := IntWalk.u64_in _ ⟨by omega, by omega⟩
  have HS := fun w => slotR (y + 1) w (by omega)
  rw [show ((y + 1 : Nat) : Int) = (y : Int) + 1 by omega] at HS
  have HS := Lib.hid HS
  have q1 : ((x : Int) == (y : Int)) = false := beq_eq_false_iff_ne.2 (by omega)
  have q2 : (x == y) = false := beq_eq_false_iff_ne.2 (by omega)
  clear hlt
  obtain ⟨r, hr⟩ : ∃ r, r = wrE s 0 (sl (y + 1)) := ⟨_, rfl⟩
  rw [← hr]
  have HR := Lib.hid hr
  clear h e0 eM ex ey eo ek hm hr
  by_cases hz : r = 0
  · subst hz
    rw [if_pos rfl]
    go_enter Try.func18, Try.ntmps18
    go_wp2_with fail
    refine HC.out.mono ?_
    rintro e w1 ⟨rfl, hb⟩
    have HB := Lib.hid hb
    clear hb HC
    go_wp2_with fail
    refine (HSL.out w1 HB.out).mono ?_
    rintro e w2 ⟨rfl, hb⟩
    have HB2 := Lib.hid (below_of HB.out hb)
    have HBW := Lib.hid (two_more HB2.out (.cells #[.int .u64 (x : Int), .int .u64 (y : Int)] 63) (.cells #[.bool true, .bool true] 64))
    obtain ⟨w3, hw3⟩ : ∃ w3, w3 = (w2.alloc (.cells #[.int .u64 (x : Int), .int .u64 (y : Int)] 63)).alloc (.cells #[.bool true, .bool true] 64) := ⟨_, rfl⟩
    have HW := Lib.hid hw3
    rw [← hw3] at HBW
    clear hb hw3 HSL
    go_wp2_with fail
    rw [← HW.out]
    refine (HS.out w3).mono ?_
    rintro e w4 ⟨v, rfl, hv, hb⟩
    obtain ⟨g2, cap2, cur, rfl, hg2, _, _, _⟩ := OwnB.row hv (by rw [sl_length]; omega)
    rw [sl_length]
    have hby := hv.bytes
    rw [sl_length] at hby
    have HB4 := Lib.hid (below_of HBW.out hb)
    have HK := Lib.hid (writeR (HP.out.later HB4.out) 0 _ (sl (y + 1)) (by rw [sl_length]; omega) (fun W hW => hby.chg hW (by have := HLT.out; have := HBW.out.size; simp; omega)))
    unfold WrR at HK
    rw [← HR.out] at HK
    clear hv hg2 hby hb
    go_wp2_with fail
    refine HK.out.mono ?_
    rintro e w5 ⟨rfl, hP, hC⟩
    have HP5 := Lib.hid hP
    have HC5 := Lib.hid ((Chg.of_below [q, b, u] HB4.out).trans hC)
    clear hP hC HK
    go_wp2_with fail
    go_ret2
    exact ⟨rfl, HP5.out, HC5.out⟩
  · rw [if_neg hz]
    have t1 : (r != 0) = true := bne_iff_ne.2 hz
    clear hz
    go_enter Try.func18, Try.ntmps18
    go_wp2_with fail
    refine HC.out.mono ?_
    rintro e w1 ⟨rfl, hb⟩
    have HB := Lib.hid hb
    clear hb HC
    go_wp2_with fail
    refine (HSL.out w1 HB.out).mono ?_
    rintro e w2 ⟨rfl, hb⟩
    have HB2 := Lib.hid (below_of HB.out hb)
    have HBW := Lib.hid (two_more HB2.out (.cells #[.int .u64 (x : Int), .int .u64 (y : Int)] 63) (.cells #[.bool true, .bool true] 64))
    obtain ⟨w3, hw3⟩ : ∃ w3, w3 = (w2.alloc (.cells #[.int .u64 (x : Int), .int .u64 (y : Int)] 63)).alloc (.cells #[.bool true, .bool true] 64) := ⟨_, rfl⟩
    have HW := Lib.hid hw3
    rw [← hw3] at HBW
    clear hb hw3 HSL
    go_wp2_with fail
    rw [← HW.out]
    refine (HS.out w3).mono ?_
    rintro e w4 ⟨v, rfl, hv, hb⟩
    obtain ⟨g2, cap2, cur, rfl, hg2, _, _, _⟩ := OwnB.row hv (by rw [sl_length]; omega)
    rw [sl_length]
    have hby := hv.bytes
    rw [sl_length] at hby
    have HB4 := Lib.hid (below_of HBW.out hb)
    have HK := Lib.hid (writeR (HP.out.later HB4.out) 0 _ (sl (y + 1)) (by rw [sl_length]; omega) (fun W hW => hby.chg hW (by have := HLT.out; have := HBW.out.size; simp; omega)))
    unfold WrR at HK
    rw [← HR.out] at HK
    clear hv hg2 hby hb
    go_wp2_with fail
    refine HK.out.mono ?_
    rintro e w5 ⟨rfl, hP, hC⟩
    have HP5 := Lib.hid hP
    have HC5 := Lib.hid ((Chg.of_below [q, b, u] HB4.out).trans hC)
    clear hP hC HK
    go_wp2_with fail
    go_ret2
    exact ⟨rfl, HP5.out, HC5.out⟩
theorem cM_ge {s : St} (h1 : sO s 1 = true) (hn : ¬ sN s 1 < sN s 0) : cM s = sN s 1 ∧ fr s = 0 := by
  have : ¬ (sO s 1 = false ∨ sN s 1 < sN s 0) := by rw [h1]; simpa using hn
  exact ⟨by unfold cM; rw [if_neg this], by unfold fr; rw [if_neg this]⟩
theorem cM_up {s : St} (hn : sO s 1 = false ∨ sN s 1 < sN s 0) : cM s = sN s 0 ∧ fr s = 1 := ⟨by unfold cM; rw [if_pos hn], by unfold fr; rw [if_pos hn]⟩
theorem beY {q b u cb cu : Nat} {s : St} {w w' : World} {e : Ending} {A : Int} {M : Nat} (e0 : cE s = 0) (eM : cM s = M) (hm : M < 18446744073709551615) (hA : A = ((16 * fr s : Nat) : Int)) (h : BeY q b u cb cu s A M w e w') : BeR q b u cb cu s w e w' := by
  obtain ⟨h1, h2, h3⟩ := h
  have hy := be_yes e0 (by omega)
  rw [eM, ← hA] at hy
  refine ⟨?_, by rw [hy.2]; exact h2, h3⟩
  have hb : bN s = if wrE s A (sl (M + 1)) = 0 then M + 1 else 0 := by unfold bN; rw [hy.1, eM]
  rw [h1, hb, hy.1]
  congr 4
  split <;> simp
set_option maxHeartbeats 8000000 in
set_option maxRecDepth 100000 in
theorem beginR {q b u cb cu : Nat} {s : St} {w : World} (h : RSt q b u cb cu s w) :
    Calls Try.prog 18 #[.pointer (some ⟨q, 0, none⟩)] w (BeR q b u cb cu s w) := by
  by_cases h0 : cE s = 0
  · by_cases h1 : cM s = 18446744073709551615
    · have HE := Lib.hid (be_max h0 h1)
      have HC := Lib.hid (countR h)
      rw [show cN s = 18446744073709551615 by unfold cN; rw [if_pos h0, h1], h0] at HC
      have HP := Lib.hid h
      unfold BeR
      rw [HE.out.1, HE.out.2.1, HE.out.2.2]
      clear h0 h1 HE h
      go_enter Try.func18, Try.ntmps18
      go_wp2_with fail
      refine HC.out.mono ?_
      rintro e w1 ⟨rfl, hb⟩
      have HB := Lib.hid hb
      clear hb
      go_wp2_with fail
      go_ret2
      exact ⟨rfl, HP.out.later HB.out, Chg.of_below _ HB.out⟩
    · have hm : cM s < 18446744073709551615 := by have := cM_lt s; omega
      cases ek : sO s 1 with
      | false =>
        obtain ⟨e1, e2⟩ := cM_up (s := s) (.inl ek)
        have eo : sO s 0 = true := by
          cases eo : sO s 0 with
          | true => rfl
          | false =>
            unfold cE at h0
            rw [if_pos (And.intro eo ek)] at h0
            split at h0
            · cases h0
            · split at h0
              · cases h0
              · cases h0
        exact (begAy h _ _ h0 e1 rfl rfl eo ek (by omega)).mono fun e w' hx => beY h0 e1 (by omega) (by rw [e2]; rfl) hx
      | true =>
        by_cases hlt : sN s 1 < sN s 0
        · obtain ⟨e1, e2⟩ := cM_up (s := s) (.inr hlt)
          have eo : sO s 0 = true := by
            cases eo : sO s 0 with
            | true => rfl
            | false => have := sN_no eo; omega
          exact (begBy h _ _ hlt h0 e1 rfl rfl eo ek (by omega)).mono fun e w' hx => beY h0 e1 (by omega) (by rw [e2]; rfl) hx
        · obtain ⟨e1, e2⟩ := cM_ge ek hlt
          cases eo : sO s 0 with
          | false => exact (begCy h _ _ h0 e1 rfl rfl eo ek (by omega)).mono fun e w' hx => beY h0 e1 (by omega) (by rw [e2]; rfl) hx
          | true =>
            by_cases heq : sN s 0 = sN s 1
            · exact (begDy h _ h0 e1 heq rfl eo ek (by omega)).mono fun e w' hx => beY h0 e1 (by omega) (by rw [e2]; rfl) hx
            · exact (begEy h _ _ (by omega) h0 e1 rfl rfl eo ek (by omega)).mono fun e w' hx => beY h0 e1 (by omega) (by rw [e2]; rfl) hx
  · have HE := Lib.hid (be_no h0)
    have HC := Lib.hid (countR h)
    rw [show cN s = 0 by unfold cN; rw [if_neg h0]] at HC
    have HP := Lib.hid h
    unfold BeR
    rw [HE.out.1, HE.out.2.1, HE.out.2.2]
    have ht : (cE s != 0) = true := bne_iff_ne.2 h0
    obtain ⟨r, hr⟩ : ∃ r, r = cE s := ⟨_, rfl⟩
    rw [← hr] at HC ht ⊢
    clear h0 hr HE h
    go_enter Try.func18, Try.ntmps18
    go_wp2_with fail
    refine HC.out.mono ?_
    rintro e w1 ⟨rfl, hb⟩
    have HB := Lib.hid hb
    clear hb
    go_wp2_with fail
    go_ret2
    exact ⟨rfl, HP.out.later HB.out, Chg.of_below _ HB.out⟩
end Go.Proofs.Ytoinjapmioldaaa

namespace Go.Proofs.Ytoinjapmioldaaa
open Go.ChangeShapes Go.WideShapes Go.ChangeAt Go.RowKit

theorem lt_u8 {a : Int} (h : 0 ≤ a ∧ a ≤ 255) : a < 256 := by omega
theorem lt_u16 {a : Int} (h : 0 ≤ a ∧ a ≤ 65535) : a < 65536 := by omega
theorem lt_u32 {a : Int} (h : 0 ≤ a ∧ a ≤ 4294967295) : a < 4294967296 := by omega
theorem lt_u64 {a : Int} (h : 0 ≤ a ∧ a ≤ 18446744073709551615) : a < 18446744073709551616 := by omega

theorem own : ownKnob Try.prog.godebug = none := by kernel_rfl
theorem laidOut : laidOutB Try.prog = true := by kernel_rfl


theorem spot_none {W : World} {a : Addr} {v : Value} (h : W.cell? (a.add 0) = some v) : a.spot = none := by
  obtain ⟨b, o, sp⟩ := a
  cases sp with
  | none => rfl
  | some s =>
    simp [World.cell?, Addr.add] at h
    split at h <;> cases h
theorem bytes_of_ints {W : World} {A : Option Addr} {len cap : Nat} {zs : List Int} (hl : len ≤ cap) (hz : zs.length = cap) (hwz : ∀ n ∈ zs, (Lit.int .u8 n).wf = true) (h0 : A = none → cap = 0)
    (hc : ∀ a, A = some a → ∀ c, c < cap → W.cell? (a.add c) = some (.int .u8 (zs.getD c 0))) : Bytes W (.slice A len cap) ((zs.take len).map fun z => UInt8.ofNat z.toNat) := by
  have hlen : ((zs.take len).map fun z => UInt8.ofNat z.toNat).length = len := by simp; omega
  rcases Nat.eq_zero_or_pos len with hp | hp
  · subst hp
    exact .inl ⟨by simp, A, cap, rfl, h0⟩
  · cases A with
    | none => have := h0 rfl; omega
    | some x =>
      have hcell := hc x rfl
      have hc0 := hcell 0 (by omega)
      have hsp := spot_none hc0
      obtain ⟨b, o, sp⟩ := x
      simp only at hsp
      subst hsp
      refine .inr ⟨b, o, cap, by rw [hlen], ?_, by rw [hlen]; exact hl, ?_⟩
      · have := World.block_lt_of_cell? _ _ hc0
        simpa [Addr.add] using this
      · intro j y hy
        simp only [List.getElem?_map, Option.map_eq_some_iff] at hy
        obtain ⟨z, hz1, rfl⟩ := hy
        have hj : j < len := by
          have := (List.getElem?_eq_some_iff.1 hz1).1
          simp at this; omega
        have hz2 : zs[j]? = some z := by rw [List.getElem?_take, if_pos hj] at hz1; exact hz1
        have hb := bounds_u8 (hwz z (List.mem_of_getElem? hz2))
        have hcj := hcell j (by omega)
        have he : zs.getD j 0 = z := by simp [List.getD, hz2]
        rw [he] at hcj
        have hn : ((UInt8.ofNat z.toNat).toNat : Int) = z := by rw [UInt8.toNat_ofNat']; omega
        rw [hn]
        cases j with
        | zero => simpa [Addr.add] using hcj
        | succ j => simpa [Addr.add] using hcj

set_option maxRecDepth 100000 in
theorem open_bytes {H : Type} {enc : TypeId × Value → H} {W : World} {base : Nat} {v : Value} {d : DataW H} {p : List MemPlace}
    (hv : Value.okWide Try.prog W .any base 22 v) (h : DataW.Trod enc Try.prog W 0 (fun _ => true) true 22 v d p) : ∃ l : List UInt8, Bytes W v l ∧ l.length ≤ 9223372036854775807 := by
  obtain ⟨a, len, cap, rfl⟩ := okWide_slice Try.underlying22 hv
  obtain ⟨fuel, hf⟩ := h
  rcases open_ints Try.underlying22 Try.underlying5 (by kernel_rfl) hf with ⟨hcs, _⟩ | ⟨x, l, c, zs, hcs, _, hl, hm, hz, _, hcell, hwz⟩
  · simp [Value.cells] at hcs
    obtain ⟨rfl, rfl, rfl⟩ := hcs
    exact ⟨[], Bytes.nil _ _ _, by simp⟩
  · simp [Value.cells] at hcs
    obtain ⟨rfl, rfl, rfl⟩ := hcs
    unfold maxLen at hm
    have hzl : zs.length = cap := by simpa using hz
    exact ⟨_, bytes_of_ints hl hzl hwz (fun h => by cases h) (fun a ha c hc => by cases ha; exact hcell c (by omega)), by simp; omega⟩

set_option maxRecDepth 100000 in
theorem open_lists {H : Type} {enc : TypeId × Value → H} {W : World} {base : Nat} {v : Value} {d : DataW H} {p : List MemPlace}
    (hv : Value.okWide Try.prog W .any base 82 v) (h : DataW.Trod enc Try.prog W 0 (fun _ => true) true 82 v d p) :
    ∃ L : List (List UInt8), Lists W v L ∧ L.length ≤ 9223372036854775807 ∧ ∀ l ∈ L, l.length ≤ 9223372036854775807 := by
  obtain ⟨a, len, cap, rfl⟩ := okWide_slice Try.underlying82 hv
  obtain ⟨fuel, hf⟩ := h
  rcases Deep.open_int_rows Try.underlying82 Try.underlying22 Try.underlying5 (by kernel_rfl) (by kernel_rfl) hf with ⟨hcs, _⟩ | ⟨x, l, c, A, Ln, C, Z, hcs, _, hl, hm, _, hr⟩
  · simp [Value.cells] at hcs
    obtain ⟨rfl, rfl, rfl⟩ := hcs
    exact ⟨[], Lists.nil _ _ _, by simp, by simp⟩
  · simp [Value.cells] at hcs
    obtain ⟨rfl, rfl, rfl⟩ := hcs
    unfold maxLen at hm hr
    have each : ∀ r, r < cap → Bytes W (.slice (A r) (Ln r) (C r)) (((Z r).take (Ln r)).map fun z => UInt8.ofNat z.toNat) := fun r hrr => by
      obtain ⟨_, h1, h2, h3, h4, h5, h6⟩ := hr r hrr
      exact bytes_of_ints h1 h3 h4 h5 (fun a ha c hc => (h6 a ha).2 c hc)
    refine ⟨(List.range len).map fun r => ((Z r).take (Ln r)).map fun z => UInt8.ofNat z.toNat, ?_, by simp; omega, ?_⟩
    · rcases Nat.eq_zero_or_pos len with hp | hp
      · subst hp
        exact .inl ⟨by simp, _, _, rfl, fun h => by cases h⟩
      · have hc0 := (hr 0 (by omega)).1
        have hsp := spot_none hc0
        obtain ⟨b, o, sp⟩ := x
        simp only at hsp
        subst hsp
        refine .inr ⟨b, o, cap, by simp, ?_, by simpa using hl, ?_⟩
        · have := World.block_lt_of_cell? _ _ hc0
          simpa [Addr.add] using this
        · intro j l hjl
          simp only [List.getElem?_map, Option.map_eq_some_iff] at hjl
          obtain ⟨r, hr1, rfl⟩ := hjl
          have hj : j < len := by
            have := (List.getElem?_eq_some_iff.1 hr1).1
            simpa using this
          have hr2 : r = j := by rw [List.getElem?_range hj] at hr1; cases hr1; rfl
          subst hr2
          refine ⟨_, ?_, each r (by omega)⟩
          have := (hr r (by omega)).1
          cases r with
          | zero => simpa [Addr.add] using this
          | succ r => simpa [Addr.add] using this
    · intro l hl2
      simp only [List.mem_map, List.mem_range] at hl2
      obtain ⟨r, hr1, rfl⟩ := hl2
      obtain ⟨_, h1, h2, h3, _⟩ := hr r (by omega)
      simp; omega

end Go.Proofs.Ytoinjapmioldaaa

namespace Go.Proofs.Ytoinjapmioldaaa
open Go.ChangeShapes Go.WideShapes Go.ChangeAt Go.RowKit

def flv (l : List Bool) : List Value := l.map fun x => .bool x
theorem flv_at {l : List Bool} {k : Nat} (h : k < l.length) : (flv l)[k]? = some (.bool l[k]) := by simp [flv, h]
theorem flv_length (l : List Bool) : (flv l).length = l.length := by simp [flv]
set_option maxRecDepth 100000 in
theorem open_flags {H : Type} {enc : TypeId × Value → H} {W : World} {base : Nat} {v : Value} {d : DataW H} {p : List MemPlace}
    (hv : Value.okWide Try.prog W .any base 23 v) (h : DataW.Trod enc Try.prog W 0 (fun _ => true) true 23 v d p) :
    ∃ l : List Bool, Row W v (flv l) ∧ l.length ≤ 9223372036854775807 := by
  obtain ⟨a, len, cap, rfl⟩ := okWide_slice Try.underlying23 hv
  obtain ⟨fuel, hf⟩ := h
  rcases Deep.open_bools Try.underlying23 Try.underlying4 (by kernel_rfl) hf with ⟨hcs, _⟩ | ⟨x, l, c, B, hcs, _, hl, hm, _, hcell⟩
  · simp [Value.cells] at hcs
    obtain ⟨rfl, rfl, rfl⟩ := hcs
    exact ⟨[], .inl ⟨rfl, _, _, rfl, fun _ => rfl⟩, by simp⟩
  · simp [Value.cells] at hcs
    obtain ⟨rfl, rfl, rfl⟩ := hcs
    unfold maxLen at hm
    refine ⟨(List.range len).map B, ?_, by simp; omega⟩
    rcases Nat.eq_zero_or_pos len with hp | hp
    · subst hp
      exact .inl ⟨by simp [flv], _, _, rfl, fun h => by cases h⟩
    · have hc0 := hcell 0 (by omega)
      have hsp := spot_none hc0
      obtain ⟨b, o, sp⟩ := x
      simp only at hsp
      subst hsp
      have hlen : (flv ((List.range len).map B)).length = len := by simp [flv]
      refine .inr ⟨b, o, cap, by rw [hlen], ?_, by rw [hlen]; exact hl, ?_⟩
      · have := World.block_lt_of_cell? _ _ hc0
        simpa [Addr.add] using this
      · intro j y hy
        have hj : j < len := by
          have := (List.getElem?_eq_some_iff.1 hy).1
          rw [hlen] at this; exact this
        rw [flv_at (by simpa using hj)] at hy
        simp only [List.getElem_map, List.getElem_range, Option.some.injEq] at hy
        subst hy
        have hcj := hcell j (by omega)
        cases j with
        | zero => simpa [Addr.add] using hcj
        | succ j => simpa [Addr.add] using hcj

section
variable {H : Type} {enc : TypeId × Value → H} {W : World}
set_option maxRecDepth 100000 in
theorem loss_cells {fuel : Nat} {cs : List Value} {y : DataW H × List MemPlace} (h : DataW.trod enc Try.prog W 0 (fun _ => true) true fuel 25 cs = some y) (hl : cs.length = 3) :
    ∃ (n : Int) (x : UInt8) (u : Bool), cs = [.int .i64 n, .int .u8 (x.toNat : Int), .bool u] ∧ -9223372036854775808 ≤ n ∧ n ≤ 9223372036854775807 := by
  have ki : Try.prog.cellsOf 3 = 1 := by kernel_rfl
  have ku : Try.prog.cellsOf 5 = 1 := by kernel_rfl
  have kt : Try.prog.cellsOf 4 = 1 := by kernel_rfl
  match cs, hl with
  | [c0, c1, c2], _ =>
    obtain ⟨xs, n, _, hx, _, hlen, hg⟩ := DataW.trod_struct Try.underlying25 h
    match xs, hlen with
    | [y0, y1, y2], _ =>
      have h0 : DataW.trod enc Try.prog W 0 (fun _ => true) true n 3 [c0] = some y0 := by simpa [ki, ku, kt] using hg 0 _ rfl
      have h1 : DataW.trod enc Try.prog W 0 (fun _ => true) true n 5 [c1] = some y1 := by simpa [ki, ku, kt] using hg 1 _ rfl
      have h2 : DataW.trod enc Try.prog W 0 (fun _ => true) true n 4 [c2] = some y2 := by simpa [ki, ku, kt] using hg 2 _ rfl
      obtain ⟨a0, e0, _, w0⟩ := DataW.trod_int Try.underlying3 h0
      obtain ⟨a1, e1, _, w1⟩ := DataW.trod_int Try.underlying5 h1
      obtain ⟨a2, e2, _⟩ := DataW.trod_bool Try.underlying4 h2
      simp only [List.cons.injEq, and_true] at e0 e1 e2
      subst e0 e1 e2
      have b0 := bounds_i64 w0
      have b1 := bounds_u8 w1
      obtain ⟨x, rfl⟩ := Int.eq_ofNat_of_zero_le b1.1
      have ex : ((UInt8.ofNat x).toNat : Int) = (x : Int) := by rw [UInt8.toNat_ofNat', Nat.mod_eq_of_lt (by omega)]
      exact ⟨a0, UInt8.ofNat x, a2, by rw [ex], b0.1, b0.2⟩
end
set_option maxRecDepth 100000 in
theorem open_loss {H : Type} {enc : TypeId × Value → H} {W : World} {base : Nat} {v : Value} {d : DataW H} {p : List MemPlace}
    (hv : Value.okWide Try.prog W .any base 25 v) (h : DataW.Trod enc Try.prog W 0 (fun _ => true) true 25 v d p) :
    ∃ (n : Int) (x : UInt8) (u : Bool), v = .agg #[.int .i64 n, .int .u8 (x.toNat : Int), .bool u] ∧ -9223372036854775808 ≤ n ∧ n ≤ 9223372036854775807 := by
  obtain ⟨cs, rfl, hsz⟩ := okWide_struct Try.underlying25 hv
  obtain ⟨l⟩ := cs
  have hC : Try.prog.cellsOf 25 = 3 := by kernel_rfl
  obtain ⟨fuel, hf⟩ := h
  obtain ⟨n, x, u, e, h1, h2⟩ := loss_cells (cs := l) (by simpa [Value.cells] using hf) (by simpa using hsz.trans hC)
  subst e
  exact ⟨n, x, u, rfl, h1, h2⟩
end Go.Proofs.Ytoinjapmioldaaa

namespace Go.Proofs.Ytoinjapmioldaaa
open Go.RowKit
attribute [local go_sem ↓] Go.wp_at_zero Go.wp_at_succ

/-- A store that is not there, or a zero one. -/
def Nn (v : Value) (w : World) : Prop := v = .pointer none ∨ ∃ p, v = .pointer (some ⟨p, 0, none⟩) ∧ BlkAt 58 p [.slice none 0 0, .bool false, .int .i64 0, .int .u8 0, .bool false] w
theorem allN {v : Value} {w : World} (h : Nn v w) : Calls Try.prog 34 #[v] w fun e w' => e = .returned (.slice none 0 0) ∧ w = w' := by
  rcases h with rfl | ⟨p, rfl, hb⟩
  · go_enter Try.func34, Try.ntmps34
    go_wp2_with fail
    go_ret
    exact ⟨rfl, rfl⟩
  · have c0 := BlkAt.cell hb (j := 0) rfl
    clear hb
    go_enter Try.func34, Try.ntmps34
    go_wp2_with fail
    go_ret
    exact ⟨rfl, rfl⟩
theorem ptrN {v : Value} {w : World} (h : Nn v w) : ∃ a, v = .pointer a := by
  rcases h with rfl | ⟨p, rfl, _⟩
  · exact ⟨_, rfl⟩
  · exact ⟨_, rfl⟩
theorem lenN {v : Value} {w : World} (h : Nn v w) : Calls Try.prog 42 #[v] w fun e w' => e = .returned (.int .i64 0) ∧ w = w' := by
  have H := Lib.hid (allN h)
  obtain ⟨a, rfl⟩ := ptrN h
  clear h
  go_enter Try.func42, Try.ntmps42
  go_wp2_with fail
  refine H.out.mono ?_
  rintro e w1 ⟨rfl, rfl⟩
  go_wp2_with fail
  go_ret
  exact ⟨rfl, rfl⟩
theorem noneN {v : Value} {w : World} (h : Nn v w) : Calls Try.prog 29 #[v] w fun e w' => e = .returned (.bool true) ∧ w = w' := by
  have H := Lib.hid (lenN h)
  obtain ⟨a, rfl⟩ := ptrN h
  clear h
  go_enter Try.func29, Try.ntmps29
  go_wp2_with fail
  refine H.out.mono ?_
  rintro e w1 ⟨rfl, rfl⟩
  go_wp2_with fail
  go_ret
  exact ⟨rfl, rfl⟩
theorem lieN {v : Value} {w : World} (h : Nn v w) (a n : Int) : Calls Try.prog 28 #[v, .int .i64 a, .int .i64 n] w fun e w' => e = .returned (.int .i64 1) ∧ w = w' := by
  have H := Lib.hid (noneN h)
  obtain ⟨a, rfl⟩ := ptrN h
  clear h
  go_enter Try.func28, Try.ntmps28
  go_wp2_with fail
  refine H.out.mono ?_
  rintro e w1 ⟨rfl, rfl⟩
  go_wp2_with fail
  go_ret
  exact ⟨rfl, rfl⟩
theorem readyN {v : Value} {w : World} (h : Nn v w) (a n : Int) : Calls Try.prog 37 #[v, .int .i64 a, .int .i64 n] w fun e w' => e = .returned (.int .i64 1) ∧ w = w' := by
  have H := Lib.hid (lieN h a n)
  obtain ⟨a, rfl⟩ := ptrN h
  clear h
  go_enter Try.func37, Try.ntmps37
  go_wp2_with fail
  refine H.out.mono ?_
  rintro e w1 ⟨rfl, rfl⟩
  go_wp2_with fail
  go_ret
  exact ⟨rfl, rfl⟩
theorem fuseN {v : Value} {w : World} (h : Nn v w) : Calls Try.prog 15 #[v, .int .i64 1, .int .u8 2, .bool true] w fun e w' => (∃ v, e = .returned v) ∧ w = w' := by
  have H := Lib.hid (noneN h)
  obtain ⟨a, rfl⟩ := ptrN h
  clear h
  go_enter Try.func15, Try.ntmps15
  go_wp2_with fail
  refine H.out.mono ?_
  rintro e w1 ⟨rfl, rfl⟩
  go_wp2_with fail
  exact bodyPost_ret (results_none rfl _ _ _) rfl ⟨⟨_, rfl⟩, rfl⟩
theorem raiseN {v : Value} {w : World} (h : Nn v w) : Calls Try.prog 20 #[v] w fun e w' => (∃ v, e = .returned v) ∧ w = w' := by
  have H := Lib.hid (noneN h)
  obtain ⟨a, rfl⟩ := ptrN h
  clear h
  go_enter Try.func20, Try.ntmps20
  go_wp2_with fail
  refine H.out.mono ?_
  rintro e w1 ⟨rfl, rfl⟩
  go_wp2_with fail
  exact bodyPost_ret (results_none rfl _ _ _) rfl ⟨⟨_, rfl⟩, rfl⟩
theorem readN {v : Value} {w : World} (h : Nn v w) : Calls Try.prog 21 #[v, .int .i64 0, .int .i64 0] w fun e w' => e = .returned (.tuple #[.slice none 0 0, .int .i64 1]) ∧ w = w' := by
  have H := Lib.hid (readyN h 0 0)
  obtain ⟨a, rfl⟩ := ptrN h
  clear h
  go_enter Try.func21, Try.ntmps21
  go_wp2_with fail
  refine H.out.mono ?_
  rintro e w1 ⟨rfl, rfl⟩
  go_wp2_with fail
  go_ret2
  exact ⟨rfl, rfl⟩
theorem writeN {v : Value} {w : World} (h : Nn v w) : Calls Try.prog 26 #[v, .int .i64 0, .slice none 0 0] w fun e w' => e = .returned (.int .i64 1) ∧ w = w' := by
  have H := Lib.hid (readyN h 0 0)
  obtain ⟨a, rfl⟩ := ptrN h
  clear h
  go_enter Try.func26, Try.ntmps26
  go_wp2_with fail
  go_step3
  go_wp2_with fail
  refine H.out.mono ?_
  rintro e w1 ⟨rfl, rfl⟩
  go_wp2_with fail
  rw [Exit.noGoto_ret]
  go_ret
  exact ⟨rfl, rfl⟩
theorem spoilN {v : Value} {w : World} (h : Nn v w) : Calls Try.prog 10 #[v, .int .i64 0, .int .u8 1, .bool false] w fun e w' => e = .returned (.int .i64 1) ∧ w = w' := by
  have H := Lib.hid (lieN h 0 1)
  obtain ⟨a, rfl⟩ := ptrN h
  clear h
  go_enter Try.func10, Try.ntmps10
  go_wp2_with fail
  refine H.out.mono ?_
  rintro e w1 ⟨rfl, rfl⟩
  go_wp2_with fail
  go_ret
  exact ⟨rfl, rfl⟩
theorem deadN {v : Value} {w : World} (h : Nn v w) : Calls Try.prog 19 #[v] w fun e w' => e = .returned (.bool false) ∧ w = w' := by
  have H := Lib.hid (noneN h)
  obtain ⟨a, rfl⟩ := ptrN h
  clear h
  go_enter Try.func19, Try.ntmps19
  go_wp2_with fail
  refine H.out.mono ?_
  rintro e w1 ⟨rfl, rfl⟩
  go_wp2_with fail
  go_ret
  exact ⟨rfl, rfl⟩
theorem copyN {v : Value} {w : World} (h : Nn v w) : Calls Try.prog 11 #[v] w fun e w' => e = .returned (.pointer none) ∧ w = w' := by
  have H := Lib.hid (noneN h)
  obtain ⟨a, rfl⟩ := ptrN h
  clear h
  go_enter Try.func11, Try.ntmps11
  go_wp2_with fail
  refine H.out.mono ?_
  rintro e w1 ⟨rfl, rfl⟩
  go_wp2_with fail
  go_ret
  exact ⟨rfl, rfl⟩
theorem equalN (w : World) : Calls Try.prog 33 #[.slice none 0 0, .slice none 0 0] w fun e w' => e = .returned (.bool true) ∧ w = w' := by
  go_enter Try.func33, Try.ntmps33
  go_wp2_with fail
  go_loopw [5, 13] (fun _ i wr => i = .int .i64 0 ∧ wr = w) (fun _ i _ => 0)
  case atStart => exact ⟨rfl, rfl⟩
  case round =>
    obtain ⟨rfl, rfl⟩ := hrel
    go_wp2_with fail
    go_ret
    exact ⟨rfl, rfl⟩
theorem sameN {v : Value} {w : World} (h : Nn v w) : Calls Try.prog 14 #[v, .pointer none] w fun e w' => e = .returned (.bool true) ∧ w = w' := by
  have H1 := Lib.hid (allN h)
  have H2 := Lib.hid (allN (show Nn (.pointer none) w from .inl rfl))
  have H3 := Lib.hid (equalN w)
  obtain ⟨a, rfl⟩ := ptrN h
  clear h
  go_enter Try.func14, Try.ntmps14
  go_wp2_with fail
  refine H1.out.mono ?_
  rintro e w1 ⟨rfl, rfl⟩
  go_wp2_with fail
  refine H2.out.mono ?_
  rintro e w1 ⟨rfl, rfl⟩
  go_wp2_with fail
  refine H3.out.mono ?_
  rintro e w1 ⟨rfl, rfl⟩
  go_wp2_with fail
  go_ret
  exact ⟨rfl, rfl⟩

theorem Nn.later {v : Value} {w W : World} (h : Nn v w) (hb : Below w.heap.size w W) : Nn v W := by
  rcases h with h | ⟨p, h1, h2⟩
  · exact .inl h
  · exact .inr ⟨p, h1, h2.later hb⟩
end Go.Proofs.Ytoinjapmioldaaa

namespace Go.Proofs.Ytoinjapmioldaaa
open Go.RowKit
attribute [local go_sem ↓] Go.wp_at_zero Go.wp_at_succ

/-- A store that holds these bytes, with power, without a fuse. -/
def full (l : List UInt8) : St := ⟨l.map fun x => (x, false), false, -1, 0, false⟩
theorem full_nw (n : Nat) : nw n = full (List.replicate n 0) := by simp [full, nw]
theorem full_wgo : ∀ (b : List UInt8) (k : Nat) (l : List UInt8), wgo b k (full l) = full (b.foldl (fun (p : List UInt8 × Nat) x => (p.1.set p.2 x, p.2 + 1)) (l, k)).1
  | [], _, _ => rfl
  | x :: r, k, l => by
    unfold wgo
    rw [if_neg (by simp [full])]
    have e : (full l).step k x = full (l.set k x) := by simp [full, St.step, List.map_set]
    rw [e, full_wgo r (k + 1) (l.set k x)]
    rfl
theorem fold_spl : ∀ (b : List UInt8) (k : Nat) (l : List UInt8), k + b.length ≤ l.length → (b.foldl (fun (p : List UInt8 × Nat) x => (p.1.set p.2 x, p.2 + 1)) (l, k)).1 = spl l k b
  | [], k, l, _ => by simp [spl]
  | x :: r, k, l, h => by
    simp only [List.length_cons] at h
    rw [List.foldl_cons, fold_spl r (k + 1) (l.set k x) (by simp; omega)]
    unfold spl
    simp only [List.length_cons]
    have hk : k < l.length := by omega
    rw [List.take_set, List.take_succ_eq_append_getElem hk, List.set_append_right _ _ (by simp; omega), List.drop_set]
    have e : (l.take k).length = k := by simp; omega
    rw [e, Nat.sub_self, if_pos (by omega), show k + 1 + r.length = k + (r.length + 1) by omega]
    simp
theorem full_wr {l b : List UInt8} {k : Nat} (h : k + b.length ≤ l.length) : wrE (full l) k b = 0 ∧ wrS (full l) k b = full (spl l k b) := by
  have hl : (full l).c.length = l.length := by simp [full]
  have hi : inn (full l).c.length k b.length = true := inn_iff.2 ⟨by omega, by omega, by omega⟩
  have hw : wgo b k (full l) = full (spl l k b) := by rw [full_wgo, fold_spl b k l h]
  unfold wrE wrS
  rw [if_pos hi, if_pos (And.intro hi (show (full l).dead = false from rfl)), Int.toNat_natCast, hw]
  exact ⟨by rw [if_neg (show ¬ (full l).dead = true by simp [full]), if_neg (show ¬ (full (spl l k b)).dead = true by simp [full])], rfl⟩
theorem full_no {l b : List UInt8} {k : Nat} (h : ¬ k + b.length ≤ l.length) : wrE (full l) k b = 2 ∧ wrS (full l) k b = full l := by
  have hl : (full l).c.length = l.length := by simp [full]
  have hi : ¬ inn (full l).c.length k b.length = true := by rw [inn_iff]; omega
  unfold wrE wrS
  rw [if_neg hi, if_neg (fun h2 => hi h2.1)]
  exact ⟨rfl, rfl⟩
theorem full_rd (l : List UInt8) (n : Nat) (h : l.length = n) : rdE (full l) 0 n = 0 ∧ rdB (full l) 0 n = l := by
  subst h
  have hl : (full l).c.length = l.length := by simp [full]
  have hi : inn (full l).c.length 0 l.length = true := inn_iff.2 ⟨by omega, by omega, by omega⟩
  have hL : rdL (full l) 0 l.length = l.map fun x => (x, false) := by
    unfold rdL full
    simp only [Int.toNat_zero, List.drop_zero, Int.toNat_natCast]
    rw [List.take_of_length_le (by simp)]
  have e : rdE (full l) 0 l.length = 0 := by
    unfold rdE
    rw [if_pos hi, hL]
    simp [full]
  refine ⟨e, ?_⟩
  unfold rdB
  rw [if_pos e, hL, List.map_map]
  exact List.map_id l

theorem place {z : Int} {m : Nat} (h1 : 1 ≤ m) (h2 : m ≤ 60) : ∃ K : Nat, K < m ∧ (wrap64 (z.tmod m + m)).tmod m = (K : Int) := by
  have a := Int.tmod_lt_of_pos z (show (0 : Int) < m by omega)
  have b := Int.lt_tmod_of_pos z (show (0 : Int) < m by omega)
  rw [IntWalk.wrap64_in _ ⟨by omega, by omega⟩, Int.tmod_eq_emod_of_nonneg (by omega)]
  have c := Int.emod_nonneg (z.tmod m + m) (show (m : Int) ≠ 0 by omega)
  have d := Int.emod_lt_of_pos (z.tmod m + m) (show (0 : Int) < m by omega)
  obtain ⟨K, hK⟩ := Int.eq_ofNat_of_zero_le c
  exact ⟨K, by omega, hK⟩
end Go.Proofs.Ytoinjapmioldaaa

namespace Go.Proofs.Ytoinjapmioldaaa
open Go.RowKit
attribute [local go_sem ↓] Go.wp_at_zero Go.wp_at_succ

theorem wgo_torn : ∀ (b : List UInt8) (k : Nat) (s : St) (f : Nat), s.fuse = f → f < b.length → k + b.length ≤ s.c.length →
    (wgo b k s).dead = true ∧ (wgo b k s).c[k + f]? = some (s.by_, s.torn) ∧ ∀ j, j ≠ k + f → (wgo b k s).c[j]? = if k ≤ j ∧ j < k + f then (b[j - k]?).map (fun x => (x, false)) else s.c[j]?
  | [], _, _, _, _, h, _ => by simp at h
  | x :: r, k, s, f, hf, hb, hl => by
    simp only [List.length_cons] at hb hl
    unfold wgo
    cases f with
    | zero =>
      rw [if_pos (by rw [hf]; rfl)]
      refine ⟨rfl, ?_, fun j hj => ?_⟩
      · simp only [St.tear, Nat.add_zero]
        rw [List.getElem?_set_self (by omega)]
      · simp only [St.tear]
        rw [List.getElem?_set_ne (by omega), if_neg (by omega)]
    | succ f =>
      rw [if_neg (by rw [hf]; omega)]
      have hs : (s.step k x).fuse = (f : Int) := by unfold St.step; simp only; rw [if_pos (by omega)]; omega
      have hl2 : (s.step k x).c.length = s.c.length := by simp [St.step]
      obtain ⟨h1, h2, h3⟩ := wgo_torn r (k + 1) (s.step k x) f hs (by omega) (by rw [hl2]; omega)
      refine ⟨h1, ?_, fun j hj => ?_⟩
      · rw [show k + (f + 1) = k + 1 + f by omega]; exact h2
      · rw [h3 j (by omega)]
        by_cases hk : j = k
        · subst hk
          rw [if_neg (by omega), if_pos (by omega)]
          simp only [St.step, Nat.sub_self]
          rw [List.getElem?_set_self (by omega)]
          rfl
        · by_cases h4 : k ≤ j ∧ j < k + (f + 1)
          · rw [if_pos h4, if_pos (by omega), show j - k = (j - (k + 1)) + 1 by omega]
            rfl
          · rw [if_neg h4, if_neg (by omega)]
            simp only [St.step]
            rw [List.getElem?_set_ne (by omega)]
theorem wgo_whole : ∀ (b : List UInt8) (k : Nat) (s : St) (f : Nat), s.fuse = f → b.length ≤ f → s.dead = false → k + b.length ≤ s.c.length →
    (wgo b k s).dead = false ∧ ∀ j, (wgo b k s).c[j]? = if k ≤ j ∧ j < k + b.length then (b[j - k]?).map (fun x => (x, false)) else s.c[j]?
  | [], k, s, f, _, _, hd, _ => ⟨hd, fun j => by rw [if_neg (by simp only [List.length_nil]; omega)]; rfl⟩
  | x :: r, k, s, f, hf, hb, hd, hl => by
    simp only [List.length_cons] at hb hl
    unfold wgo
    cases f with
    | zero => omega
    | succ f =>
      rw [if_neg (by rw [hf]; omega)]
      have hs : (s.step k x).fuse = (f : Int) := by unfold St.step; simp only; rw [if_pos (by omega)]; omega
      have hl2 : (s.step k x).c.length = s.c.length := by simp [St.step]
      obtain ⟨h1, h3⟩ := wgo_whole r (k + 1) (s.step k x) f hs (by omega) hd (by rw [hl2]; omega)
      refine ⟨h1, fun j => ?_⟩
      rw [h3 j]
      simp only [List.length_cons]
      by_cases hk : j = k
      · subst hk
        rw [if_neg (by omega), if_pos (by omega)]
        simp only [St.step, Nat.sub_self]
        rw [List.getElem?_set_self (by omega)]
        rfl
      · by_cases h4 : k ≤ j ∧ j < k + (r.length + 1)
        · rw [if_pos h4, if_pos (by omega), show j - k = (j - (k + 1)) + 1 by omega]
          rfl
        · rw [if_neg h4, if_neg (by omega)]
          simp only [St.step]
          rw [List.getElem?_set_ne (by omega)]
/-- One byte is read. -/
theorem rd_one {s : St} {i : Nat} {c : Ce} (h : s.c[i]? = some c) (hd : s.dead = false) : rdE s i 1 = (if c.2 = true then 8 else 0) ∧ rdB s i 1 = (if c.2 = true then [] else [c.1]) := by
  have hi := (List.getElem?_eq_some_iff.1 h).1
  have hL : rdL s i 1 = [c] := by
    unfold rdL
    rw [Int.toNat_natCast, show (1 : Int).toNat = 1 from rfl, List.drop_eq_getElem_cons hi]
    have : s.c[i] = c := (List.getElem?_eq_some_iff.1 h).2
    simp [this]
  have e : rdE s i 1 = (if c.2 = true then 8 else 0) := by
    unfold rdE
    rw [if_pos (inn_iff.2 ⟨by omega, by omega, by omega⟩), if_neg (by rw [hd]; simp), hL]
    simp
  refine ⟨e, ?_⟩
  unfold rdB
  rw [e, hL]
  cases hc : c.2 <;> simp
/-- A store that holds these bytes, with a fuse. -/
def fused (l : List UInt8) (f : Nat) (x : UInt8) (t : Bool) : St := fuS (full l) f x t
/-- Behind the second write, raised. -/
def torn (l0 l1 : List UInt8) (f : Nat) (x : UInt8) (t : Bool) : St := raS (wgo l1 0 (fused l0 f x t))
theorem fused_at (l : List UInt8) (f : Nat) (x : UInt8) (t : Bool) (j : Nat) : (fused l f x t).c[j]? = (l[j]?).map (fun x => (x, false)) := by simp [fused, fuS, full]
theorem torn_yes {l0 l1 : List UInt8} {f : Nat} {x : UInt8} {t : Bool} (h : f < l1.length) (hl : l1.length ≤ l0.length) :
    (wgo l1 0 (fused l0 f x t)).dead = true ∧ (torn l0 l1 f x t).c[f]? = some (x, t) ∧ ∀ j, j ≠ f → (torn l0 l1 f x t).c[j]? = if j < f then (l1[j]?).map (fun x => (x, false)) else (l0[j]?).map (fun x => (x, false)) := by
  have hl2 : (fused l0 f x t).c.length = l0.length := by simp [fused, fuS, full]
  obtain ⟨h1, h2, h3⟩ := wgo_torn l1 0 (fused l0 f x t) f rfl h (by rw [hl2]; omega)
  refine ⟨h1, ?_, fun j hj => ?_⟩
  · rw [Nat.zero_add] at h2; exact h2
  · have := h3 j (by omega)
    rw [fused_at] at this
    show (wgo l1 0 (fused l0 f x t)).c[j]? = _
    rw [this]
    by_cases h4 : j < f
    · rw [if_pos (by omega), if_pos h4]; rfl
    · rw [if_neg (by omega), if_neg h4]
theorem torn_no {l0 l1 : List UInt8} {f : Nat} {x : UInt8} {t : Bool} (h : l1.length ≤ f) (hl : l1.length ≤ l0.length) :
    (wgo l1 0 (fused l0 f x t)).dead = false ∧ ∀ j, (torn l0 l1 f x t).c[j]? = if j < l1.length then (l1[j]?).map (fun x => (x, false)) else (l0[j]?).map (fun x => (x, false)) := by
  have hl2 : (fused l0 f x t).c.length = l0.length := by simp [fused, fuS, full]
  obtain ⟨h1, h3⟩ := wgo_whole l1 0 (fused l0 f x t) f rfl h rfl (by rw [hl2]; omega)
  refine ⟨h1, fun j => ?_⟩
  have := h3 j
  rw [fused_at] at this
  show (wgo l1 0 (fused l0 f x t)).c[j]? = _
  rw [this]
  by_cases h4 : j < l1.length
  · rw [if_pos (by omega), if_pos h4]; rfl
  · rw [if_neg (by omega), if_neg h4]
theorem fused_wr {l0 l1 : List UInt8} {f : Nat} {x : UInt8} {t : Bool} (hl : l1.length ≤ l0.length) : wrE (fused l0 f x t) 0 l1 = pe (wgo l1 0 (fused l0 f x t)) ∧ wrS (fused l0 f x t) 0 l1 = wgo l1 0 (fused l0 f x t) := by
  have hl2 : (fused l0 f x t).c.length = l0.length := by simp [fused, fuS, full]
  have hi : inn (fused l0 f x t).c.length 0 l1.length = true := inn_iff.2 ⟨by omega, by omega, by omega⟩
  unfold wrE wrS pe
  rw [if_pos hi, if_pos (And.intro hi (show (fused l0 f x t).dead = false from rfl)), if_neg (show ¬ (fused l0 f x t).dead = true by simp [fused, fuS, full])]
  exact ⟨rfl, rfl⟩
end Go.Proofs.Ytoinjapmioldaaa

namespace Go.Proofs.Ytoinjapmioldaaa
open Go.RowKit
end Go.Proofs.Ytoinjapmioldaaa

namespace Go.Proofs.Ytoinjapmioldaaa
open Go.RowKit
attribute [local go_sem ↓] Go.wp_at_zero Go.wp_at_succ

/-- Both hold the same. -/
structure Bo (p g cap q b u cb cu : Nat) (s : St) (w : World) : Prop where
  P : PSt p g cap s w
  R : RSt q b u cb cu (nrm s) w
  apart : p ≠ q ∧ p ≠ b ∧ p ≠ u ∧ g ≠ q ∧ g ≠ b ∧ g ≠ u
theorem Bo.chg {p g cap q b u cb cu : Nat} {s : St} {w w' : World} (h : Bo p g cap q b u cb cu s w) {l : List Nat} (hm : Chg l w w') (hl : p ∉ l ∧ g ∉ l ∧ q ∉ l ∧ b ∉ l ∧ u ∉ l) : Bo p g cap q b u cb cu s w' :=
  ⟨h.P.chg hm hl.1 hl.2.1, h.R.chg hm hl.2.2.1 hl.2.2.2.1 hl.2.2.2.2, h.apart⟩
theorem Bo.later {p g cap q b u cb cu : Nat} {s : St} {w w' : World} (h : Bo p g cap q b u cb cu s w) (hb : Below w.heap.size w w') : Bo p g cap q b u cb cu s w' := h.chg (Chg.of_below [] hb) (by simp)
/-- Both made. -/
theorem Bo.made {p g q b u n : Nat} {w1 w2 : World} (hP : PSt p g n (nw n) w1) (hR : RSt q b u n n (nw n) w2) (hb : Below w1.heap.size w1 w2) (h1 : w1.heap.size ≤ q) (h2 : w1.heap.size ≤ b) (h3 : w1.heap.size ≤ u) : Bo p g n q b u n n (nw n) w2 := by
  have := hP.lt
  exact ⟨hP.later hb, hR, by omega⟩
end Go.Proofs.Ytoinjapmioldaaa
