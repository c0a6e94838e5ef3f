/- A store that is not there, and a zero one: the walks; StoreNil's walk.
   The chapter's rows: the walk of the law's 'known'.
   The reference's Begin: the walk, way by way. -/
import Derived.Test.YtoinjapmioldaaaZ01
import Derived.Test.YtoinjapmioldaaaZ05

set_option linter.unusedSimpArgs false
set_option linter.unusedVariables false
namespace Go.Proofs.Ytoinjapmioldaaa
open Go.RowKit
attribute [local go_sem ↓] Go.wp_at_zero Go.wp_at_succ

/-- What the reference's Begin leaves. -/
def BeR (q b u cb cu : Nat) (s : St) (w : World) (e : Ending) (w' : World) : Prop :=
  e = .returned (.tuple #[.int .u64 (bN s : Nat), .int .i64 (bE s)]) ∧ RSt q b u cb cu (bS s) w' ∧ Chg [q, b, u] w w'
/-- The same, where a slot is written. -/
def BeY (q b u cb cu : Nat) (s : St) (A : Int) (M : Nat) (w : World) (e : Ending) (w' : World) : Prop :=
  e = .returned (.tuple #[.int .u64 (if wrE s A (sl (M + 1)) = 0 then (M : Int) + 1 else 0), .int .i64 (wrE s A (sl (M + 1)))]) ∧ RSt q b u cb cu (wrS s A (sl (M + 1))) w' ∧ Chg [q, b, u] w w'
set_option maxHeartbeats 8000000 in
set_option maxRecDepth 100000 in
theorem begAy {q b u cb cu : Nat} {s : St} {w : World} (h : RSt q b u cb cu s w) (x y : Nat) (e0 : cE s = 0) (eM : cM s = x) (ex : sN s 0 = x) (ey : sN s 1 = y) (eo : sO s 0 = true) (ek : sO s 1 = false) (hm : x < 18446744073709551615) :
    Calls Try.prog 18 #[.pointer (some ⟨q, 0, none⟩)] w (BeY q b u cb cu s 16 x w) := by
  unfold BeY
  have HP := Lib.hid h
  have HC := Lib.hid (countR h)
  rw [show cN s = x by unfold cN; rw [if_pos e0, eM], e0] at HC
  have HLT := Lib.hid h.lt
  have HSL : Hid (∀ w', Below w.heap.size w w' → Calls Try.prog 32 #[.pointer (some ⟨q, 0, none⟩)] w' fun e w'' => e = .returned (.tuple #[.agg #[.int .u64 (x : Nat), .int .u64 (y : Nat)], .agg #[.bool true, .bool false]]) ∧ Below w'.heap.size w' w'') := fun w' hb => by
    have := slotsR (HP.out.later hb)
    rw [ex, ey, eo, ek] at this
    exact this
  have ht : ((x : Int) == 18446744073709551615) = false := beq_eq_false_iff_ne.2 (by omega)
  have hw : IntKind.u64.wrap ((x : Int) + 1) = (x : Int) + 1 := IntWalk.u64_in _ ⟨by omega, by omega⟩
  have HS := fun w => slotR (x + 1) w (by omega)
  rw [show ((x + 1 : Nat) : Int) = (x : Int) + 1 by omega] at HS
  have HS := Lib.hid HS
  obtain ⟨r, hr⟩ : ∃ r, r = wrE s 16 (sl (x + 1)) := ⟨_, rfl⟩
  rw [← hr]
  have HR := Lib.hid hr
  clear h e0 eM ex ey eo ek hm hr
  by_cases hz : r = 0
  · subst hz
    rw [if_pos rfl]
    go_enter Try.func18, Try.ntmps18
    go_wp2_with fail
    refine HC.out.mono ?_
    rintro e w1 ⟨rfl, hb⟩
    have HB := Lib.hid hb
    clear hb HC
    go_wp2_with fail
    refine (HSL.out w1 HB.out).mono ?_
    rintro e w2 ⟨rfl, hb⟩
    have HB2 := Lib.hid (below_of HB.out hb)
    have HBW := Lib.hid (two_more HB2.out (.cells #[.int .u64 (x : Int), .int .u64 (y : Int)] 63) (.cells #[.bool true, .bool false] 64))
    obtain ⟨w3, hw3⟩ : ∃ w3, w3 = (w2.alloc (.cells #[.int .u64 (x : Int), .int .u64 (y : Int)] 63)).alloc (.cells #[.bool true, .bool false] 64) := ⟨_, rfl⟩
    have HW := Lib.hid hw3
    rw [← hw3] at HBW
    clear hb hw3 HSL
    go_wp2_with fail
    rw [← HW.out]
    refine (HS.out w3).mono ?_
    rintro e w4 ⟨v, rfl, hv, hb⟩
    obtain ⟨g2, cap2, cur, rfl, hg2, _, _, _⟩ := OwnB.row hv (by rw [sl_length]; omega)
    rw [sl_length]
    have hby := hv.bytes
    rw [sl_length] at hby
    have HB4 := Lib.hid (below_of HBW.out hb)
    have HK := Lib.hid (writeR (HP.out.later HB4.out) 16 _ (sl (x + 1)) (by rw [sl_length]; omega) (fun W hW => hby.chg hW (by have := HLT.out; have := HBW.out.size; simp; omega)))
    unfold WrR at HK
    rw [← HR.out] at HK
    clear hv hg2 hby hb
    go_wp2_with fail
    refine HK.out.mono ?_
    rintro e w5 ⟨rfl, hP, hC⟩
    have HP5 := Lib.hid hP
    have HC5 := Lib.hid ((Chg.of_below [q, b, u] HB4.out).trans hC)
    clear hP hC HK
    go_wp2_with fail
    go_ret2
    exact ⟨rfl, HP5.out, HC5.out⟩
  · rw [if_neg hz]
    have t1 : (r != 0) = true := bne_iff_ne.2 hz
    clear hz
    go_enter Try.func18, Try.ntmps18
    go_wp2_with fail
    refine HC.out.mono ?_
    rintro e w1 ⟨rfl, hb⟩
    have HB := Lib.hid hb
    clear hb HC
    go_wp2_with fail
    refine (HSL.out w1 HB.out).mono ?_
    rintro e w2 ⟨rfl, hb⟩
    have HB2 := Lib.hid (below_of HB.out hb)
    have HBW := Lib.hid (two_more HB2.out (.cells #[.int .u64 (x : Int), .int .u64 (y : Int)] 63) (.cells #[.bool true, .bool false] 64))
    obtain ⟨w3, hw3⟩ : ∃ w3, w3 = (w2.alloc (.cells #[.int .u64 (x : Int), .int .u64 (y : Int)] 63)).alloc (.cells #[.bool true, .bool false] 64) := ⟨_, rfl⟩
    have HW := Lib.hid hw3
    rw [← hw3] at HBW
    clear hb hw3 HSL
    go_wp2_with fail
    rw [← HW.out]
    refine (HS.out w3).mono ?_
    rintro e w4 ⟨v, rfl, hv, hb⟩
    obtain ⟨g2, cap2, cur, rfl, hg2, _, _, _⟩ := OwnB.row hv (by rw [sl_length]; omega)
    rw [sl_length]
    have hby := hv.bytes
    rw [sl_length] at hby
    have HB4 := Lib.hid (below_of HBW.out hb)
    have HK := Lib.hid (writeR (HP.out.later HB4.out) 16 _ (sl (x + 1)) (by rw [sl_length]; omega) (fun W hW => hby.chg hW (by have := HLT.out; have := HBW.out.size; simp; omega)))
    unfold WrR at HK
    rw [← HR.out] at HK
    clear hv hg2 hby hb
    go_wp2_with fail
    refine HK.out.mono ?_
    rintro e w5 ⟨rfl, hP, hC⟩
    have HP5 := Lib.hid hP
    have HC5 := Lib.hid ((Chg.of_below [q, b, u] HB4.out).trans hC)
    clear hP hC HK
    go_wp2_with fail
    go_ret2
    exact ⟨rfl, HP5.out, HC5.out⟩
set_option maxHeartbeats 8000000 in
set_option maxRecDepth 100000 in
theorem begBy {q b u cb cu : Nat} {s : St} {w : World} (h : RSt q b u cb cu s w) (x y : Nat) (hlt : y < x) (e0 : cE s = 0) (eM : cM s = x) (ex : sN s 0 = x) (ey : sN s 1 = y) (eo : sO s 0 = true) (ek : sO s 1 = true) (hm : x < 18446744073709551615) :
    Calls Try.prog 18 #[.pointer (some ⟨q, 0, none⟩)] w (BeY q b u cb cu s 16 x w) := by
  unfold BeY
  have HP := Lib.hid h
  have HC := Lib.hid (countR h)
  rw [show cN s = x by unfold cN; rw [if_pos e0, eM], e0] at HC
  have HLT := Lib.hid h.lt
  have HSL : Hid (∀ w', Below w.heap.size w w' → Calls Try.prog 32 #[.pointer (some ⟨q, 0, none⟩)] w' fun e w'' => e = .returned (.tuple #[.agg #[.int .u64 (x : Nat), .int .u64 (y : Nat)], .agg #[.bool true, .bool true]]) ∧ Below w'.heap.size w' w'') := fun w' hb => by
    have := slotsR (HP.out.later hb)
    rw [ex, ey, eo, ek] at this
    exact this
  have ht : ((x : Int) == 18446744073709551615) = false := beq_eq_false_iff_ne.2 (by omega)
  have hw : IntKind.u64.wrap ((x : Int) + 1) = (x : Int) + 1 := IntWalk.u64_in _ ⟨by omega, by omega⟩
  have HS := fun w => slotR (x + 1) w (by omega)
  rw [show ((x + 1 : Nat) : Int) = (x : Int) + 1 by omega] at HS
  have HS := Lib.hid HS
  have q1 : ((y : Int) == (x : Int)) = false := beq_eq_false_iff_ne.2 (by omega)
  have q2 : (y == x) = false := beq_eq_false_iff_ne.2 (by omega)
  clear hlt
  obtain ⟨r, hr⟩ : ∃ r, r = wrE s 16 (sl (x + 1)) := ⟨_, rfl⟩
  rw [← hr]
  have HR := Lib.hid hr
  clear h e0 eM ex ey eo ek hm hr
  by_cases hz : r = 0
  · subst hz
    rw [if_pos rfl]
    go_enter Try.func18, Try.ntmps18
    go_wp2_with fail
    refine HC.out.mono ?_
    rintro e w1 ⟨rfl, hb⟩
    have HB := Lib.hid hb
    clear hb HC
    go_wp2_with fail
    refine (HSL.out w1 HB.out).mono ?_
    rintro e w2 ⟨rfl, hb⟩
    have HB2 := Lib.hid (below_of HB.out hb)
    have HBW := Lib.hid (two_more HB2.out (.cells #[.int .u64 (x : Int), .int .u64 (y : Int)] 63) (.cells #[.bool true, .bool true] 64))
    obtain ⟨w3, hw3⟩ : ∃ w3, w3 = (w2.alloc (.cells #[.int .u64 (x : Int), .int .u64 (y : Int)] 63)).alloc (.cells #[.bool true, .bool true] 64) := ⟨_, rfl⟩
    have HW := Lib.hid hw3
    rw [← hw3] at HBW
    clear hb hw3 HSL
    go_wp2_with fail
    rw [← HW.out]
    refine (HS.out w3).mono ?_
    rintro e w4 ⟨v, rfl, hv, hb⟩
    obtain ⟨g2, cap2, cur, rfl, hg2, _, _, _⟩ := OwnB.row hv (by rw [sl_length]; omega)
    rw [sl_length]
    have hby := hv.bytes
    rw [sl_length] at hby
    have HB4 := Lib.hid (below_of HBW.out hb)
    have HK := Lib.hid (writeR (HP.out.later HB4.out) 16 _ (sl (x + 1)) (by rw [sl_length]; omega) (fun W hW => hby.chg hW (by have := HLT.out; have := HBW.out.size; simp; omega)))
    unfold WrR at HK
    rw [← HR.out] at HK
    clear hv hg2 hby hb
    go_wp2_with fail
    refine HK.out.mono ?_
    rintro e w5 ⟨rfl, hP, hC⟩
    have HP5 := Lib.hid hP
    have HC5 := Lib.hid ((Chg.of_below [q, b, u] HB4.out).trans hC)
    clear hP hC HK
    go_wp2_with fail
    go_ret2
    exact ⟨rfl, HP5.out, HC5.out⟩
  · rw [if_neg hz]
    have t1 : (r != 0) = true := bne_iff_ne.2 hz
    clear hz
    go_enter Try.func18, Try.ntmps18
    go_wp2_with fail
    refine HC.out.mono ?_
    rintro e w1 ⟨rfl, hb⟩
    have HB := Lib.hid hb
    clear hb HC
    go_wp2_with fail
    refine (HSL.out w1 HB.out).mono ?_
    rintro e w2 ⟨rfl, hb⟩
    have HB2 := Lib.hid (below_of HB.out hb)
    have HBW := Lib.hid (two_more HB2.out (.cells #[.int .u64 (x : Int), .int .u64 (y : Int)] 63) (.cells #[.bool true, .bool true] 64))
    obtain ⟨w3, hw3⟩ : ∃ w3, w3 = (w2.alloc (.cells #[.int .u64 (x : Int), .int .u64 (y : Int)] 63)).alloc (.cells #[.bool true, .bool true] 64) := ⟨_, rfl⟩
    have HW := Lib.hid hw3
    rw [← hw3] at HBW
    clear hb hw3 HSL
    go_wp2_with fail
    rw [← HW.out]
    refine (HS.out w3).mono ?_
    rintro e w4 ⟨v, rfl, hv, hb⟩
    obtain ⟨g2, cap2, cur, rfl, hg2, _, _, _⟩ := OwnB.row hv (by rw [sl_length]; omega)
    rw [sl_length]
    have hby := hv.bytes
    rw [sl_length] at hby
    have HB4 := Lib.hid (below_of HBW.out hb)
    have HK := Lib.hid (writeR (HP.out.later HB4.out) 16 _ (sl (x + 1)) (by rw [sl_length]; omega) (fun W hW => hby.chg hW (by have := HLT.out; have := HBW.out.size; simp; omega)))
    unfold WrR at HK
    rw [← HR.out] at HK
    clear hv hg2 hby hb
    go_wp2_with fail
    refine HK.out.mono ?_
    rintro e w5 ⟨rfl, hP, hC⟩
    have HP5 := Lib.hid hP
    have HC5 := Lib.hid ((Chg.of_below [q, b, u] HB4.out).trans hC)
    clear hP hC HK
    go_wp2_with fail
    go_ret2
    exact ⟨rfl, HP5.out, HC5.out⟩
set_option maxHeartbeats 8000000 in
set_option maxRecDepth 100000 in
theorem begCy {q b u cb cu : Nat} {s : St} {w : World} (h : RSt q b u cb cu s w) (x y : Nat) (e0 : cE s = 0) (eM : cM s = y) (ex : sN s 0 = x) (ey : sN s 1 = y) (eo : sO s 0 = false) (ek : sO s 1 = true) (hm : y < 18446744073709551615) :
    Calls Try.prog 18 #[.pointer (some ⟨q, 0, none⟩)] w (BeY q b u cb cu s 0 y w) := by
  unfold BeY
  have HP := Lib.hid h
  have HC := Lib.hid (countR h)
  rw [show cN s = y by unfold cN; rw [if_pos e0, eM], e0] at HC
  have HLT := Lib.hid h.lt
  have HSL : Hid (∀ w', Below w.heap.size w w' → Calls Try.prog 32 #[.pointer (some ⟨q, 0, none⟩)] w' fun e w'' => e = .returned (.tuple #[.agg #[.int .u64 (x : Nat), .int .u64 (y : Nat)], .agg #[.bool false, .bool true]]) ∧ Below w'.heap.size w' w'') := fun w' hb => by
    have := slotsR (HP.out.later hb)
    rw [ex, ey, eo, ek] at this
    exact this
  have ht : ((y : Int) == 18446744073709551615) = false := beq_eq_false_iff_ne.2 (by omega)
  have hw : IntKind.u64.wrap ((y : Int) + 1) = (y : Int) + 1 := IntWalk.u64_in _ ⟨by omega, by omega⟩
  have HS := fun w => slotR (y + 1) w (by omega)
  rw [show ((y + 1 : Nat) : Int) = (y : Int) + 1 by omega] at HS
  have HS := Lib.hid HS
  obtain ⟨r, hr⟩ : ∃ r, r = wrE s 0 (sl (y + 1)) := ⟨_, rfl⟩
  rw [← hr]
  have HR := Lib.hid hr
  clear h e0 eM ex ey eo ek hm hr
  by_cases hz : r = 0
  · subst hz
    rw [if_pos rfl]
    go_enter Try.func18, Try.ntmps18
    go_wp2_with fail
    refine HC.out.mono ?_
    rintro e w1 ⟨rfl, hb⟩
    have HB := Lib.hid hb
    clear hb HC
    go_wp2_with fail
    refine (HSL.out w1 HB.out).mono ?_
    rintro e w2 ⟨rfl, hb⟩
    have HB2 := Lib.hid (below_of HB.out hb)
    have HBW := Lib.hid (two_more HB2.out (.cells #[.int .u64 (x : Int), .int .u64 (y : Int)] 63) (.cells #[.bool false, .bool true] 64))
    obtain ⟨w3, hw3⟩ : ∃ w3, w3 = (w2.alloc (.cells #[.int .u64 (x : Int), .int .u64 (y : Int)] 63)).alloc (.cells #[.bool false, .bool true] 64) := ⟨_, rfl⟩
    have HW := Lib.hid hw3
    rw [← hw3] at HBW
    clear hb hw3 HSL
    go_wp2_with fail
    rw [← HW.out]
    refine (HS.out w3).mono ?_
    rintro e w4 ⟨v, rfl, hv, hb⟩
    obtain ⟨g2, cap2, cur, rfl, hg2, _, _, _⟩ := OwnB.row hv (by rw [sl_length]; omega)
    rw [sl_length]
    have hby := hv.bytes
    rw [sl_length] at hby
    have HB4 := Lib.hid (below_of HBW.out hb)
    have HK := Lib.hid (writeR (HP.out.later HB4.out) 0 _ (sl (y + 1)) (by rw [sl_length]; omega) (fun W hW => hby.chg hW (by have := HLT.out; have := HBW.out.size; simp; omega)))
    unfold WrR at HK
    rw [← HR.out] at HK
    clear hv hg2 hby hb
    go_wp2_with fail
    refine HK.out.mono ?_
    rintro e w5 ⟨rfl, hP, hC⟩
    have HP5 := Lib.hid hP
    have HC5 := Lib.hid ((Chg.of_below [q, b, u] HB4.out).trans hC)
    clear hP hC HK
    go_wp2_with fail
    go_ret2
    exact ⟨rfl, HP5.out, HC5.out⟩
  · rw [if_neg hz]
    have t1 : (r != 0) = true := bne_iff_ne.2 hz
    clear hz
    go_enter Try.func18, Try.ntmps18
    go_wp2_with fail
    refine HC.out.mono ?_
    rintro e w1 ⟨rfl, hb⟩
    have HB := Lib.hid hb
    clear hb HC
    go_wp2_with fail
    refine (HSL.out w1 HB.out).mono ?_
    rintro e w2 ⟨rfl, hb⟩
    have HB2 := Lib.hid (below_of HB.out hb)
    have HBW := Lib.hid (two_more HB2.out (.cells #[.int .u64 (x : Int), .int .u64 (y : Int)] 63) (.cells #[.bool false, .bool true] 64))
    obtain ⟨w3, hw3⟩ : ∃ w3, w3 = (w2.alloc (.cells #[.int .u64 (x : Int), .int .u64 (y : Int)] 63)).alloc (.cells #[.bool false, .bool true] 64) := ⟨_, rfl⟩
    have HW := Lib.hid hw3
    rw [← hw3] at HBW
    clear hb hw3 HSL
    go_wp2_with fail
    rw [← HW.out]
    refine (HS.out w3).mono ?_
    rintro e w4 ⟨v, rfl, hv, hb⟩
    obtain ⟨g2, cap2, cur, rfl, hg2, _, _, _⟩ := OwnB.row hv (by rw [sl_length]; omega)
    rw [sl_length]
    have hby := hv.bytes
    rw [sl_length] at hby
    have HB4 := Lib.hid (below_of HBW.out hb)
    have HK := Lib.hid (writeR (HP.out.later HB4.out) 0 _ (sl (y + 1)) (by rw [sl_length]; omega) (fun W hW => hby.chg hW (by have := HLT.out; have := HBW.out.size; simp; omega)))
    unfold WrR at HK
    rw [← HR.out] at HK
    clear hv hg2 hby hb
    go_wp2_with fail
    refine HK.out.mono ?_
    rintro e w5 ⟨rfl, hP, hC⟩
    have HP5 := Lib.hid hP
    have HC5 := Lib.hid ((Chg.of_below [q, b, u] HB4.out).trans hC)
    clear hP hC HK
    go_wp2_with fail
    go_ret2
    exact ⟨rfl, HP5.out, HC5.out⟩
set_option maxHeartbeats 8000000 in
set_option maxRecDepth 100000 in
theorem begDy {q b u cb cu : Nat} {s : St} {w : World} (h : RSt q b u cb cu s w) (y : Nat) (e0 : cE s = 0) (eM : cM s = y) (ex : sN s 0 = y) (ey : sN s 1 = y) (eo : sO s 0 = true) (ek : sO s 1 = true) (hm : y < 18446744073709551615) :
    Calls Try.prog 18 #[.pointer (some ⟨q, 0, none⟩)] w (BeY q b u cb cu s 0 y w) := by
  unfold BeY
  have HP := Lib.hid h
  have HC := Lib.hid (countR h)
  rw [show cN s = y by unfold cN; rw [if_pos e0, eM], e0] at HC
  have HLT := Lib.hid h.lt
  have HSL : Hid (∀ w', Below w.heap.size w w' → Calls Try.prog 32 #[.pointer (some ⟨q, 0, none⟩)] w' fun e w'' => e = .returned (.tuple #[.agg #[.int .u64 (y : Nat), .int .u64 (y : Nat)], .agg #[.bool true, .bool true]]) ∧ Below w'.heap.size w' w'') := fun w' hb => by
    have := slotsR (HP.out.later hb)
    rw [ex, ey, eo, ek] at this
    exact this
  have ht : ((y : Int) == 18446744073709551615) = false := beq_eq_false_iff_ne.2 (by omega)
  have hw : IntKind.u64.wrap ((y : Int) + 1) = (y : Int) + 1 := IntWalk.u64_in _ ⟨by omega, by omega⟩
  have HS := fun w => slotR (y + 1) w (by omega)
  rw [show ((y + 1 : Nat) : Int) = (y : Int) + 1 by omega] at HS
  have HS := Lib.hid HS
  obtain ⟨r, hr⟩ : ∃ r, r = wrE s 0 (sl (y + 1)) := ⟨_, rfl⟩
  rw [← hr]
  have HR := Lib.hid hr
  clear h e0 eM ex ey eo ek hm hr
  by_cases hz : r = 0
  · subst hz
    rw [if_pos rfl]
    go_enter Try.func18, Try.ntmps18
    go_wp2_with fail
    refine HC.out.mono ?_
    rintro e w1 ⟨rfl, hb⟩
    have HB := Lib.hid hb
    clear hb HC
    go_wp2_with fail
    refine (HSL.out w1 HB.out).mono ?_
    rintro e w2 ⟨rfl, hb⟩
    have HB2 := Lib.hid (below_of HB.out hb)
    have HBW := Lib.hid (two_more HB2.out (.cells #[.int .u64 (y : Int), .int .u64 (y : Int)] 63) (.cells #[.bool true, .bool true] 64))
    obtain ⟨w3, hw3⟩ : ∃ w3, w3 = (w2.alloc (.cells #[.int .u64 (y : Int), .int .u64 (y : Int)] 63)).alloc (.cells #[.bool true, .bool true] 64) := ⟨_, rfl⟩
    have HW := Lib.hid hw3
    rw [← hw3] at HBW
    clear hb hw3 HSL
    go_wp2_with fail
    rw [← HW.out]
    refine (HS.out w3).mono ?_
    rintro e w4 ⟨v, rfl, hv, hb⟩
    obtain ⟨g2, cap2, cur, rfl, hg2, _, _, _⟩ := OwnB.row hv (by rw [sl_length]; omega)
    rw [sl_length]
    have hby := hv.bytes
    rw [sl_length] at hby
    have HB4 := Lib.hid (below_of HBW.out hb)
    have HK := Lib.hid (writeR (HP.out.later HB4.out) 0 _ (sl (y + 1)) (by rw [sl_length]; omega) (fun W hW => hby.chg hW (by have := HLT.out; have := HBW.out.size; simp; omega)))
    unfold WrR at HK
    rw [← HR.out] at HK
    clear hv hg2 hby hb
    go_wp2_with fail
    refine HK.out.mono ?_
    rintro e w5 ⟨rfl, hP, hC⟩
    have HP5 := Lib.hid hP
    have HC5 := Lib.hid ((Chg.of_below [q, b, u] HB4.out).trans hC)
    clear hP hC HK
    go_wp2_with fail
    go_ret2
    exact ⟨rfl, HP5.out, HC5.out⟩
  · rw [if_neg hz]
    have t1 : (r != 0) = true := bne_iff_ne.2 hz
    clear hz
    go_enter Try.func18, Try.ntmps18
    go_wp2_with fail
    refine HC.out.mono ?_
    rintro e w1 ⟨rfl, hb⟩
    have HB := Lib.hid hb
    clear hb HC
    go_wp2_with fail
    refine (HSL.out w1 HB.out).mono ?_
    rintro e w2 ⟨rfl, hb⟩
    have HB2 := Lib.hid (below_of HB.out hb)
    have HBW := Lib.hid (two_more HB2.out (.cells #[.int .u64 (y : Int), .int .u64 (y : Int)] 63) (.cells #[.bool true, .bool true] 64))
    obtain ⟨w3, hw3⟩ : ∃ w3, w3 = (w2.alloc (.cells #[.int .u64 (y : Int), .int .u64 (y : Int)] 63)).alloc (.cells #[.bool true, .bool true] 64) := ⟨_, rfl⟩
    have HW := Lib.hid hw3
    rw [← hw3] at HBW
    clear hb hw3 HSL
    go_wp2_with fail
    rw [← HW.out]
    refine (HS.out w3).mono ?_
    rintro e w4 ⟨v, rfl, hv, hb⟩
    obtain ⟨g2, cap2, cur, rfl, hg2, _, _, _⟩ := OwnB.row hv (by rw [sl_length]; omega)
    rw [sl_length]
    have hby := hv.bytes
    rw [sl_length] at hby
    have HB4 := Lib.hid (below_of HBW.out hb)
    have HK := Lib.hid (writeR (HP.out.later HB4.out) 0 _ (sl (y + 1)) (by rw [sl_length]; omega) (fun W hW => hby.chg hW (by have := HLT.out; have := HBW.out.size; simp; omega)))
    unfold WrR at HK
    rw [← HR.out] at HK
    clear hv hg2 hby hb
    go_wp2_with fail
    refine HK.out.mono ?_
    rintro e w5 ⟨rfl, hP, hC⟩
    have HP5 := Lib.hid hP
    have HC5 := Lib.hid ((Chg.of_below [q, b, u] HB4.out).trans hC)
    clear hP hC HK
    go_wp2_with fail
    go_ret2
    exact ⟨rfl, HP5.out, HC5.out⟩
set_option maxHeartbeats 8000000 in
set_option maxRecDepth 100000 in
theorem begEy {q b u cb cu : Nat} {s : St} {w : World} (h : RSt q b u cb cu s w) (x y : Nat) (hlt : x < y) (e0 : cE s = 0) (eM : cM s = y) (ex : sN s 0 = x) (ey : sN s 1 = y) (eo : sO s 0 = true) (ek : sO s 1 = true) (hm : y < 18446744073709551615) :
    Calls Try.prog 18 #[.pointer (some ⟨q, 0, none⟩)] w (BeY q b u cb cu s 0 y w) := by
  unfold BeY
  have HP := Lib.hid h
  have HC := Lib.hid (countR h)
  rw [show cN s = y by unfold cN; rw [if_pos e0, eM], e0] at HC
  have HLT := Lib.hid h.lt
  have HSL : Hid (∀ w', Below w.heap.size w w' → Calls Try.prog 32 #[.pointer (some ⟨q, 0, none⟩)] w' fun e w'' => e = .returned (.tuple #[.agg #[.int .u64 (x : Nat), .int .u64 (y : Nat)], .agg #[.bool true, .bool true]]) ∧ Below w'.heap.size w' w'') := fun w' hb => by
    have := slotsR (HP.out.later hb)
    rw [ex, ey, eo, ek] at this
    exact this
  have ht : ((y : Int) == 18446744073709551615) = false := beq_eq_false_iff_ne.2 (by omega)
  have hw : IntKind.u64.wrap ((y : Int) + 1) = (y : Int) + 1 := IntWalk.u64_in _ ⟨by omega, by omega⟩
  have HS := fun w => slotR (y + 1) w (by omega)
  rw [show ((y + 1 : Nat) : Int) = (y : Int) + 1 by omega] at HS
  have HS := Lib.hid HS
  have q1 : ((x : Int) == (y : Int)) = false := beq_eq_false_iff_ne.2 (by omega)
  have q2 : (x == y) = false := beq_eq_false_iff_ne.2 (by omega)
  clear hlt
  obtain ⟨r, hr⟩ : ∃ r, r = wrE s 0 (sl (y + 1)) := ⟨_, rfl⟩
  rw [← hr]
  have HR := Lib.hid hr
  clear h e0 eM ex ey eo ek hm hr
  by_cases hz : r = 0
  · subst hz
    rw [if_pos rfl]
    go_enter Try.func18, Try.ntmps18
    go_wp2_with fail
    refine HC.out.mono ?_
    rintro e w1 ⟨rfl, hb⟩
    have HB := Lib.hid hb
    clear hb HC
    go_wp2_with fail
    refine (HSL.out w1 HB.out).mono ?_
    rintro e w2 ⟨rfl, hb⟩
    have HB2 := Lib.hid (below_of HB.out hb)
    have HBW := Lib.hid (two_more HB2.out (.cells #[.int .u64 (x : Int), .int .u64 (y : Int)] 63) (.cells #[.bool true, .bool true] 64))
    obtain ⟨w3, hw3⟩ : ∃ w3, w3 = (w2.alloc (.cells #[.int .u64 (x : Int), .int .u64 (y : Int)] 63)).alloc (.cells #[.bool true, .bool true] 64) := ⟨_, rfl⟩
    have HW := Lib.hid hw3
    rw [← hw3] at HBW
    clear hb hw3 HSL
    go_wp2_with fail
    rw [← HW.out]
    refine (HS.out w3).mono ?_
    rintro e w4 ⟨v, rfl, hv, hb⟩
    obtain ⟨g2, cap2, cur, rfl, hg2, _, _, _⟩ := OwnB.row hv (by rw [sl_length]; omega)
    rw [sl_length]
    have hby := hv.bytes
    rw [sl_length] at hby
    have HB4 := Lib.hid (below_of HBW.out hb)
    have HK := Lib.hid (writeR (HP.out.later HB4.out) 0 _ (sl (y + 1)) (by rw [sl_length]; omega) (fun W hW => hby.chg hW (by have := HLT.out; have := HBW.out.size; simp; omega)))
    unfold WrR at HK
    rw [← HR.out] at HK
    clear hv hg2 hby hb
    go_wp2_with fail
    refine HK.out.mono ?_
    rintro e w5 ⟨rfl, hP, hC⟩
    have HP5 := Lib.hid hP
    have HC5 := Lib.hid ((Chg.of_below [q, b, u] HB4.out).trans hC)
    clear hP hC HK
    go_wp2_with fail
    go_ret2
    exact ⟨rfl, HP5.out, HC5.out⟩
  · rw [if_neg hz]
    have t1 : (r != 0) = true := bne_iff_ne.2 hz
    clear hz
    go_enter Try.func18, Try.ntmps18
    go_wp2_with fail
    refine HC.out.mono ?_
    rintro e w1 ⟨rfl, hb⟩
    have HB := Lib.hid hb
    clear hb HC
    go_wp2_with fail
    refine (HSL.out w1 HB.out).mono ?_
    rintro e w2 ⟨rfl, hb⟩
    have HB2 := Lib.hid (below_of HB.out hb)
    have HBW := Lib.hid (two_more HB2.out (.cells #[.int .u64 (x : Int), .int .u64 (y : Int)] 63) (.cells #[.bool true, .bool true] 64))
    obtain ⟨w3, hw3⟩ : ∃ w3, w3 = (w2.alloc (.cells #[.int .u64 (x : Int), .int .u64 (y : Int)] 63)).alloc (.cells #[.bool true, .bool true] 64) := ⟨_, rfl⟩
    have HW := Lib.hid hw3
    rw [← hw3] at HBW
    clear hb hw3 HSL
    go_wp2_with fail
    rw [← HW.out]
    refine (HS.out w3).mono ?_
    rintro e w4 ⟨v, rfl, hv, hb⟩
    obtain ⟨g2, cap2, cur, rfl, hg2, _, _, _⟩ := OwnB.row hv (by rw [sl_length]; omega)
    rw [sl_length]
    have hby := hv.bytes
    rw [sl_length] at hby
    have HB4 := Lib.hid (below_of HBW.out hb)
    have HK := Lib.hid (writeR (HP.out.later HB4.out) 0 _ (sl (y + 1)) (by rw [sl_length]; omega) (fun W hW => hby.chg hW (by have := HLT.out; have := HBW.out.size; simp; omega)))
    unfold WrR at HK
    rw [← HR.out] at HK
    clear hv hg2 hby hb
    go_wp2_with fail
    refine HK.out.mono ?_
    rintro e w5 ⟨rfl, hP, hC⟩
    have HP5 := Lib.hid hP
    have HC5 := Lib.hid ((Chg.of_below [q, b, u] HB4.out).trans hC)
    clear hP hC HK
    go_wp2_with fail
    go_ret2
    exact ⟨rfl, HP5.out, HC5.out⟩
theorem cM_ge {s : St} (h1 : sO s 1 = true) (hn : ¬ sN s 1 < sN s 0) : cM s = sN s 1 ∧ fr s = 0 := by
  have : ¬ (sO s 1 = false ∨ sN s 1 < sN s 0) := by rw [h1]; simpa using hn
  exact ⟨by unfold cM; rw [if_neg this], by unfold fr; rw [if_neg this]⟩
theorem cM_up {s : St} (hn : sO s 1 = false ∨ sN s 1 < sN s 0) : cM s = sN s 0 ∧ fr s = 1 := ⟨by unfold cM; rw [if_pos hn], by unfold fr; rw [if_pos hn]⟩
theorem beY {q b u cb cu : Nat} {s : St} {w w' : World} {e : Ending} {A : Int} {M : Nat} (e0 : cE s = 0) (eM : cM s = M) (hm : M < 18446744073709551615) (hA : A = ((16 * fr s : Nat) : Int)) (h : BeY q b u cb cu s A M w e w') : BeR q b u cb cu s w e w' := by
  obtain ⟨h1, h2, h3⟩ := h
  have hy := be_yes e0 (by omega)
  rw [eM, ← hA] at hy
  refine ⟨?_, by rw [hy.2]; exact h2, h3⟩
  have hb : bN s = if wrE s A (sl (M + 1)) = 0 then M + 1 else 0 := by unfold bN; rw [hy.1, eM]
  rw [h1, hb, hy.1]
  congr 4
  split <;> simp
set_option maxHeartbeats 8000000 in
set_option maxRecDepth 100000 in
theorem beginR {q b u cb cu : Nat} {s : St} {w : World} (h : RSt q b u cb cu s w) :
    Calls Try.prog 18 #[.pointer (some ⟨q, 0, none⟩)] w (BeR q b u cb cu s w) := by
  by_cases h0 : cE s = 0
  · by_cases h1 : cM s = 18446744073709551615
    · have HE := Lib.hid (be_max h0 h1)
      have HC := Lib.hid (countR h)
      rw [show cN s = 18446744073709551615 by unfold cN; rw [if_pos h0, h1], h0] at HC
      have HP := Lib.hid h
      unfold BeR
      rw [HE.out.1, HE.out.2.1, HE.out.2.2]
      clear h0 h1 HE h
      go_enter Try.func18, Try.ntmps18
      go_wp2_with fail
      refine HC.out.mono ?_
      rintro e w1 ⟨rfl, hb⟩
      have HB := Lib.hid hb
      clear hb
      go_wp2_with fail
      go_ret2
      exact ⟨rfl, HP.out.later HB.out, Chg.of_below _ HB.out⟩
    · have hm : cM s < 18446744073709551615 := by have := cM_lt s; omega
      cases ek : sO s 1 with
      | false =>
        obtain ⟨e1, e2⟩ := cM_up (s := s) (.inl ek)
        have eo : sO s 0 = true := by
          cases eo : sO s 0 with
          | true => rfl
          | false =>
            unfold cE at h0
            rw [if_pos (And.intro eo ek)] at h0
            split at h0
            · cases h0
            · split at h0
              · cases h0
              · cases h0
        exact (begAy h _ _ h0 e1 rfl rfl eo ek (by omega)).mono fun e w' hx => beY h0 e1 (by omega) (by rw [e2]; rfl) hx
      | true =>
        by_cases hlt : sN s 1 < sN s 0
        · obtain ⟨e1, e2⟩ := cM_up (s := s) (.inr hlt)
          have eo : sO s 0 = true := by
            cases eo : sO s 0 with
            | true => rfl
            | false => have := sN_no eo; omega
          exact (begBy h _ _ hlt h0 e1 rfl rfl eo ek (by omega)).mono fun e w' hx => beY h0 e1 (by omega) (by rw [e2]; rfl) hx
        · obtain ⟨e1, e2⟩ := cM_ge ek hlt
          cases eo : sO s 0 with
          | false => exact (begCy h _ _ h0 e1 rfl rfl eo ek (by omega)).mono fun e w' hx => beY h0 e1 (by omega) (by rw [e2]; rfl) hx
          | true =>
            by_cases heq : sN s 0 = sN s 1
            · exact (begDy h _ h0 e1 heq rfl eo ek (by omega)).mono fun e w' hx => beY h0 e1 (by omega) (by rw [e2]; rfl) hx
            · exact (begEy h _ _ (by omega) h0 e1 rfl rfl eo ek (by omega)).mono fun e w' hx => beY h0 e1 (by omega) (by rw [e2]; rfl) hx
  · have HE := Lib.hid (be_no h0)
    have HC := Lib.hid (countR h)
    rw [show cN s = 0 by unfold cN; rw [if_neg h0]] at HC
    have HP := Lib.hid h
    unfold BeR
    rw [HE.out.1, HE.out.2.1, HE.out.2.2]
    have ht : (cE s != 0) = true := bne_iff_ne.2 h0
    obtain ⟨r, hr⟩ : ∃ r, r = cE s := ⟨_, rfl⟩
    rw [← hr] at HC ht ⊢
    clear h0 hr HE h
    go_enter Try.func18, Try.ntmps18
    go_wp2_with fail
    refine HC.out.mono ?_
    rintro e w1 ⟨rfl, hb⟩
    have HB := Lib.hid hb
    clear hb
    go_wp2_with fail
    go_ret2
    exact ⟨rfl, HP.out.later HB.out, Chg.of_below _ HB.out⟩
end Go.Proofs.Ytoinjapmioldaaa

namespace Go.Proofs.Ytoinjapmioldaaa
open Go.RowKit
attribute [local go_sem ↓] Go.wp_at_zero Go.wp_at_succ

def kb1 : St := wrS (nw 32) 0 (sl 0 ++ sl 0)
def kb2 : St := bS kb1
def kb3 : St := bS kb2
def kb4 : St := bS kb3
theorem kb_0 : wrE (nw 32) 0 (sl 0 ++ sl 0) = 0 := by decide +kernel
theorem kb_1 : bE kb1 = 0 ∧ bN kb1 = 1 := by decide +kernel
theorem kb_2 : bE kb2 = 0 ∧ bN kb2 = 2 := by decide +kernel
theorem kb_3 : bE kb3 = 0 ∧ bN kb3 = 3 := by decide +kernel
theorem kb_4 : rdE kb4 0 32 = 0 ∧ rdB kb4 0 32 = sl 3 ++ sl 2 := by decide +kernel
theorem slotK (k : Nat) (w : World) (z : Int) (h : k < 18446744073709551616) (hz : z = (k : Int)) :
    Calls Try.prog 24 #[.int .u64 z] w fun e w' => ∃ v, e = .returned v ∧ Bytes w' v (sl k) ∧ Below w.heap.size w w' := by
  subst hz
  exact (slotR k w h).mono fun e w' ⟨v, h1, h2, h3⟩ => ⟨v, h1, h2.bytes, h3⟩
theorem catK (l m : List UInt8) : (⟨l.toArray⟩ : ByteArray) ++ ⟨m.toArray⟩ = ⟨(l ++ m).toArray⟩ := by
  apply ByteArray.ext
  simp
set_option maxHeartbeats 8000000 in
set_option maxRecDepth 100000 in
theorem knownB (w : World) : Calls Try.prog 7 #[] w fun e w' => e = .returned (.bool true) ∧ Below w.heap.size w w' := by
  go_enter Try.func7, Try.ntmps7
  go_wp2_with fail
  refine (newW 32 w (by omega) (by omega)).mono ?_
  rintro e w1 ⟨p, g, rfl, hp, hg, hP, hB⟩
  have HG := Lib.hid (And.intro hp hg)
  have HB1 := Lib.hid hB
  have HM := Lib.hid (makeB hP)
  unfold MkA at HM
  rw [kb_0] at HM
  clear hp hg hP hB
  go_wp2_with fail
  refine HM.out.mono ?_
  rintro e w2 ⟨rfl, hP, hC⟩
  have HB2 := Lib.hid (hC.on HB1.out (by have := HG.out; simp; omega))
  have HE := Lib.hid (beginB (show PSt p g 32 kb1 w2 from hP))
  unfold BeA at HE
  rw [kb_1.1, kb_1.2] at HE
  clear hP hC
  go_wp2_with fail
  refine HE.out.mono ?_
  rintro e w3 ⟨rfl, hP, hC⟩
  have HB3 := Lib.hid (hC.on HB2.out (by have := HG.out; simp; omega))
  have HE := Lib.hid (beginB (show PSt p g 32 kb2 w3 from hP))
  unfold BeA at HE
  rw [kb_2.1, kb_2.2] at HE
  clear hP hC
  go_wp2_with fail
  refine HE.out.mono ?_
  rintro e w4 ⟨rfl, hP, hC⟩
  have HB4 := Lib.hid (hC.on HB3.out (by have := HG.out; simp; omega))
  have HE := Lib.hid (beginB (show PSt p g 32 kb3 w4 from hP))
  unfold BeA at HE
  rw [kb_3.1, kb_3.2] at HE
  clear hP hC
  go_wp2_with fail
  refine HE.out.mono ?_
  rintro e w5 ⟨rfl, hP, hC⟩
  have HB5 := Lib.hid (hC.on HB4.out (by have := HG.out; simp; omega))
  have HRD := Lib.hid (readS (show PSt p g 32 kb4 w5 from hP) 0 32 (by omega))
  unfold RdA at HRD
  rw [kb_4.1, kb_4.2] at HRD
  clear hP hC
  go_wp2_with fail
  refine HRD.out.mono ?_
  rintro e w6 ⟨v, rfl, hv, hb⟩
  have HB6 := Lib.hid (below_of HB5.out hb)
  have hl : (sl 3 ++ sl 2).length = 32 := by simp [sl_length]
  obtain ⟨av, cv, rfl⟩ := hv.form
  rw [hl] at hv ⊢
  have HV := Lib.hid hv
  clear hv hb HRD HE hl
  go_wp2_with fail

  (refine wp_region_held_drew (S := (fun w' => Below w6.heap.size w6 w')) (by kernel_rfl) ?_ (fun hHeld => ?_); (focus ((try dsimp only); (exact (Below.refl _ _).drew))))
  (try dsimp only at hHeld)
  obtain ⟨w0, hw0⟩ : ∃ W0, W0 = World.drew w6 := ⟨_, rfl⟩
  rw [← hw0]
  rw [← hw0] at hHeld
  clear hw0
  (refine wpAnyH_take (i := 0) (v := ?_) rfl (by kernel_rfl) (by kernel_rfl) (by kernel_rfl) (fun _ _ _ h => h) (Or.inl ⟨by rfl, ?_⟩) hHeld ?_; rotate_left; (focus (intro w hSw; (try dsimp only at hSw); go_simp; try with_reducible rfl)); (try simp only [Act.put, List.setIfInBounds_toArray, List.set_cons_zero, List.set_cons_succ, List.getElem_toArray, List.getElem_cons_zero])); (refine wpAnyH_take (i := 1) (v := ?_) rfl (by kernel_rfl) (by kernel_rfl) (by kernel_rfl) (fun _ _ _ h => h) (Or.inl ⟨by rfl, ?_⟩) hHeld ?_; rotate_left; (focus (intro w hSw; (try dsimp only at hSw); go_simp; try with_reducible rfl)); (try simp only [Act.put, List.setIfInBounds_toArray, List.set_cons_zero, List.set_cons_succ, List.getElem_toArray, List.getElem_cons_zero, List.getElem_cons_succ])); (refine wpAnyH_take (i := 2) (v := ?_) rfl (by kernel_rfl) (by kernel_rfl) (by kernel_rfl) (fun _ _ _ h => h) (Or.inl ⟨by rfl, ?_⟩) hHeld ?_; rotate_left; (focus (intro w hSw; (try dsimp only at hSw); go_simp; try with_reducible rfl)); (try simp only [Act.put, List.setIfInBounds_toArray, List.set_cons_zero, List.set_cons_succ, List.getElem_toArray, List.getElem_cons_zero, List.getElem_cons_succ])); (refine wpAnyH_take (i := 3) (v := ?_) rfl (by kernel_rfl) (by kernel_rfl) (by kernel_rfl) (fun _ _ _ h => h) (Or.inl ⟨by rfl, ?_⟩) hHeld ?_; rotate_left; (focus (intro w hSw; (try dsimp only at hSw); go_simp; try with_reducible rfl)); (try simp only [Act.put, List.setIfInBounds_toArray, List.set_cons_zero, List.set_cons_succ, List.getElem_toArray, List.getElem_cons_zero, List.getElem_cons_succ])); (refine wpAnyH_take (i := 4) (v := ?_) rfl (by kernel_rfl) (by kernel_rfl) (by kernel_rfl) (fun _ _ _ h => h) (Or.inl ⟨by rfl, ?_⟩) hHeld ?_; rotate_left; (focus (intro w hSw; (try dsimp only at hSw); go_simp; try with_reducible rfl)); (try simp only [Act.put, List.setIfInBounds_toArray, List.set_cons_zero, List.set_cons_succ, List.getElem_toArray, List.getElem_cons_zero, List.getElem_cons_succ])); (refine wpAnyH_take (i := 5) (v := ?_) rfl (by kernel_rfl) (by kernel_rfl) (by kernel_rfl) (fun _ _ _ h => h) (Or.inl ⟨by rfl, ?_⟩) hHeld ?_; rotate_left; (focus (intro w hSw; (try dsimp only at hSw); go_simp; try with_reducible rfl)); (try simp only [Act.put, List.setIfInBounds_toArray, List.set_cons_zero, List.set_cons_succ, List.getElem_toArray, List.getElem_cons_zero, List.getElem_cons_succ])); (refine wpAnyH_take (i := 6) (v := ?_) rfl (by kernel_rfl) (by kernel_rfl) (by kernel_rfl) (fun _ _ _ h => h) (Or.inl ⟨by rfl, ?_⟩) hHeld ?_; rotate_left; (focus (intro w hSw; (try dsimp only at hSw); go_simp; try with_reducible rfl)); (try simp only [Act.put, List.setIfInBounds_toArray, List.set_cons_zero, List.set_cons_succ, List.getElem_toArray, List.getElem_cons_zero, List.getElem_cons_succ])); (refine wpAnyH_take (i := 7) (v := ?_) rfl (by kernel_rfl) (by kernel_rfl) (by kernel_rfl) (fun _ _ _ h => h) (Or.inl ⟨by rfl, ?_⟩) hHeld ?_; rotate_left; (focus (intro w hSw; (try dsimp only at hSw); go_simp; try with_reducible rfl)); (try simp only [Act.put, List.setIfInBounds_toArray, List.set_cons_zero, List.set_cons_succ, List.getElem_toArray, List.getElem_cons_zero, List.getElem_cons_succ])); (refine wpAnyH_take (i := 8) (v := ?_) rfl (by kernel_rfl) (by kernel_rfl) (by kernel_rfl) (fun _ _ _ h => h) (Or.inl ⟨by rfl, ?_⟩) hHeld ?_; rotate_left; (focus (intro w hSw; (try dsimp only at hSw); go_simp; try with_reducible rfl)); (try simp only [Act.put, List.setIfInBounds_toArray, List.set_cons_zero, List.set_cons_succ, List.getElem_toArray, List.getElem_cons_zero, List.getElem_cons_succ])); (refine wpAnyH_take (i := 9) (v := ?_) rfl (by kernel_rfl) (by kernel_rfl) (by kernel_rfl) (fun _ _ _ h => h) (Or.inl ⟨by rfl, ?_⟩) hHeld ?_; rotate_left; (focus (intro w hSw; (try dsimp only at hSw); go_simp; try with_reducible rfl)); (try simp only [Act.put, List.setIfInBounds_toArray, List.set_cons_zero, List.set_cons_succ, List.getElem_toArray, List.getElem_cons_zero, List.getElem_cons_succ])); (refine wpAnyH_take (i := 10) (v := ?_) rfl (by kernel_rfl) (by kernel_rfl) (by kernel_rfl) (fun _ _ _ h => h) (Or.inl ⟨by rfl, ?_⟩) hHeld ?_; rotate_left; (focus (intro w hSw; (try dsimp only at hSw); go_simp; try with_reducible rfl)); (try simp only [Act.put, List.setIfInBounds_toArray, List.set_cons_zero, List.set_cons_succ, List.getElem_toArray, List.getElem_cons_zero, List.getElem_cons_succ])); (refine wpAnyH_take (i := 11) (v := ?_) rfl (by kernel_rfl) (by kernel_rfl) (by kernel_rfl) (fun _ _ _ h => h) (Or.inl ⟨by rfl, ?_⟩) hHeld ?_; rotate_left; (focus (intro w hSw; (try dsimp only at hSw); go_simp; try with_reducible rfl)); (try simp only [Act.put, List.setIfInBounds_toArray, List.set_cons_zero, List.set_cons_succ, List.getElem_toArray, List.getElem_cons_zero, List.getElem_cons_succ])); (refine wpAnyH_take (i := 12) (v := ?_) rfl (by kernel_rfl) (by kernel_rfl) (by kernel_rfl) (fun _ _ _ h => h) (Or.inl ⟨by rfl, ?_⟩) hHeld ?_; rotate_left; (focus (intro w hSw; (try dsimp only at hSw); go_simp; try with_reducible rfl)); (try simp only [Act.put, List.setIfInBounds_toArray, List.set_cons_zero, List.set_cons_succ, List.getElem_toArray, List.getElem_cons_zero, List.getElem_cons_succ])); (refine wpAnyH_take (i := 13) (v := ?_) rfl (by kernel_rfl) (by kernel_rfl) (by kernel_rfl) (fun _ _ _ h => h) (Or.inl ⟨by rfl, ?_⟩) hHeld ?_; rotate_left; (focus (intro w hSw; (try dsimp only at hSw); go_simp; try with_reducible rfl)); (try simp only [Act.put, List.setIfInBounds_toArray, List.set_cons_zero, List.set_cons_succ, List.getElem_toArray, List.getElem_cons_zero, List.getElem_cons_succ])); (refine wpAnyH_take (i := 14) (v := ?_) rfl (by kernel_rfl) (by kernel_rfl) (by kernel_rfl) (fun _ _ _ h => h) (Or.inl ⟨by rfl, ?_⟩) hHeld ?_; rotate_left; (focus (intro w hSw; (try dsimp only at hSw); go_simp; try with_reducible rfl)); (try simp only [Act.put, List.setIfInBounds_toArray, List.set_cons_zero, List.set_cons_succ, List.getElem_toArray, List.getElem_cons_zero, List.getElem_cons_succ])); (refine wpAnyH_take (i := 15) (v := ?_) rfl (by kernel_rfl) (by kernel_rfl) (by kernel_rfl) (fun _ _ _ h => h) (Or.inl ⟨by rfl, ?_⟩) hHeld ?_; rotate_left; (focus (intro w hSw; (try dsimp only at hSw); go_simp; try with_reducible rfl)); (try simp only [Act.put, List.setIfInBounds_toArray, List.set_cons_zero, List.set_cons_succ, List.getElem_toArray, List.getElem_cons_zero, List.getElem_cons_succ])); (refine wpAnyH_take (i := 16) (v := ?_) rfl (by kernel_rfl) (by kernel_rfl) (by kernel_rfl) (fun _ _ _ h => h) (Or.inl ⟨by rfl, ?_⟩) hHeld ?_; rotate_left; (focus (intro w hSw; (try dsimp only at hSw); go_simp; try with_reducible rfl)); (try simp only [Act.put, List.setIfInBounds_toArray, List.set_cons_zero, List.set_cons_succ, List.getElem_toArray, List.getElem_cons_zero, List.getElem_cons_succ])); (refine wpAnyH_take (i := 17) (v := ?_) rfl (by kernel_rfl) (by kernel_rfl) (by kernel_rfl) (fun _ _ _ h => h) (Or.inl ⟨by rfl, ?_⟩) hHeld ?_; rotate_left; (focus (intro w hSw; (try dsimp only at hSw); go_simp; try with_reducible rfl)); (try simp only [Act.put, List.setIfInBounds_toArray, List.set_cons_zero, List.set_cons_succ, List.getElem_toArray, List.getElem_cons_zero, List.getElem_cons_succ])); (refine wpAnyH_take (i := 18) (v := ?_) rfl (by kernel_rfl) (by kernel_rfl) (by kernel_rfl) (fun _ _ _ h => h) (Or.inl ⟨by rfl, ?_⟩) hHeld ?_; rotate_left; (focus (intro w hSw; (try dsimp only at hSw); go_simp; try with_reducible rfl)); (try simp only [Act.put, List.setIfInBounds_toArray, List.set_cons_zero, List.set_cons_succ, List.getElem_toArray, List.getElem_cons_zero, List.getElem_cons_succ])); (refine wpAnyH_take (i := 19) (v := ?_) rfl (by kernel_rfl) (by kernel_rfl) (by kernel_rfl) (fun _ _ _ h => h) (Or.inl ⟨by rfl, ?_⟩) hHeld ?_; rotate_left; (focus (intro w hSw; (try dsimp only at hSw); go_simp; try with_reducible rfl)); (try simp only [Act.put, List.setIfInBounds_toArray, List.set_cons_zero, List.set_cons_succ, List.getElem_toArray, List.getElem_cons_zero, List.getElem_cons_succ])); (refine wpAnyH_take (i := 20) (v := ?_) rfl (by kernel_rfl) (by kernel_rfl) (by kernel_rfl) (fun _ _ _ h => h) (Or.inl ⟨by rfl, ?_⟩) hHeld ?_; rotate_left; (focus (intro w hSw; (try dsimp only at hSw); go_simp; try with_reducible rfl)); (try simp only [Act.put, List.setIfInBounds_toArray, List.set_cons_zero, List.set_cons_succ, List.getElem_toArray, List.getElem_cons_zero, List.getElem_cons_succ])); (refine wpAnyH_take (i := 21) (v := ?_) rfl (by kernel_rfl) (by kernel_rfl) (by kernel_rfl) (fun _ _ _ h => h) (Or.inl ⟨by rfl, ?_⟩) hHeld ?_; rotate_left; (focus (intro w hSw; (try dsimp only at hSw); go_simp; try with_reducible rfl)); (try simp only [Act.put, List.setIfInBounds_toArray, List.set_cons_zero, List.set_cons_succ, List.getElem_toArray, List.getElem_cons_zero, List.getElem_cons_succ])); (refine wpAnyH_take (i := 22) (v := ?_) rfl (by kernel_rfl) (by kernel_rfl) (by kernel_rfl) (fun _ _ _ h => h) (Or.inl ⟨by rfl, ?_⟩) hHeld ?_; rotate_left; (focus (intro w hSw; (try dsimp only at hSw); go_simp; try with_reducible rfl)); (try simp only [Act.put, List.setIfInBounds_toArray, List.set_cons_zero, List.set_cons_succ, List.getElem_toArray, List.getElem_cons_zero, List.getElem_cons_succ])); (refine wpAnyH_take (i := 23) (v := ?_) rfl (by kernel_rfl) (by kernel_rfl) (by kernel_rfl) (fun _ _ _ h => h) (Or.inl ⟨by rfl, ?_⟩) hHeld ?_; rotate_left; (focus (intro w hSw; (try dsimp only at hSw); go_simp; try with_reducible rfl)); (try simp only [Act.put, List.setIfInBounds_toArray, List.set_cons_zero, List.set_cons_succ, List.getElem_toArray, List.getElem_cons_zero, List.getElem_cons_succ])); (refine wpAnyH_take (i := 24) (v := ?_) rfl (by kernel_rfl) (by kernel_rfl) (by kernel_rfl) (fun _ _ _ h => h) (Or.inl ⟨by rfl, ?_⟩) hHeld ?_; rotate_left; (focus (intro w hSw; (try dsimp only at hSw); go_simp; try with_reducible rfl)); (try simp only [Act.put, List.setIfInBounds_toArray, List.set_cons_zero, List.set_cons_succ, List.getElem_toArray, List.getElem_cons_zero, List.getElem_cons_succ])); (refine wpAnyH_take (i := 25) (v := ?_) rfl (by kernel_rfl) (by kernel_rfl) (by kernel_rfl) (fun _ _ _ h => h) (Or.inl ⟨by rfl, ?_⟩) hHeld ?_; rotate_left; (focus (intro w hSw; (try dsimp only at hSw); go_simp; try with_reducible rfl)); (try simp only [Act.put, List.setIfInBounds_toArray, List.set_cons_zero, List.set_cons_succ, List.getElem_toArray, List.getElem_cons_zero, List.getElem_cons_succ])); (refine wpAnyH_take (i := 26) (v := ?_) rfl (by kernel_rfl) (by kernel_rfl) (by kernel_rfl) (fun _ _ _ h => h) (Or.inl ⟨by rfl, ?_⟩) hHeld ?_; rotate_left; (focus (intro w hSw; (try dsimp only at hSw); go_simp; try with_reducible rfl)); (try simp only [Act.put, List.setIfInBounds_toArray, List.set_cons_zero, List.set_cons_succ, List.getElem_toArray, List.getElem_cons_zero, List.getElem_cons_succ])); (refine wpAnyH_take (i := 27) (v := ?_) rfl (by kernel_rfl) (by kernel_rfl) (by kernel_rfl) (fun _ _ _ h => h) (Or.inl ⟨by rfl, ?_⟩) hHeld ?_; rotate_left; (focus (intro w hSw; (try dsimp only at hSw); go_simp; try with_reducible rfl)); (try simp only [Act.put, List.setIfInBounds_toArray, List.set_cons_zero, List.set_cons_succ, List.getElem_toArray, List.getElem_cons_zero, List.getElem_cons_succ])); (refine wpAnyH_take (i := 28) (v := ?_) rfl (by kernel_rfl) (by kernel_rfl) (by kernel_rfl) (fun _ _ _ h => h) (Or.inl ⟨by rfl, ?_⟩) hHeld ?_; rotate_left; (focus (intro w hSw; (try dsimp only at hSw); go_simp; try with_reducible rfl)); (try simp only [Act.put, List.setIfInBounds_toArray, List.set_cons_zero, List.set_cons_succ, List.getElem_toArray, List.getElem_cons_zero, List.getElem_cons_succ])); (refine wpAnyH_take (i := 29) (v := ?_) rfl (by kernel_rfl) (by kernel_rfl) (by kernel_rfl) (fun _ _ _ h => h) (Or.inl ⟨by rfl, ?_⟩) hHeld ?_; rotate_left; (focus (intro w hSw; (try dsimp only at hSw); go_simp; try with_reducible rfl)); (try simp only [Act.put, List.setIfInBounds_toArray, List.set_cons_zero, List.set_cons_succ, List.getElem_toArray, List.getElem_cons_zero, List.getElem_cons_succ])); (refine wpAnyH_take (i := 30) (v := ?_) rfl (by kernel_rfl) (by kernel_rfl) (by kernel_rfl) (fun _ _ _ h => h) (Or.inl ⟨by rfl, ?_⟩) hHeld ?_; rotate_left; (focus (intro w hSw; (try dsimp only at hSw); go_simp; try with_reducible rfl)); (try simp only [Act.put, List.setIfInBounds_toArray, List.set_cons_zero, List.set_cons_succ, List.getElem_toArray, List.getElem_cons_zero, List.getElem_cons_succ])); (refine wpAnyH_take (i := 31) (v := ?_) rfl (by kernel_rfl) (by kernel_rfl) (by kernel_rfl) (fun _ _ _ h => h) (Or.inl ⟨by rfl, ?_⟩) hHeld ?_; rotate_left; (focus (intro w hSw; (try dsimp only at hSw); go_simp; try with_reducible rfl)); (try simp only [Act.put, List.setIfInBounds_toArray, List.set_cons_zero, List.set_cons_succ, List.getElem_toArray, List.getElem_cons_zero, List.getElem_cons_succ]))
  (refine wpAnyH_take (i := 32) (v := ?_) rfl (by kernel_rfl) (by kernel_rfl) (by kernel_rfl) (fun _ _ _ h => h) (Or.inl ⟨by rfl, ?_⟩) hHeld ?_; rotate_left; (focus (intro w hSw; (try dsimp only at hSw); go_simp; (have hz := (Bytes.later HV.out hSw).str (P := Try.prog) (src := 22) (dst := 9) Try.underlying22 Try.underlying5 Try.underlying9; go_simp; try with_reducible rfl))); (try simp only [Act.put, List.setIfInBounds_toArray, List.set_cons_zero, List.set_cons_succ, List.getElem_toArray, List.getElem_cons_zero, List.getElem_cons_succ]))
  refine wpAnyH_at (m := #[true, true, true, true, true, true, true, true, true, true, true, true, true, true, true, true, true, true, true, true, true, true, true, true, true, true, true, true, true, true, true, true, true, false, false, false, false, false, false, false, false]) (by kernel_rfl) ?_
  (refine wpAnyH_ready (rs := [33]) (by kernel_rfl) (by simp) ?_; refine AllReadyH.cons rfl (fun K hK => ?_) AllReadyH.nil; go_simp; refine (slotK 3 _ 3 (by omega) rfl).mono ?_; rintro e y33 ⟨v33, rfl, hv33, hs⟩; refine hK.out _ _ ?_ (fun hHeldN => ?_); (focus ((try dsimp only); (exact hHeld.trans (hs.mono hHeld.size)))); clear hK K hHeld; have hHeld := hHeldN; clear hHeldN; (try simp only [Act.put, List.setIfInBounds_toArray, List.set_cons_zero, List.set_cons_succ, List.getElem_toArray, List.getElem_cons_zero, List.getElem_cons_succ]))
  obtain ⟨a33, c33, rfl⟩ := hv33.form
  rw [sl_length] at hv33 ⊢
  have HY33 := Lib.hid hv33
  clear hv33
  have HH33 := Lib.hid hHeld
  clear hs hHeld
  refine wpAnyH_str (S' := fun w' => Below y33.heap.size y33 w') (fun w' h => HH33.out.trans (h.mono HH33.out.size)) _ _ _ _ ?_
  have hHeld := Below.refl y33.heap.size y33
  refine wpAnyH_at (m := #[true, true, true, true, true, true, true, true, true, true, true, true, true, true, true, true, true, true, true, true, true, true, true, true, true, true, true, true, true, true, true, true, true, true, false, false, false, false, false, false, false]) (by kernel_rfl) ?_
  (refine wpAnyH_take (i := 34) (v := ?_) rfl (by kernel_rfl) (by kernel_rfl) (by kernel_rfl) (fun _ _ _ h => h) (Or.inl ⟨by rfl, ?_⟩) hHeld ?_; rotate_left; (focus (intro w hSw; (try dsimp only at hSw); go_simp; (have hz := (Bytes.later HY33.out hSw).str (P := Try.prog) (src := 22) (dst := 9) Try.underlying22 Try.underlying5 Try.underlying9; go_simp; try with_reducible rfl))); (try simp only [Act.put, List.setIfInBounds_toArray, List.set_cons_zero, List.set_cons_succ, List.getElem_toArray, List.getElem_cons_zero, List.getElem_cons_succ]))
  refine wpAnyH_at (m := #[true, true, true, true, true, true, true, true, true, true, true, true, true, true, true, true, true, true, true, true, true, true, true, true, true, true, true, true, true, true, true, true, true, true, true, false, false, false, false, false, false]) (by kernel_rfl) ?_
  (refine wpAnyH_ready (rs := [35]) (by kernel_rfl) (by simp) ?_; refine AllReadyH.cons rfl (fun K hK => ?_) AllReadyH.nil; go_simp; refine (slotK 2 _ 2 (by omega) rfl).mono ?_; rintro e y35 ⟨v35, rfl, hv35, hs⟩; refine hK.out _ _ ?_ (fun hHeldN => ?_); (focus ((try dsimp only); (exact hHeld.trans (hs.mono hHeld.size)))); clear hK K hHeld; have hHeld := hHeldN; clear hHeldN; (try simp only [Act.put, List.setIfInBounds_toArray, List.set_cons_zero, List.set_cons_succ, List.getElem_toArray, List.getElem_cons_zero, List.getElem_cons_succ]))
  obtain ⟨a35, c35, rfl⟩ := hv35.form
  rw [sl_length] at hv35 ⊢
  have HY35 := Lib.hid hv35
  clear hv35
  have HH35 := Lib.hid hHeld
  clear hs hHeld
  refine wpAnyH_str (S' := fun w' => Below y35.heap.size y35 w') (fun w' h => HH35.out.trans (h.mono HH35.out.size)) _ _ _ _ ?_
  have hHeld := Below.refl y35.heap.size y35
  refine wpAnyH_at (m := #[true, true, true, true, true, true, true, true, true, true, true, true, true, true, true, true, true, true, true, true, true, true, true, true, true, true, true, true, true, true, true, true, true, true, true, true, false, false, false, false, false]) (by kernel_rfl) ?_
  (refine wpAnyH_take (i := 36) (v := ?_) rfl (by kernel_rfl) (by kernel_rfl) (by kernel_rfl) (fun _ _ _ h => h) (Or.inl ⟨by rfl, ?_⟩) hHeld ?_; rotate_left; (focus (intro w hSw; (try dsimp only at hSw); go_simp; (have hz := (Bytes.later HY35.out hSw).str (P := Try.prog) (src := 22) (dst := 9) Try.underlying22 Try.underlying5 Try.underlying9; go_simp; try with_reducible rfl))); (try simp only [Act.put, List.setIfInBounds_toArray, List.set_cons_zero, List.set_cons_succ, List.getElem_toArray, List.getElem_cons_zero, List.getElem_cons_succ]))
  (refine wpAnyH_take (i := 37) (v := ?_) rfl (by kernel_rfl) (by kernel_rfl) (by kernel_rfl) (fun _ _ _ h => h) (Or.inl ⟨by rfl, ?_⟩) hHeld ?_; rotate_left; (focus (intro w hSw; (try dsimp only at hSw); go_simp; (have _h := hSw; rw [if_neg (by rw [sl_length, sl_length]; omega), catK]))); (try simp only [Act.put, List.setIfInBounds_toArray, List.set_cons_zero, List.set_cons_succ, List.getElem_toArray, List.getElem_cons_zero, List.getElem_cons_succ]))
  (refine wpAnyH_take (i := 38) (v := ?_) rfl (by kernel_rfl) (by kernel_rfl) (by kernel_rfl) (fun _ _ _ h => h) (Or.inl ⟨by rfl, ?_⟩) hHeld ?_; rotate_left; (focus (intro w hSw; (try dsimp only at hSw); go_simp; try with_reducible rfl)); (try simp only [Act.put, List.setIfInBounds_toArray, List.set_cons_zero, List.set_cons_succ, List.getElem_toArray, List.getElem_cons_zero, List.getElem_cons_succ])); (refine wpAnyH_take (i := 39) (v := ?_) rfl (by kernel_rfl) (by kernel_rfl) (by kernel_rfl) (fun _ _ _ h => h) (Or.inl ⟨by rfl, ?_⟩) hHeld ?_; rotate_left; (focus (intro w hSw; (try dsimp only at hSw); go_simp; try with_reducible rfl)); (try simp only [Act.put, List.setIfInBounds_toArray, List.set_cons_zero, List.set_cons_succ, List.getElem_toArray, List.getElem_cons_zero, List.getElem_cons_succ])); (refine wpAnyH_take (i := 40) (v := ?_) rfl (by kernel_rfl) (by kernel_rfl) (by kernel_rfl) (fun _ _ _ h => h) (Or.inl ⟨by rfl, ?_⟩) hHeld ?_; rotate_left; (focus (intro w hSw; (try dsimp only at hSw); go_simp; try with_reducible rfl)); (try simp only [Act.put, List.setIfInBounds_toArray, List.set_cons_zero, List.set_cons_succ, List.getElem_toArray, List.getElem_cons_zero, List.getElem_cons_succ]))
  refine wpAnyH_done (by kernel_rfl) ?_ _
  have HB7 := Lib.hid (below_of HB6.out (HH33.out.trans (HH35.out.mono HH33.out.size)))
  go_wp2_with fail
  go_ret
  exact ⟨rfl, HB7.out⟩
end Go.Proofs.Ytoinjapmioldaaa

namespace Go.Proofs.Ytoinjapmioldaaa
open Go.RowKit
attribute [local go_sem ↓] Go.wp_at_zero Go.wp_at_succ

/-- A store that is not there, or a zero one. -/
def Nn (v : Value) (w : World) : Prop := v = .pointer none ∨ ∃ p, v = .pointer (some ⟨p, 0, none⟩) ∧ BlkAt 58 p [.slice none 0 0, .bool false, .int .i64 0, .int .u8 0, .bool false] w
theorem allN {v : Value} {w : World} (h : Nn v w) : Calls Try.prog 34 #[v] w fun e w' => e = .returned (.slice none 0 0) ∧ w = w' := by
  rcases h with rfl | ⟨p, rfl, hb⟩
  · go_enter Try.func34, Try.ntmps34
    go_wp2_with fail
    go_ret
    exact ⟨rfl, rfl⟩
  · have c0 := BlkAt.cell hb (j := 0) rfl
    clear hb
    go_enter Try.func34, Try.ntmps34
    go_wp2_with fail
    go_ret
    exact ⟨rfl, rfl⟩
theorem ptrN {v : Value} {w : World} (h : Nn v w) : ∃ a, v = .pointer a := by
  rcases h with rfl | ⟨p, rfl, _⟩
  · exact ⟨_, rfl⟩
  · exact ⟨_, rfl⟩
theorem lenN {v : Value} {w : World} (h : Nn v w) : Calls Try.prog 42 #[v] w fun e w' => e = .returned (.int .i64 0) ∧ w = w' := by
  have H := Lib.hid (allN h)
  obtain ⟨a, rfl⟩ := ptrN h
  clear h
  go_enter Try.func42, Try.ntmps42
  go_wp2_with fail
  refine H.out.mono ?_
  rintro e w1 ⟨rfl, rfl⟩
  go_wp2_with fail
  go_ret
  exact ⟨rfl, rfl⟩
theorem noneN {v : Value} {w : World} (h : Nn v w) : Calls Try.prog 29 #[v] w fun e w' => e = .returned (.bool true) ∧ w = w' := by
  have H := Lib.hid (lenN h)
  obtain ⟨a, rfl⟩ := ptrN h
  clear h
  go_enter Try.func29, Try.ntmps29
  go_wp2_with fail
  refine H.out.mono ?_
  rintro e w1 ⟨rfl, rfl⟩
  go_wp2_with fail
  go_ret
  exact ⟨rfl, rfl⟩
theorem lieN {v : Value} {w : World} (h : Nn v w) (a n : Int) : Calls Try.prog 28 #[v, .int .i64 a, .int .i64 n] w fun e w' => e = .returned (.int .i64 1) ∧ w = w' := by
  have H := Lib.hid (noneN h)
  obtain ⟨a, rfl⟩ := ptrN h
  clear h
  go_enter Try.func28, Try.ntmps28
  go_wp2_with fail
  refine H.out.mono ?_
  rintro e w1 ⟨rfl, rfl⟩
  go_wp2_with fail
  go_ret
  exact ⟨rfl, rfl⟩
theorem readyN {v : Value} {w : World} (h : Nn v w) (a n : Int) : Calls Try.prog 37 #[v, .int .i64 a, .int .i64 n] w fun e w' => e = .returned (.int .i64 1) ∧ w = w' := by
  have H := Lib.hid (lieN h a n)
  obtain ⟨a, rfl⟩ := ptrN h
  clear h
  go_enter Try.func37, Try.ntmps37
  go_wp2_with fail
  refine H.out.mono ?_
  rintro e w1 ⟨rfl, rfl⟩
  go_wp2_with fail
  go_ret
  exact ⟨rfl, rfl⟩
theorem fuseN {v : Value} {w : World} (h : Nn v w) : Calls Try.prog 15 #[v, .int .i64 1, .int .u8 2, .bool true] w fun e w' => (∃ v, e = .returned v) ∧ w = w' := by
  have H := Lib.hid (noneN h)
  obtain ⟨a, rfl⟩ := ptrN h
  clear h
  go_enter Try.func15, Try.ntmps15
  go_wp2_with fail
  refine H.out.mono ?_
  rintro e w1 ⟨rfl, rfl⟩
  go_wp2_with fail
  exact bodyPost_ret (results_none rfl _ _ _) rfl ⟨⟨_, rfl⟩, rfl⟩
theorem raiseN {v : Value} {w : World} (h : Nn v w) : Calls Try.prog 20 #[v] w fun e w' => (∃ v, e = .returned v) ∧ w = w' := by
  have H := Lib.hid (noneN h)
  obtain ⟨a, rfl⟩ := ptrN h
  clear h
  go_enter Try.func20, Try.ntmps20
  go_wp2_with fail
  refine H.out.mono ?_
  rintro e w1 ⟨rfl, rfl⟩
  go_wp2_with fail
  exact bodyPost_ret (results_none rfl _ _ _) rfl ⟨⟨_, rfl⟩, rfl⟩
theorem readN {v : Value} {w : World} (h : Nn v w) : Calls Try.prog 21 #[v, .int .i64 0, .int .i64 0] w fun e w' => e = .returned (.tuple #[.slice none 0 0, .int .i64 1]) ∧ w = w' := by
  have H := Lib.hid (readyN h 0 0)
  obtain ⟨a, rfl⟩ := ptrN h
  clear h
  go_enter Try.func21, Try.ntmps21
  go_wp2_with fail
  refine H.out.mono ?_
  rintro e w1 ⟨rfl, rfl⟩
  go_wp2_with fail
  go_ret2
  exact ⟨rfl, rfl⟩
theorem writeN {v : Value} {w : World} (h : Nn v w) : Calls Try.prog 26 #[v, .int .i64 0, .slice none 0 0] w fun e w' => e = .returned (.int .i64 1) ∧ w = w' := by
  have H := Lib.hid (readyN h 0 0)
  obtain ⟨a, rfl⟩ := ptrN h
  clear h
  go_enter Try.func26, Try.ntmps26
  go_wp2_with fail
  go_step3
  go_wp2_with fail
  refine H.out.mono ?_
  rintro e w1 ⟨rfl, rfl⟩
  go_wp2_with fail
  rw [Exit.noGoto_ret]
  go_ret
  exact ⟨rfl, rfl⟩
theorem spoilN {v : Value} {w : World} (h : Nn v w) : Calls Try.prog 10 #[v, .int .i64 0, .int .u8 1, .bool false] w fun e w' => e = .returned (.int .i64 1) ∧ w = w' := by
  have H := Lib.hid (lieN h 0 1)
  obtain ⟨a, rfl⟩ := ptrN h
  clear h
  go_enter Try.func10, Try.ntmps10
  go_wp2_with fail
  refine H.out.mono ?_
  rintro e w1 ⟨rfl, rfl⟩
  go_wp2_with fail
  go_ret
  exact ⟨rfl, rfl⟩
theorem deadN {v : Value} {w : World} (h : Nn v w) : Calls Try.prog 19 #[v] w fun e w' => e = .returned (.bool false) ∧ w = w' := by
  have H := Lib.hid (noneN h)
  obtain ⟨a, rfl⟩ := ptrN h
  clear h
  go_enter Try.func19, Try.ntmps19
  go_wp2_with fail
  refine H.out.mono ?_
  rintro e w1 ⟨rfl, rfl⟩
  go_wp2_with fail
  go_ret
  exact ⟨rfl, rfl⟩
theorem copyN {v : Value} {w : World} (h : Nn v w) : Calls Try.prog 11 #[v] w fun e w' => e = .returned (.pointer none) ∧ w = w' := by
  have H := Lib.hid (noneN h)
  obtain ⟨a, rfl⟩ := ptrN h
  clear h
  go_enter Try.func11, Try.ntmps11
  go_wp2_with fail
  refine H.out.mono ?_
  rintro e w1 ⟨rfl, rfl⟩
  go_wp2_with fail
  go_ret
  exact ⟨rfl, rfl⟩
theorem equalN (w : World) : Calls Try.prog 33 #[.slice none 0 0, .slice none 0 0] w fun e w' => e = .returned (.bool true) ∧ w = w' := by
  go_enter Try.func33, Try.ntmps33
  go_wp2_with fail
  go_loopw [5, 13] (fun _ i wr => i = .int .i64 0 ∧ wr = w) (fun _ i _ => 0)
  case atStart => exact ⟨rfl, rfl⟩
  case round =>
    obtain ⟨rfl, rfl⟩ := hrel
    go_wp2_with fail
    go_ret
    exact ⟨rfl, rfl⟩
theorem sameN {v : Value} {w : World} (h : Nn v w) : Calls Try.prog 14 #[v, .pointer none] w fun e w' => e = .returned (.bool true) ∧ w = w' := by
  have H1 := Lib.hid (allN h)
  have H2 := Lib.hid (allN (show Nn (.pointer none) w from .inl rfl))
  have H3 := Lib.hid (equalN w)
  obtain ⟨a, rfl⟩ := ptrN h
  clear h
  go_enter Try.func14, Try.ntmps14
  go_wp2_with fail
  refine H1.out.mono ?_
  rintro e w1 ⟨rfl, rfl⟩
  go_wp2_with fail
  refine H2.out.mono ?_
  rintro e w1 ⟨rfl, rfl⟩
  go_wp2_with fail
  refine H3.out.mono ?_
  rintro e w1 ⟨rfl, rfl⟩
  go_wp2_with fail
  go_ret
  exact ⟨rfl, rfl⟩

theorem Nn.later {v : Value} {w W : World} (h : Nn v w) (hb : Below w.heap.size w W) : Nn v W := by
  rcases h with h | ⟨p, h1, h2⟩
  · exact .inl h
  · exact .inr ⟨p, h1, h2.later hb⟩
end Go.Proofs.Ytoinjapmioldaaa
