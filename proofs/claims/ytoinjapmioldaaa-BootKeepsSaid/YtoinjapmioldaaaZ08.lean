/- BootKeeps: two slots, plainly; the law's walk. -/
import Derived.Test.YtoinjapmioldaaaZ06
import Derived.Test.YtoinjapmioldaaaZ07

set_option linter.unusedSimpArgs false
set_option linter.unusedVariables false
namespace Go.Proofs.Ytoinjapmioldaaa
open Go.RowKit
attribute [local go_sem ↓] Go.wp_at_zero Go.wp_at_succ

theorem full_rdk (l : List UInt8) (k n : Nat) (h : k + n ≤ l.length) : rdE (full l) (k : Int) (n : Int) = 0 ∧ rdB (full l) (k : Int) (n : Int) = (l.drop k).take n := by
  have hl : (full l).c.length = l.length := by simp [full]
  have hi : inn (full l).c.length k n = true := inn_iff.2 ⟨by omega, by omega, by omega⟩
  have hL : rdL (full l) k n = ((l.drop k).take n).map fun x => (x, false) := by
    unfold rdL full
    simp only [Int.toNat_natCast]
    rw [List.map_take, List.map_drop]
  have e : rdE (full l) k n = 0 := by
    unfold rdE
    rw [if_pos hi, hL]
    rw [if_neg (show ¬ (full l).dead = true by simp [full]), if_neg]
    intro hx
    obtain ⟨c, hc, h2⟩ := List.any_eq_true.1 hx
    obtain ⟨y, _, rfl⟩ := List.mem_map.1 hc
    cases h2
  refine ⟨e, ?_⟩
  unfold rdB
  rw [if_pos e, hL, List.map_map]
  exact List.map_id _
/-- A store of forty bytes with these two slots. -/
def kp (a b : Nat) : St := full (sl a ++ (sl b ++ List.replicate 8 0))
def kq (a : Nat) : St := full (sl a ++ List.replicate 24 0)
theorem kp_len (a b : Nat) : (kp a b).c.length = 40 := by simp [kp, full, sl_length]
theorem kp_rd0 (a b : Nat) : rdE (kp a b) 0 16 = 0 ∧ rdB (kp a b) 0 16 = sl a := by
  have h := full_rdk (sl a ++ (sl b ++ List.replicate 8 0)) 0 16 (by simp [sl_length])
  refine ⟨h.1, h.2.trans ?_⟩
  rw [List.drop_zero, List.take_append_of_le_length (by rw [sl_length]; omega), List.take_of_length_le (by rw [sl_length]; omega)]
theorem kp_rd1 (a b : Nat) : rdE (kp a b) 16 16 = 0 ∧ rdB (kp a b) 16 16 = sl b := by
  have h := full_rdk (sl a ++ (sl b ++ List.replicate 8 0)) 16 16 (by simp [sl_length])
  refine ⟨h.1, h.2.trans ?_⟩
  have e : (sl a ++ (sl b ++ List.replicate 8 0)).drop 16 = sl b ++ List.replicate 8 0 := by
    rw [List.drop_append_of_le_length (by rw [sl_length]; omega), List.drop_of_length_le (by rw [sl_length]; omega)]; rfl
  rw [e, List.take_append_of_le_length (by rw [sl_length]; omega), List.take_of_length_le (by rw [sl_length]; omega)]
theorem kq_new (a : Nat) : wrE (nw 40) 0 (sl a) = 0 ∧ wrS (nw 40) 0 (sl a) = kq a := by
  have h := full_wr (l := List.replicate 40 0) (b := sl a) (k := 0) (by simp [sl_length])
  rw [full_nw]
  refine ⟨h.1, h.2.trans ?_⟩
  unfold kq
  congr 1
theorem kp_new (a b : Nat) : wrE (kq a) 16 (sl b) = 0 ∧ wrS (kq a) 16 (sl b) = kp a b := by
  have h := full_wr (l := sl a ++ List.replicate 24 0) (b := sl b) (k := 16) (by simp [sl_length])
  refine ⟨h.1, h.2.trans ?_⟩
  unfold kp
  congr 1
theorem kp_up1 (a b c : Nat) : wrE (kp a b) 16 (sl c) = 0 ∧ wrS (kp a b) 16 (sl c) = kp a c := by
  have h := full_wr (l := sl a ++ (sl b ++ List.replicate 8 0)) (b := sl c) (k := 16) (by simp [sl_length])
  refine ⟨h.1, h.2.trans ?_⟩
  unfold kp
  congr 1
theorem kp_up0 (a b c : Nat) : wrE (kp a b) 0 (sl c) = 0 ∧ wrS (kp a b) 0 (sl c) = kp c b := by
  have h := full_wr (l := sl a ++ (sl b ++ List.replicate 8 0)) (b := sl c) (k := 0) (by simp [sl_length])
  refine ⟨h.1, h.2.trans ?_⟩
  unfold kp
  congr 1
theorem kp_s {a b : Nat} (ha : a < 18446744073709551616) (hb : b < 18446744073709551616) : sO (kp a b) 0 = true ∧ sN (kp a b) 0 = a ∧ sO (kp a b) 1 = true ∧ sN (kp a b) 1 = b := by
  have e0 : rdB (kp a b) ((16 * 0 : Nat) : Int) 16 = sl a := (kp_rd0 a b).2
  have e1 : rdB (kp a b) ((16 * 1 : Nat) : Int) 16 = sl b := (kp_rd1 a b).2
  unfold sO sN
  rw [e0, e1]
  exact ⟨(gd_sl ha).1, (gd_sl ha).2, (gd_sl hb).1, (gd_sl hb).2⟩
theorem kp_cE {a b : Nat} (ha : a < 18446744073709551616) (hb : b < 18446744073709551616) : cE (kp a b) = 0 := by
  unfold cE
  rw [kp_len, (kp_s ha hb).1]
  simp [kp, full]
theorem kp_hi {a b : Nat} (ha : a < 18446744073709551616) (hlt : b < a) : cE (kp a b) = 0 ∧ cM (kp a b) = a ∧ fr (kp a b) = 1 := by
  have h := kp_s ha (show b < _ by omega)
  have := cM_up (s := kp a b) (.inr (by rw [h.2.1, h.2.2.2]; exact hlt))
  rw [h.2.1] at this
  exact ⟨kp_cE ha (by omega), this.1, this.2⟩
theorem kp_lo {a b : Nat} (hb : b < 18446744073709551616) (hle : a ≤ b) : cE (kp a b) = 0 ∧ cM (kp a b) = b ∧ fr (kp a b) = 0 := by
  have h := kp_s (show a < _ by omega) hb
  have := cM_ge (s := kp a b) h.2.2.1 (by rw [h.2.1, h.2.2.2]; omega)
  rw [h.2.2.2] at this
  exact ⟨kp_cE (by omega) hb, this.1, this.2⟩
theorem cN_of {s : St} {m : Nat} (h0 : cE s = 0) (h1 : cM s = m) : cN s = m := by unfold cN; rw [if_pos h0, h1]
theorem bg_hi {a b : Nat} (ha : a < 18446744073709551615) (hlt : b < a) : bE (kp a b) = 0 ∧ bN (kp a b) = a + 1 ∧ bS (kp a b) = kp a (a + 1) := by
  obtain ⟨h0, h1, h2⟩ := kp_hi (show a < _ by omega) hlt
  have hy := be_yes h0 (by omega)
  rw [h1, h2] at hy
  have hu := kp_up1 a b (a + 1)
  have e : bE (kp a b) = 0 := hy.1.trans hu.1
  exact ⟨e, by unfold bN; rw [if_pos e, h1], hy.2.trans hu.2⟩
theorem bg_lo {a b : Nat} (hb : b < 18446744073709551615) (hle : a ≤ b) : bE (kp a b) = 0 ∧ bN (kp a b) = b + 1 ∧ bS (kp a b) = kp (b + 1) b := by
  obtain ⟨h0, h1, h2⟩ := kp_lo (show b < _ by omega) hle
  have hy := be_yes h0 (by omega)
  rw [h1, h2] at hy
  have hu := kp_up0 a b (b + 1)
  have e : bE (kp a b) = 0 := hy.1.trans hu.1
  exact ⟨e, by unfold bN; rw [if_pos e, h1], hy.2.trans hu.2⟩
theorem sl_inj {a b : Nat} (ha : a < 18446744073709551616) (hb : b < 18446744073709551616) (h : sl a = sl b) : a = b := by
  have := (gd_sl ha).2
  rw [h, (gd_sl hb).2] at this
  exact this.symm
theorem str_ne {l m : List UInt8} (h : l ≠ m) : ((⟨l.toArray⟩ : ByteArray).toList == (⟨m.toArray⟩ : ByteArray).toList) = false := by
  simp; exact h
theorem strb_ne {l m : List UInt8} (h : l ≠ m) : (l == m) = false := beq_eq_false_iff_ne.2 h
set_option maxHeartbeats 8000000 in
set_option maxRecDepth 100000 in
theorem keeps_maxA (a b : Nat) (w : World) (ha : a < 18446744073709551616) (hb : b < 18446744073709551616) (hm : a = 18446744073709551615) :
    Calls Try.prog 5 #[.int .u64 (a : Int), .int .u64 (b : Int)] w fun e w' => e = .returned (.bool true) ∧ Below w.heap.size w w' := by
  have HAB : Hid (a < 18446744073709551616 ∧ b < 18446744073709551616) := ⟨ha, hb⟩
  have HSA := Lib.hid (slotR a · ha)
  have HSB := Lib.hid (slotR b · hb)
  have HBG : Hid (bE (kp a b) = 5 ∧ bN (kp a b) = 0 ∧ bS (kp a b) = kp a b) := by
    rcases Nat.lt_or_ge b a with h | h
    · exact be_max (kp_hi ha h).1 ((kp_hi ha h).2.1.trans hm)
    · exact be_max (kp_lo hb h).1 ((kp_lo hb h).2.1.trans (by omega))
  have HCN : Hid (cN (kp a b) = 18446744073709551615 ∧ cE (kp a b) = 0) := by
    rcases Nat.lt_or_ge b a with h | h
    · exact ⟨cN_of (kp_hi ha h).1 ((kp_hi ha h).2.1.trans hm), (kp_hi ha h).1⟩
    · exact ⟨cN_of (kp_lo hb h).1 ((kp_lo hb h).2.1.trans (by omega)), (kp_lo hb h).1⟩
  have hd : decide (a < b) = false := decide_eq_false (by omega)
  have ha9 : (a : Int) = 18446744073709551615 := by omega
  have HA9 := Lib.hid ha9
  have q1 : ((a : Int) == 18446744073709551615) = true := beq_iff_eq.2 ha9
  have q2 : ((18446744073709551615 : Int) == (a : Int)) = true := beq_iff_eq.2 ha9.symm
  clear ha hb hm ha9
  go_enter Try.func5, Try.ntmps5
  go_wp2_with fail
  refine (newW 40 w (by omega) (by omega)).mono ?_
  rintro e w1 ⟨p, g, rfl, hp, hg, hP, hB⟩
  have HG := Lib.hid (And.intro hp hg)
  have HB1 := Lib.hid hB
  have HP1 := Lib.hid hP
  have HLT1 := Lib.hid hP.lt
  clear hp hg hP hB
  go_wp2_with fail
  refine (HSA.out w1).mono ?_
  rintro e w2 ⟨v, rfl, hv, hb2⟩
  obtain ⟨g2, cap2, cur, rfl, hg2, _, _, _⟩ := OwnB.row hv (by rw [sl_length]; omega)
  rw [sl_length]
  have hby := hv.bytes
  rw [sl_length] at hby
  have HB2 := Lib.hid (below_of HB1.out hb2)
  have HW1 := Lib.hid (writeS (HP1.out.later hb2) 0 (by omega) _ (sl a) (fun W hW => hby.chg hW (by have := HLT1.out; simp; omega)))
  unfold WrA at HW1
  rw [(kq_new a).1, (kq_new a).2] at HW1
  clear hv hg2 hby hb2
  go_wp2_with fail
  refine HW1.out.mono ?_
  rintro e w3 ⟨rfl, hP, hC⟩
  have HB3 := Lib.hid (hC.on HB2.out (by have := HG.out; simp; omega))
  have HP3 := Lib.hid hP
  have HLT3 := Lib.hid hP.lt
  clear hP hC HW1
  go_wp2_with fail
  refine (HSB.out w3).mono ?_
  rintro e w4 ⟨v, rfl, hv, hb2⟩
  obtain ⟨g4, cap4, cur4, rfl, hg4, _, _, _⟩ := OwnB.row hv (by rw [sl_length]; omega)
  rw [sl_length]
  have hby := hv.bytes
  rw [sl_length] at hby
  have HB4 := Lib.hid (below_of HB3.out hb2)
  have HW2 := Lib.hid (writeS (HP3.out.later hb2) 16 (by omega) _ (sl b) (fun W hW => hby.chg hW (by have := HLT3.out; simp; omega)))
  unfold WrA at HW2
  rw [(kp_new a b).1, (kp_new a b).2] at HW2
  clear hv hg4 hby hb2
  go_wp2_with fail
  refine HW2.out.mono ?_
  rintro e w5 ⟨rfl, hP, hC⟩
  have HB5 := Lib.hid (hC.on HB4.out (by have := HG.out; simp; omega))
  have HE := Lib.hid (beginB hP)
  unfold BeA at HE
  rw [HBG.out.1, HBG.out.2.1, HBG.out.2.2] at HE
  clear hP hC HW2
  go_wp2_with fail
  refine HE.out.mono ?_
  rintro e w6 ⟨rfl, hP, hC⟩
  have HB6 := Lib.hid (hC.on HB5.out (by have := HG.out; simp; omega))
  have HP6 := Lib.hid hP
  have HCT := Lib.hid (countB hP)
  rw [HCN.out.1, HCN.out.2] at HCT
  clear hP hC HE
  go_wp2_with fail
  refine HCT.out.mono ?_
  rintro e w7 ⟨rfl, hb7⟩
  have HB7 := Lib.hid (below_of HB6.out hb7)
  have HP7 := Lib.hid (HP6.out.later hb7)
  clear hb7 HCT HP6
  go_wp2_with fail
  refine (knownB _).mono ?_
  rintro e wk ⟨rfl, hb⟩
  have HBK := Lib.hid (below_of HB7.out hb)
  clear hb
  go_wp2_with fail
  go_ret
  exact ⟨rfl, HBK.out⟩
set_option maxHeartbeats 8000000 in
set_option maxRecDepth 100000 in
theorem keeps_maxB (a b : Nat) (w : World) (ha : a < 18446744073709551616) (hb : b < 18446744073709551616) (hm : b = 18446744073709551615) (hab : a < b) :
    Calls Try.prog 5 #[.int .u64 (a : Int), .int .u64 (b : Int)] w fun e w' => e = .returned (.bool true) ∧ Below w.heap.size w w' := by
  have HAB : Hid (a < 18446744073709551616 ∧ b < 18446744073709551616) := ⟨ha, hb⟩
  have HSA := Lib.hid (slotR a · ha)
  have HSB := Lib.hid (slotR b · hb)
  have HBG : Hid (bE (kp a b) = 5 ∧ bN (kp a b) = 0 ∧ bS (kp a b) = kp a b) := be_max (kp_lo hb (by omega)).1 ((kp_lo hb (by omega)).2.1.trans hm)
  have HCN : Hid (cN (kp a b) = 18446744073709551615 ∧ cE (kp a b) = 0) := ⟨cN_of (kp_lo hb (by omega)).1 ((kp_lo hb (by omega)).2.1.trans hm), (kp_lo hb (by omega)).1⟩
  have hd : decide (a < b) = true := decide_eq_true hab
  have hb9 : (b : Int) = 18446744073709551615 := by omega
  have q1 : ((b : Int) == 18446744073709551615) = true := beq_iff_eq.2 hb9
  have q2 : ((18446744073709551615 : Int) == (b : Int)) = true := beq_iff_eq.2 hb9.symm
  clear ha hb hm hab hb9
  go_enter Try.func5, Try.ntmps5
  go_wp2_with fail
  refine (newW 40 w (by omega) (by omega)).mono ?_
  rintro e w1 ⟨p, g, rfl, hp, hg, hP, hB⟩
  have HG := Lib.hid (And.intro hp hg)
  have HB1 := Lib.hid hB
  have HP1 := Lib.hid hP
  have HLT1 := Lib.hid hP.lt
  clear hp hg hP hB
  go_wp2_with fail
  refine (HSA.out w1).mono ?_
  rintro e w2 ⟨v, rfl, hv, hb2⟩
  obtain ⟨g2, cap2, cur, rfl, hg2, _, _, _⟩ := OwnB.row hv (by rw [sl_length]; omega)
  rw [sl_length]
  have hby := hv.bytes
  rw [sl_length] at hby
  have HB2 := Lib.hid (below_of HB1.out hb2)
  have HW1 := Lib.hid (writeS (HP1.out.later hb2) 0 (by omega) _ (sl a) (fun W hW => hby.chg hW (by have := HLT1.out; simp; omega)))
  unfold WrA at HW1
  rw [(kq_new a).1, (kq_new a).2] at HW1
  clear hv hg2 hby hb2
  go_wp2_with fail
  refine HW1.out.mono ?_
  rintro e w3 ⟨rfl, hP, hC⟩
  have HB3 := Lib.hid (hC.on HB2.out (by have := HG.out; simp; omega))
  have HP3 := Lib.hid hP
  have HLT3 := Lib.hid hP.lt
  clear hP hC HW1
  go_wp2_with fail
  refine (HSB.out w3).mono ?_
  rintro e w4 ⟨v, rfl, hv, hb2⟩
  obtain ⟨g4, cap4, cur4, rfl, hg4, _, _, _⟩ := OwnB.row hv (by rw [sl_length]; omega)
  rw [sl_length]
  have hby := hv.bytes
  rw [sl_length] at hby
  have HB4 := Lib.hid (below_of HB3.out hb2)
  have HW2 := Lib.hid (writeS (HP3.out.later hb2) 16 (by omega) _ (sl b) (fun W hW => hby.chg hW (by have := HLT3.out; simp; omega)))
  unfold WrA at HW2
  rw [(kp_new a b).1, (kp_new a b).2] at HW2
  clear hv hg4 hby hb2
  go_wp2_with fail
  refine HW2.out.mono ?_
  rintro e w5 ⟨rfl, hP, hC⟩
  have HB5 := Lib.hid (hC.on HB4.out (by have := HG.out; simp; omega))
  have HE := Lib.hid (beginB hP)
  unfold BeA at HE
  rw [HBG.out.1, HBG.out.2.1, HBG.out.2.2] at HE
  clear hP hC HW2
  go_wp2_with fail
  refine HE.out.mono ?_
  rintro e w6 ⟨rfl, hP, hC⟩
  have HB6 := Lib.hid (hC.on HB5.out (by have := HG.out; simp; omega))
  have HP6 := Lib.hid hP
  have HCT := Lib.hid (countB hP)
  rw [HCN.out.1, HCN.out.2] at HCT
  clear hP hC HE
  go_wp2_with fail
  refine HCT.out.mono ?_
  rintro e w7 ⟨rfl, hb7⟩
  have HB7 := Lib.hid (below_of HB6.out hb7)
  have HP7 := Lib.hid (HP6.out.later hb7)
  clear hb7 HCT HP6
  go_wp2_with fail
  refine (knownB _).mono ?_
  rintro e wk ⟨rfl, hb⟩
  have HBK := Lib.hid (below_of HB7.out hb)
  clear hb
  go_wp2_with fail
  go_ret
  exact ⟨rfl, HBK.out⟩
set_option maxHeartbeats 8000000 in
set_option maxRecDepth 100000 in
theorem keeps_hi (a b : Nat) (w : World) (ha : a < 18446744073709551616) (hb : b < 18446744073709551616) (hm : a < 18446744073709551615) (hlt : b < a) :
    Calls Try.prog 5 #[.int .u64 (a : Int), .int .u64 (b : Int)] w fun e w' => e = .returned (.bool true) ∧ Below w.heap.size w w' := by
  have HAB : Hid (a < 18446744073709551616 ∧ b < 18446744073709551616) := ⟨ha, hb⟩
  have HSA := Lib.hid (slotR a · ha)
  have HSB := Lib.hid (slotR b · hb)
  have HBG : Hid (bE (kp a b) = 0 ∧ bN (kp a b) = a + 1 ∧ bS (kp a b) = kp a (a + 1)) := bg_hi hm hlt
  have HCN : Hid (cN (kp a (a + 1)) = a + 1 ∧ cE (kp a (a + 1)) = 0) := ⟨cN_of (kp_lo (by omega) (by omega)).1 (kp_lo (by omega) (by omega)).2.1, (kp_lo (by omega) (by omega)).1⟩
  have hd : decide (a < b) = false := decide_eq_false (by omega)
  have HSRA := Lib.hid (fun w => slotK a w (a : Int) ha rfl)
  have HSRB := Lib.hid (fun w => slotK b w (b : Int) hb rfl)
  have HSRN := Lib.hid (fun w => slotK (a + 1) w ((a : Int) + 1) (by omega) (by omega))
  have hw : IntKind.u64.wrap ((a : Int) + 1) = (a : Int) + 1 := IntWalk.u64_in _ ⟨by omega, by omega⟩
  have q1 : ((a : Int) == 18446744073709551615) = false := beq_eq_false_iff_ne.2 (by omega)
  have s1 := strb_ne (l := sl (a + 1)) (m := sl b) (fun h => by have := sl_inj (by omega) hb h; omega)
  have s2 := str_ne (l := sl (a + 1)) (m := sl b) (fun h => by have := sl_inj (by omega) hb h; omega)
  have q3 : ((a : Int) == (b : Int)) = false := beq_eq_false_iff_ne.2 (by omega)
  have q4 : (a == b) = false := beq_eq_false_iff_ne.2 (by omega)
  have q5 : decide (b < a) = true := decide_eq_true hlt
  clear ha hb hm hlt
  go_enter Try.func5, Try.ntmps5
  go_wp2_with fail
  refine (newW 40 w (by omega) (by omega)).mono ?_
  rintro e w1 ⟨p, g, rfl, hp, hg, hP, hB⟩
  have HG := Lib.hid (And.intro hp hg)
  have HB1 := Lib.hid hB
  have HP1 := Lib.hid hP
  have HLT1 := Lib.hid hP.lt
  clear hp hg hP hB
  go_wp2_with fail
  refine (HSA.out w1).mono ?_
  rintro e w2 ⟨v, rfl, hv, hb2⟩
  obtain ⟨g2, cap2, cur, rfl, hg2, _, _, _⟩ := OwnB.row hv (by rw [sl_length]; omega)
  rw [sl_length]
  have hby := hv.bytes
  rw [sl_length] at hby
  have HB2 := Lib.hid (below_of HB1.out hb2)
  have HW1 := Lib.hid (writeS (HP1.out.later hb2) 0 (by omega) _ (sl a) (fun W hW => hby.chg hW (by have := HLT1.out; simp; omega)))
  unfold WrA at HW1
  rw [(kq_new a).1, (kq_new a).2] at HW1
  clear hv hg2 hby hb2
  go_wp2_with fail
  refine HW1.out.mono ?_
  rintro e w3 ⟨rfl, hP, hC⟩
  have HB3 := Lib.hid (hC.on HB2.out (by have := HG.out; simp; omega))
  have HP3 := Lib.hid hP
  have HLT3 := Lib.hid hP.lt
  clear hP hC HW1
  go_wp2_with fail
  refine (HSB.out w3).mono ?_
  rintro e w4 ⟨v, rfl, hv, hb2⟩
  obtain ⟨g4, cap4, cur4, rfl, hg4, _, _, _⟩ := OwnB.row hv (by rw [sl_length]; omega)
  rw [sl_length]
  have hby := hv.bytes
  rw [sl_length] at hby
  have HB4 := Lib.hid (below_of HB3.out hb2)
  have HW2 := Lib.hid (writeS (HP3.out.later hb2) 16 (by omega) _ (sl b) (fun W hW => hby.chg hW (by have := HLT3.out; simp; omega)))
  unfold WrA at HW2
  rw [(kp_new a b).1, (kp_new a b).2] at HW2
  clear hv hg4 hby hb2
  go_wp2_with fail
  refine HW2.out.mono ?_
  rintro e w5 ⟨rfl, hP, hC⟩
  have HB5 := Lib.hid (hC.on HB4.out (by have := HG.out; simp; omega))
  have HE := Lib.hid (beginB hP)
  unfold BeA at HE
  rw [HBG.out.1, HBG.out.2.1, HBG.out.2.2] at HE
  clear hP hC HW2
  go_wp2_with fail
  refine HE.out.mono ?_
  rintro e w6 ⟨rfl, hP, hC⟩
  have HB6 := Lib.hid (hC.on HB5.out (by have := HG.out; simp; omega))
  have HP6 := Lib.hid hP
  have HCT := Lib.hid (countB hP)
  rw [HCN.out.1, HCN.out.2] at HCT
  clear hP hC HE
  go_wp2_with fail
  refine HCT.out.mono ?_
  rintro e w7 ⟨rfl, hb7⟩
  have HB7 := Lib.hid (below_of HB6.out hb7)
  have HP7 := Lib.hid (HP6.out.later hb7)
  clear hb7 HCT HP6
  go_wp2_with fail
  have HR1 := Lib.hid (readS HP7.out 0 16 (by omega))
  unfold RdA at HR1
  rw [(kp_rd0 _ _).1, (kp_rd0 _ _).2] at HR1
  refine HR1.out.mono ?_
  rintro e w8 ⟨v8, rfl, hv8, hb8⟩
  obtain ⟨a8, c8, rfl⟩ := hv8.form
  rw [sl_length] at hv8 ⊢
  have HX8 := Lib.hid hv8
  have HB8 := Lib.hid (below_of HB7.out hb8)
  have HR2 := Lib.hid (readS (HP7.out.later hb8) 16 16 (by omega))
  unfold RdA at HR2
  rw [(kp_rd1 _ _).1, (kp_rd1 _ _).2] at HR2
  clear hv8 hb8 HR1
  go_wp2_with fail
  refine HR2.out.mono ?_
  rintro e w9 ⟨v9, rfl, hv9, hb9⟩
  obtain ⟨a9, c9, rfl⟩ := hv9.form
  rw [sl_length] at hv9 ⊢
  have HX := Lib.hid (HX8.out.later hb9)
  have HY := Lib.hid hv9
  have HB9 := Lib.hid (below_of HB8.out hb9)
  clear hv9 hb9 HR2 HX8
  go_wp2_with fail
  (refine wp_region_held_drew (S := (fun w' => Below w9.heap.size w9 w')) (by kernel_rfl) ?_ (fun hHeld => ?_); (focus ((try dsimp only); (exact (Below.refl _ _).drew))))
  (try dsimp only at hHeld)
  obtain ⟨w0p, hw0p⟩ : ∃ W0, W0 = World.drew w9 := ⟨_, rfl⟩
  rw [← hw0p]
  rw [← hw0p] at hHeld
  clear hw0p
  (refine wpAnyH_take (i := 0) (v := ?_) rfl (by kernel_rfl) (by kernel_rfl) (by kernel_rfl) (fun _ _ _ h => h) (Or.inl ⟨by rfl, ?_⟩) hHeld ?_; rotate_left; (focus (intro w hSw; (try dsimp only at hSw); go_simp; try with_reducible rfl)); (try simp only [Act.put, List.setIfInBounds_toArray, List.set_cons_zero, List.set_cons_succ, List.getElem_toArray, List.getElem_cons_zero]))
  (refine wpAnyH_take (i := 1) (v := ?_) rfl (by kernel_rfl) (by kernel_rfl) (by kernel_rfl) (fun _ _ _ h => h) (Or.inl ⟨by rfl, ?_⟩) hHeld ?_; rotate_left; (focus (intro w hSw; (try dsimp only at hSw); go_simp; (have hz := (Bytes.later HX.out hSw).str (P := Try.prog) (src := 22) (dst := 9) Try.underlying22 Try.underlying5 Try.underlying9; go_simp; try with_reducible rfl))); (try simp only [Act.put, List.setIfInBounds_toArray, List.set_cons_zero, List.set_cons_succ, List.getElem_toArray, List.getElem_cons_zero, List.getElem_cons_succ]))
  (refine wpAnyH_take (i := 2) (v := ?_) rfl (by kernel_rfl) (by kernel_rfl) (by kernel_rfl) (fun _ _ _ h => h) (Or.inl ⟨by rfl, ?_⟩) hHeld ?_; rotate_left; (focus (intro w hSw; (try dsimp only at hSw); go_simp; try with_reducible rfl)); (try simp only [Act.put, List.setIfInBounds_toArray, List.set_cons_zero, List.set_cons_succ, List.getElem_toArray, List.getElem_cons_zero, List.getElem_cons_succ]))
  refine wpAnyH_at (m := #[true, true, true, false, false, false, false, false, false, false, false, false, false, false, false]) (by kernel_rfl) ?_
  (refine wpAnyH_ready (rs := [3]) (by kernel_rfl) (by simp) ?_; refine AllReadyH.cons rfl (fun K hK => ?_) AllReadyH.nil; go_simp; refine (HSRA.out _).mono ?_; rintro e y3p ⟨v3, rfl, hv3, hs⟩; refine hK.out _ _ ?_ (fun hHeldN => ?_); (focus ((try dsimp only); (exact hHeld.trans (hs.mono hHeld.size)))); clear hK K hHeld; have hHeld := hHeldN; clear hHeldN; (try simp only [Act.put, List.setIfInBounds_toArray, List.set_cons_zero, List.set_cons_succ, List.getElem_toArray, List.getElem_cons_zero, List.getElem_cons_succ]))
  obtain ⟨a3, c3, rfl⟩ := hv3.form
  rw [sl_length] at hv3 ⊢
  have HY3p := Lib.hid hv3
  clear hv3
  have HH3p := Lib.hid hHeld
  clear hs hHeld
  refine wpAnyH_str (S' := fun w' => Below y3p.heap.size y3p w') (fun w' h => HH3p.out.trans (h.mono HH3p.out.size)) _ _ _ _ ?_
  have hHeld := Below.refl y3p.heap.size y3p
  refine wpAnyH_at (m := #[true, true, true, true, false, false, false, false, false, false, false, false, false, false, false]) (by kernel_rfl) ?_
  (refine wpAnyH_take (i := 4) (v := ?_) rfl (by kernel_rfl) (by kernel_rfl) (by kernel_rfl) (fun _ _ _ h => h) (Or.inl ⟨by rfl, ?_⟩) hHeld ?_; rotate_left; (focus (intro w hSw; (try dsimp only at hSw); go_simp; (have hz := (Bytes.later HY3p.out hSw).str (P := Try.prog) (src := 22) (dst := 9) Try.underlying22 Try.underlying5 Try.underlying9; go_simp; try with_reducible rfl))); (try simp only [Act.put, List.setIfInBounds_toArray, List.set_cons_zero, List.set_cons_succ, List.getElem_toArray, List.getElem_cons_zero, List.getElem_cons_succ]))
  (refine wpAnyH_take (i := 5) (v := ?_) rfl (by kernel_rfl) (by kernel_rfl) (by kernel_rfl) (fun _ _ _ h => h) (Or.inl ⟨by rfl, ?_⟩) hHeld ?_; rotate_left; (focus (intro w hSw; (try dsimp only at hSw); go_simp; try with_reducible rfl)); (try simp only [Act.put, List.setIfInBounds_toArray, List.set_cons_zero, List.set_cons_succ, List.getElem_toArray, List.getElem_cons_zero, List.getElem_cons_succ])); (refine wpAnyH_take (i := 6) (v := ?_) rfl (by kernel_rfl) (by kernel_rfl) (by kernel_rfl) (fun _ _ _ h => h) (Or.inl ⟨by rfl, ?_⟩) hHeld ?_; rotate_left; (focus (intro w hSw; (try dsimp only at hSw); go_simp; try with_reducible rfl)); (try simp only [Act.put, List.setIfInBounds_toArray, List.set_cons_zero, List.set_cons_succ, List.getElem_toArray, List.getElem_cons_zero, List.getElem_cons_succ]))
  (refine wpAnyH_take (i := 7) (v := ?_) rfl (by kernel_rfl) (by kernel_rfl) (by kernel_rfl) (fun _ _ _ h => h) (Or.inl ⟨by rfl, ?_⟩) hHeld ?_; rotate_left; (focus (intro w hSw; (try dsimp only at hSw); go_simp; try with_reducible rfl)); (try simp only [Act.put, List.setIfInBounds_toArray, List.set_cons_zero, List.set_cons_succ, List.getElem_toArray, List.getElem_cons_zero, List.getElem_cons_succ]))
  (refine wpAnyH_take (i := 8) (v := ?_) rfl (by kernel_rfl) (by kernel_rfl) (by kernel_rfl) (fun _ _ _ h => h) (Or.inl ⟨by rfl, ?_⟩) hHeld ?_; rotate_left; (focus (intro w hSw; (try dsimp only at hSw); go_simp; (have hSw := HH3p.out.trans (hSw.mono HH3p.out.size); have hz := (Bytes.later HY.out hSw).str (P := Try.prog) (src := 22) (dst := 9) Try.underlying22 Try.underlying5 Try.underlying9; go_simp; try with_reducible rfl))); (try simp only [Act.put, List.setIfInBounds_toArray, List.set_cons_zero, List.set_cons_succ, List.getElem_toArray, List.getElem_cons_zero, List.getElem_cons_succ]))
  (refine wpAnyH_take (i := 9) (v := ?_) rfl (by kernel_rfl) (by kernel_rfl) (by kernel_rfl) (fun _ _ _ h => h) (Or.inl ⟨by rfl, ?_⟩) hHeld ?_; rotate_left; (focus (intro w hSw; (try dsimp only at hSw); go_simp; try with_reducible rfl)); (try simp only [Act.put, List.setIfInBounds_toArray, List.set_cons_zero, List.set_cons_succ, List.getElem_toArray, List.getElem_cons_zero, List.getElem_cons_succ]))
  refine wpAnyH_at (m := #[true, true, true, true, true, true, true, true, true, true, false, false, false, false, false]) (by kernel_rfl) ?_
  (refine wpAnyH_ready (rs := [10]) (by kernel_rfl) (by simp) ?_; refine AllReadyH.cons rfl (fun K hK => ?_) AllReadyH.nil; go_simp; refine (HSRN.out _).mono ?_; rintro e y10p ⟨v10, rfl, hv10, hs⟩; refine hK.out _ _ ?_ (fun hHeldN => ?_); (focus ((try dsimp only); (exact hHeld.trans (hs.mono hHeld.size)))); clear hK K hHeld; have hHeld := hHeldN; clear hHeldN; (try simp only [Act.put, List.setIfInBounds_toArray, List.set_cons_zero, List.set_cons_succ, List.getElem_toArray, List.getElem_cons_zero, List.getElem_cons_succ]))
  obtain ⟨a10, c10, rfl⟩ := hv10.form
  rw [sl_length] at hv10 ⊢
  have HY10p := Lib.hid hv10
  clear hv10
  have HH10p := Lib.hid hHeld
  clear hs hHeld
  refine wpAnyH_str (S' := fun w' => Below y10p.heap.size y10p w') (fun w' h => HH10p.out.trans (h.mono HH10p.out.size)) _ _ _ _ ?_
  have hHeld := Below.refl y10p.heap.size y10p
  refine wpAnyH_at (m := #[true, true, true, true, true, true, true, true, true, true, true, false, false, false, false]) (by kernel_rfl) ?_
  (refine wpAnyH_take (i := 11) (v := ?_) rfl (by kernel_rfl) (by kernel_rfl) (by kernel_rfl) (fun _ _ _ h => h) (Or.inl ⟨by rfl, ?_⟩) hHeld ?_; rotate_left; (focus (intro w hSw; (try dsimp only at hSw); go_simp; (have hz := (Bytes.later HY10p.out hSw).str (P := Try.prog) (src := 22) (dst := 9) Try.underlying22 Try.underlying5 Try.underlying9; go_simp; try with_reducible rfl))); (try simp only [Act.put, List.setIfInBounds_toArray, List.set_cons_zero, List.set_cons_succ, List.getElem_toArray, List.getElem_cons_zero, List.getElem_cons_succ]))
  (refine wpAnyH_take (i := 12) (v := ?_) rfl (by kernel_rfl) (by kernel_rfl) (by kernel_rfl) (fun _ _ _ h => h) (Or.inl ⟨by rfl, ?_⟩) hHeld ?_; rotate_left; (focus (intro w hSw; (try dsimp only at hSw); go_simp; try with_reducible rfl)); (try simp only [Act.put, List.setIfInBounds_toArray, List.set_cons_zero, List.set_cons_succ, List.getElem_toArray, List.getElem_cons_zero, List.getElem_cons_succ])); (refine wpAnyH_take (i := 13) (v := ?_) rfl (by kernel_rfl) (by kernel_rfl) (by kernel_rfl) (fun _ _ _ h => h) (Or.inl ⟨by rfl, ?_⟩) hHeld ?_; rotate_left; (focus (intro w hSw; (try dsimp only at hSw); go_simp; try with_reducible rfl)); (try simp only [Act.put, List.setIfInBounds_toArray, List.set_cons_zero, List.set_cons_succ, List.getElem_toArray, List.getElem_cons_zero, List.getElem_cons_succ])); (refine wpAnyH_take (i := 14) (v := ?_) rfl (by kernel_rfl) (by kernel_rfl) (by kernel_rfl) (fun _ _ _ h => h) (Or.inl ⟨by rfl, ?_⟩) hHeld ?_; rotate_left; (focus (intro w hSw; (try dsimp only at hSw); go_simp; try with_reducible rfl)); (try simp only [Act.put, List.setIfInBounds_toArray, List.set_cons_zero, List.set_cons_succ, List.getElem_toArray, List.getElem_cons_zero, List.getElem_cons_succ]))
  refine wpAnyH_done (by kernel_rfl) ?_ _
  have HQ := Lib.hid (HH3p.out.trans (HH10p.out.mono HH3p.out.size))
  clear hHeld HY3p HY10p HH3p HH10p
  have HX2 := Lib.hid (HX.out.later HQ.out)
  have HY2 := Lib.hid (HY.out.later HQ.out)
  have HB10 := Lib.hid (below_of HB9.out HQ.out)
  go_wp2_with fail
  (refine wp_region_held_drew (S := (fun w' => Below y10p.heap.size y10p w')) (by kernel_rfl) ?_ (fun hHeld => ?_); (focus ((try dsimp only); (exact (Below.refl _ _).drew))))
  (try dsimp only at hHeld)
  obtain ⟨w0q, hw0q⟩ : ∃ W0, W0 = World.drew y10p := ⟨_, rfl⟩
  rw [← hw0q]
  rw [← hw0q] at hHeld
  clear hw0q
  (refine wpAnyH_take (i := 0) (v := ?_) rfl (by kernel_rfl) (by kernel_rfl) (by kernel_rfl) (fun _ _ _ h => h) (Or.inl ⟨by rfl, ?_⟩) hHeld ?_; rotate_left; (focus (intro w hSw; (try dsimp only at hSw); go_simp; try with_reducible rfl)); (try simp only [Act.put, List.setIfInBounds_toArray, List.set_cons_zero, List.set_cons_succ, List.getElem_toArray, List.getElem_cons_zero]))
  (refine wpAnyH_take (i := 1) (v := ?_) rfl (by kernel_rfl) (by kernel_rfl) (by kernel_rfl) (fun _ _ _ h => h) (Or.inl ⟨by rfl, ?_⟩) hHeld ?_; rotate_left; (focus (intro w hSw; (try dsimp only at hSw); go_simp; (have hz := (Bytes.later HY2.out hSw).str (P := Try.prog) (src := 22) (dst := 9) Try.underlying22 Try.underlying5 Try.underlying9; go_simp; try with_reducible rfl))); (try simp only [Act.put, List.setIfInBounds_toArray, List.set_cons_zero, List.set_cons_succ, List.getElem_toArray, List.getElem_cons_zero, List.getElem_cons_succ]))
  (refine wpAnyH_take (i := 2) (v := ?_) rfl (by kernel_rfl) (by kernel_rfl) (by kernel_rfl) (fun _ _ _ h => h) (Or.inl ⟨by rfl, ?_⟩) hHeld ?_; rotate_left; (focus (intro w hSw; (try dsimp only at hSw); go_simp; try with_reducible rfl)); (try simp only [Act.put, List.setIfInBounds_toArray, List.set_cons_zero, List.set_cons_succ, List.getElem_toArray, List.getElem_cons_zero, List.getElem_cons_succ]))
  refine wpAnyH_at (m := #[true, true, true, false, false, false, false, false, false, false, false, false, false, false, false]) (by kernel_rfl) ?_
  (refine wpAnyH_ready (rs := [3]) (by kernel_rfl) (by simp) ?_; refine AllReadyH.cons rfl (fun K hK => ?_) AllReadyH.nil; go_simp; refine (HSRB.out _).mono ?_; rintro e y3q ⟨v3, rfl, hv3, hs⟩; refine hK.out _ _ ?_ (fun hHeldN => ?_); (focus ((try dsimp only); (exact hHeld.trans (hs.mono hHeld.size)))); clear hK K hHeld; have hHeld := hHeldN; clear hHeldN; (try simp only [Act.put, List.setIfInBounds_toArray, List.set_cons_zero, List.set_cons_succ, List.getElem_toArray, List.getElem_cons_zero, List.getElem_cons_succ]))
  obtain ⟨a3, c3, rfl⟩ := hv3.form
  rw [sl_length] at hv3 ⊢
  have HY3q := Lib.hid hv3
  clear hv3
  have HH3q := Lib.hid hHeld
  clear hs hHeld
  refine wpAnyH_str (S' := fun w' => Below y3q.heap.size y3q w') (fun w' h => HH3q.out.trans (h.mono HH3q.out.size)) _ _ _ _ ?_
  have hHeld := Below.refl y3q.heap.size y3q
  refine wpAnyH_at (m := #[true, true, true, true, false, false, false, false, false, false, false, false, false, false, false]) (by kernel_rfl) ?_
  (refine wpAnyH_take (i := 4) (v := ?_) rfl (by kernel_rfl) (by kernel_rfl) (by kernel_rfl) (fun _ _ _ h => h) (Or.inl ⟨by rfl, ?_⟩) hHeld ?_; rotate_left; (focus (intro w hSw; (try dsimp only at hSw); go_simp; (have hz := (Bytes.later HY3q.out hSw).str (P := Try.prog) (src := 22) (dst := 9) Try.underlying22 Try.underlying5 Try.underlying9; go_simp; try with_reducible rfl))); (try simp only [Act.put, List.setIfInBounds_toArray, List.set_cons_zero, List.set_cons_succ, List.getElem_toArray, List.getElem_cons_zero, List.getElem_cons_succ]))
  (refine wpAnyH_take (i := 5) (v := ?_) rfl (by kernel_rfl) (by kernel_rfl) (by kernel_rfl) (fun _ _ _ h => h) (Or.inl ⟨by rfl, ?_⟩) hHeld ?_; rotate_left; (focus (intro w hSw; (try dsimp only at hSw); go_simp; try with_reducible rfl)); (try simp only [Act.put, List.setIfInBounds_toArray, List.set_cons_zero, List.set_cons_succ, List.getElem_toArray, List.getElem_cons_zero, List.getElem_cons_succ])); (refine wpAnyH_take (i := 6) (v := ?_) rfl (by kernel_rfl) (by kernel_rfl) (by kernel_rfl) (fun _ _ _ h => h) (Or.inl ⟨by rfl, ?_⟩) hHeld ?_; rotate_left; (focus (intro w hSw; (try dsimp only at hSw); go_simp; try with_reducible rfl)); (try simp only [Act.put, List.setIfInBounds_toArray, List.set_cons_zero, List.set_cons_succ, List.getElem_toArray, List.getElem_cons_zero, List.getElem_cons_succ]))
  (refine wpAnyH_take (i := 7) (v := undef) rfl (by kernel_rfl) (by kernel_rfl) (by kernel_rfl) (fun _ _ _ h => h) (Or.inr ⟨by rfl, rfl⟩) hHeld ?_; (try simp only [Act.put, List.setIfInBounds_toArray, List.set_cons_zero, List.set_cons_succ, List.getElem_toArray, List.getElem_cons_zero, List.getElem_cons_succ])); (refine wpAnyH_take (i := 8) (v := undef) rfl (by kernel_rfl) (by kernel_rfl) (by kernel_rfl) (fun _ _ _ h => h) (Or.inr ⟨by rfl, rfl⟩) hHeld ?_; (try simp only [Act.put, List.setIfInBounds_toArray, List.set_cons_zero, List.set_cons_succ, List.getElem_toArray, List.getElem_cons_zero, List.getElem_cons_succ])); (refine wpAnyH_take (i := 9) (v := undef) rfl (by kernel_rfl) (by kernel_rfl) (by kernel_rfl) (fun _ _ _ h => h) (Or.inr ⟨by rfl, rfl⟩) hHeld ?_; (try simp only [Act.put, List.setIfInBounds_toArray, List.set_cons_zero, List.set_cons_succ, List.getElem_toArray, List.getElem_cons_zero, List.getElem_cons_succ])); (refine wpAnyH_take (i := 10) (v := undef) rfl (by kernel_rfl) (by kernel_rfl) (by kernel_rfl) (fun _ _ _ h => h) (Or.inr ⟨by rfl, rfl⟩) hHeld ?_; (try simp only [Act.put, List.setIfInBounds_toArray, List.set_cons_zero, List.set_cons_succ, List.getElem_toArray, List.getElem_cons_zero, List.getElem_cons_succ])); (refine wpAnyH_take (i := 11) (v := undef) rfl (by kernel_rfl) (by kernel_rfl) (by kernel_rfl) (fun _ _ _ h => h) (Or.inr ⟨by rfl, rfl⟩) hHeld ?_; (try simp only [Act.put, List.setIfInBounds_toArray, List.set_cons_zero, List.set_cons_succ, List.getElem_toArray, List.getElem_cons_zero, List.getElem_cons_succ])); (refine wpAnyH_take (i := 12) (v := undef) rfl (by kernel_rfl) (by kernel_rfl) (by kernel_rfl) (fun _ _ _ h => h) (Or.inr ⟨by rfl, rfl⟩) hHeld ?_; (try simp only [Act.put, List.setIfInBounds_toArray, List.set_cons_zero, List.set_cons_succ, List.getElem_toArray, List.getElem_cons_zero, List.getElem_cons_succ]))
  (refine wpAnyH_take (i := 13) (v := ?_) rfl (by kernel_rfl) (by kernel_rfl) (by kernel_rfl) (fun _ _ _ h => h) (Or.inl ⟨by rfl, ?_⟩) hHeld ?_; rotate_left; (focus (intro w hSw; (try dsimp only at hSw); go_simp; try with_reducible rfl)); (try simp only [Act.put, List.setIfInBounds_toArray, List.set_cons_zero, List.set_cons_succ, List.getElem_toArray, List.getElem_cons_zero, List.getElem_cons_succ])); (refine wpAnyH_take (i := 14) (v := ?_) rfl (by kernel_rfl) (by kernel_rfl) (by kernel_rfl) (fun _ _ _ h => h) (Or.inl ⟨by rfl, ?_⟩) hHeld ?_; rotate_left; (focus (intro w hSw; (try dsimp only at hSw); go_simp; try with_reducible rfl)); (try simp only [Act.put, List.setIfInBounds_toArray, List.set_cons_zero, List.set_cons_succ, List.getElem_toArray, List.getElem_cons_zero, List.getElem_cons_succ]))
  refine wpAnyH_done (by kernel_rfl) ?_ _
  have HQ2 := Lib.hid HH3q.out
  clear hHeld HY3q HH3q
  have HB11 := Lib.hid (below_of HB10.out HQ2.out)
  go_wp2_with fail
  refine (knownB _).mono ?_
  rintro e wk ⟨rfl, hb⟩
  have HBK := Lib.hid (below_of HB11.out hb)
  clear hb
  go_wp2_with fail
  go_ret
  exact ⟨rfl, HBK.out⟩
set_option maxHeartbeats 8000000 in
set_option maxRecDepth 100000 in
theorem keeps_lo (a b : Nat) (w : World) (ha : a < 18446744073709551616) (hb : b < 18446744073709551616) (hm : b < 18446744073709551615) (hlt : a < b) :
    Calls Try.prog 5 #[.int .u64 (a : Int), .int .u64 (b : Int)] w fun e w' => e = .returned (.bool true) ∧ Below w.heap.size w w' := by
  have HAB : Hid (a < 18446744073709551616 ∧ b < 18446744073709551616) := ⟨ha, hb⟩
  have HSA := Lib.hid (slotR a · ha)
  have HSB := Lib.hid (slotR b · hb)
  have HBG : Hid (bE (kp a b) = 0 ∧ bN (kp a b) = b + 1 ∧ bS (kp a b) = kp (b + 1) b) := bg_lo hm (by omega)
  have HCN : Hid (cN (kp (b + 1) b) = b + 1 ∧ cE (kp (b + 1) b) = 0) := ⟨cN_of (kp_hi (by omega) (by omega)).1 (kp_hi (by omega) (by omega)).2.1, (kp_hi (by omega) (by omega)).1⟩
  have hd : decide (a < b) = true := decide_eq_true hlt
  have HSRA := Lib.hid (fun w => slotK a w (a : Int) ha rfl)
  have HSRB := Lib.hid (fun w => slotK b w (b : Int) hb rfl)
  have HSRN := Lib.hid (fun w => slotK (b + 1) w ((b : Int) + 1) (by omega) (by omega))
  have hw : IntKind.u64.wrap ((b : Int) + 1) = (b : Int) + 1 := IntWalk.u64_in _ ⟨by omega, by omega⟩
  have q1 : ((b : Int) == 18446744073709551615) = false := beq_eq_false_iff_ne.2 (by omega)
  have s1 := strb_ne (l := sl (b + 1)) (m := sl a) (fun h => by have := sl_inj (by omega) ha h; omega)
  have s2 := str_ne (l := sl (b + 1)) (m := sl a) (fun h => by have := sl_inj (by omega) ha h; omega)
  have q3 : ((a : Int) == (b : Int)) = false := beq_eq_false_iff_ne.2 (by omega)
  have q4 : (a == b) = false := beq_eq_false_iff_ne.2 (by omega)
  have q5 : decide (b < a) = false := decide_eq_false (by omega)
  clear ha hb hm hlt
  go_enter Try.func5, Try.ntmps5
  go_wp2_with fail
  refine (newW 40 w (by omega) (by omega)).mono ?_
  rintro e w1 ⟨p, g, rfl, hp, hg, hP, hB⟩
  have HG := Lib.hid (And.intro hp hg)
  have HB1 := Lib.hid hB
  have HP1 := Lib.hid hP
  have HLT1 := Lib.hid hP.lt
  clear hp hg hP hB
  go_wp2_with fail
  refine (HSA.out w1).mono ?_
  rintro e w2 ⟨v, rfl, hv, hb2⟩
  obtain ⟨g2, cap2, cur, rfl, hg2, _, _, _⟩ := OwnB.row hv (by rw [sl_length]; omega)
  rw [sl_length]
  have hby := hv.bytes
  rw [sl_length] at hby
  have HB2 := Lib.hid (below_of HB1.out hb2)
  have HW1 := Lib.hid (writeS (HP1.out.later hb2) 0 (by omega) _ (sl a) (fun W hW => hby.chg hW (by have := HLT1.out; simp; omega)))
  unfold WrA at HW1
  rw [(kq_new a).1, (kq_new a).2] at HW1
  clear hv hg2 hby hb2
  go_wp2_with fail
  refine HW1.out.mono ?_
  rintro e w3 ⟨rfl, hP, hC⟩
  have HB3 := Lib.hid (hC.on HB2.out (by have := HG.out; simp; omega))
  have HP3 := Lib.hid hP
  have HLT3 := Lib.hid hP.lt
  clear hP hC HW1
  go_wp2_with fail
  refine (HSB.out w3).mono ?_
  rintro e w4 ⟨v, rfl, hv, hb2⟩
  obtain ⟨g4, cap4, cur4, rfl, hg4, _, _, _⟩ := OwnB.row hv (by rw [sl_length]; omega)
  rw [sl_length]
  have hby := hv.bytes
  rw [sl_length] at hby
  have HB4 := Lib.hid (below_of HB3.out hb2)
  have HW2 := Lib.hid (writeS (HP3.out.later hb2) 16 (by omega) _ (sl b) (fun W hW => hby.chg hW (by have := HLT3.out; simp; omega)))
  unfold WrA at HW2
  rw [(kp_new a b).1, (kp_new a b).2] at HW2
  clear hv hg4 hby hb2
  go_wp2_with fail
  refine HW2.out.mono ?_
  rintro e w5 ⟨rfl, hP, hC⟩
  have HB5 := Lib.hid (hC.on HB4.out (by have := HG.out; simp; omega))
  have HE := Lib.hid (beginB hP)
  unfold BeA at HE
  rw [HBG.out.1, HBG.out.2.1, HBG.out.2.2] at HE
  clear hP hC HW2
  go_wp2_with fail
  refine HE.out.mono ?_
  rintro e w6 ⟨rfl, hP, hC⟩
  have HB6 := Lib.hid (hC.on HB5.out (by have := HG.out; simp; omega))
  have HP6 := Lib.hid hP
  have HCT := Lib.hid (countB hP)
  rw [HCN.out.1, HCN.out.2] at HCT
  clear hP hC HE
  go_wp2_with fail
  refine HCT.out.mono ?_
  rintro e w7 ⟨rfl, hb7⟩
  have HB7 := Lib.hid (below_of HB6.out hb7)
  have HP7 := Lib.hid (HP6.out.later hb7)
  clear hb7 HCT HP6
  go_wp2_with fail
  have HR1 := Lib.hid (readS HP7.out 0 16 (by omega))
  unfold RdA at HR1
  rw [(kp_rd0 _ _).1, (kp_rd0 _ _).2] at HR1
  refine HR1.out.mono ?_
  rintro e w8 ⟨v8, rfl, hv8, hb8⟩
  obtain ⟨a8, c8, rfl⟩ := hv8.form
  rw [sl_length] at hv8 ⊢
  have HX8 := Lib.hid hv8
  have HB8 := Lib.hid (below_of HB7.out hb8)
  have HR2 := Lib.hid (readS (HP7.out.later hb8) 16 16 (by omega))
  unfold RdA at HR2
  rw [(kp_rd1 _ _).1, (kp_rd1 _ _).2] at HR2
  clear hv8 hb8 HR1
  go_wp2_with fail
  refine HR2.out.mono ?_
  rintro e w9 ⟨v9, rfl, hv9, hb9⟩
  obtain ⟨a9, c9, rfl⟩ := hv9.form
  rw [sl_length] at hv9 ⊢
  have HX := Lib.hid (HX8.out.later hb9)
  have HY := Lib.hid hv9
  have HB9 := Lib.hid (below_of HB8.out hb9)
  clear hv9 hb9 HR2 HX8
  go_wp2_with fail
  (refine wp_region_held_drew (S := (fun w' => Below w9.heap.size w9 w')) (by kernel_rfl) ?_ (fun hHeld => ?_); (focus ((try dsimp only); (exact (Below.refl _ _).drew))))
  (try dsimp only at hHeld)
  obtain ⟨w0p, hw0p⟩ : ∃ W0, W0 = World.drew w9 := ⟨_, rfl⟩
  rw [← hw0p]
  rw [← hw0p] at hHeld
  clear hw0p
  (refine wpAnyH_take (i := 0) (v := ?_) rfl (by kernel_rfl) (by kernel_rfl) (by kernel_rfl) (fun _ _ _ h => h) (Or.inl ⟨by rfl, ?_⟩) hHeld ?_; rotate_left; (focus (intro w hSw; (try dsimp only at hSw); go_simp; try with_reducible rfl)); (try simp only [Act.put, List.setIfInBounds_toArray, List.set_cons_zero, List.set_cons_succ, List.getElem_toArray, List.getElem_cons_zero]))
  (refine wpAnyH_take (i := 1) (v := ?_) rfl (by kernel_rfl) (by kernel_rfl) (by kernel_rfl) (fun _ _ _ h => h) (Or.inl ⟨by rfl, ?_⟩) hHeld ?_; rotate_left; (focus (intro w hSw; (try dsimp only at hSw); go_simp; (have hz := (Bytes.later HX.out hSw).str (P := Try.prog) (src := 22) (dst := 9) Try.underlying22 Try.underlying5 Try.underlying9; go_simp; try with_reducible rfl))); (try simp only [Act.put, List.setIfInBounds_toArray, List.set_cons_zero, List.set_cons_succ, List.getElem_toArray, List.getElem_cons_zero, List.getElem_cons_succ]))
  (refine wpAnyH_take (i := 2) (v := ?_) rfl (by kernel_rfl) (by kernel_rfl) (by kernel_rfl) (fun _ _ _ h => h) (Or.inl ⟨by rfl, ?_⟩) hHeld ?_; rotate_left; (focus (intro w hSw; (try dsimp only at hSw); go_simp; try with_reducible rfl)); (try simp only [Act.put, List.setIfInBounds_toArray, List.set_cons_zero, List.set_cons_succ, List.getElem_toArray, List.getElem_cons_zero, List.getElem_cons_succ]))
  refine wpAnyH_at (m := #[true, true, true, false, false, false, false, false, false, false, false, false, false, false, false]) (by kernel_rfl) ?_
  (refine wpAnyH_ready (rs := [3]) (by kernel_rfl) (by simp) ?_; refine AllReadyH.cons rfl (fun K hK => ?_) AllReadyH.nil; go_simp; refine (HSRA.out _).mono ?_; rintro e y3p ⟨v3, rfl, hv3, hs⟩; refine hK.out _ _ ?_ (fun hHeldN => ?_); (focus ((try dsimp only); (exact hHeld.trans (hs.mono hHeld.size)))); clear hK K hHeld; have hHeld := hHeldN; clear hHeldN; (try simp only [Act.put, List.setIfInBounds_toArray, List.set_cons_zero, List.set_cons_succ, List.getElem_toArray, List.getElem_cons_zero, List.getElem_cons_succ]))
  obtain ⟨a3, c3, rfl⟩ := hv3.form
  rw [sl_length] at hv3 ⊢
  have HY3p := Lib.hid hv3
  clear hv3
  have HH3p := Lib.hid hHeld
  clear hs hHeld
  refine wpAnyH_str (S' := fun w' => Below y3p.heap.size y3p w') (fun w' h => HH3p.out.trans (h.mono HH3p.out.size)) _ _ _ _ ?_
  have hHeld := Below.refl y3p.heap.size y3p
  refine wpAnyH_at (m := #[true, true, true, true, false, false, false, false, false, false, false, false, false, false, false]) (by kernel_rfl) ?_
  (refine wpAnyH_take (i := 4) (v := ?_) rfl (by kernel_rfl) (by kernel_rfl) (by kernel_rfl) (fun _ _ _ h => h) (Or.inl ⟨by rfl, ?_⟩) hHeld ?_; rotate_left; (focus (intro w hSw; (try dsimp only at hSw); go_simp; (have hz := (Bytes.later HY3p.out hSw).str (P := Try.prog) (src := 22) (dst := 9) Try.underlying22 Try.underlying5 Try.underlying9; go_simp; try with_reducible rfl))); (try simp only [Act.put, List.setIfInBounds_toArray, List.set_cons_zero, List.set_cons_succ, List.getElem_toArray, List.getElem_cons_zero, List.getElem_cons_succ]))
  (refine wpAnyH_take (i := 5) (v := ?_) rfl (by kernel_rfl) (by kernel_rfl) (by kernel_rfl) (fun _ _ _ h => h) (Or.inl ⟨by rfl, ?_⟩) hHeld ?_; rotate_left; (focus (intro w hSw; (try dsimp only at hSw); go_simp; try with_reducible rfl)); (try simp only [Act.put, List.setIfInBounds_toArray, List.set_cons_zero, List.set_cons_succ, List.getElem_toArray, List.getElem_cons_zero, List.getElem_cons_succ])); (refine wpAnyH_take (i := 6) (v := ?_) rfl (by kernel_rfl) (by kernel_rfl) (by kernel_rfl) (fun _ _ _ h => h) (Or.inl ⟨by rfl, ?_⟩) hHeld ?_; rotate_left; (focus (intro w hSw; (try dsimp only at hSw); go_simp; try with_reducible rfl)); (try simp only [Act.put, List.setIfInBounds_toArray, List.set_cons_zero, List.set_cons_succ, List.getElem_toArray, List.getElem_cons_zero, List.getElem_cons_succ]))
  (refine wpAnyH_take (i := 7) (v := undef) rfl (by kernel_rfl) (by kernel_rfl) (by kernel_rfl) (fun _ _ _ h => h) (Or.inr ⟨by rfl, rfl⟩) hHeld ?_; (try simp only [Act.put, List.setIfInBounds_toArray, List.set_cons_zero, List.set_cons_succ, List.getElem_toArray, List.getElem_cons_zero, List.getElem_cons_succ])); (refine wpAnyH_take (i := 8) (v := undef) rfl (by kernel_rfl) (by kernel_rfl) (by kernel_rfl) (fun _ _ _ h => h) (Or.inr ⟨by rfl, rfl⟩) hHeld ?_; (try simp only [Act.put, List.setIfInBounds_toArray, List.set_cons_zero, List.set_cons_succ, List.getElem_toArray, List.getElem_cons_zero, List.getElem_cons_succ])); (refine wpAnyH_take (i := 9) (v := undef) rfl (by kernel_rfl) (by kernel_rfl) (by kernel_rfl) (fun _ _ _ h => h) (Or.inr ⟨by rfl, rfl⟩) hHeld ?_; (try simp only [Act.put, List.setIfInBounds_toArray, List.set_cons_zero, List.set_cons_succ, List.getElem_toArray, List.getElem_cons_zero, List.getElem_cons_succ])); (refine wpAnyH_take (i := 10) (v := undef) rfl (by kernel_rfl) (by kernel_rfl) (by kernel_rfl) (fun _ _ _ h => h) (Or.inr ⟨by rfl, rfl⟩) hHeld ?_; (try simp only [Act.put, List.setIfInBounds_toArray, List.set_cons_zero, List.set_cons_succ, List.getElem_toArray, List.getElem_cons_zero, List.getElem_cons_succ])); (refine wpAnyH_take (i := 11) (v := undef) rfl (by kernel_rfl) (by kernel_rfl) (by kernel_rfl) (fun _ _ _ h => h) (Or.inr ⟨by rfl, rfl⟩) hHeld ?_; (try simp only [Act.put, List.setIfInBounds_toArray, List.set_cons_zero, List.set_cons_succ, List.getElem_toArray, List.getElem_cons_zero, List.getElem_cons_succ])); (refine wpAnyH_take (i := 12) (v := undef) rfl (by kernel_rfl) (by kernel_rfl) (by kernel_rfl) (fun _ _ _ h => h) (Or.inr ⟨by rfl, rfl⟩) hHeld ?_; (try simp only [Act.put, List.setIfInBounds_toArray, List.set_cons_zero, List.set_cons_succ, List.getElem_toArray, List.getElem_cons_zero, List.getElem_cons_succ]))
  (refine wpAnyH_take (i := 13) (v := ?_) rfl (by kernel_rfl) (by kernel_rfl) (by kernel_rfl) (fun _ _ _ h => h) (Or.inl ⟨by rfl, ?_⟩) hHeld ?_; rotate_left; (focus (intro w hSw; (try dsimp only at hSw); go_simp; try with_reducible rfl)); (try simp only [Act.put, List.setIfInBounds_toArray, List.set_cons_zero, List.set_cons_succ, List.getElem_toArray, List.getElem_cons_zero, List.getElem_cons_succ])); (refine wpAnyH_take (i := 14) (v := ?_) rfl (by kernel_rfl) (by kernel_rfl) (by kernel_rfl) (fun _ _ _ h => h) (Or.inl ⟨by rfl, ?_⟩) hHeld ?_; rotate_left; (focus (intro w hSw; (try dsimp only at hSw); go_simp; try with_reducible rfl)); (try simp only [Act.put, List.setIfInBounds_toArray, List.set_cons_zero, List.set_cons_succ, List.getElem_toArray, List.getElem_cons_zero, List.getElem_cons_succ]))
  refine wpAnyH_done (by kernel_rfl) ?_ _
  have HQ := Lib.hid HH3p.out
  clear hHeld HY3p HH3p
  have HX2 := Lib.hid (HX.out.later HQ.out)
  have HY2 := Lib.hid (HY.out.later HQ.out)
  have HB10 := Lib.hid (below_of HB9.out HQ.out)
  go_wp2_with fail
  (refine wp_region_held_drew (S := (fun w' => Below y3p.heap.size y3p w')) (by kernel_rfl) ?_ (fun hHeld => ?_); (focus ((try dsimp only); (exact (Below.refl _ _).drew))))
  (try dsimp only at hHeld)
  obtain ⟨w0q, hw0q⟩ : ∃ W0, W0 = World.drew y3p := ⟨_, rfl⟩
  rw [← hw0q]
  rw [← hw0q] at hHeld
  clear hw0q
  (refine wpAnyH_take (i := 0) (v := ?_) rfl (by kernel_rfl) (by kernel_rfl) (by kernel_rfl) (fun _ _ _ h => h) (Or.inl ⟨by rfl, ?_⟩) hHeld ?_; rotate_left; (focus (intro w hSw; (try dsimp only at hSw); go_simp; try with_reducible rfl)); (try simp only [Act.put, List.setIfInBounds_toArray, List.set_cons_zero, List.set_cons_succ, List.getElem_toArray, List.getElem_cons_zero]))
  (refine wpAnyH_take (i := 1) (v := ?_) rfl (by kernel_rfl) (by kernel_rfl) (by kernel_rfl) (fun _ _ _ h => h) (Or.inl ⟨by rfl, ?_⟩) hHeld ?_; rotate_left; (focus (intro w hSw; (try dsimp only at hSw); go_simp; (have hz := (Bytes.later HY2.out hSw).str (P := Try.prog) (src := 22) (dst := 9) Try.underlying22 Try.underlying5 Try.underlying9; go_simp; try with_reducible rfl))); (try simp only [Act.put, List.setIfInBounds_toArray, List.set_cons_zero, List.set_cons_succ, List.getElem_toArray, List.getElem_cons_zero, List.getElem_cons_succ]))
  (refine wpAnyH_take (i := 2) (v := ?_) rfl (by kernel_rfl) (by kernel_rfl) (by kernel_rfl) (fun _ _ _ h => h) (Or.inl ⟨by rfl, ?_⟩) hHeld ?_; rotate_left; (focus (intro w hSw; (try dsimp only at hSw); go_simp; try with_reducible rfl)); (try simp only [Act.put, List.setIfInBounds_toArray, List.set_cons_zero, List.set_cons_succ, List.getElem_toArray, List.getElem_cons_zero, List.getElem_cons_succ]))
  refine wpAnyH_at (m := #[true, true, true, false, false, false, false, false, false, false, false, false, false, false, false]) (by kernel_rfl) ?_
  (refine wpAnyH_ready (rs := [3]) (by kernel_rfl) (by simp) ?_; refine AllReadyH.cons rfl (fun K hK => ?_) AllReadyH.nil; go_simp; refine (HSRB.out _).mono ?_; rintro e y3q ⟨v3, rfl, hv3, hs⟩; refine hK.out _ _ ?_ (fun hHeldN => ?_); (focus ((try dsimp only); (exact hHeld.trans (hs.mono hHeld.size)))); clear hK K hHeld; have hHeld := hHeldN; clear hHeldN; (try simp only [Act.put, List.setIfInBounds_toArray, List.set_cons_zero, List.set_cons_succ, List.getElem_toArray, List.getElem_cons_zero, List.getElem_cons_succ]))
  obtain ⟨a3, c3, rfl⟩ := hv3.form
  rw [sl_length] at hv3 ⊢
  have HY3q := Lib.hid hv3
  clear hv3
  have HH3q := Lib.hid hHeld
  clear hs hHeld
  refine wpAnyH_str (S' := fun w' => Below y3q.heap.size y3q w') (fun w' h => HH3q.out.trans (h.mono HH3q.out.size)) _ _ _ _ ?_
  have hHeld := Below.refl y3q.heap.size y3q
  refine wpAnyH_at (m := #[true, true, true, true, false, false, false, false, false, false, false, false, false, false, false]) (by kernel_rfl) ?_
  (refine wpAnyH_take (i := 4) (v := ?_) rfl (by kernel_rfl) (by kernel_rfl) (by kernel_rfl) (fun _ _ _ h => h) (Or.inl ⟨by rfl, ?_⟩) hHeld ?_; rotate_left; (focus (intro w hSw; (try dsimp only at hSw); go_simp; (have hz := (Bytes.later HY3q.out hSw).str (P := Try.prog) (src := 22) (dst := 9) Try.underlying22 Try.underlying5 Try.underlying9; go_simp; try with_reducible rfl))); (try simp only [Act.put, List.setIfInBounds_toArray, List.set_cons_zero, List.set_cons_succ, List.getElem_toArray, List.getElem_cons_zero, List.getElem_cons_succ]))
  (refine wpAnyH_take (i := 5) (v := ?_) rfl (by kernel_rfl) (by kernel_rfl) (by kernel_rfl) (fun _ _ _ h => h) (Or.inl ⟨by rfl, ?_⟩) hHeld ?_; rotate_left; (focus (intro w hSw; (try dsimp only at hSw); go_simp; try with_reducible rfl)); (try simp only [Act.put, List.setIfInBounds_toArray, List.set_cons_zero, List.set_cons_succ, List.getElem_toArray, List.getElem_cons_zero, List.getElem_cons_succ])); (refine wpAnyH_take (i := 6) (v := ?_) rfl (by kernel_rfl) (by kernel_rfl) (by kernel_rfl) (fun _ _ _ h => h) (Or.inl ⟨by rfl, ?_⟩) hHeld ?_; rotate_left; (focus (intro w hSw; (try dsimp only at hSw); go_simp; try with_reducible rfl)); (try simp only [Act.put, List.setIfInBounds_toArray, List.set_cons_zero, List.set_cons_succ, List.getElem_toArray, List.getElem_cons_zero, List.getElem_cons_succ]))
  (refine wpAnyH_take (i := 7) (v := ?_) rfl (by kernel_rfl) (by kernel_rfl) (by kernel_rfl) (fun _ _ _ h => h) (Or.inl ⟨by rfl, ?_⟩) hHeld ?_; rotate_left; (focus (intro w hSw; (try dsimp only at hSw); go_simp; try with_reducible rfl)); (try simp only [Act.put, List.setIfInBounds_toArray, List.set_cons_zero, List.set_cons_succ, List.getElem_toArray, List.getElem_cons_zero, List.getElem_cons_succ]))
  (refine wpAnyH_take (i := 8) (v := ?_) rfl (by kernel_rfl) (by kernel_rfl) (by kernel_rfl) (fun _ _ _ h => h) (Or.inl ⟨by rfl, ?_⟩) hHeld ?_; rotate_left; (focus (intro w hSw; (try dsimp only at hSw); go_simp; (have hSw := HH3q.out.trans (hSw.mono HH3q.out.size); have hz := (Bytes.later HX2.out hSw).str (P := Try.prog) (src := 22) (dst := 9) Try.underlying22 Try.underlying5 Try.underlying9; go_simp; try with_reducible rfl))); (try simp only [Act.put, List.setIfInBounds_toArray, List.set_cons_zero, List.set_cons_succ, List.getElem_toArray, List.getElem_cons_zero, List.getElem_cons_succ]))
  (refine wpAnyH_take (i := 9) (v := ?_) rfl (by kernel_rfl) (by kernel_rfl) (by kernel_rfl) (fun _ _ _ h => h) (Or.inl ⟨by rfl, ?_⟩) hHeld ?_; rotate_left; (focus (intro w hSw; (try dsimp only at hSw); go_simp; try with_reducible rfl)); (try simp only [Act.put, List.setIfInBounds_toArray, List.set_cons_zero, List.set_cons_succ, List.getElem_toArray, List.getElem_cons_zero, List.getElem_cons_succ]))
  refine wpAnyH_at (m := #[true, true, true, true, true, true, true, true, true, true, false, false, false, false, false]) (by kernel_rfl) ?_
  (refine wpAnyH_ready (rs := [10]) (by kernel_rfl) (by simp) ?_; refine AllReadyH.cons rfl (fun K hK => ?_) AllReadyH.nil; go_simp; refine (HSRN.out _).mono ?_; rintro e y10q ⟨v10, rfl, hv10, hs⟩; refine hK.out _ _ ?_ (fun hHeldN => ?_); (focus ((try dsimp only); (exact hHeld.trans (hs.mono hHeld.size)))); clear hK K hHeld; have hHeld := hHeldN; clear hHeldN; (try simp only [Act.put, List.setIfInBounds_toArray, List.set_cons_zero, List.set_cons_succ, List.getElem_toArray, List.getElem_cons_zero, List.getElem_cons_succ]))
  obtain ⟨a10, c10, rfl⟩ := hv10.form
  rw [sl_length] at hv10 ⊢
  have HY10q := Lib.hid hv10
  clear hv10
  have HH10q := Lib.hid hHeld
  clear hs hHeld
  refine wpAnyH_str (S' := fun w' => Below y10q.heap.size y10q w') (fun w' h => HH10q.out.trans (h.mono HH10q.out.size)) _ _ _ _ ?_
  have hHeld := Below.refl y10q.heap.size y10q
  refine wpAnyH_at (m := #[true, true, true, true, true, true, true, true, true, true, true, false, false, false, false]) (by kernel_rfl) ?_
  (refine wpAnyH_take (i := 11) (v := ?_) rfl (by kernel_rfl) (by kernel_rfl) (by kernel_rfl) (fun _ _ _ h => h) (Or.inl ⟨by rfl, ?_⟩) hHeld ?_; rotate_left; (focus (intro w hSw; (try dsimp only at hSw); go_simp; (have hz := (Bytes.later HY10q.out hSw).str (P := Try.prog) (src := 22) (dst := 9) Try.underlying22 Try.underlying5 Try.underlying9; go_simp; try with_reducible rfl))); (try simp only [Act.put, List.setIfInBounds_toArray, List.set_cons_zero, List.set_cons_succ, List.getElem_toArray, List.getElem_cons_zero, List.getElem_cons_succ]))
  (refine wpAnyH_take (i := 12) (v := ?_) rfl (by kernel_rfl) (by kernel_rfl) (by kernel_rfl) (fun _ _ _ h => h) (Or.inl ⟨by rfl, ?_⟩) hHeld ?_; rotate_left; (focus (intro w hSw; (try dsimp only at hSw); go_simp; try with_reducible rfl)); (try simp only [Act.put, List.setIfInBounds_toArray, List.set_cons_zero, List.set_cons_succ, List.getElem_toArray, List.getElem_cons_zero, List.getElem_cons_succ])); (refine wpAnyH_take (i := 13) (v := ?_) rfl (by kernel_rfl) (by kernel_rfl) (by kernel_rfl) (fun _ _ _ h => h) (Or.inl ⟨by rfl, ?_⟩) hHeld ?_; rotate_left; (focus (intro w hSw; (try dsimp only at hSw); go_simp; try with_reducible rfl)); (try simp only [Act.put, List.setIfInBounds_toArray, List.set_cons_zero, List.set_cons_succ, List.getElem_toArray, List.getElem_cons_zero, List.getElem_cons_succ])); (refine wpAnyH_take (i := 14) (v := ?_) rfl (by kernel_rfl) (by kernel_rfl) (by kernel_rfl) (fun _ _ _ h => h) (Or.inl ⟨by rfl, ?_⟩) hHeld ?_; rotate_left; (focus (intro w hSw; (try dsimp only at hSw); go_simp; try with_reducible rfl)); (try simp only [Act.put, List.setIfInBounds_toArray, List.set_cons_zero, List.set_cons_succ, List.getElem_toArray, List.getElem_cons_zero, List.getElem_cons_succ]))
  refine wpAnyH_done (by kernel_rfl) ?_ _
  have HQ2 := Lib.hid (HH3q.out.trans (HH10q.out.mono HH3q.out.size))
  clear hHeld HY3q HY10q HH3q HH10q
  have HB11 := Lib.hid (below_of HB10.out HQ2.out)
  go_wp2_with fail
  refine (knownB _).mono ?_
  rintro e wk ⟨rfl, hb⟩
  have HBK := Lib.hid (below_of HB11.out hb)
  clear hb
  go_wp2_with fail
  go_ret
  exact ⟨rfl, HBK.out⟩
set_option maxHeartbeats 8000000 in
set_option maxRecDepth 100000 in
theorem keeps_eq (a b : Nat) (w : World) (ha : a < 18446744073709551616) (hb : b < 18446744073709551616) (hm : b < 18446744073709551615) (hlt : a = b) :
    Calls Try.prog 5 #[.int .u64 (a : Int), .int .u64 (b : Int)] w fun e w' => e = .returned (.bool true) ∧ Below w.heap.size w w' := by
  have HAB : Hid (a < 18446744073709551616 ∧ b < 18446744073709551616) := ⟨ha, hb⟩
  have HSA := Lib.hid (slotR a · ha)
  have HSB := Lib.hid (slotR b · hb)
  subst hlt
  have HBG : Hid (bE (kp a a) = 0 ∧ bN (kp a a) = a + 1 ∧ bS (kp a a) = kp (a + 1) a) := bg_lo hm (by omega)
  have HCN : Hid (cN (kp (a + 1) a) = a + 1 ∧ cE (kp (a + 1) a) = 0) := ⟨cN_of (kp_hi (by omega) (by omega)).1 (kp_hi (by omega) (by omega)).2.1, (kp_hi (by omega) (by omega)).1⟩
  have hd : decide (a < a) = false := decide_eq_false (by omega)
  have HSRA := Lib.hid (fun w => slotK a w (a : Int) ha rfl)
  have HSRB := Lib.hid (fun w => slotK a w (a : Int) hb rfl)
  have HSRN := Lib.hid (fun w => slotK (a + 1) w ((a : Int) + 1) (by omega) (by omega))
  have hw : IntKind.u64.wrap ((a : Int) + 1) = (a : Int) + 1 := IntWalk.u64_in _ ⟨by omega, by omega⟩
  have q1 : ((a : Int) == 18446744073709551615) = false := beq_eq_false_iff_ne.2 (by omega)
  have s1 := strb_ne (l := sl (a + 1)) (m := sl a) (fun h => by have := sl_inj (by omega) ha h; omega)
  have s2 := str_ne (l := sl (a + 1)) (m := sl a) (fun h => by have := sl_inj (by omega) ha h; omega)
  clear ha hb hm
  go_enter Try.func5, Try.ntmps5
  go_wp2_with fail
  refine (newW 40 w (by omega) (by omega)).mono ?_
  rintro e w1 ⟨p, g, rfl, hp, hg, hP, hB⟩
  have HG := Lib.hid (And.intro hp hg)
  have HB1 := Lib.hid hB
  have HP1 := Lib.hid hP
  have HLT1 := Lib.hid hP.lt
  clear hp hg hP hB
  go_wp2_with fail
  refine (HSA.out w1).mono ?_
  rintro e w2 ⟨v, rfl, hv, hb2⟩
  obtain ⟨g2, cap2, cur, rfl, hg2, _, _, _⟩ := OwnB.row hv (by rw [sl_length]; omega)
  rw [sl_length]
  have hby := hv.bytes
  rw [sl_length] at hby
  have HB2 := Lib.hid (below_of HB1.out hb2)
  have HW1 := Lib.hid (writeS (HP1.out.later hb2) 0 (by omega) _ (sl a) (fun W hW => hby.chg hW (by have := HLT1.out; simp; omega)))
  unfold WrA at HW1
  rw [(kq_new a).1, (kq_new a).2] at HW1
  clear hv hg2 hby hb2
  go_wp2_with fail
  refine HW1.out.mono ?_
  rintro e w3 ⟨rfl, hP, hC⟩
  have HB3 := Lib.hid (hC.on HB2.out (by have := HG.out; simp; omega))
  have HP3 := Lib.hid hP
  have HLT3 := Lib.hid hP.lt
  clear hP hC HW1
  go_wp2_with fail
  refine (HSB.out w3).mono ?_
  rintro e w4 ⟨v, rfl, hv, hb2⟩
  obtain ⟨g4, cap4, cur4, rfl, hg4, _, _, _⟩ := OwnB.row hv (by rw [sl_length]; omega)
  rw [sl_length]
  have hby := hv.bytes
  rw [sl_length] at hby
  have HB4 := Lib.hid (below_of HB3.out hb2)
  have HW2 := Lib.hid (writeS (HP3.out.later hb2) 16 (by omega) _ (sl a) (fun W hW => hby.chg hW (by have := HLT3.out; simp; omega)))
  unfold WrA at HW2
  rw [(kp_new a a).1, (kp_new a a).2] at HW2
  clear hv hg4 hby hb2
  go_wp2_with fail
  refine HW2.out.mono ?_
  rintro e w5 ⟨rfl, hP, hC⟩
  have HB5 := Lib.hid (hC.on HB4.out (by have := HG.out; simp; omega))
  have HE := Lib.hid (beginB hP)
  unfold BeA at HE
  rw [HBG.out.1, HBG.out.2.1, HBG.out.2.2] at HE
  clear hP hC HW2
  go_wp2_with fail
  refine HE.out.mono ?_
  rintro e w6 ⟨rfl, hP, hC⟩
  have HB6 := Lib.hid (hC.on HB5.out (by have := HG.out; simp; omega))
  have HP6 := Lib.hid hP
  have HCT := Lib.hid (countB hP)
  rw [HCN.out.1, HCN.out.2] at HCT
  clear hP hC HE
  go_wp2_with fail
  refine HCT.out.mono ?_
  rintro e w7 ⟨rfl, hb7⟩
  have HB7 := Lib.hid (below_of HB6.out hb7)
  have HP7 := Lib.hid (HP6.out.later hb7)
  clear hb7 HCT HP6
  go_wp2_with fail
  have HR1 := Lib.hid (readS HP7.out 0 16 (by omega))
  unfold RdA at HR1
  rw [(kp_rd0 _ _).1, (kp_rd0 _ _).2] at HR1
  refine HR1.out.mono ?_
  rintro e w8 ⟨v8, rfl, hv8, hb8⟩
  obtain ⟨a8, c8, rfl⟩ := hv8.form
  rw [sl_length] at hv8 ⊢
  have HX8 := Lib.hid hv8
  have HB8 := Lib.hid (below_of HB7.out hb8)
  have HR2 := Lib.hid (readS (HP7.out.later hb8) 16 16 (by omega))
  unfold RdA at HR2
  rw [(kp_rd1 _ _).1, (kp_rd1 _ _).2] at HR2
  clear hv8 hb8 HR1
  go_wp2_with fail
  refine HR2.out.mono ?_
  rintro e w9 ⟨v9, rfl, hv9, hb9⟩
  obtain ⟨a9, c9, rfl⟩ := hv9.form
  rw [sl_length] at hv9 ⊢
  have HX := Lib.hid (HX8.out.later hb9)
  have HY := Lib.hid hv9
  have HB9 := Lib.hid (below_of HB8.out hb9)
  clear hv9 hb9 HR2 HX8
  go_wp2_with fail
  (refine wp_region_held_drew (S := (fun w' => Below w9.heap.size w9 w')) (by kernel_rfl) ?_ (fun hHeld => ?_); (focus ((try dsimp only); (exact (Below.refl _ _).drew))))
  (try dsimp only at hHeld)
  obtain ⟨w0p, hw0p⟩ : ∃ W0, W0 = World.drew w9 := ⟨_, rfl⟩
  rw [← hw0p]
  rw [← hw0p] at hHeld
  clear hw0p
  (refine wpAnyH_take (i := 0) (v := ?_) rfl (by kernel_rfl) (by kernel_rfl) (by kernel_rfl) (fun _ _ _ h => h) (Or.inl ⟨by rfl, ?_⟩) hHeld ?_; rotate_left; (focus (intro w hSw; (try dsimp only at hSw); go_simp; try with_reducible rfl)); (try simp only [Act.put, List.setIfInBounds_toArray, List.set_cons_zero, List.set_cons_succ, List.getElem_toArray, List.getElem_cons_zero]))
  (refine wpAnyH_take (i := 1) (v := ?_) rfl (by kernel_rfl) (by kernel_rfl) (by kernel_rfl) (fun _ _ _ h => h) (Or.inl ⟨by rfl, ?_⟩) hHeld ?_; rotate_left; (focus (intro w hSw; (try dsimp only at hSw); go_simp; (have hz := (Bytes.later HX.out hSw).str (P := Try.prog) (src := 22) (dst := 9) Try.underlying22 Try.underlying5 Try.underlying9; go_simp; try with_reducible rfl))); (try simp only [Act.put, List.setIfInBounds_toArray, List.set_cons_zero, List.set_cons_succ, List.getElem_toArray, List.getElem_cons_zero, List.getElem_cons_succ]))
  (refine wpAnyH_take (i := 2) (v := ?_) rfl (by kernel_rfl) (by kernel_rfl) (by kernel_rfl) (fun _ _ _ h => h) (Or.inl ⟨by rfl, ?_⟩) hHeld ?_; rotate_left; (focus (intro w hSw; (try dsimp only at hSw); go_simp; try with_reducible rfl)); (try simp only [Act.put, List.setIfInBounds_toArray, List.set_cons_zero, List.set_cons_succ, List.getElem_toArray, List.getElem_cons_zero, List.getElem_cons_succ]))
  refine wpAnyH_at (m := #[true, true, true, false, false, false, false, false, false, false, false, false, false, false, false]) (by kernel_rfl) ?_
  (refine wpAnyH_ready (rs := [3]) (by kernel_rfl) (by simp) ?_; refine AllReadyH.cons rfl (fun K hK => ?_) AllReadyH.nil; go_simp; refine (HSRA.out _).mono ?_; rintro e y3p ⟨v3, rfl, hv3, hs⟩; refine hK.out _ _ ?_ (fun hHeldN => ?_); (focus ((try dsimp only); (exact hHeld.trans (hs.mono hHeld.size)))); clear hK K hHeld; have hHeld := hHeldN; clear hHeldN; (try simp only [Act.put, List.setIfInBounds_toArray, List.set_cons_zero, List.set_cons_succ, List.getElem_toArray, List.getElem_cons_zero, List.getElem_cons_succ]))
  obtain ⟨a3, c3, rfl⟩ := hv3.form
  rw [sl_length] at hv3 ⊢
  have HY3p := Lib.hid hv3
  clear hv3
  have HH3p := Lib.hid hHeld
  clear hs hHeld
  refine wpAnyH_str (S' := fun w' => Below y3p.heap.size y3p w') (fun w' h => HH3p.out.trans (h.mono HH3p.out.size)) _ _ _ _ ?_
  have hHeld := Below.refl y3p.heap.size y3p
  refine wpAnyH_at (m := #[true, true, true, true, false, false, false, false, false, false, false, false, false, false, false]) (by kernel_rfl) ?_
  (refine wpAnyH_take (i := 4) (v := ?_) rfl (by kernel_rfl) (by kernel_rfl) (by kernel_rfl) (fun _ _ _ h => h) (Or.inl ⟨by rfl, ?_⟩) hHeld ?_; rotate_left; (focus (intro w hSw; (try dsimp only at hSw); go_simp; (have hz := (Bytes.later HY3p.out hSw).str (P := Try.prog) (src := 22) (dst := 9) Try.underlying22 Try.underlying5 Try.underlying9; go_simp; try with_reducible rfl))); (try simp only [Act.put, List.setIfInBounds_toArray, List.set_cons_zero, List.set_cons_succ, List.getElem_toArray, List.getElem_cons_zero, List.getElem_cons_succ]))
  (refine wpAnyH_take (i := 5) (v := ?_) rfl (by kernel_rfl) (by kernel_rfl) (by kernel_rfl) (fun _ _ _ h => h) (Or.inl ⟨by rfl, ?_⟩) hHeld ?_; rotate_left; (focus (intro w hSw; (try dsimp only at hSw); go_simp; try with_reducible rfl)); (try simp only [Act.put, List.setIfInBounds_toArray, List.set_cons_zero, List.set_cons_succ, List.getElem_toArray, List.getElem_cons_zero, List.getElem_cons_succ])); (refine wpAnyH_take (i := 6) (v := ?_) rfl (by kernel_rfl) (by kernel_rfl) (by kernel_rfl) (fun _ _ _ h => h) (Or.inl ⟨by rfl, ?_⟩) hHeld ?_; rotate_left; (focus (intro w hSw; (try dsimp only at hSw); go_simp; try with_reducible rfl)); (try simp only [Act.put, List.setIfInBounds_toArray, List.set_cons_zero, List.set_cons_succ, List.getElem_toArray, List.getElem_cons_zero, List.getElem_cons_succ]))
  (refine wpAnyH_take (i := 7) (v := undef) rfl (by kernel_rfl) (by kernel_rfl) (by kernel_rfl) (fun _ _ _ h => h) (Or.inr ⟨by rfl, rfl⟩) hHeld ?_; (try simp only [Act.put, List.setIfInBounds_toArray, List.set_cons_zero, List.set_cons_succ, List.getElem_toArray, List.getElem_cons_zero, List.getElem_cons_succ])); (refine wpAnyH_take (i := 8) (v := undef) rfl (by kernel_rfl) (by kernel_rfl) (by kernel_rfl) (fun _ _ _ h => h) (Or.inr ⟨by rfl, rfl⟩) hHeld ?_; (try simp only [Act.put, List.setIfInBounds_toArray, List.set_cons_zero, List.set_cons_succ, List.getElem_toArray, List.getElem_cons_zero, List.getElem_cons_succ])); (refine wpAnyH_take (i := 9) (v := undef) rfl (by kernel_rfl) (by kernel_rfl) (by kernel_rfl) (fun _ _ _ h => h) (Or.inr ⟨by rfl, rfl⟩) hHeld ?_; (try simp only [Act.put, List.setIfInBounds_toArray, List.set_cons_zero, List.set_cons_succ, List.getElem_toArray, List.getElem_cons_zero, List.getElem_cons_succ])); (refine wpAnyH_take (i := 10) (v := undef) rfl (by kernel_rfl) (by kernel_rfl) (by kernel_rfl) (fun _ _ _ h => h) (Or.inr ⟨by rfl, rfl⟩) hHeld ?_; (try simp only [Act.put, List.setIfInBounds_toArray, List.set_cons_zero, List.set_cons_succ, List.getElem_toArray, List.getElem_cons_zero, List.getElem_cons_succ])); (refine wpAnyH_take (i := 11) (v := undef) rfl (by kernel_rfl) (by kernel_rfl) (by kernel_rfl) (fun _ _ _ h => h) (Or.inr ⟨by rfl, rfl⟩) hHeld ?_; (try simp only [Act.put, List.setIfInBounds_toArray, List.set_cons_zero, List.set_cons_succ, List.getElem_toArray, List.getElem_cons_zero, List.getElem_cons_succ])); (refine wpAnyH_take (i := 12) (v := undef) rfl (by kernel_rfl) (by kernel_rfl) (by kernel_rfl) (fun _ _ _ h => h) (Or.inr ⟨by rfl, rfl⟩) hHeld ?_; (try simp only [Act.put, List.setIfInBounds_toArray, List.set_cons_zero, List.set_cons_succ, List.getElem_toArray, List.getElem_cons_zero, List.getElem_cons_succ]))
  (refine wpAnyH_take (i := 13) (v := ?_) rfl (by kernel_rfl) (by kernel_rfl) (by kernel_rfl) (fun _ _ _ h => h) (Or.inl ⟨by rfl, ?_⟩) hHeld ?_; rotate_left; (focus (intro w hSw; (try dsimp only at hSw); go_simp; try with_reducible rfl)); (try simp only [Act.put, List.setIfInBounds_toArray, List.set_cons_zero, List.set_cons_succ, List.getElem_toArray, List.getElem_cons_zero, List.getElem_cons_succ])); (refine wpAnyH_take (i := 14) (v := ?_) rfl (by kernel_rfl) (by kernel_rfl) (by kernel_rfl) (fun _ _ _ h => h) (Or.inl ⟨by rfl, ?_⟩) hHeld ?_; rotate_left; (focus (intro w hSw; (try dsimp only at hSw); go_simp; try with_reducible rfl)); (try simp only [Act.put, List.setIfInBounds_toArray, List.set_cons_zero, List.set_cons_succ, List.getElem_toArray, List.getElem_cons_zero, List.getElem_cons_succ]))
  refine wpAnyH_done (by kernel_rfl) ?_ _
  have HQ := Lib.hid HH3p.out
  clear hHeld HY3p HH3p
  have HX2 := Lib.hid (HX.out.later HQ.out)
  have HY2 := Lib.hid (HY.out.later HQ.out)
  have HB10 := Lib.hid (below_of HB9.out HQ.out)
  go_wp2_with fail
  (refine wp_region_held_drew (S := (fun w' => Below y3p.heap.size y3p w')) (by kernel_rfl) ?_ (fun hHeld => ?_); (focus ((try dsimp only); (exact (Below.refl _ _).drew))))
  (try dsimp only at hHeld)
  obtain ⟨w0q, hw0q⟩ : ∃ W0, W0 = World.drew y3p := ⟨_, rfl⟩
  rw [← hw0q]
  rw [← hw0q] at hHeld
  clear hw0q
  (refine wpAnyH_take (i := 0) (v := ?_) rfl (by kernel_rfl) (by kernel_rfl) (by kernel_rfl) (fun _ _ _ h => h) (Or.inl ⟨by rfl, ?_⟩) hHeld ?_; rotate_left; (focus (intro w hSw; (try dsimp only at hSw); go_simp; try with_reducible rfl)); (try simp only [Act.put, List.setIfInBounds_toArray, List.set_cons_zero, List.set_cons_succ, List.getElem_toArray, List.getElem_cons_zero]))
  (refine wpAnyH_take (i := 1) (v := ?_) rfl (by kernel_rfl) (by kernel_rfl) (by kernel_rfl) (fun _ _ _ h => h) (Or.inl ⟨by rfl, ?_⟩) hHeld ?_; rotate_left; (focus (intro w hSw; (try dsimp only at hSw); go_simp; (have hz := (Bytes.later HY2.out hSw).str (P := Try.prog) (src := 22) (dst := 9) Try.underlying22 Try.underlying5 Try.underlying9; go_simp; try with_reducible rfl))); (try simp only [Act.put, List.setIfInBounds_toArray, List.set_cons_zero, List.set_cons_succ, List.getElem_toArray, List.getElem_cons_zero, List.getElem_cons_succ]))
  (refine wpAnyH_take (i := 2) (v := ?_) rfl (by kernel_rfl) (by kernel_rfl) (by kernel_rfl) (fun _ _ _ h => h) (Or.inl ⟨by rfl, ?_⟩) hHeld ?_; rotate_left; (focus (intro w hSw; (try dsimp only at hSw); go_simp; try with_reducible rfl)); (try simp only [Act.put, List.setIfInBounds_toArray, List.set_cons_zero, List.set_cons_succ, List.getElem_toArray, List.getElem_cons_zero, List.getElem_cons_succ]))
  refine wpAnyH_at (m := #[true, true, true, false, false, false, false, false, false, false, false, false, false, false, false]) (by kernel_rfl) ?_
  (refine wpAnyH_ready (rs := [3]) (by kernel_rfl) (by simp) ?_; refine AllReadyH.cons rfl (fun K hK => ?_) AllReadyH.nil; go_simp; refine (HSRB.out _).mono ?_; rintro e y3q ⟨v3, rfl, hv3, hs⟩; refine hK.out _ _ ?_ (fun hHeldN => ?_); (focus ((try dsimp only); (exact hHeld.trans (hs.mono hHeld.size)))); clear hK K hHeld; have hHeld := hHeldN; clear hHeldN; (try simp only [Act.put, List.setIfInBounds_toArray, List.set_cons_zero, List.set_cons_succ, List.getElem_toArray, List.getElem_cons_zero, List.getElem_cons_succ]))
  obtain ⟨a3, c3, rfl⟩ := hv3.form
  rw [sl_length] at hv3 ⊢
  have HY3q := Lib.hid hv3
  clear hv3
  have HH3q := Lib.hid hHeld
  clear hs hHeld
  refine wpAnyH_str (S' := fun w' => Below y3q.heap.size y3q w') (fun w' h => HH3q.out.trans (h.mono HH3q.out.size)) _ _ _ _ ?_
  have hHeld := Below.refl y3q.heap.size y3q
  refine wpAnyH_at (m := #[true, true, true, true, false, false, false, false, false, false, false, false, false, false, false]) (by kernel_rfl) ?_
  (refine wpAnyH_take (i := 4) (v := ?_) rfl (by kernel_rfl) (by kernel_rfl) (by kernel_rfl) (fun _ _ _ h => h) (Or.inl ⟨by rfl, ?_⟩) hHeld ?_; rotate_left; (focus (intro w hSw; (try dsimp only at hSw); go_simp; (have hz := (Bytes.later HY3q.out hSw).str (P := Try.prog) (src := 22) (dst := 9) Try.underlying22 Try.underlying5 Try.underlying9; go_simp; try with_reducible rfl))); (try simp only [Act.put, List.setIfInBounds_toArray, List.set_cons_zero, List.set_cons_succ, List.getElem_toArray, List.getElem_cons_zero, List.getElem_cons_succ]))
  (refine wpAnyH_take (i := 5) (v := ?_) rfl (by kernel_rfl) (by kernel_rfl) (by kernel_rfl) (fun _ _ _ h => h) (Or.inl ⟨by rfl, ?_⟩) hHeld ?_; rotate_left; (focus (intro w hSw; (try dsimp only at hSw); go_simp; try with_reducible rfl)); (try simp only [Act.put, List.setIfInBounds_toArray, List.set_cons_zero, List.set_cons_succ, List.getElem_toArray, List.getElem_cons_zero, List.getElem_cons_succ])); (refine wpAnyH_take (i := 6) (v := ?_) rfl (by kernel_rfl) (by kernel_rfl) (by kernel_rfl) (fun _ _ _ h => h) (Or.inl ⟨by rfl, ?_⟩) hHeld ?_; rotate_left; (focus (intro w hSw; (try dsimp only at hSw); go_simp; try with_reducible rfl)); (try simp only [Act.put, List.setIfInBounds_toArray, List.set_cons_zero, List.set_cons_succ, List.getElem_toArray, List.getElem_cons_zero, List.getElem_cons_succ]))
  (refine wpAnyH_take (i := 7) (v := ?_) rfl (by kernel_rfl) (by kernel_rfl) (by kernel_rfl) (fun _ _ _ h => h) (Or.inl ⟨by rfl, ?_⟩) hHeld ?_; rotate_left; (focus (intro w hSw; (try dsimp only at hSw); go_simp; try with_reducible rfl)); (try simp only [Act.put, List.setIfInBounds_toArray, List.set_cons_zero, List.set_cons_succ, List.getElem_toArray, List.getElem_cons_zero, List.getElem_cons_succ]))
  (refine wpAnyH_take (i := 8) (v := ?_) rfl (by kernel_rfl) (by kernel_rfl) (by kernel_rfl) (fun _ _ _ h => h) (Or.inl ⟨by rfl, ?_⟩) hHeld ?_; rotate_left; (focus (intro w hSw; (try dsimp only at hSw); go_simp; (have hSw := HH3q.out.trans (hSw.mono HH3q.out.size); have hz := (Bytes.later HX2.out hSw).str (P := Try.prog) (src := 22) (dst := 9) Try.underlying22 Try.underlying5 Try.underlying9; go_simp; try with_reducible rfl))); (try simp only [Act.put, List.setIfInBounds_toArray, List.set_cons_zero, List.set_cons_succ, List.getElem_toArray, List.getElem_cons_zero, List.getElem_cons_succ]))
  (refine wpAnyH_take (i := 9) (v := ?_) rfl (by kernel_rfl) (by kernel_rfl) (by kernel_rfl) (fun _ _ _ h => h) (Or.inl ⟨by rfl, ?_⟩) hHeld ?_; rotate_left; (focus (intro w hSw; (try dsimp only at hSw); go_simp; try with_reducible rfl)); (try simp only [Act.put, List.setIfInBounds_toArray, List.set_cons_zero, List.set_cons_succ, List.getElem_toArray, List.getElem_cons_zero, List.getElem_cons_succ]))
  refine wpAnyH_at (m := #[true, true, true, true, true, true, true, true, true, true, false, false, false, false, false]) (by kernel_rfl) ?_
  (refine wpAnyH_ready (rs := [10]) (by kernel_rfl) (by simp) ?_; refine AllReadyH.cons rfl (fun K hK => ?_) AllReadyH.nil; go_simp; refine (HSRN.out _).mono ?_; rintro e y10q ⟨v10, rfl, hv10, hs⟩; refine hK.out _ _ ?_ (fun hHeldN => ?_); (focus ((try dsimp only); (exact hHeld.trans (hs.mono hHeld.size)))); clear hK K hHeld; have hHeld := hHeldN; clear hHeldN; (try simp only [Act.put, List.setIfInBounds_toArray, List.set_cons_zero, List.set_cons_succ, List.getElem_toArray, List.getElem_cons_zero, List.getElem_cons_succ]))
  obtain ⟨a10, c10, rfl⟩ := hv10.form
  rw [sl_length] at hv10 ⊢
  have HY10q := Lib.hid hv10
  clear hv10
  have HH10q := Lib.hid hHeld
  clear hs hHeld
  refine wpAnyH_str (S' := fun w' => Below y10q.heap.size y10q w') (fun w' h => HH10q.out.trans (h.mono HH10q.out.size)) _ _ _ _ ?_
  have hHeld := Below.refl y10q.heap.size y10q
  refine wpAnyH_at (m := #[true, true, true, true, true, true, true, true, true, true, true, false, false, false, false]) (by kernel_rfl) ?_
  (refine wpAnyH_take (i := 11) (v := ?_) rfl (by kernel_rfl) (by kernel_rfl) (by kernel_rfl) (fun _ _ _ h => h) (Or.inl ⟨by rfl, ?_⟩) hHeld ?_; rotate_left; (focus (intro w hSw; (try dsimp only at hSw); go_simp; (have hz := (Bytes.later HY10q.out hSw).str (P := Try.prog) (src := 22) (dst := 9) Try.underlying22 Try.underlying5 Try.underlying9; go_simp; try with_reducible rfl))); (try simp only [Act.put, List.setIfInBounds_toArray, List.set_cons_zero, List.set_cons_succ, List.getElem_toArray, List.getElem_cons_zero, List.getElem_cons_succ]))
  (refine wpAnyH_take (i := 12) (v := ?_) rfl (by kernel_rfl) (by kernel_rfl) (by kernel_rfl) (fun _ _ _ h => h) (Or.inl ⟨by rfl, ?_⟩) hHeld ?_; rotate_left; (focus (intro w hSw; (try dsimp only at hSw); go_simp; try with_reducible rfl)); (try simp only [Act.put, List.setIfInBounds_toArray, List.set_cons_zero, List.set_cons_succ, List.getElem_toArray, List.getElem_cons_zero, List.getElem_cons_succ])); (refine wpAnyH_take (i := 13) (v := ?_) rfl (by kernel_rfl) (by kernel_rfl) (by kernel_rfl) (fun _ _ _ h => h) (Or.inl ⟨by rfl, ?_⟩) hHeld ?_; rotate_left; (focus (intro w hSw; (try dsimp only at hSw); go_simp; try with_reducible rfl)); (try simp only [Act.put, List.setIfInBounds_toArray, List.set_cons_zero, List.set_cons_succ, List.getElem_toArray, List.getElem_cons_zero, List.getElem_cons_succ])); (refine wpAnyH_take (i := 14) (v := ?_) rfl (by kernel_rfl) (by kernel_rfl) (by kernel_rfl) (fun _ _ _ h => h) (Or.inl ⟨by rfl, ?_⟩) hHeld ?_; rotate_left; (focus (intro w hSw; (try dsimp only at hSw); go_simp; try with_reducible rfl)); (try simp only [Act.put, List.setIfInBounds_toArray, List.set_cons_zero, List.set_cons_succ, List.getElem_toArray, List.getElem_cons_zero, List.getElem_cons_succ]))
  refine wpAnyH_done (by kernel_rfl) ?_ _
  have HQ2 := Lib.hid (HH3q.out.trans (HH10q.out.mono HH3q.out.size))
  clear hHeld HY3q HY10q HH3q HH10q
  have HB11 := Lib.hid (below_of HB10.out HQ2.out)
  go_wp2_with fail
  refine (knownB _).mono ?_
  rintro e wk ⟨rfl, hb⟩
  have HBK := Lib.hid (below_of HB11.out hb)
  clear hb
  go_wp2_with fail
  go_ret
  exact ⟨rfl, HBK.out⟩
theorem bootKeeps_walk (a b : Int) (w : World) (h0 : 0 ≤ a) (h1 : a < 18446744073709551616) (h2 : 0 ≤ b) (h3 : b < 18446744073709551616) :
    Calls Try.prog 5 #[.int .u64 a, .int .u64 b] w fun e w' => e = .returned (.bool true) ∧ Below w.heap.size w w' := by
  obtain ⟨A, rfl⟩ := Int.eq_ofNat_of_zero_le h0
  obtain ⟨B, rfl⟩ := Int.eq_ofNat_of_zero_le h2
  by_cases hA : A = 18446744073709551615
  · exact keeps_maxA A B w (by omega) (by omega) hA
  · by_cases hB : B = 18446744073709551615
    · exact keeps_maxB A B w (by omega) (by omega) hB (by omega)
    · rcases Nat.lt_trichotomy A B with h | h | h
      · exact keeps_lo A B w (by omega) (by omega) (by omega) h
      · exact keeps_eq A B w (by omega) (by omega) (by omega) h
      · exact keeps_hi A B w (by omega) (by omega) (by omega) h
end Go.Proofs.Ytoinjapmioldaaa
