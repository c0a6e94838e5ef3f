/- The walk of the law IcmpMeans. -/
import Derived.Test.YtnhkkpcepppgoaaZ24

set_option linter.unusedSimpArgs false
set_option linter.unusedVariables false
namespace Go.Proofs.Ytnhkkpcepppgoaa
open Go.RowKit
attribute [local go_sem ↓] Go.wp_at_zero Go.wp_at_succ

theorem eH_ok {fr s : Nat} (h1 : fr < 4294967296) (h2 : s < 4294967296) : (eH fr s).Ok := by
  refine ⟨?_, ?_, ?_, ?_, ?_, ?_⟩ <;> simp only [eH] <;> first | assumption | omega
set_option maxHeartbeats 8000000 in
set_option maxRecDepth 100000 in
theorem im_a1 (m : Mg) (a : Option Addr) (c bn : Nat) (k : Int) (pa : Option Addr) (pc pn : Nat) (fr : Nat) (mtu : Int) (w : World) (h1 : (9000 : Int) < bn) :
    Calls Try.prog 8 #[.agg #[.int .u8 (m.ty : Nat), .int .u8 (m.co : Nat), .int .u8 (m.r0 : Nat), .int .u8 (m.r1 : Nat), .int .u8 (m.r2 : Nat), .int .u8 (m.r3 : Nat), .slice a bn c], .int .i64 k, .slice pa pn pc, .int .u32 (fr : Nat), .int .i64 mtu] w fun e w' => e = .returned (.bool true) ∧ Below w.heap.size w w' := by
  go_enter Try.func8, Try.ntmps8
  go_wp2_with fail
  refine (known4_any _).mono ?_
  rintro e w1 ⟨rfl, hb1⟩
  have hbm : Below w.heap.size w (w.alloc (.cells #[.int .u8 (m.ty : Nat), .int .u8 (m.co : Nat), .int .u8 (m.r0 : Nat), .int .u8 (m.r1 : Nat), .int .u8 (m.r2 : Nat), .int .u8 (m.r3 : Nat), .slice a bn c] 46)) := (Below.refl _ _).alloc (Nat.le_refl _) _
  have HB1 := Lib.hid (hbm.trans (hb1.mono hbm.size))
  have HM1 := Lib.hid ((BlkAt.new (t := 46) w [.int .u8 (m.ty : Nat), .int .u8 (m.co : Nat), .int .u8 (m.r0 : Nat), .int .u8 (m.r1 : Nat), .int .u8 (m.r2 : Nat), .int .u8 (m.r3 : Nat), .slice a bn c]).later hb1)
  have x0 := HM1.out.cell (j := 0) rfl
  have x1 := HM1.out.cell (j := 1) rfl
  have x2 := HM1.out.cell (j := 2) rfl
  have x3 := HM1.out.cell (j := 3) rfl
  have x4 := HM1.out.cell (j := 4) rfl
  have x5 := HM1.out.cell (j := 5) rfl
  have x6 := HM1.out.cell (j := 6) rfl
  clear hb1 hbm
  go_wp2_with fail
  go_ret
  exact ⟨rfl, HB1.out⟩
set_option maxHeartbeats 8000000 in
set_option maxRecDepth 100000 in
theorem im_a2 (m : Mg) (a : Option Addr) (c bn : Nat) (k : Int) (pa : Option Addr) (pc pn : Nat) (fr : Nat) (mtu : Int) (w : World) (h1 : (bn : Int) ≤ 9000) (h2 : (9000 : Int) < pn) :
    Calls Try.prog 8 #[.agg #[.int .u8 (m.ty : Nat), .int .u8 (m.co : Nat), .int .u8 (m.r0 : Nat), .int .u8 (m.r1 : Nat), .int .u8 (m.r2 : Nat), .int .u8 (m.r3 : Nat), .slice a bn c], .int .i64 k, .slice pa pn pc, .int .u32 (fr : Nat), .int .i64 mtu] w fun e w' => e = .returned (.bool true) ∧ Below w.heap.size w w' := by
  go_enter Try.func8, Try.ntmps8
  go_wp2_with fail
  refine (known4_any _).mono ?_
  rintro e w1 ⟨rfl, hb1⟩
  have hbm : Below w.heap.size w (w.alloc (.cells #[.int .u8 (m.ty : Nat), .int .u8 (m.co : Nat), .int .u8 (m.r0 : Nat), .int .u8 (m.r1 : Nat), .int .u8 (m.r2 : Nat), .int .u8 (m.r3 : Nat), .slice a bn c] 46)) := (Below.refl _ _).alloc (Nat.le_refl _) _
  have HB1 := Lib.hid (hbm.trans (hb1.mono hbm.size))
  have HM1 := Lib.hid ((BlkAt.new (t := 46) w [.int .u8 (m.ty : Nat), .int .u8 (m.co : Nat), .int .u8 (m.r0 : Nat), .int .u8 (m.r1 : Nat), .int .u8 (m.r2 : Nat), .int .u8 (m.r3 : Nat), .slice a bn c]).later hb1)
  have x0 := HM1.out.cell (j := 0) rfl
  have x1 := HM1.out.cell (j := 1) rfl
  have x2 := HM1.out.cell (j := 2) rfl
  have x3 := HM1.out.cell (j := 3) rfl
  have x4 := HM1.out.cell (j := 4) rfl
  have x5 := HM1.out.cell (j := 5) rfl
  have x6 := HM1.out.cell (j := 6) rfl
  clear hb1 hbm
  go_wp2_with fail
  go_ret
  exact ⟨rfl, HB1.out⟩
set_option maxHeartbeats 8000000 in
set_option maxRecDepth 100000 in
theorem im_zz (m : Mg) (a : Option Addr) (c bn : Nat) (k : Int) (pa : Option Addr) (pc pn : Nat) (fr : Nat) (mtu : Int) (B l : List UInt8) (w : World) (hm : m.Ok) (hbn : bn = B.length) (hpn : pn = l.length) (hB : Bytes w (.slice a bn c) B) (hv : Bytes w (.slice pa pn pc) l) (h1 : (bn : Int) ≤ 9000) (h2 : (pn : Int) ≤ 9000) (hfr : fr < 4294967296) (he : errN k mtu l = 0) (hn : echE l = 0) :
    Calls Try.prog 8 #[.agg #[.int .u8 (m.ty : Nat), .int .u8 (m.co : Nat), .int .u8 (m.r0 : Nat), .int .u8 (m.r1 : Nat), .int .u8 (m.r2 : Nat), .int .u8 (m.r3 : Nat), .slice a bn c], .int .i64 k, .slice pa pn pc, .int .u32 (fr : Nat), .int .i64 mtu] w fun e w' => e = .returned (.bool true) ∧ Below w.heap.size w w' := by
  have HBN := Lib.hid hbn
  have HBB : Hid (∀ W, Below w.heap.size w W → Bytes W (.slice a bn c) B) := fun W hb => hB.later hb
  have HV : Hid (∀ W, Below w.heap.size w W → Bytes W (.slice pa pn pc) l) := fun W hb => hv.later hb
  have HWB : Hid (∀ W, Below w.heap.size w W → Calls Try.prog 31 #[.agg #[.int .u8 (m.ty : Nat), .int .u8 (m.co : Nat), .int .u8 (m.r0 : Nat), .int .u8 (m.r1 : Nat), .int .u8 (m.r2 : Nat), .int .u8 (m.r3 : Nat), .slice a bn c]] W fun e w' => ∃ v, e = .returned v ∧ OwnB w' W.heap.size v (msgL m B) ∧ Below W.heap.size W w') := fun W hb => by
    have h := bytesM_any m hm a c B W (by rw [← hbn]; exact HBB.out W hb) (by omega)
    rw [← hbn] at h; exact h
  have HOX : Hid (∀ (v : Value) W, Bytes W v (msgL m B) → Calls Try.prog 27 #[v] W fun e w' => ∃ u, e = .returned (.tuple #[.agg #[.int .u8 (m.ty : Nat), .int .u8 (m.co : Nat), .int .u8 (m.r0 : Nat), .int .u8 (m.r1 : Nat), .int .u8 (m.r2 : Nat), .int .u8 (m.r3 : Nat), u], .int .i64 0]) ∧ OwnB w' W.heap.size u B ∧ Below W.heap.size W w') := fun v W hb => by
    have h := ofW_anyB v (msgL m B) W hb (by rw [msgL_length]; omega)
    rw [msg_at m hm, msg_body, msg_er] at h; exact h
  have HSS : Hid (∀ (ya : Option Addr) (yc : Nat) W, Bytes W (.slice ya bn yc) B → Below w.heap.size w W → Calls Try.prog 29 #[.agg #[.int .u8 (m.ty : Nat), .int .u8 (m.co : Nat), .int .u8 (m.r0 : Nat), .int .u8 (m.r1 : Nat), .int .u8 (m.r2 : Nat), .int .u8 (m.r3 : Nat), .slice ya bn yc], .agg #[.int .u8 (m.ty : Nat), .int .u8 (m.co : Nat), .int .u8 (m.r0 : Nat), .int .u8 (m.r1 : Nat), .int .u8 (m.r2 : Nat), .int .u8 (m.r3 : Nat), .slice a bn c]] W fun e w' => e = .returned (.bool true) ∧ Below W.heap.size W w') := fun ya yc W hy hb => by
    have h := sameMR_any m m ya a yc c bn bn B B W hy (HBB.out W hb)
    rw [sameM_refl] at h; exact h
  have hok := hdP_ok l
  have hmo := mgP_ok (plP l)
  obtain ⟨h, hh⟩ : ∃ h, h = hdP l := ⟨_, rfl⟩
  obtain ⟨P, hP⟩ : ∃ P, P = plP l := ⟨_, rfl⟩
  obtain ⟨O, hO⟩ : ∃ P, P = opP l := ⟨_, rfl⟩
  obtain ⟨f, hfe⟩ : ∃ f, f = flt l := ⟨_, rfl⟩
  rw [← hh] at hok
  have HPW : Hid (∀ W, Below w.heap.size w W → Calls Try.prog 11 #[.slice pa pn pc] W fun e w' => ∃ (u v : Value) (B : Nat), e = .returned (.tuple #[.agg #[.int .u8 (h.tos : Nat), .int .u16 (h.id : Nat), .bool h.ev, .bool h.df, .bool h.mf, .int .i64 h.off, .int .u8 (h.ttl : Nat), .int .u8 (h.pr : Nat), .int .u32 (h.src : Nat), .int .u32 (h.dst : Nat), u], v, .int .i64 (f : Nat)]) ∧ OwnB w' W.heap.size u O ∧ OwnB w' B v P ∧ W.heap.size ≤ B ∧ (∀ g, u.ownBlock = some g → g < B) ∧ Below W.heap.size W w') := fun W hb => by
    have h9 := prsW_any _ l (by omega) W (HV.out W hb)
    unfold PrsW at h9
    rw [← hh, ← hP, ← hO, ← hfe] at h9
    exact h9
  obtain ⟨EL, hEL⟩ : ∃ n, n = errL k mtu l fr := ⟨_, rfl⟩
  obtain ⟨er, her⟩ : ∃ n, n = errN k mtu l := ⟨_, rfl⟩
  have HEW : Hid (∀ W, Below w.heap.size w W → Calls Try.prog 40 #[.int .i64 k, .slice pa pn pc, .int .u32 (fr : Nat), .int .i64 mtu] W fun e w' => ∃ v, e = .returned (.tuple #[v, .int .i64 (er : Nat)]) ∧ OwnB w' W.heap.size v EL ∧ Below W.heap.size W w') := fun W hb => by
    have h9 := errW_any k _ l (by omega) fr hfr mtu W (HV.out W hb)
    unfold ErrRes at h9
    rw [← her, ← hEL] at h9
    exact h9
  obtain ⟨X, hX⟩ : ∃ X, X = repP l := ⟨_, rfl⟩
  obtain ⟨en, hen⟩ : ∃ X, X = echE l := ⟨_, rfl⟩
  have HRW : Hid (∀ W, Below w.heap.size w W → Calls Try.prog 42 #[.slice pa pn pc] W fun e w' => ∃ x, e = .returned (.tuple #[x, .int .i64 (en : Nat)]) ∧ OwnB w' W.heap.size x X ∧ Below W.heap.size W w') := fun W hb => by
    have h9 := replyW_any _ l (by omega) W (HV.out W hb)
    rw [← hen, ← hX] at h9
    exact h9
  have hgood : badA k mtu = false ∧ flt l = 0 ∧ ansB (hdP l) (plP l) = true := by
    rcases errN_cases k mtu l with ⟨_, e⟩ | ⟨_, _, e⟩ | ⟨_, _, _, e⟩ | ⟨g1, g2, g3, _⟩
    · rw [e] at he; cases he
    · rw [e] at he; cases he
    · rw [e] at he; cases he
    · exact ⟨g1, g2, g3⟩
  obtain ⟨hg1, hz, _⟩ := hgood
  obtain ⟨hsk, mt, hm1, hm2, hm3, _⟩ := good_args hg1
  have hELq : EL = ansL (eH fr h.src) (eM k mt) (quoL l) := by rw [hEL, hh]; unfold errL; rw [if_pos he, hm2]
  have hql := quo_le hz
  obtain ⟨q, hq⟩ : ∃ q, q = eM k mt := ⟨_, rfl⟩
  obtain ⟨Q, hQ⟩ : ∃ q, q = quoL l := ⟨_, rfl⟩
  have hqo : q.Ok := by rw [hq]; exact eM_ok (by omega)
  have hqe : errB q.ty = true := by rw [hq]; exact eM_err hsk mt
  have hq8 : q.ty ≠ 8 := by rw [hq]; exact eM_ne8 mt
  rw [← hq, ← hQ] at hELq
  rw [← hQ] at hql
  have hEHo := eH_ok hfr hok.src
  have HRT : Hid (∀ (v : Value) W, Bytes W v EL → Calls Try.prog 46 #[v, .int .u32 (fr : Nat), .int .u32 (h.src : Nat)] W fun e w' => ∃ b, e = .returned (.tuple #[.agg #[.int .u8 (q.ty : Nat), .int .u8 (q.co : Nat), .int .u8 (q.r0 : Nat), .int .u8 (q.r1 : Nat), .int .u8 (q.r2 : Nat), .int .u8 (q.r3 : Nat), b], .bool true]) ∧ Bytes w' b Q ∧ Below W.heap.size W w') := fun v W hb => by
    rw [hELq] at hb
    exact right_ans hEHo rfl hqo hql v W hb
  have HIE : Hid (∀ (a : Option Addr) (n c : Nat) W, Calls Try.prog 34 #[.agg #[.int .u8 (q.ty : Nat), .int .u8 (q.co : Nat), .int .u8 (q.r0 : Nat), .int .u8 (q.r1 : Nat), .int .u8 (q.r2 : Nat), .int .u8 (q.r3 : Nat), .slice a n c]] W fun e w' => e = .returned (.bool true) ∧ Below W.heap.size W w') := fun a n c W => by
    have h9 := isErrW_any q (.slice a n c) W ⟨_, _, _, rfl⟩
    rw [hqe] at h9; exact h9
  have HMB : Hid (∀ (v : Value) W, Bytes W v EL → Calls Try.prog 37 #[v] W fun e w' => e = .returned (.bool false) ∧ Below W.heap.size W w') := fun v W hb => by
    have h9 := mayIW_any v EL (by rw [hELq, ans_len]; omega) W hb
    rw [show maB EL = false from by rw [hELq]; exact ans_may hEHo rfl hqo hql hqe] at h9; exact h9
  have HEB : Hid (∀ (v : Value) W, Bytes W v EL → Calls Try.prog 43 #[v] W fun e w' => e = .returned (.bool false) ∧ Below W.heap.size W w') := fun v W hb =>
    echoI_no v EL (by rw [hELq, ans_len]; omega) W hb (by rw [hELq]; exact ans_echo hEHo rfl hqo hql hq8)
  have HQW : Hid (∀ W, Below w.heap.size w W → Calls Try.prog 36 #[.slice pa pn pc] W fun e w' => ∃ v, e = .returned (.tuple #[v, .int .i64 0]) ∧ OwnB w' W.heap.size v Q ∧ Below W.heap.size W w') := fun W hb => by
    have h9 := quoIW_any _ l (by omega) W (HV.out W hb)
    rw [show quE l = 0 from by unfold quE; exact if_pos hz, show quP l = Q from by rw [hQ]; unfold quP; exact if_pos hz] at h9
    exact h9
  have her0 : er = 0 := her.trans he
  subst her0
  obtain ⟨hz2, _⟩ := echE_ok hn
  have hXq : X = ansL (repH h) (repM (mgP (plP l))) (bdP (plP l)) := by rw [hX, repP_yes hn, hh]; rfl
  have hbl := bd_len hz2
  obtain ⟨r, hr⟩ : ∃ q, q = repM (mgP (plP l)) := ⟨_, rfl⟩
  obtain ⟨D, hD⟩ : ∃ q, q = bdP (plP l) := ⟨_, rfl⟩
  have hro : r.Ok := by rw [hr]; exact repM_ok hmo
  have hr8 : r.ty ≠ 8 := by rw [hr]; exact (by decide : (0 : Nat) ≠ 8)
  have hr0 : ((r.ty : Int) == 0) = true := by rw [hr]; rfl
  rw [← hr, ← hD] at hXq
  rw [← hD] at hbl
  have HRU : Hid (∀ (v : Value) W, Bytes W v X → Calls Try.prog 46 #[v, .int .u32 (h.dst : Nat), .int .u32 (h.src : Nat)] W fun e w' => ∃ b, e = .returned (.tuple #[.agg #[.int .u8 (r.ty : Nat), .int .u8 (r.co : Nat), .int .u8 (r.r0 : Nat), .int .u8 (r.r1 : Nat), .int .u8 (r.r2 : Nat), .int .u8 (r.r3 : Nat), b], .bool true]) ∧ Bytes w' b D ∧ Below W.heap.size W w') := fun v W hb => by
    rw [hXq] at hb
    exact right_ans (repH_ok hok) rfl hro hbl v W hb
  have HEC : Hid (∀ (v : Value) W, Bytes W v X → Calls Try.prog 43 #[v] W fun e w' => e = .returned (.bool false) ∧ Below W.heap.size W w') := fun v W hb =>
    echoI_no v X (by rw [hXq, ans_len]; omega) W hb (by rw [hXq]; exact ans_echo (repH_ok hok) rfl hro hbl hr8)
  have hen0 : en = 0 := hen.trans hn
  subst hen0
  have k5 : ((f : Int) != 0) = false := by rw [bne_eq_false_iff_eq]; omega
  have k6 : ((f : Int) == 0) = true := by rw [beq_iff_eq]; omega
  clear hm hbn hpn hB hv hfr hok hmo hh hP hO hfe hEL her hX hen he hn
  clear hg1 hz hsk hm1 hm2 hm3 hELq hql hq hQ hqo hqe hq8 hEHo
  clear hz2 hXq hbl hr hD hro hr8
  go_enter Try.func8, Try.ntmps8
  go_wp2_with fail
  refine (known4_any _).mono ?_
  rintro e w1 ⟨rfl, hb1⟩
  have hbm : Below w.heap.size w (w.alloc (.cells #[.int .u8 (m.ty : Nat), .int .u8 (m.co : Nat), .int .u8 (m.r0 : Nat), .int .u8 (m.r1 : Nat), .int .u8 (m.r2 : Nat), .int .u8 (m.r3 : Nat), .slice a bn c] 46)) := (Below.refl _ _).alloc (Nat.le_refl _) _
  have HB1 := Lib.hid (hbm.trans (hb1.mono hbm.size))
  have HM1 := Lib.hid ((BlkAt.new (t := 46) w [.int .u8 (m.ty : Nat), .int .u8 (m.co : Nat), .int .u8 (m.r0 : Nat), .int .u8 (m.r1 : Nat), .int .u8 (m.r2 : Nat), .int .u8 (m.r3 : Nat), .slice a bn c]).later hb1)
  have x0 := HM1.out.cell (j := 0) rfl
  have x1 := HM1.out.cell (j := 1) rfl
  have x2 := HM1.out.cell (j := 2) rfl
  have x3 := HM1.out.cell (j := 3) rfl
  have x4 := HM1.out.cell (j := 4) rfl
  have x5 := HM1.out.cell (j := 5) rfl
  have x6 := HM1.out.cell (j := 6) rfl
  clear hb1 hbm
  go_wp2_with fail
  refine (HWB.out w1 HB1.out).mono ?_
  rintro e w2 ⟨x, rfl, hox, hb2⟩
  obtain ⟨xa, xc, rfl⟩ := hox.form
  obtain ⟨xn, hxn⟩ : ∃ n, n = (msgL m B).length := ⟨_, rfl⟩
  rw [← hxn] at hox ⊢
  have HB2 := Lib.hid (HB1.out.trans (hb2.mono HB1.out.size))
  have HX2 := Lib.hid hox.bytes
  have HM2 := Lib.hid (HM1.out.later hb2)
  clear hox hb2 hxn x0 x1 x2 x3 x4 x5 x6 HM1 HB1
  go_wp2_with fail
  refine (HOX.out _ w2 HX2.out).mono ?_
  rintro e w3 ⟨y, rfl, hoy, hb3⟩
  obtain ⟨ya, yc, rfl⟩ := hoy.form
  rw [← HBN.out] at hoy ⊢
  have ha3 : Below w3.heap.size w3 (w3.alloc (.cells #[.int .u8 (m.ty : Nat), .int .u8 (m.co : Nat), .int .u8 (m.r0 : Nat), .int .u8 (m.r1 : Nat), .int .u8 (m.r2 : Nat), .int .u8 (m.r3 : Nat), .slice ya bn yc] 46)) := (Below.refl _ _).alloc (Nat.le_refl _) _
  have hb3' := HB2.out.trans (hb3.mono HB2.out.size)
  have HB3 := Lib.hid (hb3'.trans (ha3.mono hb3'.size))
  have HY3 := Lib.hid (hoy.bytes.later ha3)
  have HM3 := Lib.hid ((HM2.out.later hb3).later ha3)
  clear hoy hb3 ha3 hb3' HX2 HM2 HB2
  have x0 := HM3.out.cell (j := 0) rfl
  have x1 := HM3.out.cell (j := 1) rfl
  have x2 := HM3.out.cell (j := 2) rfl
  have x3 := HM3.out.cell (j := 3) rfl
  have x4 := HM3.out.cell (j := 4) rfl
  have x5 := HM3.out.cell (j := 5) rfl
  have x6 := HM3.out.cell (j := 6) rfl
  go_wp2_with fail
  refine (num4_any 0 _).mono ?_
  rintro e w9 ⟨rfl, rfl⟩
  go_wp2_with fail
  refine (HSS.out ya yc _ HY3.out HB3.out).mono ?_
  rintro e w4 ⟨rfl, hb4⟩
  have HB4 := Lib.hid (HB3.out.trans (hb4.mono HB3.out.size))
  clear hb4 x0 x1 x2 x3 x4 x5 x6 HY3 HB3 HM3
  go_wp2_with fail
  refine (HPW.out _ HB4.out).mono ?_
  rintro e w5 ⟨u, v, B5, rfl, hu, hvv, _, _, hb5⟩
  obtain ⟨ua, uc, rfl⟩ := hu.form
  obtain ⟨va, vc, rfl⟩ := hvv.form
  obtain ⟨on, hon⟩ : ∃ n, n = O.length := ⟨_, rfl⟩
  obtain ⟨vn, hvn⟩ : ∃ n, n = P.length := ⟨_, rfl⟩
  rw [← hon, ← hvn]
  have hb5' := HB4.out.trans (hb5.mono HB4.out.size)
  have HB5 := Lib.hid (hb5'.alloc hb5'.size (.cells #[.int .u8 (h.tos : Nat), .int .u16 (h.id : Nat), .bool h.ev, .bool h.df, .bool h.mf, .int .i64 h.off, .int .u8 (h.ttl : Nat), .int .u8 (h.pr : Nat), .int .u32 (h.src : Nat), .int .u32 (h.dst : Nat), .slice ua on uc] 28))
  have HH5 := Lib.hid (BlkAt.new (t := 28) w5 [.int .u8 (h.tos : Nat), .int .u16 (h.id : Nat), .bool h.ev, .bool h.df, .bool h.mf, .int .i64 h.off, .int .u8 (h.ttl : Nat), .int .u8 (h.pr : Nat), .int .u32 (h.src : Nat), .int .u32 (h.dst : Nat), .slice ua on uc])
  clear hu hvv hb5 hb5' hon hvn HB4
  go_wp2_with fail
  refine (HEW.out _ HB5.out).mono ?_
  rintro e w6 ⟨z, rfl, hoz, hb6⟩
  obtain ⟨za, zc, rfl⟩ := hoz.form
  obtain ⟨zn, hzn⟩ : ∃ n, n = EL.length := ⟨_, rfl⟩
  rw [← hzn] at hoz ⊢
  have HB6 := Lib.hid (HB5.out.trans (hb6.mono HB5.out.size))
  have HX6 := Lib.hid hoz.bytes
  have HH6 := Lib.hid (HH5.out.later hb6)
  clear hoz hb6 hzn HB5 HH5
  have g8 := HH6.out.cell (j := 8) rfl
  have g9 := HH6.out.cell (j := 9) rfl
  go_wp2_with fail
  refine (num4_any _ _).mono ?_
  rintro e w9 ⟨rfl, rfl⟩
  go_wp2_with fail
  refine (HRT.out _ _ HX6.out).mono ?_
  rintro e w7 ⟨y, rfl, hy, hb7⟩
  obtain ⟨ya, yc, rfl⟩ := hy.form
  obtain ⟨qn, hqn⟩ : ∃ n, n = Q.length := ⟨_, rfl⟩
  rw [← hqn] at hy ⊢
  have ha7 : Below w7.heap.size w7 (w7.alloc (.cells #[.int .u8 (q.ty : Nat), .int .u8 (q.co : Nat), .int .u8 (q.r0 : Nat), .int .u8 (q.r1 : Nat), .int .u8 (q.r2 : Nat), .int .u8 (q.r3 : Nat), .slice ya qn yc] 46)) := (Below.refl _ _).alloc (Nat.le_refl _) _
  have hb7' := HB6.out.trans (hb7.mono HB6.out.size)
  have HB7 := Lib.hid (hb7'.trans (ha7.mono hb7'.size))
  have HT7 := Lib.hid (BlkAt.new (t := 46) w7 [.int .u8 (q.ty : Nat), .int .u8 (q.co : Nat), .int .u8 (q.r0 : Nat), .int .u8 (q.r1 : Nat), .int .u8 (q.r2 : Nat), .int .u8 (q.r3 : Nat), .slice ya qn yc])
  have HX7 := Lib.hid (((show Bytes _ _ EL from HX6.out).later hb7).later ha7)
  have HY7 := Lib.hid (hy.later ha7)
  have HH7 := Lib.hid ((HH6.out.later hb7).later ha7)
  have HQN := Lib.hid hqn
  clear hy hb7 ha7 hb7' hqn HX6 HB6 HH6 g8 g9
  go_wp2_with fail
  refine (HIE.out _ _ _ _).mono ?_
  rintro e w8 ⟨rfl, hb8⟩
  have HB8 := Lib.hid (HB7.out.trans (hb8.mono HB7.out.size))
  have HX8 := Lib.hid ((show Bytes _ _ EL from HX7.out).later hb8)
  have HT8 := Lib.hid (HT7.out.later hb8)
  have HY8 := Lib.hid ((show Bytes _ _ Q from HY7.out).later hb8)
  have HH8 := Lib.hid (HH7.out.later hb8)
  clear hb8 HB7 HX7 HT7 HY7 HH7
  go_wp2_with fail
  refine (HMB.out _ _ HX8.out).mono ?_
  rintro e w9 ⟨rfl, hb9⟩
  have HB9 := Lib.hid (HB8.out.trans (hb9.mono HB8.out.size))
  have HX9 := Lib.hid ((show Bytes _ _ EL from HX8.out).later hb9)
  have HT9 := Lib.hid (HT8.out.later hb9)
  have HY9 := Lib.hid ((show Bytes _ _ Q from HY8.out).later hb9)
  have HH9 := Lib.hid (HH8.out.later hb9)
  clear hb9 HB8 HX8 HT8 HY8 HH8
  go_wp2_with fail
  refine (HEB.out _ _ HX9.out).mono ?_
  rintro e w10 ⟨rfl, hb10⟩
  have HB10 := Lib.hid (HB9.out.trans (hb10.mono HB9.out.size))
  have HT10 := Lib.hid (HT9.out.later hb10)
  have HY10 := Lib.hid ((show Bytes _ _ Q from HY9.out).later hb10)
  have HH10 := Lib.hid (HH9.out.later hb10)
  clear hb10 HB9 HX9 HT9 HY9 HH9
  go_wp2_with fail
  refine (HQW.out _ HB10.out).mono ?_
  rintro e w6 ⟨x, rfl, hox, hb11⟩
  obtain ⟨xa, xc, rfl⟩ := hox.form
  rw [← HQN.out] at hox ⊢
  have HB6 := Lib.hid (HB10.out.trans (hb11.mono HB10.out.size))
  have HT11 := Lib.hid (HT10.out.later hb11)
  have HH6 := Lib.hid (HH10.out.later hb11)
  have hy11 := (show Bytes _ _ Q from HY10.out).later hb11
  have hx11 := hox.bytes
  have hs1 := hx11.str (P := Try.prog) (src := 22) (dst := 9) Try.underlying22 Try.underlying5 Try.underlying9
  have hs2 := hy11.str (P := Try.prog) (src := 22) (dst := 9) Try.underlying22 Try.underlying5 Try.underlying9
  have t6 := HT11.out.cell (j := 6) rfl
  clear hox hx11 hy11 hb11 HB10 HT10 HY10 HH10
  go_wp2_with fail
  refine (num4_any 0 _).mono ?_
  rintro e w9 ⟨rfl, rfl⟩
  go_wp2_with fail
  clear hs1 hs2 t6 HT11
  refine (HRW.out _ HB6.out).mono ?_
  rintro e w12 ⟨x, rfl, hox, hb12⟩
  obtain ⟨xa, xc, rfl⟩ := hox.form
  obtain ⟨xn, hxn⟩ : ∃ n, n = X.length := ⟨_, rfl⟩
  rw [← hxn] at hox ⊢
  have HB12 := Lib.hid (HB6.out.trans (hb12.mono HB6.out.size))
  have HX12 := Lib.hid hox.bytes
  have HH12 := Lib.hid (HH6.out.later hb12)
  clear hox hb12 hxn HB6 HH6
  have g8 := HH12.out.cell (j := 8) rfl
  have g9 := HH12.out.cell (j := 9) rfl
  go_wp2_with fail
  refine (num4_any _ _).mono ?_
  rintro e w9 ⟨rfl, rfl⟩
  go_wp2_with fail
  refine (HRU.out _ _ HX12.out).mono ?_
  rintro e w13 ⟨y, rfl, hy, hb13⟩
  obtain ⟨ya, yc, rfl⟩ := hy.form
  obtain ⟨dn, hdn⟩ : ∃ n, n = D.length := ⟨_, rfl⟩
  rw [← hdn]
  have ha13 : Below w13.heap.size w13 (w13.alloc (.cells #[.int .u8 (r.ty : Nat), .int .u8 (r.co : Nat), .int .u8 (r.r0 : Nat), .int .u8 (r.r1 : Nat), .int .u8 (r.r2 : Nat), .int .u8 (r.r3 : Nat), .slice ya dn yc] 46)) := (Below.refl _ _).alloc (Nat.le_refl _) _
  have hb13' := HB12.out.trans (hb13.mono HB12.out.size)
  have HB13 := Lib.hid (hb13'.trans (ha13.mono hb13'.size))
  have HX13 := Lib.hid (((show Bytes _ _ X from HX12.out).later hb13).later ha13)
  clear hy hb13 ha13 hb13' hdn HX12 HB12 HH12 g8 g9
  go_wp2_with fail
  refine (HEC.out _ _ HX13.out).mono ?_
  rintro e w14 ⟨rfl, hb14⟩
  have HB14 := Lib.hid (HB13.out.trans (hb14.mono HB13.out.size))
  clear hb14
  go_wp2_with fail
  go_ret
  exact ⟨rfl, HB14.out⟩
set_option maxHeartbeats 8000000 in
set_option maxRecDepth 100000 in
theorem im_zn (m : Mg) (a : Option Addr) (c bn : Nat) (k : Int) (pa : Option Addr) (pc pn : Nat) (fr : Nat) (mtu : Int) (B l : List UInt8) (w : World) (hm : m.Ok) (hbn : bn = B.length) (hpn : pn = l.length) (hB : Bytes w (.slice a bn c) B) (hv : Bytes w (.slice pa pn pc) l) (h1 : (bn : Int) ≤ 9000) (h2 : (pn : Int) ≤ 9000) (hfr : fr < 4294967296) (he : errN k mtu l = 0) (hn : echE l ≠ 0) :
    Calls Try.prog 8 #[.agg #[.int .u8 (m.ty : Nat), .int .u8 (m.co : Nat), .int .u8 (m.r0 : Nat), .int .u8 (m.r1 : Nat), .int .u8 (m.r2 : Nat), .int .u8 (m.r3 : Nat), .slice a bn c], .int .i64 k, .slice pa pn pc, .int .u32 (fr : Nat), .int .i64 mtu] w fun e w' => e = .returned (.bool true) ∧ Below w.heap.size w w' := by
  have HBN := Lib.hid hbn
  have HBB : Hid (∀ W, Below w.heap.size w W → Bytes W (.slice a bn c) B) := fun W hb => hB.later hb
  have HV : Hid (∀ W, Below w.heap.size w W → Bytes W (.slice pa pn pc) l) := fun W hb => hv.later hb
  have HWB : Hid (∀ W, Below w.heap.size w W → Calls Try.prog 31 #[.agg #[.int .u8 (m.ty : Nat), .int .u8 (m.co : Nat), .int .u8 (m.r0 : Nat), .int .u8 (m.r1 : Nat), .int .u8 (m.r2 : Nat), .int .u8 (m.r3 : Nat), .slice a bn c]] W fun e w' => ∃ v, e = .returned v ∧ OwnB w' W.heap.size v (msgL m B) ∧ Below W.heap.size W w') := fun W hb => by
    have h := bytesM_any m hm a c B W (by rw [← hbn]; exact HBB.out W hb) (by omega)
    rw [← hbn] at h; exact h
  have HOX : Hid (∀ (v : Value) W, Bytes W v (msgL m B) → Calls Try.prog 27 #[v] W fun e w' => ∃ u, e = .returned (.tuple #[.agg #[.int .u8 (m.ty : Nat), .int .u8 (m.co : Nat), .int .u8 (m.r0 : Nat), .int .u8 (m.r1 : Nat), .int .u8 (m.r2 : Nat), .int .u8 (m.r3 : Nat), u], .int .i64 0]) ∧ OwnB w' W.heap.size u B ∧ Below W.heap.size W w') := fun v W hb => by
    have h := ofW_anyB v (msgL m B) W hb (by rw [msgL_length]; omega)
    rw [msg_at m hm, msg_body, msg_er] at h; exact h
  have HSS : Hid (∀ (ya : Option Addr) (yc : Nat) W, Bytes W (.slice ya bn yc) B → Below w.heap.size w W → Calls Try.prog 29 #[.agg #[.int .u8 (m.ty : Nat), .int .u8 (m.co : Nat), .int .u8 (m.r0 : Nat), .int .u8 (m.r1 : Nat), .int .u8 (m.r2 : Nat), .int .u8 (m.r3 : Nat), .slice ya bn yc], .agg #[.int .u8 (m.ty : Nat), .int .u8 (m.co : Nat), .int .u8 (m.r0 : Nat), .int .u8 (m.r1 : Nat), .int .u8 (m.r2 : Nat), .int .u8 (m.r3 : Nat), .slice a bn c]] W fun e w' => e = .returned (.bool true) ∧ Below W.heap.size W w') := fun ya yc W hy hb => by
    have h := sameMR_any m m ya a yc c bn bn B B W hy (HBB.out W hb)
    rw [sameM_refl] at h; exact h
  have hok := hdP_ok l
  have hmo := mgP_ok (plP l)
  obtain ⟨h, hh⟩ : ∃ h, h = hdP l := ⟨_, rfl⟩
  obtain ⟨P, hP⟩ : ∃ P, P = plP l := ⟨_, rfl⟩
  obtain ⟨O, hO⟩ : ∃ P, P = opP l := ⟨_, rfl⟩
  obtain ⟨f, hfe⟩ : ∃ f, f = flt l := ⟨_, rfl⟩
  rw [← hh] at hok
  have HPW : Hid (∀ W, Below w.heap.size w W → Calls Try.prog 11 #[.slice pa pn pc] W fun e w' => ∃ (u v : Value) (B : Nat), e = .returned (.tuple #[.agg #[.int .u8 (h.tos : Nat), .int .u16 (h.id : Nat), .bool h.ev, .bool h.df, .bool h.mf, .int .i64 h.off, .int .u8 (h.ttl : Nat), .int .u8 (h.pr : Nat), .int .u32 (h.src : Nat), .int .u32 (h.dst : Nat), u], v, .int .i64 (f : Nat)]) ∧ OwnB w' W.heap.size u O ∧ OwnB w' B v P ∧ W.heap.size ≤ B ∧ (∀ g, u.ownBlock = some g → g < B) ∧ Below W.heap.size W w') := fun W hb => by
    have h9 := prsW_any _ l (by omega) W (HV.out W hb)
    unfold PrsW at h9
    rw [← hh, ← hP, ← hO, ← hfe] at h9
    exact h9
  obtain ⟨EL, hEL⟩ : ∃ n, n = errL k mtu l fr := ⟨_, rfl⟩
  obtain ⟨er, her⟩ : ∃ n, n = errN k mtu l := ⟨_, rfl⟩
  have HEW : Hid (∀ W, Below w.heap.size w W → Calls Try.prog 40 #[.int .i64 k, .slice pa pn pc, .int .u32 (fr : Nat), .int .i64 mtu] W fun e w' => ∃ v, e = .returned (.tuple #[v, .int .i64 (er : Nat)]) ∧ OwnB w' W.heap.size v EL ∧ Below W.heap.size W w') := fun W hb => by
    have h9 := errW_any k _ l (by omega) fr hfr mtu W (HV.out W hb)
    unfold ErrRes at h9
    rw [← her, ← hEL] at h9
    exact h9
  obtain ⟨X, hX⟩ : ∃ X, X = repP l := ⟨_, rfl⟩
  obtain ⟨en, hen⟩ : ∃ X, X = echE l := ⟨_, rfl⟩
  have HRW : Hid (∀ W, Below w.heap.size w W → Calls Try.prog 42 #[.slice pa pn pc] W fun e w' => ∃ x, e = .returned (.tuple #[x, .int .i64 (en : Nat)]) ∧ OwnB w' W.heap.size x X ∧ Below W.heap.size W w') := fun W hb => by
    have h9 := replyW_any _ l (by omega) W (HV.out W hb)
    rw [← hen, ← hX] at h9
    exact h9
  have hgood : badA k mtu = false ∧ flt l = 0 ∧ ansB (hdP l) (plP l) = true := by
    rcases errN_cases k mtu l with ⟨_, e⟩ | ⟨_, _, e⟩ | ⟨_, _, _, e⟩ | ⟨g1, g2, g3, _⟩
    · rw [e] at he; cases he
    · rw [e] at he; cases he
    · rw [e] at he; cases he
    · exact ⟨g1, g2, g3⟩
  obtain ⟨hg1, hz, _⟩ := hgood
  obtain ⟨hsk, mt, hm1, hm2, hm3, _⟩ := good_args hg1
  have hELq : EL = ansL (eH fr h.src) (eM k mt) (quoL l) := by rw [hEL, hh]; unfold errL; rw [if_pos he, hm2]
  have hql := quo_le hz
  obtain ⟨q, hq⟩ : ∃ q, q = eM k mt := ⟨_, rfl⟩
  obtain ⟨Q, hQ⟩ : ∃ q, q = quoL l := ⟨_, rfl⟩
  have hqo : q.Ok := by rw [hq]; exact eM_ok (by omega)
  have hqe : errB q.ty = true := by rw [hq]; exact eM_err hsk mt
  have hq8 : q.ty ≠ 8 := by rw [hq]; exact eM_ne8 mt
  rw [← hq, ← hQ] at hELq
  rw [← hQ] at hql
  have hEHo := eH_ok hfr hok.src
  have HRT : Hid (∀ (v : Value) W, Bytes W v EL → Calls Try.prog 46 #[v, .int .u32 (fr : Nat), .int .u32 (h.src : Nat)] W fun e w' => ∃ b, e = .returned (.tuple #[.agg #[.int .u8 (q.ty : Nat), .int .u8 (q.co : Nat), .int .u8 (q.r0 : Nat), .int .u8 (q.r1 : Nat), .int .u8 (q.r2 : Nat), .int .u8 (q.r3 : Nat), b], .bool true]) ∧ Bytes w' b Q ∧ Below W.heap.size W w') := fun v W hb => by
    rw [hELq] at hb
    exact right_ans hEHo rfl hqo hql v W hb
  have HIE : Hid (∀ (a : Option Addr) (n c : Nat) W, Calls Try.prog 34 #[.agg #[.int .u8 (q.ty : Nat), .int .u8 (q.co : Nat), .int .u8 (q.r0 : Nat), .int .u8 (q.r1 : Nat), .int .u8 (q.r2 : Nat), .int .u8 (q.r3 : Nat), .slice a n c]] W fun e w' => e = .returned (.bool true) ∧ Below W.heap.size W w') := fun a n c W => by
    have h9 := isErrW_any q (.slice a n c) W ⟨_, _, _, rfl⟩
    rw [hqe] at h9; exact h9
  have HMB : Hid (∀ (v : Value) W, Bytes W v EL → Calls Try.prog 37 #[v] W fun e w' => e = .returned (.bool false) ∧ Below W.heap.size W w') := fun v W hb => by
    have h9 := mayIW_any v EL (by rw [hELq, ans_len]; omega) W hb
    rw [show maB EL = false from by rw [hELq]; exact ans_may hEHo rfl hqo hql hqe] at h9; exact h9
  have HEB : Hid (∀ (v : Value) W, Bytes W v EL → Calls Try.prog 43 #[v] W fun e w' => e = .returned (.bool false) ∧ Below W.heap.size W w') := fun v W hb =>
    echoI_no v EL (by rw [hELq, ans_len]; omega) W hb (by rw [hELq]; exact ans_echo hEHo rfl hqo hql hq8)
  have HQW : Hid (∀ W, Below w.heap.size w W → Calls Try.prog 36 #[.slice pa pn pc] W fun e w' => ∃ v, e = .returned (.tuple #[v, .int .i64 0]) ∧ OwnB w' W.heap.size v Q ∧ Below W.heap.size W w') := fun W hb => by
    have h9 := quoIW_any _ l (by omega) W (HV.out W hb)
    rw [show quE l = 0 from by unfold quE; exact if_pos hz, show quP l = Q from by rw [hQ]; unfold quP; exact if_pos hz] at h9
    exact h9
  have her0 : er = 0 := her.trans he
  subst her0
  have kn : ((en : Int) != 0) = true := by rw [bne_iff_ne]; omega
  have k5 : ((f : Int) != 0) = false := by rw [bne_eq_false_iff_eq]; omega
  have k6 : ((f : Int) == 0) = true := by rw [beq_iff_eq]; omega
  clear hm hbn hpn hB hv hfr hok hmo hh hP hO hfe hEL her hX hen he hn
  clear hg1 hz hsk hm1 hm2 hm3 hELq hql hq hQ hqo hqe hq8 hEHo
  go_enter Try.func8, Try.ntmps8
  go_wp2_with fail
  refine (known4_any _).mono ?_
  rintro e w1 ⟨rfl, hb1⟩
  have hbm : Below w.heap.size w (w.alloc (.cells #[.int .u8 (m.ty : Nat), .int .u8 (m.co : Nat), .int .u8 (m.r0 : Nat), .int .u8 (m.r1 : Nat), .int .u8 (m.r2 : Nat), .int .u8 (m.r3 : Nat), .slice a bn c] 46)) := (Below.refl _ _).alloc (Nat.le_refl _) _
  have HB1 := Lib.hid (hbm.trans (hb1.mono hbm.size))
  have HM1 := Lib.hid ((BlkAt.new (t := 46) w [.int .u8 (m.ty : Nat), .int .u8 (m.co : Nat), .int .u8 (m.r0 : Nat), .int .u8 (m.r1 : Nat), .int .u8 (m.r2 : Nat), .int .u8 (m.r3 : Nat), .slice a bn c]).later hb1)
  have x0 := HM1.out.cell (j := 0) rfl
  have x1 := HM1.out.cell (j := 1) rfl
  have x2 := HM1.out.cell (j := 2) rfl
  have x3 := HM1.out.cell (j := 3) rfl
  have x4 := HM1.out.cell (j := 4) rfl
  have x5 := HM1.out.cell (j := 5) rfl
  have x6 := HM1.out.cell (j := 6) rfl
  clear hb1 hbm
  go_wp2_with fail
  refine (HWB.out w1 HB1.out).mono ?_
  rintro e w2 ⟨x, rfl, hox, hb2⟩
  obtain ⟨xa, xc, rfl⟩ := hox.form
  obtain ⟨xn, hxn⟩ : ∃ n, n = (msgL m B).length := ⟨_, rfl⟩
  rw [← hxn] at hox ⊢
  have HB2 := Lib.hid (HB1.out.trans (hb2.mono HB1.out.size))
  have HX2 := Lib.hid hox.bytes
  have HM2 := Lib.hid (HM1.out.later hb2)
  clear hox hb2 hxn x0 x1 x2 x3 x4 x5 x6 HM1 HB1
  go_wp2_with fail
  refine (HOX.out _ w2 HX2.out).mono ?_
  rintro e w3 ⟨y, rfl, hoy, hb3⟩
  obtain ⟨ya, yc, rfl⟩ := hoy.form
  rw [← HBN.out] at hoy ⊢
  have ha3 : Below w3.heap.size w3 (w3.alloc (.cells #[.int .u8 (m.ty : Nat), .int .u8 (m.co : Nat), .int .u8 (m.r0 : Nat), .int .u8 (m.r1 : Nat), .int .u8 (m.r2 : Nat), .int .u8 (m.r3 : Nat), .slice ya bn yc] 46)) := (Below.refl _ _).alloc (Nat.le_refl _) _
  have hb3' := HB2.out.trans (hb3.mono HB2.out.size)
  have HB3 := Lib.hid (hb3'.trans (ha3.mono hb3'.size))
  have HY3 := Lib.hid (hoy.bytes.later ha3)
  have HM3 := Lib.hid ((HM2.out.later hb3).later ha3)
  clear hoy hb3 ha3 hb3' HX2 HM2 HB2
  have x0 := HM3.out.cell (j := 0) rfl
  have x1 := HM3.out.cell (j := 1) rfl
  have x2 := HM3.out.cell (j := 2) rfl
  have x3 := HM3.out.cell (j := 3) rfl
  have x4 := HM3.out.cell (j := 4) rfl
  have x5 := HM3.out.cell (j := 5) rfl
  have x6 := HM3.out.cell (j := 6) rfl
  go_wp2_with fail
  refine (num4_any 0 _).mono ?_
  rintro e w9 ⟨rfl, rfl⟩
  go_wp2_with fail
  refine (HSS.out ya yc _ HY3.out HB3.out).mono ?_
  rintro e w4 ⟨rfl, hb4⟩
  have HB4 := Lib.hid (HB3.out.trans (hb4.mono HB3.out.size))
  clear hb4 x0 x1 x2 x3 x4 x5 x6 HY3 HB3 HM3
  go_wp2_with fail
  refine (HPW.out _ HB4.out).mono ?_
  rintro e w5 ⟨u, v, B5, rfl, hu, hvv, _, _, hb5⟩
  obtain ⟨ua, uc, rfl⟩ := hu.form
  obtain ⟨va, vc, rfl⟩ := hvv.form
  obtain ⟨on, hon⟩ : ∃ n, n = O.length := ⟨_, rfl⟩
  obtain ⟨vn, hvn⟩ : ∃ n, n = P.length := ⟨_, rfl⟩
  rw [← hon, ← hvn]
  have hb5' := HB4.out.trans (hb5.mono HB4.out.size)
  have HB5 := Lib.hid (hb5'.alloc hb5'.size (.cells #[.int .u8 (h.tos : Nat), .int .u16 (h.id : Nat), .bool h.ev, .bool h.df, .bool h.mf, .int .i64 h.off, .int .u8 (h.ttl : Nat), .int .u8 (h.pr : Nat), .int .u32 (h.src : Nat), .int .u32 (h.dst : Nat), .slice ua on uc] 28))
  have HH5 := Lib.hid (BlkAt.new (t := 28) w5 [.int .u8 (h.tos : Nat), .int .u16 (h.id : Nat), .bool h.ev, .bool h.df, .bool h.mf, .int .i64 h.off, .int .u8 (h.ttl : Nat), .int .u8 (h.pr : Nat), .int .u32 (h.src : Nat), .int .u32 (h.dst : Nat), .slice ua on uc])
  clear hu hvv hb5 hb5' hon hvn HB4
  go_wp2_with fail
  refine (HEW.out _ HB5.out).mono ?_
  rintro e w6 ⟨z, rfl, hoz, hb6⟩
  obtain ⟨za, zc, rfl⟩ := hoz.form
  obtain ⟨zn, hzn⟩ : ∃ n, n = EL.length := ⟨_, rfl⟩
  rw [← hzn] at hoz ⊢
  have HB6 := Lib.hid (HB5.out.trans (hb6.mono HB5.out.size))
  have HX6 := Lib.hid hoz.bytes
  have HH6 := Lib.hid (HH5.out.later hb6)
  clear hoz hb6 hzn HB5 HH5
  have g8 := HH6.out.cell (j := 8) rfl
  have g9 := HH6.out.cell (j := 9) rfl
  go_wp2_with fail
  refine (num4_any _ _).mono ?_
  rintro e w9 ⟨rfl, rfl⟩
  go_wp2_with fail
  refine (HRT.out _ _ HX6.out).mono ?_
  rintro e w7 ⟨y, rfl, hy, hb7⟩
  obtain ⟨ya, yc, rfl⟩ := hy.form
  obtain ⟨qn, hqn⟩ : ∃ n, n = Q.length := ⟨_, rfl⟩
  rw [← hqn] at hy ⊢
  have ha7 : Below w7.heap.size w7 (w7.alloc (.cells #[.int .u8 (q.ty : Nat), .int .u8 (q.co : Nat), .int .u8 (q.r0 : Nat), .int .u8 (q.r1 : Nat), .int .u8 (q.r2 : Nat), .int .u8 (q.r3 : Nat), .slice ya qn yc] 46)) := (Below.refl _ _).alloc (Nat.le_refl _) _
  have hb7' := HB6.out.trans (hb7.mono HB6.out.size)
  have HB7 := Lib.hid (hb7'.trans (ha7.mono hb7'.size))
  have HT7 := Lib.hid (BlkAt.new (t := 46) w7 [.int .u8 (q.ty : Nat), .int .u8 (q.co : Nat), .int .u8 (q.r0 : Nat), .int .u8 (q.r1 : Nat), .int .u8 (q.r2 : Nat), .int .u8 (q.r3 : Nat), .slice ya qn yc])
  have HX7 := Lib.hid (((show Bytes _ _ EL from HX6.out).later hb7).later ha7)
  have HY7 := Lib.hid (hy.later ha7)
  have HH7 := Lib.hid ((HH6.out.later hb7).later ha7)
  have HQN := Lib.hid hqn
  clear hy hb7 ha7 hb7' hqn HX6 HB6 HH6 g8 g9
  go_wp2_with fail
  refine (HIE.out _ _ _ _).mono ?_
  rintro e w8 ⟨rfl, hb8⟩
  have HB8 := Lib.hid (HB7.out.trans (hb8.mono HB7.out.size))
  have HX8 := Lib.hid ((show Bytes _ _ EL from HX7.out).later hb8)
  have HT8 := Lib.hid (HT7.out.later hb8)
  have HY8 := Lib.hid ((show Bytes _ _ Q from HY7.out).later hb8)
  have HH8 := Lib.hid (HH7.out.later hb8)
  clear hb8 HB7 HX7 HT7 HY7 HH7
  go_wp2_with fail
  refine (HMB.out _ _ HX8.out).mono ?_
  rintro e w9 ⟨rfl, hb9⟩
  have HB9 := Lib.hid (HB8.out.trans (hb9.mono HB8.out.size))
  have HX9 := Lib.hid ((show Bytes _ _ EL from HX8.out).later hb9)
  have HT9 := Lib.hid (HT8.out.later hb9)
  have HY9 := Lib.hid ((show Bytes _ _ Q from HY8.out).later hb9)
  have HH9 := Lib.hid (HH8.out.later hb9)
  clear hb9 HB8 HX8 HT8 HY8 HH8
  go_wp2_with fail
  refine (HEB.out _ _ HX9.out).mono ?_
  rintro e w10 ⟨rfl, hb10⟩
  have HB10 := Lib.hid (HB9.out.trans (hb10.mono HB9.out.size))
  have HT10 := Lib.hid (HT9.out.later hb10)
  have HY10 := Lib.hid ((show Bytes _ _ Q from HY9.out).later hb10)
  have HH10 := Lib.hid (HH9.out.later hb10)
  clear hb10 HB9 HX9 HT9 HY9 HH9
  go_wp2_with fail
  refine (HQW.out _ HB10.out).mono ?_
  rintro e w6 ⟨x, rfl, hox, hb11⟩
  obtain ⟨xa, xc, rfl⟩ := hox.form
  rw [← HQN.out] at hox ⊢
  have HB6 := Lib.hid (HB10.out.trans (hb11.mono HB10.out.size))
  have HT11 := Lib.hid (HT10.out.later hb11)
  have HH6 := Lib.hid (HH10.out.later hb11)
  have hy11 := (show Bytes _ _ Q from HY10.out).later hb11
  have hx11 := hox.bytes
  have hs1 := hx11.str (P := Try.prog) (src := 22) (dst := 9) Try.underlying22 Try.underlying5 Try.underlying9
  have hs2 := hy11.str (P := Try.prog) (src := 22) (dst := 9) Try.underlying22 Try.underlying5 Try.underlying9
  have t6 := HT11.out.cell (j := 6) rfl
  clear hox hx11 hy11 hb11 HB10 HT10 HY10 HH10
  go_wp2_with fail
  refine (num4_any 0 _).mono ?_
  rintro e w9 ⟨rfl, rfl⟩
  go_wp2_with fail
  clear hs1 hs2 t6 HT11
  refine (HRW.out _ HB6.out).mono ?_
  rintro e w12 ⟨x, rfl, hox, hb12⟩
  obtain ⟨xa, xc, rfl⟩ := hox.form
  obtain ⟨xn, hxn⟩ : ∃ n, n = X.length := ⟨_, rfl⟩
  rw [← hxn] at hox ⊢
  have HB12 := Lib.hid (HB6.out.trans (hb12.mono HB6.out.size))
  have HX12 := Lib.hid hox.bytes
  have HH12 := Lib.hid (HH6.out.later hb12)
  clear hox hb12 hxn HB6 HH6
  have g8 := HH12.out.cell (j := 8) rfl
  have g9 := HH12.out.cell (j := 9) rfl
  go_wp2_with fail
  refine (num4_any _ _).mono ?_
  rintro e w9 ⟨rfl, rfl⟩
  go_wp2_with fail
  go_ret
  exact ⟨rfl, HB12.out⟩
set_option maxHeartbeats 8000000 in
set_option maxRecDepth 100000 in
theorem im_nz (m : Mg) (a : Option Addr) (c bn : Nat) (k : Int) (pa : Option Addr) (pc pn : Nat) (fr : Nat) (mtu : Int) (B l : List UInt8) (w : World) (hm : m.Ok) (hbn : bn = B.length) (hpn : pn = l.length) (hB : Bytes w (.slice a bn c) B) (hv : Bytes w (.slice pa pn pc) l) (h1 : (bn : Int) ≤ 9000) (h2 : (pn : Int) ≤ 9000) (hfr : fr < 4294967296) (he : errN k mtu l ≠ 0) (hn : echE l = 0) :
    Calls Try.prog 8 #[.agg #[.int .u8 (m.ty : Nat), .int .u8 (m.co : Nat), .int .u8 (m.r0 : Nat), .int .u8 (m.r1 : Nat), .int .u8 (m.r2 : Nat), .int .u8 (m.r3 : Nat), .slice a bn c], .int .i64 k, .slice pa pn pc, .int .u32 (fr : Nat), .int .i64 mtu] w fun e w' => e = .returned (.bool true) ∧ Below w.heap.size w w' := by
  have HBN := Lib.hid hbn
  have HBB : Hid (∀ W, Below w.heap.size w W → Bytes W (.slice a bn c) B) := fun W hb => hB.later hb
  have HV : Hid (∀ W, Below w.heap.size w W → Bytes W (.slice pa pn pc) l) := fun W hb => hv.later hb
  have HWB : Hid (∀ W, Below w.heap.size w W → Calls Try.prog 31 #[.agg #[.int .u8 (m.ty : Nat), .int .u8 (m.co : Nat), .int .u8 (m.r0 : Nat), .int .u8 (m.r1 : Nat), .int .u8 (m.r2 : Nat), .int .u8 (m.r3 : Nat), .slice a bn c]] W fun e w' => ∃ v, e = .returned v ∧ OwnB w' W.heap.size v (msgL m B) ∧ Below W.heap.size W w') := fun W hb => by
    have h := bytesM_any m hm a c B W (by rw [← hbn]; exact HBB.out W hb) (by omega)
    rw [← hbn] at h; exact h
  have HOX : Hid (∀ (v : Value) W, Bytes W v (msgL m B) → Calls Try.prog 27 #[v] W fun e w' => ∃ u, e = .returned (.tuple #[.agg #[.int .u8 (m.ty : Nat), .int .u8 (m.co : Nat), .int .u8 (m.r0 : Nat), .int .u8 (m.r1 : Nat), .int .u8 (m.r2 : Nat), .int .u8 (m.r3 : Nat), u], .int .i64 0]) ∧ OwnB w' W.heap.size u B ∧ Below W.heap.size W w') := fun v W hb => by
    have h := ofW_anyB v (msgL m B) W hb (by rw [msgL_length]; omega)
    rw [msg_at m hm, msg_body, msg_er] at h; exact h
  have HSS : Hid (∀ (ya : Option Addr) (yc : Nat) W, Bytes W (.slice ya bn yc) B → Below w.heap.size w W → Calls Try.prog 29 #[.agg #[.int .u8 (m.ty : Nat), .int .u8 (m.co : Nat), .int .u8 (m.r0 : Nat), .int .u8 (m.r1 : Nat), .int .u8 (m.r2 : Nat), .int .u8 (m.r3 : Nat), .slice ya bn yc], .agg #[.int .u8 (m.ty : Nat), .int .u8 (m.co : Nat), .int .u8 (m.r0 : Nat), .int .u8 (m.r1 : Nat), .int .u8 (m.r2 : Nat), .int .u8 (m.r3 : Nat), .slice a bn c]] W fun e w' => e = .returned (.bool true) ∧ Below W.heap.size W w') := fun ya yc W hy hb => by
    have h := sameMR_any m m ya a yc c bn bn B B W hy (HBB.out W hb)
    rw [sameM_refl] at h; exact h
  have hok := hdP_ok l
  have hmo := mgP_ok (plP l)
  obtain ⟨h, hh⟩ : ∃ h, h = hdP l := ⟨_, rfl⟩
  obtain ⟨P, hP⟩ : ∃ P, P = plP l := ⟨_, rfl⟩
  obtain ⟨O, hO⟩ : ∃ P, P = opP l := ⟨_, rfl⟩
  obtain ⟨f, hfe⟩ : ∃ f, f = flt l := ⟨_, rfl⟩
  rw [← hh] at hok
  have HPW : Hid (∀ W, Below w.heap.size w W → Calls Try.prog 11 #[.slice pa pn pc] W fun e w' => ∃ (u v : Value) (B : Nat), e = .returned (.tuple #[.agg #[.int .u8 (h.tos : Nat), .int .u16 (h.id : Nat), .bool h.ev, .bool h.df, .bool h.mf, .int .i64 h.off, .int .u8 (h.ttl : Nat), .int .u8 (h.pr : Nat), .int .u32 (h.src : Nat), .int .u32 (h.dst : Nat), u], v, .int .i64 (f : Nat)]) ∧ OwnB w' W.heap.size u O ∧ OwnB w' B v P ∧ W.heap.size ≤ B ∧ (∀ g, u.ownBlock = some g → g < B) ∧ Below W.heap.size W w') := fun W hb => by
    have h9 := prsW_any _ l (by omega) W (HV.out W hb)
    unfold PrsW at h9
    rw [← hh, ← hP, ← hO, ← hfe] at h9
    exact h9
  obtain ⟨EL, hEL⟩ : ∃ n, n = errL k mtu l fr := ⟨_, rfl⟩
  obtain ⟨er, her⟩ : ∃ n, n = errN k mtu l := ⟨_, rfl⟩
  have HEW : Hid (∀ W, Below w.heap.size w W → Calls Try.prog 40 #[.int .i64 k, .slice pa pn pc, .int .u32 (fr : Nat), .int .i64 mtu] W fun e w' => ∃ v, e = .returned (.tuple #[v, .int .i64 (er : Nat)]) ∧ OwnB w' W.heap.size v EL ∧ Below W.heap.size W w') := fun W hb => by
    have h9 := errW_any k _ l (by omega) fr hfr mtu W (HV.out W hb)
    unfold ErrRes at h9
    rw [← her, ← hEL] at h9
    exact h9
  obtain ⟨X, hX⟩ : ∃ X, X = repP l := ⟨_, rfl⟩
  obtain ⟨en, hen⟩ : ∃ X, X = echE l := ⟨_, rfl⟩
  have HRW : Hid (∀ W, Below w.heap.size w W → Calls Try.prog 42 #[.slice pa pn pc] W fun e w' => ∃ x, e = .returned (.tuple #[x, .int .i64 (en : Nat)]) ∧ OwnB w' W.heap.size x X ∧ Below W.heap.size W w') := fun W hb => by
    have h9 := replyW_any _ l (by omega) W (HV.out W hb)
    rw [← hen, ← hX] at h9
    exact h9
  have ke : ((er : Int) == 0) = false := by rw [beq_eq_false_iff_ne]; omega
  obtain ⟨hz2, _⟩ := echE_ok hn
  have hXq : X = ansL (repH h) (repM (mgP (plP l))) (bdP (plP l)) := by rw [hX, repP_yes hn, hh]; rfl
  have hbl := bd_len hz2
  obtain ⟨r, hr⟩ : ∃ q, q = repM (mgP (plP l)) := ⟨_, rfl⟩
  obtain ⟨D, hD⟩ : ∃ q, q = bdP (plP l) := ⟨_, rfl⟩
  have hro : r.Ok := by rw [hr]; exact repM_ok hmo
  have hr8 : r.ty ≠ 8 := by rw [hr]; exact (by decide : (0 : Nat) ≠ 8)
  have hr0 : ((r.ty : Int) == 0) = true := by rw [hr]; rfl
  rw [← hr, ← hD] at hXq
  rw [← hD] at hbl
  have HRU : Hid (∀ (v : Value) W, Bytes W v X → Calls Try.prog 46 #[v, .int .u32 (h.dst : Nat), .int .u32 (h.src : Nat)] W fun e w' => ∃ b, e = .returned (.tuple #[.agg #[.int .u8 (r.ty : Nat), .int .u8 (r.co : Nat), .int .u8 (r.r0 : Nat), .int .u8 (r.r1 : Nat), .int .u8 (r.r2 : Nat), .int .u8 (r.r3 : Nat), b], .bool true]) ∧ Bytes w' b D ∧ Below W.heap.size W w') := fun v W hb => by
    rw [hXq] at hb
    exact right_ans (repH_ok hok) rfl hro hbl v W hb
  have HEC : Hid (∀ (v : Value) W, Bytes W v X → Calls Try.prog 43 #[v] W fun e w' => e = .returned (.bool false) ∧ Below W.heap.size W w') := fun v W hb =>
    echoI_no v X (by rw [hXq, ans_len]; omega) W hb (by rw [hXq]; exact ans_echo (repH_ok hok) rfl hro hbl hr8)
  have hen0 : en = 0 := hen.trans hn
  subst hen0
  have k5 : ((f : Int) != 0) = false := by rw [bne_eq_false_iff_eq]; omega
  have k6 : ((f : Int) == 0) = true := by rw [beq_iff_eq]; omega
  clear hm hbn hpn hB hv hfr hok hmo hh hP hO hfe hEL her hX hen he hn
  clear hz2 hXq hbl hr hD hro hr8
  go_enter Try.func8, Try.ntmps8
  go_wp2_with fail
  refine (known4_any _).mono ?_
  rintro e w1 ⟨rfl, hb1⟩
  have hbm : Below w.heap.size w (w.alloc (.cells #[.int .u8 (m.ty : Nat), .int .u8 (m.co : Nat), .int .u8 (m.r0 : Nat), .int .u8 (m.r1 : Nat), .int .u8 (m.r2 : Nat), .int .u8 (m.r3 : Nat), .slice a bn c] 46)) := (Below.refl _ _).alloc (Nat.le_refl _) _
  have HB1 := Lib.hid (hbm.trans (hb1.mono hbm.size))
  have HM1 := Lib.hid ((BlkAt.new (t := 46) w [.int .u8 (m.ty : Nat), .int .u8 (m.co : Nat), .int .u8 (m.r0 : Nat), .int .u8 (m.r1 : Nat), .int .u8 (m.r2 : Nat), .int .u8 (m.r3 : Nat), .slice a bn c]).later hb1)
  have x0 := HM1.out.cell (j := 0) rfl
  have x1 := HM1.out.cell (j := 1) rfl
  have x2 := HM1.out.cell (j := 2) rfl
  have x3 := HM1.out.cell (j := 3) rfl
  have x4 := HM1.out.cell (j := 4) rfl
  have x5 := HM1.out.cell (j := 5) rfl
  have x6 := HM1.out.cell (j := 6) rfl
  clear hb1 hbm
  go_wp2_with fail
  refine (HWB.out w1 HB1.out).mono ?_
  rintro e w2 ⟨x, rfl, hox, hb2⟩
  obtain ⟨xa, xc, rfl⟩ := hox.form
  obtain ⟨xn, hxn⟩ : ∃ n, n = (msgL m B).length := ⟨_, rfl⟩
  rw [← hxn] at hox ⊢
  have HB2 := Lib.hid (HB1.out.trans (hb2.mono HB1.out.size))
  have HX2 := Lib.hid hox.bytes
  have HM2 := Lib.hid (HM1.out.later hb2)
  clear hox hb2 hxn x0 x1 x2 x3 x4 x5 x6 HM1 HB1
  go_wp2_with fail
  refine (HOX.out _ w2 HX2.out).mono ?_
  rintro e w3 ⟨y, rfl, hoy, hb3⟩
  obtain ⟨ya, yc, rfl⟩ := hoy.form
  rw [← HBN.out] at hoy ⊢
  have ha3 : Below w3.heap.size w3 (w3.alloc (.cells #[.int .u8 (m.ty : Nat), .int .u8 (m.co : Nat), .int .u8 (m.r0 : Nat), .int .u8 (m.r1 : Nat), .int .u8 (m.r2 : Nat), .int .u8 (m.r3 : Nat), .slice ya bn yc] 46)) := (Below.refl _ _).alloc (Nat.le_refl _) _
  have hb3' := HB2.out.trans (hb3.mono HB2.out.size)
  have HB3 := Lib.hid (hb3'.trans (ha3.mono hb3'.size))
  have HY3 := Lib.hid (hoy.bytes.later ha3)
  have HM3 := Lib.hid ((HM2.out.later hb3).later ha3)
  clear hoy hb3 ha3 hb3' HX2 HM2 HB2
  have x0 := HM3.out.cell (j := 0) rfl
  have x1 := HM3.out.cell (j := 1) rfl
  have x2 := HM3.out.cell (j := 2) rfl
  have x3 := HM3.out.cell (j := 3) rfl
  have x4 := HM3.out.cell (j := 4) rfl
  have x5 := HM3.out.cell (j := 5) rfl
  have x6 := HM3.out.cell (j := 6) rfl
  go_wp2_with fail
  refine (num4_any 0 _).mono ?_
  rintro e w9 ⟨rfl, rfl⟩
  go_wp2_with fail
  refine (HSS.out ya yc _ HY3.out HB3.out).mono ?_
  rintro e w4 ⟨rfl, hb4⟩
  have HB4 := Lib.hid (HB3.out.trans (hb4.mono HB3.out.size))
  clear hb4 x0 x1 x2 x3 x4 x5 x6 HY3 HB3 HM3
  go_wp2_with fail
  refine (HPW.out _ HB4.out).mono ?_
  rintro e w5 ⟨u, v, B5, rfl, hu, hvv, _, _, hb5⟩
  obtain ⟨ua, uc, rfl⟩ := hu.form
  obtain ⟨va, vc, rfl⟩ := hvv.form
  obtain ⟨on, hon⟩ : ∃ n, n = O.length := ⟨_, rfl⟩
  obtain ⟨vn, hvn⟩ : ∃ n, n = P.length := ⟨_, rfl⟩
  rw [← hon, ← hvn]
  have hb5' := HB4.out.trans (hb5.mono HB4.out.size)
  have HB5 := Lib.hid (hb5'.alloc hb5'.size (.cells #[.int .u8 (h.tos : Nat), .int .u16 (h.id : Nat), .bool h.ev, .bool h.df, .bool h.mf, .int .i64 h.off, .int .u8 (h.ttl : Nat), .int .u8 (h.pr : Nat), .int .u32 (h.src : Nat), .int .u32 (h.dst : Nat), .slice ua on uc] 28))
  have HH5 := Lib.hid (BlkAt.new (t := 28) w5 [.int .u8 (h.tos : Nat), .int .u16 (h.id : Nat), .bool h.ev, .bool h.df, .bool h.mf, .int .i64 h.off, .int .u8 (h.ttl : Nat), .int .u8 (h.pr : Nat), .int .u32 (h.src : Nat), .int .u32 (h.dst : Nat), .slice ua on uc])
  clear hu hvv hb5 hb5' hon hvn HB4
  go_wp2_with fail
  refine (HEW.out _ HB5.out).mono ?_
  rintro e w6 ⟨z, rfl, hoz, hb6⟩
  obtain ⟨za, zc, rfl⟩ := hoz.form
  obtain ⟨zn, hzn⟩ : ∃ n, n = EL.length := ⟨_, rfl⟩
  rw [← hzn] at hoz ⊢
  have HB6 := Lib.hid (HB5.out.trans (hb6.mono HB5.out.size))
  have HX6 := Lib.hid hoz.bytes
  have HH6 := Lib.hid (HH5.out.later hb6)
  clear hoz hb6 hzn HB5 HH5
  have g8 := HH6.out.cell (j := 8) rfl
  have g9 := HH6.out.cell (j := 9) rfl
  go_wp2_with fail
  refine (num4_any _ _).mono ?_
  rintro e w9 ⟨rfl, rfl⟩
  go_wp2_with fail
  refine (HRW.out _ HB6.out).mono ?_
  rintro e w12 ⟨x, rfl, hox, hb12⟩
  obtain ⟨xa, xc, rfl⟩ := hox.form
  obtain ⟨xn, hxn⟩ : ∃ n, n = X.length := ⟨_, rfl⟩
  rw [← hxn] at hox ⊢
  have HB12 := Lib.hid (HB6.out.trans (hb12.mono HB6.out.size))
  have HX12 := Lib.hid hox.bytes
  have HH12 := Lib.hid (HH6.out.later hb12)
  clear g8 g9 HX6
  clear hox hb12 hxn HB6 HH6
  have g8 := HH12.out.cell (j := 8) rfl
  have g9 := HH12.out.cell (j := 9) rfl
  go_wp2_with fail
  refine (num4_any _ _).mono ?_
  rintro e w9 ⟨rfl, rfl⟩
  go_wp2_with fail
  refine (HRU.out _ _ HX12.out).mono ?_
  rintro e w13 ⟨y, rfl, hy, hb13⟩
  obtain ⟨ya, yc, rfl⟩ := hy.form
  obtain ⟨dn, hdn⟩ : ∃ n, n = D.length := ⟨_, rfl⟩
  rw [← hdn]
  have ha13 : Below w13.heap.size w13 (w13.alloc (.cells #[.int .u8 (r.ty : Nat), .int .u8 (r.co : Nat), .int .u8 (r.r0 : Nat), .int .u8 (r.r1 : Nat), .int .u8 (r.r2 : Nat), .int .u8 (r.r3 : Nat), .slice ya dn yc] 46)) := (Below.refl _ _).alloc (Nat.le_refl _) _
  have hb13' := HB12.out.trans (hb13.mono HB12.out.size)
  have HB13 := Lib.hid (hb13'.trans (ha13.mono hb13'.size))
  have HX13 := Lib.hid (((show Bytes _ _ X from HX12.out).later hb13).later ha13)
  clear hy hb13 ha13 hb13' hdn HX12 HB12 HH12 g8 g9
  go_wp2_with fail
  refine (HEC.out _ _ HX13.out).mono ?_
  rintro e w14 ⟨rfl, hb14⟩
  have HB14 := Lib.hid (HB13.out.trans (hb14.mono HB13.out.size))
  clear hb14
  go_wp2_with fail
  go_ret
  exact ⟨rfl, HB14.out⟩
set_option maxHeartbeats 8000000 in
set_option maxRecDepth 100000 in
theorem im_nn (m : Mg) (a : Option Addr) (c bn : Nat) (k : Int) (pa : Option Addr) (pc pn : Nat) (fr : Nat) (mtu : Int) (B l : List UInt8) (w : World) (hm : m.Ok) (hbn : bn = B.length) (hpn : pn = l.length) (hB : Bytes w (.slice a bn c) B) (hv : Bytes w (.slice pa pn pc) l) (h1 : (bn : Int) ≤ 9000) (h2 : (pn : Int) ≤ 9000) (hfr : fr < 4294967296) (he : errN k mtu l ≠ 0) (hn : echE l ≠ 0) :
    Calls Try.prog 8 #[.agg #[.int .u8 (m.ty : Nat), .int .u8 (m.co : Nat), .int .u8 (m.r0 : Nat), .int .u8 (m.r1 : Nat), .int .u8 (m.r2 : Nat), .int .u8 (m.r3 : Nat), .slice a bn c], .int .i64 k, .slice pa pn pc, .int .u32 (fr : Nat), .int .i64 mtu] w fun e w' => e = .returned (.bool true) ∧ Below w.heap.size w w' := by
  have HBN := Lib.hid hbn
  have HBB : Hid (∀ W, Below w.heap.size w W → Bytes W (.slice a bn c) B) := fun W hb => hB.later hb
  have HV : Hid (∀ W, Below w.heap.size w W → Bytes W (.slice pa pn pc) l) := fun W hb => hv.later hb
  have HWB : Hid (∀ W, Below w.heap.size w W → Calls Try.prog 31 #[.agg #[.int .u8 (m.ty : Nat), .int .u8 (m.co : Nat), .int .u8 (m.r0 : Nat), .int .u8 (m.r1 : Nat), .int .u8 (m.r2 : Nat), .int .u8 (m.r3 : Nat), .slice a bn c]] W fun e w' => ∃ v, e = .returned v ∧ OwnB w' W.heap.size v (msgL m B) ∧ Below W.heap.size W w') := fun W hb => by
    have h := bytesM_any m hm a c B W (by rw [← hbn]; exact HBB.out W hb) (by omega)
    rw [← hbn] at h; exact h
  have HOX : Hid (∀ (v : Value) W, Bytes W v (msgL m B) → Calls Try.prog 27 #[v] W fun e w' => ∃ u, e = .returned (.tuple #[.agg #[.int .u8 (m.ty : Nat), .int .u8 (m.co : Nat), .int .u8 (m.r0 : Nat), .int .u8 (m.r1 : Nat), .int .u8 (m.r2 : Nat), .int .u8 (m.r3 : Nat), u], .int .i64 0]) ∧ OwnB w' W.heap.size u B ∧ Below W.heap.size W w') := fun v W hb => by
    have h := ofW_anyB v (msgL m B) W hb (by rw [msgL_length]; omega)
    rw [msg_at m hm, msg_body, msg_er] at h; exact h
  have HSS : Hid (∀ (ya : Option Addr) (yc : Nat) W, Bytes W (.slice ya bn yc) B → Below w.heap.size w W → Calls Try.prog 29 #[.agg #[.int .u8 (m.ty : Nat), .int .u8 (m.co : Nat), .int .u8 (m.r0 : Nat), .int .u8 (m.r1 : Nat), .int .u8 (m.r2 : Nat), .int .u8 (m.r3 : Nat), .slice ya bn yc], .agg #[.int .u8 (m.ty : Nat), .int .u8 (m.co : Nat), .int .u8 (m.r0 : Nat), .int .u8 (m.r1 : Nat), .int .u8 (m.r2 : Nat), .int .u8 (m.r3 : Nat), .slice a bn c]] W fun e w' => e = .returned (.bool true) ∧ Below W.heap.size W w') := fun ya yc W hy hb => by
    have h := sameMR_any m m ya a yc c bn bn B B W hy (HBB.out W hb)
    rw [sameM_refl] at h; exact h
  have hok := hdP_ok l
  have hmo := mgP_ok (plP l)
  obtain ⟨h, hh⟩ : ∃ h, h = hdP l := ⟨_, rfl⟩
  obtain ⟨P, hP⟩ : ∃ P, P = plP l := ⟨_, rfl⟩
  obtain ⟨O, hO⟩ : ∃ P, P = opP l := ⟨_, rfl⟩
  obtain ⟨f, hfe⟩ : ∃ f, f = flt l := ⟨_, rfl⟩
  rw [← hh] at hok
  have HPW : Hid (∀ W, Below w.heap.size w W → Calls Try.prog 11 #[.slice pa pn pc] W fun e w' => ∃ (u v : Value) (B : Nat), e = .returned (.tuple #[.agg #[.int .u8 (h.tos : Nat), .int .u16 (h.id : Nat), .bool h.ev, .bool h.df, .bool h.mf, .int .i64 h.off, .int .u8 (h.ttl : Nat), .int .u8 (h.pr : Nat), .int .u32 (h.src : Nat), .int .u32 (h.dst : Nat), u], v, .int .i64 (f : Nat)]) ∧ OwnB w' W.heap.size u O ∧ OwnB w' B v P ∧ W.heap.size ≤ B ∧ (∀ g, u.ownBlock = some g → g < B) ∧ Below W.heap.size W w') := fun W hb => by
    have h9 := prsW_any _ l (by omega) W (HV.out W hb)
    unfold PrsW at h9
    rw [← hh, ← hP, ← hO, ← hfe] at h9
    exact h9
  obtain ⟨EL, hEL⟩ : ∃ n, n = errL k mtu l fr := ⟨_, rfl⟩
  obtain ⟨er, her⟩ : ∃ n, n = errN k mtu l := ⟨_, rfl⟩
  have HEW : Hid (∀ W, Below w.heap.size w W → Calls Try.prog 40 #[.int .i64 k, .slice pa pn pc, .int .u32 (fr : Nat), .int .i64 mtu] W fun e w' => ∃ v, e = .returned (.tuple #[v, .int .i64 (er : Nat)]) ∧ OwnB w' W.heap.size v EL ∧ Below W.heap.size W w') := fun W hb => by
    have h9 := errW_any k _ l (by omega) fr hfr mtu W (HV.out W hb)
    unfold ErrRes at h9
    rw [← her, ← hEL] at h9
    exact h9
  obtain ⟨X, hX⟩ : ∃ X, X = repP l := ⟨_, rfl⟩
  obtain ⟨en, hen⟩ : ∃ X, X = echE l := ⟨_, rfl⟩
  have HRW : Hid (∀ W, Below w.heap.size w W → Calls Try.prog 42 #[.slice pa pn pc] W fun e w' => ∃ x, e = .returned (.tuple #[x, .int .i64 (en : Nat)]) ∧ OwnB w' W.heap.size x X ∧ Below W.heap.size W w') := fun W hb => by
    have h9 := replyW_any _ l (by omega) W (HV.out W hb)
    rw [← hen, ← hX] at h9
    exact h9
  have ke : ((er : Int) == 0) = false := by rw [beq_eq_false_iff_ne]; omega
  have kn : ((en : Int) != 0) = true := by rw [bne_iff_ne]; omega
  clear hm hbn hpn hB hv hfr hok hmo hh hP hO hfe hEL her hX hen he hn
  go_enter Try.func8, Try.ntmps8
  go_wp2_with fail
  refine (known4_any _).mono ?_
  rintro e w1 ⟨rfl, hb1⟩
  have hbm : Below w.heap.size w (w.alloc (.cells #[.int .u8 (m.ty : Nat), .int .u8 (m.co : Nat), .int .u8 (m.r0 : Nat), .int .u8 (m.r1 : Nat), .int .u8 (m.r2 : Nat), .int .u8 (m.r3 : Nat), .slice a bn c] 46)) := (Below.refl _ _).alloc (Nat.le_refl _) _
  have HB1 := Lib.hid (hbm.trans (hb1.mono hbm.size))
  have HM1 := Lib.hid ((BlkAt.new (t := 46) w [.int .u8 (m.ty : Nat), .int .u8 (m.co : Nat), .int .u8 (m.r0 : Nat), .int .u8 (m.r1 : Nat), .int .u8 (m.r2 : Nat), .int .u8 (m.r3 : Nat), .slice a bn c]).later hb1)
  have x0 := HM1.out.cell (j := 0) rfl
  have x1 := HM1.out.cell (j := 1) rfl
  have x2 := HM1.out.cell (j := 2) rfl
  have x3 := HM1.out.cell (j := 3) rfl
  have x4 := HM1.out.cell (j := 4) rfl
  have x5 := HM1.out.cell (j := 5) rfl
  have x6 := HM1.out.cell (j := 6) rfl
  clear hb1 hbm
  go_wp2_with fail
  refine (HWB.out w1 HB1.out).mono ?_
  rintro e w2 ⟨x, rfl, hox, hb2⟩
  obtain ⟨xa, xc, rfl⟩ := hox.form
  obtain ⟨xn, hxn⟩ : ∃ n, n = (msgL m B).length := ⟨_, rfl⟩
  rw [← hxn] at hox ⊢
  have HB2 := Lib.hid (HB1.out.trans (hb2.mono HB1.out.size))
  have HX2 := Lib.hid hox.bytes
  have HM2 := Lib.hid (HM1.out.later hb2)
  clear hox hb2 hxn x0 x1 x2 x3 x4 x5 x6 HM1 HB1
  go_wp2_with fail
  refine (HOX.out _ w2 HX2.out).mono ?_
  rintro e w3 ⟨y, rfl, hoy, hb3⟩
  obtain ⟨ya, yc, rfl⟩ := hoy.form
  rw [← HBN.out] at hoy ⊢
  have ha3 : Below w3.heap.size w3 (w3.alloc (.cells #[.int .u8 (m.ty : Nat), .int .u8 (m.co : Nat), .int .u8 (m.r0 : Nat), .int .u8 (m.r1 : Nat), .int .u8 (m.r2 : Nat), .int .u8 (m.r3 : Nat), .slice ya bn yc] 46)) := (Below.refl _ _).alloc (Nat.le_refl _) _
  have hb3' := HB2.out.trans (hb3.mono HB2.out.size)
  have HB3 := Lib.hid (hb3'.trans (ha3.mono hb3'.size))
  have HY3 := Lib.hid (hoy.bytes.later ha3)
  have HM3 := Lib.hid ((HM2.out.later hb3).later ha3)
  clear hoy hb3 ha3 hb3' HX2 HM2 HB2
  have x0 := HM3.out.cell (j := 0) rfl
  have x1 := HM3.out.cell (j := 1) rfl
  have x2 := HM3.out.cell (j := 2) rfl
  have x3 := HM3.out.cell (j := 3) rfl
  have x4 := HM3.out.cell (j := 4) rfl
  have x5 := HM3.out.cell (j := 5) rfl
  have x6 := HM3.out.cell (j := 6) rfl
  go_wp2_with fail
  refine (num4_any 0 _).mono ?_
  rintro e w9 ⟨rfl, rfl⟩
  go_wp2_with fail
  refine (HSS.out ya yc _ HY3.out HB3.out).mono ?_
  rintro e w4 ⟨rfl, hb4⟩
  have HB4 := Lib.hid (HB3.out.trans (hb4.mono HB3.out.size))
  clear hb4 x0 x1 x2 x3 x4 x5 x6 HY3 HB3 HM3
  go_wp2_with fail
  refine (HPW.out _ HB4.out).mono ?_
  rintro e w5 ⟨u, v, B5, rfl, hu, hvv, _, _, hb5⟩
  obtain ⟨ua, uc, rfl⟩ := hu.form
  obtain ⟨va, vc, rfl⟩ := hvv.form
  obtain ⟨on, hon⟩ : ∃ n, n = O.length := ⟨_, rfl⟩
  obtain ⟨vn, hvn⟩ : ∃ n, n = P.length := ⟨_, rfl⟩
  rw [← hon, ← hvn]
  have hb5' := HB4.out.trans (hb5.mono HB4.out.size)
  have HB5 := Lib.hid (hb5'.alloc hb5'.size (.cells #[.int .u8 (h.tos : Nat), .int .u16 (h.id : Nat), .bool h.ev, .bool h.df, .bool h.mf, .int .i64 h.off, .int .u8 (h.ttl : Nat), .int .u8 (h.pr : Nat), .int .u32 (h.src : Nat), .int .u32 (h.dst : Nat), .slice ua on uc] 28))
  have HH5 := Lib.hid (BlkAt.new (t := 28) w5 [.int .u8 (h.tos : Nat), .int .u16 (h.id : Nat), .bool h.ev, .bool h.df, .bool h.mf, .int .i64 h.off, .int .u8 (h.ttl : Nat), .int .u8 (h.pr : Nat), .int .u32 (h.src : Nat), .int .u32 (h.dst : Nat), .slice ua on uc])
  clear hu hvv hb5 hb5' hon hvn HB4
  go_wp2_with fail
  refine (HEW.out _ HB5.out).mono ?_
  rintro e w6 ⟨z, rfl, hoz, hb6⟩
  obtain ⟨za, zc, rfl⟩ := hoz.form
  obtain ⟨zn, hzn⟩ : ∃ n, n = EL.length := ⟨_, rfl⟩
  rw [← hzn] at hoz ⊢
  have HB6 := Lib.hid (HB5.out.trans (hb6.mono HB5.out.size))
  have HX6 := Lib.hid hoz.bytes
  have HH6 := Lib.hid (HH5.out.later hb6)
  clear hoz hb6 hzn HB5 HH5
  have g8 := HH6.out.cell (j := 8) rfl
  have g9 := HH6.out.cell (j := 9) rfl
  go_wp2_with fail
  refine (num4_any _ _).mono ?_
  rintro e w9 ⟨rfl, rfl⟩
  go_wp2_with fail
  refine (HRW.out _ HB6.out).mono ?_
  rintro e w12 ⟨x, rfl, hox, hb12⟩
  obtain ⟨xa, xc, rfl⟩ := hox.form
  obtain ⟨xn, hxn⟩ : ∃ n, n = X.length := ⟨_, rfl⟩
  rw [← hxn] at hox ⊢
  have HB12 := Lib.hid (HB6.out.trans (hb12.mono HB6.out.size))
  have HX12 := Lib.hid hox.bytes
  have HH12 := Lib.hid (HH6.out.later hb12)
  clear g8 g9 HX6
  clear hox hb12 hxn HB6 HH6
  have g8 := HH12.out.cell (j := 8) rfl
  have g9 := HH12.out.cell (j := 9) rfl
  go_wp2_with fail
  refine (num4_any _ _).mono ?_
  rintro e w9 ⟨rfl, rfl⟩
  go_wp2_with fail
  go_ret
  exact ⟨rfl, HB12.out⟩
theorem icmpMeans_walk (m : Mg) (a : Option Addr) (c : Nat) (B : List UInt8) (k : Int) (pv : Value) (l : List UInt8) (fr mtu : Int) (w : World) (hm : m.Ok) (hB : Bytes w (.slice a B.length c) B) (_ : B.length ≤ 9223372036854775807) (hv : Bytes w pv l) (_ : l.length ≤ 9223372036854775807) (hf0 : 0 ≤ fr) (hf1 : fr < 4294967296) :
    Calls Try.prog 8 #[.agg #[.int .u8 (m.ty : Nat), .int .u8 (m.co : Nat), .int .u8 (m.r0 : Nat), .int .u8 (m.r1 : Nat), .int .u8 (m.r2 : Nat), .int .u8 (m.r3 : Nat), .slice a B.length c], .int .i64 k, pv, .int .u32 fr, .int .i64 mtu] w fun e w' => e = .returned (.bool true) ∧ Below w.heap.size w w' := by
  obtain ⟨pa, pc, rfl⟩ := hv.form
  obtain ⟨n, rfl⟩ := Int.eq_ofNat_of_zero_le hf0
  rcases Nat.lt_or_ge 9000 B.length with h1 | h1
  · exact im_a1 m a c _ k pa pc _ n mtu w (by omega)
  rcases Nat.lt_or_ge 9000 l.length with h2 | h2
  · exact im_a2 m a c _ k pa pc _ n mtu w (by omega) (by omega)
  by_cases he : errN k mtu l = 0 <;> by_cases hn : echE l = 0
  · exact im_zz m a c _ k pa pc _ n mtu B l w hm rfl rfl hB hv (by omega) (by omega) (by omega) he hn
  · exact im_zn m a c _ k pa pc _ n mtu B l w hm rfl rfl hB hv (by omega) (by omega) (by omega) he hn
  · exact im_nz m a c _ k pa pc _ n mtu B l w hm rfl rfl hB hv (by omega) (by omega) (by omega) he hn
  · exact im_nn m a c _ k pa pc _ n mtu B l w hm rfl rfl hB hv (by omega) (by omega) (by omega) he hn
end Go.Proofs.Ytnhkkpcepppgoaa
