/- The walk of icmp.answer.
   The walks of ref04.Quote, of icmp.sent, and what a look-up in it gives.
   The walks of icmp.May, Quote, and of ref04's.
   What may be answered, and what is quoted, in plain words; the walks of icmp.mayAnswer and icmp.quote. -/
import Derived.Test.YtnhkkpcepppgoaaZ03
import Derived.Test.YtnhkkpcepppgoaaZ04
import Derived.Test.YtnhkkpcepppgoaaZ06
import Derived.Test.YtnhkkpcepppgoaaZ11

set_option linter.unusedSimpArgs false
set_option linter.unusedVariables false
namespace Go.Proofs.Ytnhkkpcepppgoaa
open Go.RowKit
attribute [local go_sem ↓] Go.wp_at_zero Go.wp_at_succ

theorem prs_lens {l : List UInt8} (h : flt l = 0) : (opP l).length = hsz l - 20 ∧ (plP l).length = numAt l 2 2 - hsz l ∧ 20 ≤ hsz l ∧ hsz l ≤ 60 ∧ hsz l ≤ numAt l 2 2 ∧ numAt l 2 2 ≤ l.length ∧ 20 + (opP l).length + (plP l).length ≤ l.length ∧ (plP l).length ≤ 65535 := by
  obtain ⟨h1, h2, h3, h4, h5⟩ := flt_zero h
  have h6 := hsz_le l
  have h7 : numAt l 2 2 < 256 ^ 2 := numAt_lt (by omega)
  have e1 : (opP l).length = hsz l - 20 := by rw [opP_yes h]; simp; omega
  have e2 : (plP l).length = numAt l 2 2 - hsz l := by rw [plP_yes h]; simp; omega
  refine ⟨e1, e2, h2, h6, h4, h5, by omega, by omega⟩
theorem prs_may {l : List UInt8} (h : flt l = 0) : mayB (hdP l).off (opP l) = true := by
  obtain ⟨e1, e2, h2, h6, h4, h5, h7, _⟩ := prs_lens h
  have ho : (hdP l).off = ((numAt l 6 2 % 8192 : Nat) : Int) := by rw [hdP_yes h]
  have hm : hsz l % 4 = 0 := by unfold hsz; omega
  rw [may_of (by rw [ho]; omega) (by rw [ho]; omega) (by omega) (by omega), opP_yes h]
  exact (flt_zero2 h).2.2
theorem hdP_ok (l : List UInt8) : (hdP l).Ok := by
  by_cases h : flt l = 0
  · obtain ⟨h1, h2, h3, h4, h5⟩ := flt_zero h
    have n4 : numAt l 4 2 < 256 ^ 2 := numAt_lt (by omega)
    have n12 : numAt l 12 4 < 256 ^ 4 := numAt_lt (by omega)
    have n16 : numAt l 16 4 < 256 ^ 4 := numAt_lt (by omega)
    rw [hdP_yes h]
    exact ⟨Sm.at0_lt _ _, by simpa using n4, Sm.at0_lt _ _, Sm.at0_lt _ _, by simpa using n12, by simpa using n16⟩
  · rw [hdP_no h]; exact ⟨by decide, by decide, by decide, by decide, by decide, by decide⟩

/-- May a packet with this header and payload be answered? -/
def ansB (h : Hd) (P : List UInt8) : Bool := !(h.off != 0) && (!((h.src : Int) == 0) && (!multB h.src && (!multB h.dst && (((h.pr : Int) != 1) || (decide (8 ≤ P.length) && !errB (Sm.at0 P 0))))))
def maB (l : List UInt8) : Bool := decide (flt l = 0) && ansB (hdP l) (plP l)
def quoN (l : List UInt8) : Nat := 20 + (opP l).length + min 8 (plP l).length
def quoL (l : List UInt8) : List UInt8 := l.take (quoN l)

set_option maxHeartbeats 8000000 in
set_option maxRecDepth 100000 in
theorem ansW_any (h : Hd) (hh : h.Ok) (ua : Option Addr) (uc un : Nat) (pa : Option Addr) (pc : Nat) (P : List UInt8) (wm : World) (hP : Bytes wm (.slice pa P.length pc) P) :
    Calls Try.prog 70 #[.agg #[.int .u8 (h.tos : Nat), .int .u16 (h.id : Nat), .bool h.ev, .bool h.df, .bool h.mf, .int .i64 h.off, .int .u8 (h.ttl : Nat), .int .u8 (h.pr : Nat), .int .u32 (h.src : Nat), .int .u32 (h.dst : Nat), .slice ua un uc], .slice pa P.length pc] wm fun e w' => e = .returned (.bool (ansB h P)) ∧ Below wm.heap.size wm w' := by
  obtain ⟨pn, hpn⟩ : ∃ n, n = P.length := ⟨_, rfl⟩
  have hbm : Below wm.heap.size wm (wm.alloc (.cells #[.int .u8 (h.tos : Nat), .int .u16 (h.id : Nat), .bool h.ev, .bool h.df, .bool h.mf, .int .i64 h.off, .int .u8 (h.ttl : Nat), .int .u8 (h.pr : Nat), .int .u32 (h.src : Nat), .int .u32 (h.dst : Nat), .slice ua un uc] 28)) := (Below.refl _ _).alloc (Nat.le_refl _) _
  have HBM := Lib.hid hbm
  have HP : Hid (Bytes wm (.slice pa pn pc) P) := by rw [hpn]; exact hP
  have HN := Lib.hid hpn
  have HH := Lib.hid hh
  have HE : Hid (ansB h P = (!(h.off != 0) && (!((h.src : Int) == 0) && (!multB h.src && (!multB h.dst && (((h.pr : Int) != 1) || (decide (8 ≤ P.length) && !errB (Sm.at0 P 0)))))))) := rfl
  have HM1 : Hid (∀ W, Calls Try.prog 19 #[.int .u32 (h.src : Nat)] W fun e w' => e = .returned (.bool (multB h.src)) ∧ W = w') := fun W => multW_any _ W hh.src
  have HM2 : Hid (∀ W, Calls Try.prog 19 #[.int .u32 (h.dst : Nat)] W fun e w' => e = .returned (.bool (multB h.dst)) ∧ W = w') := fun W => multW_any _ W hh.dst
  obtain ⟨m1, hm1⟩ : ∃ m, m = multB h.src := ⟨_, rfl⟩
  obtain ⟨m2, hm2⟩ : ∃ m, m = multB h.dst := ⟨_, rfl⟩
  rw [← hm1, ← hm2] at HE
  rw [← hm1] at HM1
  rw [← hm2] at HM2
  rw [← hpn]
  clear hP hpn hh hm1 hm2 hbm
  go_enter Try.func70, Try.ntmps70
  go_wp2_with fail
  · go_ret
    exact ⟨ret_b (by rw [HE.out]; simp [*]), HBM.out⟩
  · go_ret
    exact ⟨ret_b (by rw [HE.out]; simp [*]), HBM.out⟩
  · refine (HM1.out _).mono ?_
    rintro e w1 ⟨rfl, rfl⟩
    cases m1 with
    | true =>
      go_wp2_with fail
      go_ret
      exact ⟨ret_b (by rw [HE.out]; simp), HBM.out⟩
    | false =>
      go_wp2_with fail
      refine (HM2.out _).mono ?_
      rintro e w1 ⟨rfl, rfl⟩
      cases m2 with
      | true =>
        go_wp2_with fail
        go_ret
        exact ⟨ret_b (by rw [HE.out]; simp), HBM.out⟩
      | false =>
        have HB' := Lib.hid (HP.out.later HBM.out)
        by_cases h8 : 8 ≤ pn
        · have k8 : (8 : Int) ≤ pn := by omega
          have k0 : (0 : Int) < pn := by omega
          have k1 : 0 < pn := by omega
          have hc0 := (show Bytes _ (.slice pa pn pc) P from HB'.out).at1 (i := 0) (by have := HN.out; omega)
          obtain ⟨b, o, rfl, hb, hc⟩ := hc0
          rw [Nat.add_zero] at hc
          have HIE := Lib.hid (fun W => isErrW_any ⟨Sm.at0 P 0, 0, 0, 0, 0, 0⟩ (.slice none 0 0) W ⟨_, _, _, rfl⟩)
          obtain ⟨e0, he0⟩ : ∃ e, e = Sm.at0 P 0 := ⟨_, rfl⟩
          rw [← he0] at hc HIE HE
          obtain ⟨eb, heb⟩ : ∃ x, x = errB e0 := ⟨_, rfl⟩
          rw [show errB (Mg.ty ⟨e0, 0, 0, 0, 0, 0⟩) = eb from heb.symm] at HIE
          rw [← heb] at HE
          clear he0 heb
          go_wp2_with fail
          · go_ret
            exact ⟨ret_b (by rw [HE.out]; simp [*]), HBM.out⟩
          · refine (HIE.out _).mono ?_
            rintro e w2 ⟨rfl, hb2⟩
            have HB2 := Lib.hid (HBM.out.trans (hb2.mono HBM.out.size))
            clear hb2
            go_wp2_with fail
            go_ret
            exact ⟨ret_b (by rw [HE.out, ← HN.out, decide_eq_true h8]; simp [*]), HB2.out⟩
        · have k8 : (pn : Int) < 8 := by omega
          go_wp2_with fail
          · go_ret
            exact ⟨ret_b (by rw [HE.out]; simp [*]), HBM.out⟩
          · go_ret
            exact ⟨ret_b (by rw [HE.out, ← HN.out]; simp [*]), HBM.out⟩

set_option maxHeartbeats 8000000 in
set_option maxRecDepth 100000 in
theorem quoteW_any (l : List UInt8) (hf : flt l = 0) (h : Hd) (hho : h.off = (hdP l).off) (ua : Option Addr) (uc : Nat) (pa : Option Addr) (pc : Nat) (a : Option Addr) (c : Nat) (wm : World) (hU : Bytes wm (.slice ua (opP l).length uc) (opP l)) (hv : Bytes wm (.slice a l.length c) l) (hl : l.length ≤ 1000000) :
    Calls Try.prog 69 #[.agg #[.int .u8 (h.tos : Nat), .int .u16 (h.id : Nat), .bool h.ev, .bool h.df, .bool h.mf, .int .i64 h.off, .int .u8 (h.ttl : Nat), .int .u8 (h.pr : Nat), .int .u32 (h.src : Nat), .int .u32 (h.dst : Nat), .slice ua (opP l).length uc], .slice pa (plP l).length pc, .slice a l.length c] wm fun e w' => ∃ v, e = .returned v ∧ OwnB w' wm.heap.size v (quoL l) ∧ Below wm.heap.size wm w' := by
  obtain ⟨on, hon⟩ : ∃ n, n = (opP l).length := ⟨_, rfl⟩
  obtain ⟨pn, hpn⟩ : ∃ n, n = (plP l).length := ⟨_, rfl⟩
  obtain ⟨n, hn⟩ : ∃ n, n = l.length := ⟨_, rfl⟩
  have hbm : Below wm.heap.size wm (wm.alloc (.cells #[.int .u8 (h.tos : Nat), .int .u16 (h.id : Nat), .bool h.ev, .bool h.df, .bool h.mf, .int .i64 h.off, .int .u8 (h.ttl : Nat), .int .u8 (h.pr : Nat), .int .u32 (h.src : Nat), .int .u32 (h.dst : Nat), .slice ua on uc] 28)) := (Below.refl _ _).alloc (Nat.le_refl _) _
  obtain ⟨e1, e2, h2, h6, h4, h5, h7, h8⟩ := prs_lens hf
  have hsz := size_any h ua uc (opP l) _ (hU.later hbm) (by omega)
  rw [show sizeN h.off (opP l) = 20 + (opP l).length from by rw [hho]; unfold sizeN; rw [prs_may hf]; rfl, ← hon] at hsz
  obtain ⟨S, hS⟩ : ∃ S, S = 20 + on := ⟨_, rfl⟩
  rw [← hS] at hsz
  obtain ⟨mn, hmn⟩ : ∃ k, k = min pn 8 := ⟨_, rfl⟩
  have hmi : min (pn : Int) 8 = (mn : Int) := by rw [hmn]; omega
  obtain ⟨q, hq⟩ : ∃ q, q = S + mn := ⟨_, rfl⟩
  have hqi : (S : Int) + (mn : Int) = (q : Int) := by omega
  have hqq : q = quoN l := by unfold quoN; omega
  have hql : q ≤ l.length := by omega
  obtain ⟨hcut, hcb⟩ := hv.cut_h (q : Int) q rfl hql
  rw [← hn] at hcut
  have HSZ := Lib.hid hsz
  have HBM := Lib.hid hbm
  have HCB := Lib.hid hcb
  have HQ : Hid (q = quoN l ∧ (l.take q).length ≤ 140737488355328) := ⟨hqq, by simp; omega⟩
  have k1 : (q : Int) ≤ n := by omega
  have k2 : q ≤ n := by omega
  have k3 : n ≤ c := by have := hv.cap; omega
  have k4 : (S : Int) ≤ 80 := by omega
  have k5 : (mn : Int) ≤ 8 := by omega
  rw [← hon, ← hpn, ← hn]
  clear hU hv hsz hbm hcb hqq hql hq hmn hS hon hpn hn e1 e2 h2 h6 h4 h5 h7 h8 hl hho hf
  go_enter Try.func69, Try.ntmps69
  go_wp2_with fail
  refine HSZ.out.mono ?_
  rintro e w1 ⟨rfl, hb1⟩
  have HB1 := Lib.hid (HBM.out.trans (hb1.mono HBM.out.size))
  clear hb1
  go_wp2_with fail
  refine (clone_any _ (l.take q) _ ((show Bytes wm _ _ from HCB.out).later HB1.out) HQ.out.2).mono ?_
  rintro e w2 ⟨v, rfl, ho, hb2⟩
  go_wp2_with fail
  go_ret
  refine ⟨v, rfl, ?_, HB1.out.trans (hb2.mono HB1.out.size)⟩
  rw [HQ.out.1] at ho
  exact OwnB.weak ho HB1.out.size
end Go.Proofs.Ytnhkkpcepppgoaa

namespace Go.Proofs.Ytnhkkpcepppgoaa
open Go.RowKit
attribute [local go_sem ↓] Go.wp_at_zero Go.wp_at_succ

set_option maxHeartbeats 8000000 in
set_option maxRecDepth 100000 in
theorem mayIW_any (v : Value) (l : List UInt8) (hl : l.length ≤ 1000000) (wm : World) (hv : Bytes wm v l) :
    Calls Try.prog 37 #[v] wm fun e w' => e = .returned (.bool (maB l)) ∧ Below wm.heap.size wm w' := by
  obtain ⟨a, c, rfl⟩ := hv.form
  have hp := prsW_any _ l hl wm hv
  have hok := hdP_ok l
  obtain ⟨h, hh⟩ : ∃ h, h = hdP l := ⟨_, rfl⟩
  obtain ⟨P, hP⟩ : ∃ P, P = plP l := ⟨_, rfl⟩
  obtain ⟨O, hO⟩ : ∃ P, P = opP l := ⟨_, rfl⟩
  obtain ⟨f, hf⟩ : ∃ f, f = flt l := ⟨_, rfl⟩
  obtain ⟨n, hn⟩ : ∃ n, n = l.length := ⟨_, rfl⟩
  have hma : maB l = (decide (f = 0) && ansB h P) := by unfold maB; rw [hh, hP, hf]
  unfold PrsW at hp
  rw [← hh, ← hP, ← hO, ← hf, ← hn] at hp
  rw [← hh] at hok
  rw [← hn]
  have HP := Lib.hid hp
  have HOK := Lib.hid hok
  have HMA := Lib.hid hma
  clear hp hok hma hh hP hO hn hv hl
  go_enter Try.func37, Try.ntmps37
  go_wp2_with fail
  refine HP.out.mono ?_
  rintro e w1 ⟨u, v, B, rfl, hu, hv, _, _, hb1⟩
  obtain ⟨ua, uc, rfl⟩ := hu.form
  obtain ⟨pa, pc, rfl⟩ := hv.form
  have HB1 := Lib.hid hb1
  have HV := Lib.hid (OwnB.bytes hv)
  obtain ⟨on, hon⟩ : ∃ n, n = O.length := ⟨_, rfl⟩
  rw [← hon]
  have HC := Lib.hid (fun W hb => ansW_any h HOK.out ua uc on pa pc P W ((show Bytes w1 _ P from HV.out).later hb))
  obtain ⟨pn, hpn⟩ : ∃ n, n = P.length := ⟨_, rfl⟩
  rw [← hpn] at HC ⊢
  clear hu hv hb1 hon hpn
  by_cases f0 : f = 0
  · have k1 : ((f : Int) == 0) = true := by rw [beq_iff_eq]; omega
    have HF := Lib.hid f0
    clear f0 hf
    go_wp2_with fail
    refine (HC.out _ (by go_grown)).mono ?_
    rintro e w2 ⟨rfl, hb2⟩
    have HB2 := Lib.hid (hb2)
    clear hb2
    go_wp2_with fail
    go_ret
    exact ⟨ret_b (by rw [HMA.out, HF.out]; simp), HB1.out.trans (((Below.refl _ _).alloc (Nat.le_refl _) _ |>.trans (HB2.out.mono (by simp))).mono HB1.out.size)⟩
  · have k1 : ((f : Int) == 0) = false := by rw [beq_eq_false_iff_ne]; omega
    have HF := Lib.hid f0
    clear f0 hf
    go_wp2_with fail
    go_ret
    exact ⟨ret_b (by rw [HMA.out, decide_eq_false HF.out]; simp), HB1.out.alloc HB1.out.size _⟩

set_option maxHeartbeats 8000000 in
set_option maxRecDepth 100000 in
theorem mayIR_any (v : Value) (l : List UInt8) (hl : l.length ≤ 1000000) (wm : World) (hv : Bytes wm v l) :
    Calls Try.prog 38 #[v] wm fun e w' => e = .returned (.bool (maB l)) ∧ Below wm.heap.size wm w' := by
  obtain ⟨a, c, rfl⟩ := hv.form
  have hp := prsR_any _ l hl wm hv
  have hok := hdP_ok l
  obtain ⟨h, hh⟩ : ∃ h, h = hdP l := ⟨_, rfl⟩
  obtain ⟨P, hP⟩ : ∃ P, P = plP l := ⟨_, rfl⟩
  obtain ⟨O, hO⟩ : ∃ P, P = opP l := ⟨_, rfl⟩
  obtain ⟨f, hf⟩ : ∃ f, f = flt l := ⟨_, rfl⟩
  obtain ⟨n, hn⟩ : ∃ n, n = l.length := ⟨_, rfl⟩
  have hma : maB l = (decide (f = 0) && ansB h P) := by unfold maB; rw [hh, hP, hf]
  unfold PrsR at hp
  rw [← hh, ← hP, ← hO, ← hf, ← hn] at hp
  rw [← hh] at hok
  rw [← hn]
  have HP := Lib.hid hp
  have HOK := Lib.hid hok
  have HMA := Lib.hid hma
  have HE : Hid (ansB h P = (!(h.off != 0) && (!((h.src : Int) == 0) && (!multB h.src && (!multB h.dst && (((h.pr : Int) != 1) || (decide (8 ≤ P.length) && !errB (Sm.at0 P 0)))))))) := rfl
  have HM1 : Hid (∀ W, Calls Try.prog 20 #[.int .u32 (h.src : Nat)] W fun e w' => e = .returned (.bool (multB h.src)) ∧ W = w') := fun W => multR_any _ W hok.src
  have HM2 : Hid (∀ W, Calls Try.prog 20 #[.int .u32 (h.dst : Nat)] W fun e w' => e = .returned (.bool (multB h.dst)) ∧ W = w') := fun W => multR_any _ W hok.dst
  obtain ⟨m1, hm1⟩ : ∃ m, m = multB h.src := ⟨_, rfl⟩
  obtain ⟨m2, hm2⟩ : ∃ m, m = multB h.dst := ⟨_, rfl⟩
  rw [← hm1, ← hm2] at HE
  rw [← hm1] at HM1
  rw [← hm2] at HM2
  clear hp hok hma hh hP hO hn hv hl hm1 hm2
  go_enter Try.func38, Try.ntmps38
  go_wp2_with fail
  refine HP.out.mono ?_
  rintro e w1 ⟨u, v, rfl, hu, hv, hb1⟩
  obtain ⟨ua, uc, rfl⟩ := hu.form
  obtain ⟨pa, pc, rfl⟩ := hv.form
  have HB1 := Lib.hid (hb1.alloc hb1.size (.cells #[.int .u8 (h.tos : Nat), .int .u16 (h.id : Nat), .bool h.ev, .bool h.df, .bool h.mf, .int .i64 h.off, .int .u8 (h.ttl : Nat), .int .u8 (h.pr : Nat), .int .u32 (h.src : Nat), .int .u32 (h.dst : Nat), .slice ua O.length uc] 28))
  have HV := Lib.hid hv
  obtain ⟨on, hon⟩ : ∃ n, n = O.length := ⟨_, rfl⟩
  rw [← hon] at HB1 ⊢
  obtain ⟨pn, hpn⟩ : ∃ n, n = P.length := ⟨_, rfl⟩
  rw [← hpn] at HV ⊢
  have HN := Lib.hid hpn
  clear hu hv hb1 hon hpn
  by_cases f0 : f = 0
  rotate_left
  · have k1 : ((f : Int) != 0) = true := by rw [bne_iff_ne]; omega
    have HF := Lib.hid f0
    clear f0 hf
    go_wp2_with fail
    go_ret
    exact ⟨ret_b (by rw [HMA.out, decide_eq_false HF.out]; simp), HB1.out⟩
  have k1 : ((f : Int) != 0) = false := by rw [bne_eq_false_iff_eq]; omega
  have HF := Lib.hid f0
  clear f0 hf
  cases h1 : (h.off != 0) with
  | true =>
    go_wp2_with fail
    go_ret
    exact ⟨ret_b (by rw [HMA.out, HE.out]; simp [h1]), HB1.out⟩
  | false =>
  cases h2 : ((h.src : Int) == 0) with
  | true =>
    go_wp2_with fail
    go_ret
    exact ⟨ret_b (by rw [HMA.out, HE.out]; simp [h2]), HB1.out⟩
  | false =>
  go_wp2_with fail
  refine (HM1.out _).mono ?_
  rintro e w2 ⟨rfl, rfl⟩
  cases m1 with
  | true =>
    go_wp2_with fail
    go_ret
    exact ⟨ret_b (by rw [HMA.out, HE.out]; simp), HB1.out⟩
  | false =>
  go_wp2_with fail
  refine (HM2.out _).mono ?_
  rintro e w2 ⟨rfl, rfl⟩
  cases m2 with
  | true =>
    go_wp2_with fail
    go_ret
    exact ⟨ret_b (by rw [HMA.out, HE.out]; simp), HB1.out⟩
  | false =>
  cases h3 : ((h.pr : Int) != 1) with
  | true =>
    have h4 : ((h.pr : Int) == 1) = false := by simpa using h3
    go_wp2_with fail
    go_ret
    exact ⟨ret_b (by rw [HMA.out, HF.out, HE.out]; simp [h1, h2, h3]), HB1.out⟩
  | false =>
  have h4 : ((h.pr : Int) == 1) = true := by simpa using h3
  by_cases h8 : 8 ≤ pn
  · have k8 : (8 : Int) ≤ pn := by omega
    have k0 : (0 : Int) < pn := by omega
    have k2 : 0 < pn := by omega
    have hc0 := (show Bytes w1 (.slice pa pn pc) P from HV.out).at1 (i := 0) (by have := HN.out; omega)
    obtain ⟨b, o, rfl, hb, hc⟩ := hc0
    rw [Nat.add_zero] at hc
    have HIE := Lib.hid (fun W => isErrR_any (Sm.at0 P 0) W)
    obtain ⟨e0, he0⟩ : ∃ e, e = Sm.at0 P 0 := ⟨_, rfl⟩
    rw [← he0] at hc HIE HE
    obtain ⟨eb, heb⟩ : ∃ x, x = errB e0 := ⟨_, rfl⟩
    rw [← heb] at HIE HE
    clear he0 heb
    have hbl : Below w1.heap.size w1 (w1.alloc (.cells #[.int .u8 (h.tos : Nat), .int .u16 (h.id : Nat), .bool h.ev, .bool h.df, .bool h.mf, .int .i64 h.off, .int .u8 (h.ttl : Nat), .int .u8 (h.pr : Nat), .int .u32 (h.src : Nat), .int .u32 (h.dst : Nat), .slice ua on uc] 28)) := (Below.refl _ _).alloc (Nat.le_refl _) _
    have hcc := cell_later' hbl hb hc
    clear hbl hb hc
    go_wp2_with fail
    refine (HIE.out _).mono ?_
    rintro e w2 ⟨rfl, rfl⟩
    go_wp2_with fail
    go_ret
    exact ⟨ret_b (by rw [HMA.out, HF.out, HE.out, ← HN.out, decide_eq_true h8]; simp [h1, h2, h3]), HB1.out⟩
  · have k8 : (pn : Int) < 8 := by omega
    go_wp2_with fail
    go_ret
    exact ⟨ret_b (by rw [HMA.out, HE.out, ← HN.out, decide_eq_false h8]; simp [h3]), HB1.out⟩

def quP (l : List UInt8) : List UInt8 := if flt l = 0 then quoL l else []
def quE (l : List UInt8) : Nat := if flt l = 0 then 0 else 4
set_option maxHeartbeats 8000000 in
set_option maxRecDepth 100000 in
theorem quoIW_any (v : Value) (l : List UInt8) (hl : l.length ≤ 1000000) (wm : World) (hv : Bytes wm v l) :
    Calls Try.prog 36 #[v] wm fun e w' => ∃ v, e = .returned (.tuple #[v, .int .i64 (quE l : Nat)]) ∧ OwnB w' wm.heap.size v (quP l) ∧ Below wm.heap.size wm w' := by
  obtain ⟨a, c, rfl⟩ := hv.form
  have hp := prsW_any _ l hl wm hv
  obtain ⟨h, hh⟩ : ∃ h, h = hdP l := ⟨_, rfl⟩
  obtain ⟨P, hP⟩ : ∃ P, P = plP l := ⟨_, rfl⟩
  obtain ⟨O, hO⟩ : ∃ P, P = opP l := ⟨_, rfl⟩
  obtain ⟨f, hf⟩ : ∃ f, f = flt l := ⟨_, rfl⟩
  obtain ⟨n, hn⟩ : ∃ n, n = l.length := ⟨_, rfl⟩
  unfold PrsW at hp
  rw [← hh, ← hP, ← hO, ← hf, ← hn] at hp
  have HQW : Hid (flt l = 0 → ∀ (ua pa : Option Addr) (uc pc : Nat) (W : World), Below wm.heap.size wm W → Bytes W (.slice ua O.length uc) O → Calls Try.prog 69 #[.agg #[.int .u8 (h.tos : Nat), .int .u16 (h.id : Nat), .bool h.ev, .bool h.df, .bool h.mf, .int .i64 h.off, .int .u8 (h.ttl : Nat), .int .u8 (h.pr : Nat), .int .u32 (h.src : Nat), .int .u32 (h.dst : Nat), .slice ua O.length uc], .slice pa P.length pc, .slice a n c] W fun e w' => ∃ v, e = .returned v ∧ OwnB w' W.heap.size v (quoL l) ∧ Below W.heap.size W w') := fun hz ua pa uc pc W hb hu => by
    subst hO hP hn
    exact quoteW_any l hz h (by rw [hh]) ua uc pa pc a c W hu (hv.later hb) hl
  rw [← hn]
  have HP := Lib.hid hp
  have HFL := Lib.hid hf
  clear hp hh hP hO hn hv hl
  go_enter Try.func36, Try.ntmps36
  go_wp2_with fail
  refine HP.out.mono ?_
  rintro e w1 ⟨u, v, B, rfl, hu, hv, _, _, hb1⟩
  obtain ⟨ua, uc, rfl⟩ := hu.form
  obtain ⟨pa, pc, rfl⟩ := hv.form
  have HB1 := Lib.hid (hb1.alloc hb1.size (.cells #[.int .u8 (h.tos : Nat), .int .u16 (h.id : Nat), .bool h.ev, .bool h.df, .bool h.mf, .int .i64 h.off, .int .u8 (h.ttl : Nat), .int .u8 (h.pr : Nat), .int .u32 (h.src : Nat), .int .u32 (h.dst : Nat), .slice ua O.length uc] 28))
  by_cases f0 : f = 0
  · have k1 : ((f : Int) != 0) = false := by rw [bne_eq_false_iff_eq]; omega
    have HF : Hid (flt l = 0) := hf.symm.trans f0
    have hc := HQW.out HF.out ua pa uc pc _ HB1.out (OwnB.bytes (OwnB.alloc hu _))
    have HC := Lib.hid hc
    obtain ⟨on, hon⟩ : ∃ n, n = O.length := ⟨_, rfl⟩
    obtain ⟨pn, hpn⟩ : ∃ n, n = P.length := ⟨_, rfl⟩
    rw [← hon, ← hpn] at HC
    rw [← hon] at HB1
    rw [← hon, ← hpn]
    clear hu hv hb1 hon hpn f0 hf hc
    go_wp2_with fail
    refine HC.out.mono ?_
    rintro e w2 ⟨y, rfl, ho, hb2⟩
    go_wp2_with fail
    go_ret2
    refine ⟨y, ?_, ?_, HB1.out.trans (hb2.mono HB1.out.size)⟩
    · rw [quE, if_pos HF.out]; rfl
    · rw [quP, if_pos HF.out]; exact OwnB.weak ho HB1.out.size
  · have k1 : ((f : Int) != 0) = true := by rw [bne_iff_ne]; omega
    have HF : Hid (flt l ≠ 0) := fun h => f0 (hf.trans h)
    obtain ⟨on, hon⟩ : ∃ n, n = O.length := ⟨_, rfl⟩
    obtain ⟨pn, hpn⟩ : ∃ n, n = P.length := ⟨_, rfl⟩
    rw [← hon] at HB1
    rw [← hon, ← hpn]
    clear hu hv hb1 hon hpn f0 hf
    go_wp2_with fail
    go_ret2
    refine ⟨.slice none 0 0, ?_, ?_, HB1.out⟩
    · rw [quE, if_neg HF.out]; rfl
    · rw [quP, if_neg HF.out]; exact OwnB.nil _ _
end Go.Proofs.Ytnhkkpcepppgoaa

namespace Go.Proofs.Ytnhkkpcepppgoaa
open Go.RowKit
attribute [local go_sem ↓] Go.wp_at_zero Go.wp_at_succ

set_option maxHeartbeats 8000000 in
set_option maxRecDepth 100000 in
theorem quoIR_any (v : Value) (l : List UInt8) (hz : flt l = 0) (hl : l.length ≤ 1000000) (wm : World) (hv : Bytes wm v l) :
    Calls Try.prog 39 #[v] wm fun e w' => ∃ v, e = .returned v ∧ Bytes w' v (quoL l) ∧ Below wm.heap.size wm w' := by
  obtain ⟨a, c, rfl⟩ := hv.form
  have hp := prsR_any _ l hl wm hv
  obtain ⟨h, hh⟩ : ∃ h, h = hdP l := ⟨_, rfl⟩
  obtain ⟨P, hP⟩ : ∃ P, P = plP l := ⟨_, rfl⟩
  obtain ⟨O, hO⟩ : ∃ P, P = opP l := ⟨_, rfl⟩
  obtain ⟨f, hf⟩ : ∃ f, f = flt l := ⟨_, rfl⟩
  obtain ⟨n, hn⟩ : ∃ n, n = l.length := ⟨_, rfl⟩
  obtain ⟨e1, e2, h2, h6, h4, h5, h7, h8⟩ := prs_lens hz
  have hcut := fun (i : Nat) (hi : i ≤ l.length) => hv.cut_h (i : Int) i rfl hi
  unfold PrsR at hp
  rw [← hh, ← hP, ← hO, ← hf, ← hn] at hp
  rw [← hn]
  have HP := Lib.hid hp
  have HV := Lib.hid hv
  obtain ⟨on, hon⟩ : ∃ n, n = O.length := ⟨_, rfl⟩
  obtain ⟨pn, hpn⟩ : ∃ n, n = P.length := ⟨_, rfl⟩
  have HQ : Hid (20 + on + min 8 pn = quoN l ∧ 20 + on + pn ≤ n ∧ on ≤ 60 ∧ n ≤ 1000000 ∧ n = l.length) := by
    unfold quoN; rw [hon, hpn, hO, hP]; exact ⟨rfl, by omega, by omega, by omega, hn⟩
  have HON := Lib.hid hon
  have HPN := Lib.hid hpn
  have HCUT := Lib.hid hcut
  clear hp hh hP hO hn hv hl hf hon hpn e1 e2 h2 h6 h4 h5 h7 h8 hz hcut
  go_enter Try.func39, Try.ntmps39
  go_wp2_with fail
  refine HP.out.mono ?_
  rintro e w1 ⟨u, v, rfl, hu, hv, hb1⟩
  obtain ⟨ua, uc, rfl⟩ := hu.form
  obtain ⟨pa, pc, rfl⟩ := hv.form
  have HB1 := Lib.hid hb1
  clear hu hv hb1
  rw [← HON.out, ← HPN.out]
  by_cases h8 : pn ≤ 8
  · have k1 : (pn : Int) ≤ 8 := by omega
    obtain ⟨q, hq⟩ : ∃ q, q = 20 + on + pn := ⟨_, rfl⟩
    obtain ⟨s, hs⟩ : ∃ s, s = 20 + on := ⟨_, rfl⟩
    have k2 : (20 : Int) + on = s := by omega
    have k3 : (s : Int) + pn = q := by omega
    have hqq : q = quoN l := by have := HQ.out; omega
    obtain ⟨hc, hb⟩ := HCUT.out q (by have := HQ.out; omega)
    rw [← HQ.out.2.2.2.2] at hc
    have k4 : q ≤ n := by have := HQ.out; omega
    have k5 : (q : Int) ≤ n := by omega
    have k6 : n ≤ c := by have h := (show Bytes wm (.slice a l.length c) l from HV.out).cap; have := HQ.out; omega
    have k7 : (q : Int) ≤ 1000000 := by have := HQ.out; omega
    have k8 : (s : Int) ≤ 80 := by have := HQ.out; omega
    have HB := Lib.hid hb
    have HQQ := Lib.hid hqq
    clear hb hqq hq hs h8
    go_wp2_with fail
    go_ret
    refine ⟨_, rfl, ?_, HB1.out.alloc HB1.out.size _⟩
    unfold quoL
    rw [← HQQ.out]
    exact (show Bytes wm _ _ from HB.out).later (HB1.out.alloc HB1.out.size _)
  · have k1 : (8 : Int) < pn := by omega
    obtain ⟨q, hq⟩ : ∃ q, q = 20 + on + 8 := ⟨_, rfl⟩
    obtain ⟨s, hs⟩ : ∃ s, s = 20 + on := ⟨_, rfl⟩
    obtain ⟨z, hz⟩ : ∃ s, s = 20 + on + pn := ⟨_, rfl⟩
    have k2 : (20 : Int) + on = s := by omega
    have k3 : (s : Int) + 8 = q := by omega
    have k3' : (s : Int) + pn = z := by omega
    have hqq : q = quoN l := by have := HQ.out; omega
    obtain ⟨hc, hb⟩ := HCUT.out q (by have := HQ.out; omega)
    rw [← HQ.out.2.2.2.2] at hc
    have k4 : q ≤ n := by have := HQ.out; omega
    have k5 : (q : Int) ≤ n := by omega
    have k6 : n ≤ c := by have h := (show Bytes wm (.slice a l.length c) l from HV.out).cap; have := HQ.out; omega
    have k7 : (q : Int) ≤ 1000000 := by have := HQ.out; omega
    have k8 : (s : Int) ≤ 80 := by have := HQ.out; omega
    have k9 : (z : Int) ≤ 1000000 := by have := HQ.out; omega
    have HB := Lib.hid hb
    have HQQ := Lib.hid hqq
    clear hb hqq hq hs h8 hz
    go_wp2_with fail
    go_ret
    refine ⟨_, rfl, ?_, HB1.out.alloc HB1.out.size _⟩
    unfold quoL
    rw [← HQQ.out]
    exact (show Bytes wm _ _ from HB.out).later (HB1.out.alloc HB1.out.size _)


/-- A new key in a map that lies last. -/
theorem upd_new (w : World) (es : Array MapEntry) (c : Nat) (k : Int) (V : Value) (hf : Instr.findNow (.int .i64) (.int .i64 k) es.toList 0 = some none) :
    (Instr.mapUpdate 95 (.map (some w.heap.size)) (.int .i64 k) V).run Try.prog (w.alloc (.map es c)) = .ok () (w.alloc (.map (es.push ⟨.int .i64 k, V, c⟩) (c + 1))) := by
  have hb : (w.alloc (.map es c)).heap[w.heap.size]? = some (.map es c) := World.alloc_heap_new w _
  have hk := Try.underlying59
  have hm := Try.underlying95
  have hc : (Instr.checkKey false 10000 59 (.int .i64 k)).run Try.prog (w.alloc (.map es c)) = .ok () (w.alloc (.map es c)) := MapKept.run_checkKey (k := .int .i64 k) hk (by simp [MapKept.IsKey]) false 9999
  have hs : ({ (w.alloc (.map es c)) with heap := (w.alloc (.map es c)).heap.setIfInBounds w.heap.size (.map (es.push ⟨.int .i64 k, V, c⟩) (c + 1)) } : World) = w.alloc (.map (es.push ⟨.int .i64 k, V, c⟩) (c + 1)) := by
    unfold World.alloc
    simp only [World.mk.injEq, and_true, true_and]
    apply Array.toList_inj.1
    simp [List.set_append]
  have hso := MapKept.run_setObj_map (P := Try.prog) (.map (es.push ⟨.int .i64 k, V, c⟩) (c + 1)) hb
  rw [hs] at hso
  simp [Instr.mapUpdate, run_underlying hm, MapKept.run_getObj_map hb, hc, MapKept.run_findKey hk hf, hso, Result.andThen]
def SV1 : Value := .agg #[.int .u8 3, .int .u8 0, .int .u8 0, .int .u8 0, .int .u8 0, .int .u8 0, .slice none 0 0]
def SV2 : Value := .agg #[.int .u8 3, .int .u8 4, .int .u8 0, .int .u8 0, .int .u8 0, .int .u8 0, .slice none 0 0]
def SV3 : Value := .agg #[.int .u8 11, .int .u8 0, .int .u8 0, .int .u8 0, .int .u8 0, .int .u8 0, .slice none 0 0]
def sentM : Array MapEntry := #[⟨.int .i64 1, SV1, 0⟩, ⟨.int .i64 2, SV2, 1⟩, ⟨.int .i64 3, SV3, 2⟩]
/-- What is looked up. -/
def sentV (k : Int) : Value := if k = 1 then SV1 else if k = 2 then SV2 else if k = 3 then SV3 else MZ
def sentB (k : Int) : Bool := decide (k = 1) || (decide (k = 2) || decide (k = 3))
theorem look_sent (W : World) (g c : Nat) (k : Int) (hb : W.heap[g]? = some (.map sentM c)) : (Instr.lookup 95 (.map (some g)) (.int .i64 k) true).run Try.prog W = .ok (.tuple #[sentV k, .bool (sentB k)]) W := by
  have hk := Try.underlying59
  have hm := Try.underlying95
  have hc : (Instr.checkKey false 10000 59 (.int .i64 k)).run Try.prog W = .ok () W := MapKept.run_checkKey (k := .int .i64 k) hk (by simp [MapKept.IsKey]) false 9999
  have hz : (zeroValue 46).run Try.prog W = .ok MZ W := by kernel_rfl
  have hem : sentM.isEmpty = false := rfl
  by_cases k1 : k = 1
  · subst k1
    have hf : Instr.findNow (.int .i64) (.int .i64 1) sentM.toList 0 = some (some (0, SV1)) := rfl
    simp [Instr.lookup, run_underlying hm, MapKept.run_getObj_map hb, hem, hc, MapKept.run_findKey hk hf, Result.andThen, sentV, sentB]
  by_cases k2 : k = 2
  · subst k2
    have hf : Instr.findNow (.int .i64) (.int .i64 2) sentM.toList 0 = some (some (1, SV2)) := rfl
    simp [Instr.lookup, run_underlying hm, MapKept.run_getObj_map hb, hem, hc, MapKept.run_findKey hk hf, Result.andThen, sentV, sentB]
  by_cases k3 : k = 3
  · subst k3
    have hf : Instr.findNow (.int .i64) (.int .i64 3) sentM.toList 0 = some (some (2, SV3)) := rfl
    simp [Instr.lookup, run_underlying hm, MapKept.run_getObj_map hb, hem, hc, MapKept.run_findKey hk hf, Result.andThen, sentV, sentB]
  · have hf : Instr.findNow (.int .i64) (.int .i64 k) sentM.toList 0 = some none := by
      have b1 : (k == 1) = false := by simp [k1]
      have b2 : (k == 2) = false := by simp [k2]
      have b3 : (k == 3) = false := by simp [k3]
      simp [Instr.findNow, Instr.sameNow, sentM, b1, b2, b3]
    simp [Instr.lookup, run_underlying hm, MapKept.run_getObj_map hb, hem, hc, MapKept.run_findKey hk hf, Result.andThen, sentV, sentB, hz, k1, k2, k3]

set_option maxHeartbeats 4000000 in
set_option maxRecDepth 100000 in
theorem sent_any (w : World) : Calls Try.prog 71 #[] w fun e w' => e = .returned (.map (some w.heap.size)) ∧ w' = w.alloc (.map sentM 3) := by
  have hmm := @run_makeMap Try.prog
  have u1 := upd_new w #[] 0 1 SV1 rfl
  have u2 := upd_new w #[⟨.int .i64 1, SV1, 0⟩] 1 2 SV2 rfl
  have u3 := upd_new w #[⟨.int .i64 1, SV1, 0⟩, ⟨.int .i64 2, SV2, 1⟩] 2 3 SV3 rfl
  have e1 : (#[] : Array MapEntry).push ⟨.int .i64 1, SV1, 0⟩ = #[⟨.int .i64 1, SV1, 0⟩] := rfl
  have e2 : (#[⟨.int .i64 1, SV1, 0⟩] : Array MapEntry).push ⟨.int .i64 2, SV2, 1⟩ = #[⟨.int .i64 1, SV1, 0⟩, ⟨.int .i64 2, SV2, 1⟩] := rfl
  have e3 : (#[⟨.int .i64 1, SV1, 0⟩, ⟨.int .i64 2, SV2, 1⟩] : Array MapEntry).push ⟨.int .i64 3, SV3, 2⟩ = sentM := rfl
  rw [e1] at u1
  rw [e2] at u2
  rw [e3] at u3
  simp only [SV1, SV2, SV3, Nat.zero_add, Nat.reduceAdd] at u1 u2 u3
  clear e1 e2 e3
  go_enter Try.func71, Try.ntmps71
  go_wp2_with fail
  go_ret
  exact ⟨rfl, rfl⟩
end Go.Proofs.Ytnhkkpcepppgoaa

namespace Go.Proofs.Ytnhkkpcepppgoaa
open Go.RowKit
attribute [local go_sem ↓] Go.wp_at_zero Go.wp_at_succ

/-- The header that an answer has. -/
def ansH (h : Hd) : Hd := ⟨h.tos, h.id, h.ev, h.df, h.mf, h.off, 64, 1, h.src, h.dst⟩
theorem ansH_ok {h : Hd} (hh : h.Ok) : (ansH h).Ok := by
  obtain ⟨a1, a2, a3, a4, a5, a6⟩ := hh
  refine ⟨?_, ?_, ?_, ?_, ?_, ?_⟩ <;> simp only [ansH] <;> first | assumption | omega
def ansL (h : Hd) (m : Mg) (B : List UInt8) : List UInt8 := pktL (ansH h) [] (msgL m B)
theorem may_nil {off : Int} (h : off = 0) : mayB off [] = true := by
  rw [may_of (by omega) (by omega) (by simp) (by simp)]; unfold Om.ok; rw [Om.seq_nil]; rfl

set_option maxHeartbeats 8000000 in
set_option maxRecDepth 100000 in
theorem answer_any (h : Hd) (hh : h.Ok) (ho : h.off = 0) (m : Mg) (hm : m.Ok) (a : Option Addr) (c : Nat) (B : List UInt8) (wm : World) (hB : Bytes wm (.slice a B.length c) B) (hl : B.length ≤ 9990) :
    Calls Try.prog 72 #[.agg #[.int .u8 (h.tos : Nat), .int .u16 (h.id : Nat), .bool h.ev, .bool h.df, .bool h.mf, .int .i64 h.off, .int .u8 (h.ttl : Nat), .int .u8 (h.pr : Nat), .int .u32 (h.src : Nat), .int .u32 (h.dst : Nat), .slice none 0 0], .agg #[.int .u8 (m.ty : Nat), .int .u8 (m.co : Nat), .int .u8 (m.r0 : Nat), .int .u8 (m.r1 : Nat), .int .u8 (m.r2 : Nat), .int .u8 (m.r3 : Nat), .slice a B.length c]] wm fun e w' => ∃ v, e = .returned (.tuple #[v, .int .i64 0]) ∧ OwnB w' wm.heap.size v (ansL h m B) ∧ Below wm.heap.size wm w' := by
  obtain ⟨bn, hbn⟩ : ∃ n, n = B.length := ⟨_, rfl⟩
  have hbm : Below wm.heap.size wm ((wm.alloc (.cells #[.int .u8 (h.tos : Nat), .int .u16 (h.id : Nat), .bool h.ev, .bool h.df, .bool h.mf, .int .i64 h.off, .int .u8 64, .int .u8 1, .int .u32 (h.src : Nat), .int .u32 (h.dst : Nat), .slice none 0 0] 28)).alloc (.cells #[.int .u8 (m.ty : Nat), .int .u8 (m.co : Nat), .int .u8 (m.r0 : Nat), .int .u8 (m.r1 : Nat), .int .u8 (m.r2 : Nat), .int .u8 (m.r3 : Nat), .slice a bn c] 46)) := by go_grown
  obtain ⟨w, hw⟩ : ∃ w, w = (wm.alloc (.cells #[.int .u8 (h.tos : Nat), .int .u16 (h.id : Nat), .bool h.ev, .bool h.df, .bool h.mf, .int .i64 h.off, .int .u8 64, .int .u8 1, .int .u32 (h.src : Nat), .int .u32 (h.dst : Nat), .slice none 0 0] 28)).alloc (.cells #[.int .u8 (m.ty : Nat), .int .u8 (m.co : Nat), .int .u8 (m.r0 : Nat), .int .u8 (m.r1 : Nat), .int .u8 (m.r2 : Nat), .int .u8 (m.r3 : Nat), .slice a bn c] 46) := ⟨_, rfl⟩
  have HR1 : Hid (HdAt wm.heap.size [.int .u8 (h.tos : Nat), .int .u16 (h.id : Nat), .bool h.ev, .bool h.df, .bool h.mf, .int .i64 h.off, .int .u8 64, .int .u8 1, .int .u32 (h.src : Nat), .int .u32 (h.dst : Nat), .slice none 0 0] w) := by rw [hw]; exact HdAt.later (HdAt.new wm _) ((Below.refl _ _).alloc (Nat.le_refl _) _)
  have HR2 : Hid (BlkAt 46 (wm.heap.size + 1) [.int .u8 (m.ty : Nat), .int .u8 (m.co : Nat), .int .u8 (m.r0 : Nat), .int .u8 (m.r1 : Nat), .int .u8 (m.r2 : Nat), .int .u8 (m.r3 : Nat), .slice a bn c] w) := by
    rw [hw]
    have := BlkAt.new (t := 46) (wm.alloc (.cells #[.int .u8 (h.tos : Nat), .int .u16 (h.id : Nat), .bool h.ev, .bool h.df, .bool h.mf, .int .i64 h.off, .int .u8 64, .int .u8 1, .int .u32 (h.src : Nat), .int .u32 (h.dst : Nat), .slice none 0 0] 28)) [.int .u8 (m.ty : Nat), .int .u8 (m.co : Nat), .int .u8 (m.r0 : Nat), .int .u8 (m.r1 : Nat), .int .u8 (m.r2 : Nat), .int .u8 (m.r3 : Nat), .slice a bn c]
    rw [World.size_alloc] at this
    exact this
  rw [← hw] at hbm
  have HBM := Lib.hid hbm
  have HB : Hid (Bytes w (.slice a bn c) B) := by rw [hbn]; exact hB.later hbm
  have HBN := Lib.hid hbn
  have HBS : Hid (∀ W, Below w.heap.size w W → Calls Try.prog 31 #[.agg #[.int .u8 (m.ty : Nat), .int .u8 (m.co : Nat), .int .u8 (m.r0 : Nat), .int .u8 (m.r1 : Nat), .int .u8 (m.r2 : Nat), .int .u8 (m.r3 : Nat), .slice a bn c]] W fun e w' => ∃ v, e = .returned v ∧ OwnB w' W.heap.size v (msgL m B) ∧ Below W.heap.size W w') := fun W hb => by
    have := bytesM_any m hm a c B W (by rw [← hbn]; exact HB.out.later hb) hl
    rw [← hbn] at this; exact this
  have HIB : Hid (∀ (pa : Option Addr) (pc pn : Nat) (W : World), pn = (msgL m B).length → Bytes W (.slice pa pn pc) (msgL m B) → Calls Try.prog 22 #[.agg #[.int .u8 (h.tos : Nat), .int .u16 (h.id : Nat), .bool h.ev, .bool h.df, .bool h.mf, .int .i64 h.off, .int .u8 64, .int .u8 1, .int .u32 (h.src : Nat), .int .u32 (h.dst : Nat), .slice none 0 0], .slice pa pn pc] W fun e w' => ∃ v, e = .returned (.tuple #[v, .int .i64 0]) ∧ OwnB w' W.heap.size v (ansL h m B) ∧ Below W.heap.size W w') := fun pa pc pn W hpn hp => by
    subst hpn
    exact bytes_yes (ansH h) (ansH_ok hh) none 0 [] pa pc (msgL m B) W (Bytes.nil _ _ _) hp (may_nil ho) (by rw [msgL_length]; simp; omega)
  have HML : Hid ((msgL m B).length = 8 + bn) := by show _ = _; rw [msgL_length, hbn]
  rw [← hbn]
  clear hbm hbn hB hl hh hm
  have HOFF := Lib.hid ho
  clear ho
  go_enter Try.func72, Try.ntmps72
  go_wp2_with fail
  rw [← hw]
  clear hw
  (refine wp_region_held_drew (S := (fun w' => Below w.heap.size w w')) (by kernel_rfl) ?_ (fun hHeld => ?_); (focus ((try dsimp only); (exact (Below.refl _ _).drew))))
  (try dsimp only at hHeld)
  obtain ⟨w0, hw0⟩ : ∃ w4, w4 = World.drew w := ⟨_, rfl⟩
  rw [← hw0]
  rw [← hw0] at hHeld
  clear hw0
  (refine wpAnyH_take (i := 0) (v := ?_) rfl (by kernel_rfl) (by kernel_rfl) (by kernel_rfl) (fun _ _ _ h => h) (Or.inl ⟨by rfl, ?_⟩) hHeld ?_; rotate_left; (focus (intro w hSw; (try dsimp only at hSw); go_simp; (have hq := HdAt.later HR1.out hSw; have c0 := HdAt.cell hq (j := 0) rfl; have c1 := HdAt.cell hq (j := 1) rfl; have c2 := HdAt.cell hq (j := 2) rfl; have c3 := HdAt.cell hq (j := 3) rfl; have c4 := HdAt.cell hq (j := 4) rfl; have c5 := HdAt.cell hq (j := 5) rfl; have c6 := HdAt.cell hq (j := 6) rfl; have c7 := HdAt.cell hq (j := 7) rfl; have c8 := HdAt.cell hq (j := 8) rfl; have c9 := HdAt.cell hq (j := 9) rfl; have c10 := HdAt.cell hq (j := 10) rfl; go_simp; try with_reducible rfl))); (try simp only [Act.put, List.setIfInBounds_toArray, List.set_cons_zero, List.set_cons_succ, List.getElem_toArray, List.getElem_cons_zero]))
  (refine wpAnyH_take (i := 1) (v := ?_) rfl (by kernel_rfl) (by kernel_rfl) (by kernel_rfl) (fun _ _ _ h => h) (Or.inl ⟨by rfl, ?_⟩) hHeld ?_; rotate_left; (focus (intro w hSw; (try dsimp only at hSw); go_simp; (have hq := BlkAt.later HR2.out hSw; have c0 := BlkAt.cell hq (j := 0) rfl; have c1 := BlkAt.cell hq (j := 1) rfl; have c2 := BlkAt.cell hq (j := 2) rfl; have c3 := BlkAt.cell hq (j := 3) rfl; have c4 := BlkAt.cell hq (j := 4) rfl; have c5 := BlkAt.cell hq (j := 5) rfl; have c6 := BlkAt.cell hq (j := 6) rfl; go_simp; try with_reducible rfl))); (try simp only [Act.put, List.setIfInBounds_toArray, List.set_cons_zero, List.set_cons_succ, List.getElem_toArray, List.getElem_cons_zero, List.getElem_cons_succ]))
  (refine wpAnyH_ready (rs := [2]) (by kernel_rfl) (by simp) ?_; refine AllReadyH.cons rfl (fun K hK => ?_) AllReadyH.nil; go_simp; refine (HBS.out _ hHeld).mono ?_; rintro e w1 ⟨v1, rfl, ho1, hs⟩; refine hK.out _ _ ?_ (fun hHeldN => ?_); (focus ((try dsimp only); (exact hHeld.trans (hs.mono hHeld.size)))); clear hK K hHeld; have hHeld := hHeldN; clear hHeldN; (try simp only [Act.put, List.setIfInBounds_toArray, List.set_cons_zero, List.set_cons_succ, List.getElem_toArray, List.getElem_cons_zero, List.getElem_cons_succ]))
  obtain ⟨pa, pc, rfl⟩ := ho1.form
  obtain ⟨pn, hpn⟩ : ∃ n, n = (msgL m B).length := ⟨_, rfl⟩
  rw [← hpn]
  have HY := Lib.hid (HIB.out pa pc pn w1 hpn (by rw [hpn]; exact OwnB.bytes ho1))
  clear hs ho1 hpn
  (refine wpAnyH_ready (rs := [3]) (by kernel_rfl) (by simp) ?_; refine AllReadyH.cons rfl (fun K hK => ?_) AllReadyH.nil; go_simp; refine (HY.out).mono ?_; rintro e w2 ⟨v2, rfl, ho2, hs⟩; have HO2 := Lib.hid (OwnB.weak ho2 (Nat.le_trans HBM.out.size hHeld.size)); refine hK.out _ _ ?_ (fun hHeldN => ?_); (focus ((try dsimp only); (exact hHeld.trans (hs.mono hHeld.size)))); clear hK K hHeld; have hHeld := hHeldN; clear hHeldN; (try simp only [Act.put, List.setIfInBounds_toArray, List.set_cons_zero, List.set_cons_succ, List.getElem_toArray, List.getElem_cons_zero, List.getElem_cons_succ]))
  clear hs ho2
  (refine wpAnyH_take (i := 4) (v := ?_) rfl (by kernel_rfl) (by kernel_rfl) (by kernel_rfl) (fun _ _ _ h => h) (Or.inl ⟨by rfl, ?_⟩) hHeld ?_; rotate_left; (focus (intro w hSw; (try dsimp only at hSw); go_simp; try with_reducible rfl)); (try simp only [Act.put, List.setIfInBounds_toArray, List.set_cons_zero, List.set_cons_succ, List.getElem_toArray, List.getElem_cons_zero, List.getElem_cons_succ])); (refine wpAnyH_take (i := 5) (v := ?_) rfl (by kernel_rfl) (by kernel_rfl) (by kernel_rfl) (fun _ _ _ h => h) (Or.inl ⟨by rfl, ?_⟩) hHeld ?_; rotate_left; (focus (intro w hSw; (try dsimp only at hSw); go_simp; try with_reducible rfl)); (try simp only [Act.put, List.setIfInBounds_toArray, List.set_cons_zero, List.set_cons_succ, List.getElem_toArray, List.getElem_cons_zero, List.getElem_cons_succ])); (refine wpAnyH_take (i := 6) (v := ?_) rfl (by kernel_rfl) (by kernel_rfl) (by kernel_rfl) (fun _ _ _ h => h) (Or.inl ⟨by rfl, ?_⟩) hHeld ?_; rotate_left; (focus (intro w hSw; (try dsimp only at hSw); go_simp; try with_reducible rfl)); (try simp only [Act.put, List.setIfInBounds_toArray, List.set_cons_zero, List.set_cons_succ, List.getElem_toArray, List.getElem_cons_zero, List.getElem_cons_succ])); (refine wpAnyH_take (i := 7) (v := ?_) rfl (by kernel_rfl) (by kernel_rfl) (by kernel_rfl) (fun _ _ _ h => h) (Or.inl ⟨by rfl, ?_⟩) hHeld ?_; rotate_left; (focus (intro w hSw; (try dsimp only at hSw); go_simp; try with_reducible rfl)); (try simp only [Act.put, List.setIfInBounds_toArray, List.set_cons_zero, List.set_cons_succ, List.getElem_toArray, List.getElem_cons_zero, List.getElem_cons_succ]))
  refine wpAnyH_done (by kernel_rfl) ?_ _
  have HB2 := Lib.hid hHeld
  clear hHeld
  go_wp2_with fail
  go_ret2
  exact ⟨_, rfl, HO2.out, HBM.out.trans (HB2.out.mono HBM.out.size)⟩
end Go.Proofs.Ytnhkkpcepppgoaa
