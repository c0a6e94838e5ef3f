/- The walk of the law IcmpEchoes.
   The walks of ref04.Echo, and of ref04.Reply.
   The walk of icmp.Reply.
   The walk of icmp.echo whole; of Echo. -/
import Derived.Test.YtnhkkpcepppgoaaZ22

set_option linter.unusedSimpArgs false
set_option linter.unusedVariables false
namespace Go.Proofs.Ytnhkkpcepppgoaa
open Go.RowKit
attribute [local go_sem ↓] Go.wp_at_zero Go.wp_at_succ

theorem echE_f {l : List UInt8} (hf : flt l ≠ 0) : echE l = 4 := by unfold echE; rw [if_pos hf]
theorem echE_z {l : List UInt8} (hf : flt l = 0) : echE l = if echB (hdP l) (plP l) = true then 0 else 7 := by unfold echE; rw [if_neg (by simp [hf])]
theorem echo_no (v : Value) (l : List UInt8) (hl : l.length ≤ 70000) (wm : World) (hv : Bytes wm v l) (he : echE l ≠ 0) :
    Calls Try.prog 73 #[v] wm fun e w' => e = .returned (.tuple #[HZV, MZ, .int .i64 (echE l : Nat)]) ∧ Below wm.heap.size wm w' := by
  by_cases hf : flt l = 0
  rotate_left
  · rw [echE_f hf]; exact echo_f v l hl wm hv hf
  have hb : echB (hdP l) (plP l) = false := by
    rw [echE_z hf] at he
    cases hB : echB (hdP l) (plP l) with
    | false => rfl
    | true => rw [hB] at he; exact absurd rfl he
  rw [echE_z hf, hb]
  by_cases h1 : ((erP (plP l) : Nat) : Int) = 0
  rotate_left
  · exact echo_b v l hl wm hv hf h1
  cases h2 : fragB (hdP l) with
  | true => exact echo_c v l hl wm hv hf ⟨h1, h2⟩
  | false =>
  cases h3 : (((hdP l).pr : Int) != 1) with
  | true => exact echo_d v l hl wm hv hf ⟨h1, h2, h3⟩
  | false =>
  cases h4 : (((mgP (plP l)).ty : Int) != 8) with
  | true => exact echo_e v l hl wm hv hf ⟨h1, h2, h3, h4⟩
  | false =>
  cases h5 : (((mgP (plP l)).co : Int) != 0) with
  | true => exact echo_g v l hl wm hv hf ⟨h1, h2, h3, h4, h5⟩
  | false =>
    unfold echB at hb
    rw [h2, h3, h4, h5, decide_eq_true (by omega)] at hb
    cases hb
theorem echE_ok {l : List UInt8} (he : echE l = 0) : flt l = 0 ∧ echB (hdP l) (plP l) = true := by
  by_cases hf : flt l = 0
  · refine ⟨hf, ?_⟩
    rw [echE_z hf] at he
    cases hB : echB (hdP l) (plP l) with
    | true => rfl
    | false => rw [hB] at he; cases he
  · rw [echE_f hf] at he; cases he
theorem echB_ok {h : Hd} {P : List UInt8} (hb : echB h P = true) : ((erP P : Nat) : Int) = 0 ∧ fragB h = false ∧ ((h.pr : Int) != 1) = false ∧ (((mgP P).ty : Int) != 8) = false ∧ (((mgP P).co : Int) != 0) = false := by
  unfold echB at hb
  simp only [Bool.and_eq_true, decide_eq_true_eq, Bool.not_eq_true'] at hb
  obtain ⟨h1, h2, h3, h4, h5⟩ := hb
  exact ⟨by omega, h2, h3, h4, h5⟩
theorem echo_yes (v : Value) (l : List UInt8) (hl : l.length ≤ 70000) (wm : World) (hv : Bytes wm v l) (he : echE l = 0) :
    Calls Try.prog 73 #[v] wm fun e w' => ∃ u b, e = .returned (.tuple #[.agg #[.int .u8 ((hdP l).tos : Nat), .int .u16 ((hdP l).id : Nat), .bool (hdP l).ev, .bool (hdP l).df, .bool (hdP l).mf, .int .i64 (hdP l).off, .int .u8 ((hdP l).ttl : Nat), .int .u8 ((hdP l).pr : Nat), .int .u32 ((hdP l).src : Nat), .int .u32 ((hdP l).dst : Nat), u], .agg #[.int .u8 ((mgP (plP l)).ty : Nat), .int .u8 ((mgP (plP l)).co : Nat), .int .u8 ((mgP (plP l)).r0 : Nat), .int .u8 ((mgP (plP l)).r1 : Nat), .int .u8 ((mgP (plP l)).r2 : Nat), .int .u8 ((mgP (plP l)).r3 : Nat), b], .int .i64 0]) ∧ (∃ a n c, u = .slice a n c) ∧ Bytes w' b (bdP (plP l)) ∧ Below wm.heap.size wm w' := by
  obtain ⟨hf, hb⟩ := echE_ok he
  exact echo_y v l hl wm hv hf (echB_ok hb)

set_option maxHeartbeats 8000000 in
set_option maxRecDepth 100000 in
theorem echoI_no (v : Value) (l : List UInt8) (hl : l.length ≤ 70000) (wm : World) (hv : Bytes wm v l) (he : echE l ≠ 0) :
    Calls Try.prog 43 #[v] wm fun e w' => e = .returned (.bool false) ∧ Below wm.heap.size wm w' := by
  have hc := echo_no v l hl wm hv he
  obtain ⟨a, c, rfl⟩ := hv.form
  obtain ⟨n, hn⟩ : ∃ n, n = echE l := ⟨_, rfl⟩
  obtain ⟨k, hk⟩ : ∃ k, k = l.length := ⟨_, rfl⟩
  rw [← hn] at hc he
  rw [← hk] at hc ⊢
  simp only [HZV, MZ] at hc
  have k1 : ((n : Int) == 0) = false := by rw [beq_eq_false_iff_ne]; omega
  have HC := Lib.hid hc
  clear hc hn hk hv hl he
  go_enter Try.func43, Try.ntmps43
  go_wp2_with fail
  refine HC.out.mono ?_
  rintro e w1 ⟨rfl, hb1⟩
  have HB1 := Lib.hid hb1
  clear hb1
  go_wp2_with fail
  go_ret
  exact ⟨rfl, HB1.out.trans (Below.mono (by go_grown) HB1.out.size)⟩
set_option maxHeartbeats 8000000 in
set_option maxRecDepth 100000 in
theorem echoI_yes (v : Value) (l : List UInt8) (hl : l.length ≤ 70000) (wm : World) (hv : Bytes wm v l) (he : echE l = 0) :
    Calls Try.prog 43 #[v] wm fun e w' => e = .returned (.bool true) ∧ Below wm.heap.size wm w' := by
  have hc := echo_yes v l hl wm hv he
  obtain ⟨a, c, rfl⟩ := hv.form
  obtain ⟨h, hh⟩ : ∃ n, n = hdP l := ⟨_, rfl⟩
  obtain ⟨m, hm⟩ : ∃ n, n = mgP (plP l) := ⟨_, rfl⟩
  obtain ⟨k, hk⟩ : ∃ k, k = l.length := ⟨_, rfl⟩
  rw [← hh, ← hm, ← hk] at hc
  rw [← hk]
  have HC := Lib.hid hc
  clear hc hh hm hk hv hl he
  go_enter Try.func43, Try.ntmps43
  go_wp2_with fail
  refine HC.out.mono ?_
  rintro e w1 ⟨u, b, rfl, ⟨ua, un, uc, rfl⟩, hb, hb1⟩
  obtain ⟨ba, bc, rfl⟩ := hb.form
  obtain ⟨bn, hbn⟩ : ∃ n, n = (bdP (plP l)).length := ⟨_, rfl⟩
  rw [← hbn]
  have HB1 := Lib.hid hb1
  clear hb1 hb hbn
  go_wp2_with fail
  go_ret
  exact ⟨rfl, HB1.out.trans (Below.mono (by go_grown) HB1.out.size)⟩
theorem echoI_any (v : Value) (l : List UInt8) (hl : l.length ≤ 70000) (wm : World) (hv : Bytes wm v l) :
    Calls Try.prog 43 #[v] wm fun e w' => e = .returned (.bool (decide (echE l = 0))) ∧ Below wm.heap.size wm w' := by
  by_cases he : echE l = 0
  · refine (echoI_yes v l hl wm hv he).mono ?_
    rintro e w' ⟨rfl, hb⟩
    exact ⟨ret_b (by rw [decide_eq_true he]), hb⟩
  · refine (echoI_no v l hl wm hv he).mono ?_
    rintro e w' ⟨rfl, hb⟩
    exact ⟨ret_b (by rw [decide_eq_false he]), hb⟩
end Go.Proofs.Ytnhkkpcepppgoaa

namespace Go.Proofs.Ytnhkkpcepppgoaa
open Go.RowKit
attribute [local go_sem ↓] Go.wp_at_zero Go.wp_at_succ

/-- The header and the message of a reply. -/
def repH (h : Hd) : Hd := ⟨h.tos, h.id, false, h.df, false, 0, 0, 0, h.dst, h.src⟩
def repM (m : Mg) : Mg := ⟨0, m.co, m.r0, m.r1, m.r2, m.r3⟩
def repL (l : List UInt8) : List UInt8 := ansL (repH (hdP l)) (repM (mgP (plP l))) (bdP (plP l))
def repP (l : List UInt8) : List UInt8 := if echE l = 0 then repL l else []
theorem repH_ok {h : Hd} (hh : h.Ok) : (repH h).Ok := by
  obtain ⟨a1, a2, a3, a4, a5, a6⟩ := hh
  refine ⟨?_, ?_, ?_, ?_, ?_, ?_⟩ <;> simp only [repH] <;> first | assumption | omega
theorem repM_ok {m : Mg} (hm : m.Ok) : (repM m).Ok := by
  obtain ⟨a1, a2, a3, a4, a5, a6⟩ := hm
  refine ⟨?_, ?_, ?_, ?_, ?_, ?_⟩ <;> simp only [repM] <;> first | assumption | omega
theorem bd_le (P : List UInt8) : (bdP P).length ≤ P.length - 8 := by unfold bdP; split <;> simp
theorem pl_le {l : List UInt8} (hf : flt l = 0) : (plP l).length ≤ 65515 := by
  obtain ⟨e1, e2, h2, _, _, _, _, _⟩ := prs_lens hf
  have h7 : numAt l 2 2 < 256 ^ 2 := numAt_lt (by omega)
  omega
theorem bd_len {l : List UInt8} (hf : flt l = 0) : (bdP (plP l)).length ≤ 65507 := by
  have h1 := bd_le (plP l)
  have h2 := pl_le hf
  omega

set_option maxHeartbeats 8000000 in
set_option maxRecDepth 100000 in
theorem reply_yes (v : Value) (l : List UInt8) (hl : l.length ≤ 70000) (wm : World) (hv : Bytes wm v l) (he : echE l = 0) :
    Calls Try.prog 42 #[v] wm fun e w' => ∃ x, e = .returned (.tuple #[x, .int .i64 0]) ∧ OwnB w' wm.heap.size x (repL l) ∧ Below wm.heap.size wm w' := by
  have hc := echo_yes v l hl wm hv he
  obtain ⟨hf, _⟩ := echE_ok he
  have hok := hdP_ok l
  have hmo := mgP_ok (plP l)
  have hbl := bd_len hf
  obtain ⟨a, c, rfl⟩ := hv.form
  obtain ⟨h, hh⟩ : ∃ n, n = hdP l := ⟨_, rfl⟩
  obtain ⟨m, hm⟩ : ∃ n, n = mgP (plP l) := ⟨_, rfl⟩
  obtain ⟨B, hB⟩ : ∃ n, n = bdP (plP l) := ⟨_, rfl⟩
  obtain ⟨k, hk⟩ : ∃ k, k = l.length := ⟨_, rfl⟩
  have hr : repL l = ansL (repH h) (repM m) B := by rw [hh, hm, hB]; rfl
  obtain ⟨R, hR⟩ : ∃ R, R = repL l := ⟨_, rfl⟩
  rw [← hh, ← hm, ← hk, ← hB] at hc
  rw [← hh] at hok
  rw [← hm] at hmo
  rw [← hB] at hbl
  rw [← hk, ← hR]
  rw [← hR] at hr
  have HAN : Hid (∀ (ba : Option Addr) (bc bn : Nat) (W : World), bn = B.length → Bytes W (.slice ba bn bc) B → Calls Try.prog 72 #[.agg #[.int .u8 (h.tos : Nat), .int .u16 (h.id : Nat), .bool false, .bool h.df, .bool false, .int .i64 0, .int .u8 0, .int .u8 0, .int .u32 (h.dst : Nat), .int .u32 (h.src : Nat), .slice none 0 0], .agg #[.int .u8 0, .int .u8 (m.co : Nat), .int .u8 (m.r0 : Nat), .int .u8 (m.r1 : Nat), .int .u8 (m.r2 : Nat), .int .u8 (m.r3 : Nat), .slice ba bn bc]] W fun e w' => ∃ v, e = .returned (.tuple #[v, .int .i64 0]) ∧ OwnB w' W.heap.size v R ∧ Below W.heap.size W w') := fun ba bc bn W hbn hb => by
    subst hbn
    rw [hr]
    exact answer_anyB (repH h) (repH_ok hok) rfl (repM m) (repM_ok hmo) ba bc B W hb hbl
  have HC := Lib.hid hc
  clear hc hh hm hk hv hl he hf hok hmo hbl hB hR hr
  go_enter Try.func42, Try.ntmps42
  go_wp2_with fail
  refine HC.out.mono ?_
  rintro e w1 ⟨u, b, rfl, ⟨ua, un, uc, rfl⟩, hb, hb1⟩
  obtain ⟨ba, bc, rfl⟩ := hb.form
  obtain ⟨bn, hbn⟩ : ∃ n, n = B.length := ⟨_, rfl⟩
  rw [← hbn] at hb ⊢
  have HB1 := Lib.hid hb1
  have HB := Lib.hid hb
  have HBN := Lib.hid hbn
  clear hb1 hb hbn
  go_wp2_with fail
  refine (HAN.out ba bc bn _ HBN.out (Bytes.later HB.out (by go_grown))).mono ?_
  rintro e w2 ⟨x, rfl, hx, hb2⟩
  have HX := Lib.hid hx
  have HB2 := Lib.hid hb2
  clear hx hb2
  go_wp2_with fail
  go_ret2
  exact ⟨_, rfl, OwnB.weak HX.out (Nat.le_trans HB1.out.size (by simp only [World.size_alloc]; omega)), HB1.out.trans (((Below.refl _ _).alloc (Nat.le_refl _) _ |>.alloc (by simp only [World.size_alloc]; omega) _ |>.trans (HB2.out.mono (by simp only [World.size_alloc]; omega))).mono HB1.out.size)⟩
set_option maxHeartbeats 8000000 in
set_option maxRecDepth 100000 in
theorem reply_no (v : Value) (l : List UInt8) (hl : l.length ≤ 70000) (wm : World) (hv : Bytes wm v l) (he : echE l ≠ 0) :
    Calls Try.prog 42 #[v] wm fun e w' => ∃ x, e = .returned (.tuple #[x, .int .i64 (echE l : Nat)]) ∧ OwnB w' wm.heap.size x [] ∧ Below wm.heap.size wm w' := by
  have hc := echo_no v l hl wm hv he
  obtain ⟨a, c, rfl⟩ := hv.form
  obtain ⟨n, hn⟩ : ∃ n, n = echE l := ⟨_, rfl⟩
  obtain ⟨k, hk⟩ : ∃ k, k = l.length := ⟨_, rfl⟩
  rw [← hn] at hc he ⊢
  rw [← hk] at hc ⊢
  simp only [HZV, MZ] at hc
  have k1 : ((n : Int) != 0) = true := by rw [bne_iff_ne]; omega
  have HC := Lib.hid hc
  clear hc hn hk hv hl he
  go_enter Try.func42, Try.ntmps42
  go_wp2_with fail
  refine HC.out.mono ?_
  rintro e w1 ⟨rfl, hb1⟩
  have HB1 := Lib.hid hb1
  clear hb1
  go_wp2_with fail
  go_ret2
  exact ⟨.slice none 0 0, rfl, OwnB.nil _ _, HB1.out.trans (Below.mono (by go_grown) HB1.out.size)⟩
end Go.Proofs.Ytnhkkpcepppgoaa

namespace Go.Proofs.Ytnhkkpcepppgoaa
open Go.RowKit
attribute [local go_sem ↓] Go.wp_at_zero Go.wp_at_succ

theorem erP_ok (P : List UInt8) : decide (erP P = 0) = okM P := by unfold erP; cases okM P <;> rfl
theorem echE_dec (l : List UInt8) : decide (echE l = 0) = (decide (flt l = 0) && (!fragB (hdP l) && (!(((hdP l).pr : Int) != 1) && (okM (plP l) && ((((mgP (plP l)).ty : Int) == 8) && (((mgP (plP l)).co : Int) == 0)))))) := by
  by_cases hf : flt l = 0
  · rw [echE_z hf, decide_eq_true hf]
    unfold echB
    rw [erP_ok]
    simp only [bne, Bool.not_not]
    cases okM (plP l) <;> cases fragB (hdP l) <;> cases (((hdP l).pr : Int) == 1) <;> cases (((mgP (plP l)).ty : Int) == 8) <;> cases (((mgP (plP l)).co : Int) == 0) <;> simp
  · rw [echE_f hf, decide_eq_false hf]; rfl
set_option maxHeartbeats 8000000 in
set_option maxRecDepth 100000 in
theorem echoR_any (v : Value) (l : List UInt8) (hl : l.length ≤ 70000) (wm : World) (hv : Bytes wm v l) :
    Calls Try.prog 44 #[v] wm fun e w' => e = .returned (.bool (decide (echE l = 0))) ∧ Below wm.heap.size wm w' := by
  have hp := prsR_any v l (by omega) wm hv
  have hE := echE_dec l
  have HL : Hid (flt l = 0 → (plP l).length ≤ 100000) := fun hf => by have := pl_le hf; omega
  obtain ⟨a, c, rfl⟩ := hv.form
  obtain ⟨h, hh⟩ : ∃ h, h = hdP l := ⟨_, rfl⟩
  obtain ⟨P, hP⟩ : ∃ P, P = plP l := ⟨_, rfl⟩
  obtain ⟨O, hO⟩ : ∃ P, P = opP l := ⟨_, rfl⟩
  obtain ⟨f, hf⟩ : ∃ f, f = flt l := ⟨_, rfl⟩
  obtain ⟨n, hn⟩ : ∃ n, n = l.length := ⟨_, rfl⟩
  obtain ⟨m, hm⟩ : ∃ m, m = mgP P := ⟨_, rfl⟩
  obtain ⟨D, hD⟩ : ∃ m, m = bdP P := ⟨_, rfl⟩
  obtain ⟨ok, hok⟩ : ∃ m, m = okM P := ⟨_, rfl⟩
  obtain ⟨fg, hfg⟩ : ∃ m, m = fragB h := ⟨_, rfl⟩
  obtain ⟨dd, hdd⟩ : ∃ d, d = decide (echE l = 0) := ⟨_, rfl⟩
  unfold PrsR at hp
  rw [← hh, ← hP, ← hO, ← hf, ← hn] at hp
  rw [← hdd, ← hf, ← hh, ← hfg, ← hP, ← hok, ← hm] at hE
  rw [← hf, ← hP] at HL
  rw [← hn, ← hdd]
  have HOF : Hid (f = 0 → ∀ (v : Value) W, Bytes W v P → Calls Try.prog 28 #[v] W fun e w' => ∃ u, e = .returned (.tuple #[.agg #[.int .u8 (m.ty : Nat), .int .u8 (m.co : Nat), .int .u8 (m.r0 : Nat), .int .u8 (m.r1 : Nat), .int .u8 (m.r2 : Nat), .int .u8 (m.r3 : Nat), u], .bool ok]) ∧ Bytes w' u D ∧ Below W.heap.size W w') := fun hz v W hb => by
    rw [hm, hok, hD]; exact ofR_anyB v P W hb (HL.out hz)
  have HFG : Hid (∀ (a : Option Addr) (n c : Nat) W, Calls Try.prog 18 #[.agg #[.int .u8 (h.tos : Nat), .int .u16 (h.id : Nat), .bool h.ev, .bool h.df, .bool h.mf, .int .i64 h.off, .int .u8 (h.ttl : Nat), .int .u8 (h.pr : Nat), .int .u32 (h.src : Nat), .int .u32 (h.dst : Nat), .slice a n c]] W fun e w' => e = .returned (.bool fg) ∧ Below W.heap.size W w') := fun a n c W => by
    rw [hfg]; exact fragR_any h _ W ⟨_, _, _, rfl⟩
  have HP := Lib.hid hp
  have HE := Lib.hid hE
  clear hp hE hh hP hO hn hv hl hm hD hok hfg hdd HL
  go_enter Try.func44, Try.ntmps44
  go_wp2_with fail
  refine HP.out.mono ?_
  rintro e w1 ⟨u, v, rfl, hu, hv, hb1⟩
  obtain ⟨ua, uc, rfl⟩ := hu.form
  obtain ⟨pa, pc, rfl⟩ := hv.form
  have HB1 := Lib.hid (hb1.alloc hb1.size (.cells #[.int .u8 (h.tos : Nat), .int .u16 (h.id : Nat), .bool h.ev, .bool h.df, .bool h.mf, .int .i64 h.off, .int .u8 (h.ttl : Nat), .int .u8 (h.pr : Nat), .int .u32 (h.src : Nat), .int .u32 (h.dst : Nat), .slice ua O.length uc] 28))
  have ha1 : Below w1.heap.size w1 (w1.alloc (.cells #[.int .u8 (h.tos : Nat), .int .u16 (h.id : Nat), .bool h.ev, .bool h.df, .bool h.mf, .int .i64 h.off, .int .u8 (h.ttl : Nat), .int .u8 (h.pr : Nat), .int .u32 (h.src : Nat), .int .u32 (h.dst : Nat), .slice ua O.length uc] 28)) := (Below.refl _ _).alloc (Nat.le_refl _) _
  have HV := Lib.hid (hv.later ha1)
  have HR := Lib.hid (BlkAt.new (t := 28) w1 [.int .u8 (h.tos : Nat), .int .u16 (h.id : Nat), .bool h.ev, .bool h.df, .bool h.mf, .int .i64 h.off, .int .u8 (h.ttl : Nat), .int .u8 (h.pr : Nat), .int .u32 (h.src : Nat), .int .u32 (h.dst : Nat), .slice ua O.length uc])
  obtain ⟨on, hon⟩ : ∃ n, n = O.length := ⟨_, rfl⟩
  obtain ⟨pn, hpn⟩ : ∃ n, n = P.length := ⟨_, rfl⟩
  rw [← hon, ← hpn] at HV
  rw [← hon] at HB1 HR
  rw [← hon, ← hpn]
  clear hu hv hb1 hon hpn ha1
  by_cases f0 : f = 0
  rotate_left
  · have k1 : ((f : Int) != 0) = true := by rw [bne_iff_ne]; omega
    have HF := Lib.hid f0
    clear f0 hf
    go_wp2_with fail
    go_ret
    exact ⟨ret_b (by rw [HE.out, decide_eq_false HF.out]; rfl), HB1.out⟩
  have k1 : ((f : Int) != 0) = false := by rw [bne_eq_false_iff_eq]; omega
  have HF := Lib.hid f0
  clear f0 hf
  go_wp2_with fail
  refine (HFG.out _ _ _ _).mono ?_
  rintro e w2 ⟨rfl, hb2⟩
  have HB2 := Lib.hid (HB1.out.trans (hb2.mono HB1.out.size))
  have HR2 := Lib.hid (HR.out.later hb2)
  have HV2 := Lib.hid ((show Bytes _ _ P from HV.out).later hb2)
  clear hb2
  cases fg with
  | true =>
    go_wp2_with fail
    go_ret
    exact ⟨ret_b (by rw [HE.out]; simp), HB2.out⟩
  | false =>
  have v7 := HR2.out.cell (j := 7) rfl
  cases h3 : ((h.pr : Int) != 1) with
  | true =>
    go_wp2_with fail
    go_ret
    exact ⟨ret_b (by rw [HE.out, h3]; simp), HB2.out⟩
  | false =>
  go_wp2_with fail
  refine (HOF.out HF.out _ _ HV2.out).mono ?_
  rintro e w3 ⟨b, rfl, hob, hb3⟩
  obtain ⟨ba, bc, rfl⟩ := hob.form
  obtain ⟨bn, hbn⟩ : ∃ n, n = D.length := ⟨_, rfl⟩
  rw [← hbn]
  have HB3 := Lib.hid ((HB2.out.trans (hb3.mono HB2.out.size)).alloc (HB2.out.trans (hb3.mono HB2.out.size)).size (.cells #[.int .u8 (m.ty : Nat), .int .u8 (m.co : Nat), .int .u8 (m.r0 : Nat), .int .u8 (m.r1 : Nat), .int .u8 (m.r2 : Nat), .int .u8 (m.r3 : Nat), .slice ba bn bc] 46))
  clear hob hb3 hbn v7
  have HH3 := Lib.hid h3
  clear h3
  cases ok with
  | false =>
    go_wp2_with fail
    go_ret
    exact ⟨ret_b (by rw [HE.out]; simp), HB3.out⟩
  | true =>
  cases h4 : ((m.ty : Int) == 8) with
  | false =>
    go_wp2_with fail
    go_ret
    exact ⟨ret_b (by rw [HE.out, h4]; simp), HB3.out⟩
  | true =>
  go_wp2_with fail
  go_ret
  exact ⟨ret_b (by rw [HE.out, h4, HH3.out, decide_eq_true HF.out]; simp), HB3.out⟩

set_option maxHeartbeats 8000000 in
set_option maxRecDepth 100000 in
theorem replyR_yes (v : Value) (l : List UInt8) (hl : l.length ≤ 70000) (wm : World) (hv : Bytes wm v l) (he : echE l = 0) :
    Calls Try.prog 45 #[v] wm fun e w' => ∃ x, e = .returned x ∧ Bytes w' x (repL l) ∧ Below wm.heap.size wm w' := by
  have hp := prsR_any v l (by omega) wm hv
  obtain ⟨hf, _⟩ := echE_ok he
  have hok := hdP_ok l
  have hmo := mgP_ok (plP l)
  have hbl := bd_len hf
  have hpl := pl_le hf
  obtain ⟨a, c, rfl⟩ := hv.form
  obtain ⟨h, hh⟩ : ∃ h, h = hdP l := ⟨_, rfl⟩
  obtain ⟨P, hP⟩ : ∃ P, P = plP l := ⟨_, rfl⟩
  obtain ⟨O, hO⟩ : ∃ P, P = opP l := ⟨_, rfl⟩
  obtain ⟨n, hn⟩ : ∃ n, n = l.length := ⟨_, rfl⟩
  obtain ⟨m, hm⟩ : ∃ m, m = mgP P := ⟨_, rfl⟩
  obtain ⟨D, hD⟩ : ∃ m, m = bdP P := ⟨_, rfl⟩
  obtain ⟨ok, hk⟩ : ∃ m, m = okM P := ⟨_, rfl⟩
  have hr : repL l = pktL (ansH (repH h)) [] (msgL (repM m) D) := by rw [hh, hm, hD, hP]; rfl
  obtain ⟨R, hR⟩ : ∃ R, R = repL l := ⟨_, rfl⟩
  unfold PrsR at hp
  rw [← hh, ← hP, ← hO, ← hn, hf] at hp
  rw [← hh] at hok
  rw [← hP, ← hm] at hmo
  rw [← hP, ← hD] at hbl
  rw [← hP] at hpl
  rw [← hn, ← hR]
  rw [← hR] at hr
  have HOF : Hid (∀ (v : Value) W, Bytes W v P → Calls Try.prog 28 #[v] W fun e w' => ∃ u, e = .returned (.tuple #[.agg #[.int .u8 (m.ty : Nat), .int .u8 (m.co : Nat), .int .u8 (m.r0 : Nat), .int .u8 (m.r1 : Nat), .int .u8 (m.r2 : Nat), .int .u8 (m.r3 : Nat), u], .bool ok]) ∧ Bytes w' u D ∧ Below W.heap.size W w') := fun v W hb => by
    rw [hm, hk, hD]; exact ofR_anyB v P W hb (by omega)
  have HBS : Hid (∀ (ba : Option Addr) (bc bn : Nat) (W : World), bn = D.length → Bytes W (.slice ba bn bc) D → Calls Try.prog 32 #[.agg #[.int .u8 0, .int .u8 (m.co : Nat), .int .u8 (m.r0 : Nat), .int .u8 (m.r1 : Nat), .int .u8 (m.r2 : Nat), .int .u8 (m.r3 : Nat), .slice ba bn bc]] W fun e w' => ∃ v, e = .returned v ∧ OwnB w' W.heap.size v (msgL (repM m) D) ∧ Below W.heap.size W w') := fun ba bc bn W hbn hb => by
    subst hbn
    exact bytesMR_anyB (repM m) (repM_ok hmo) ba bc D W hb hbl
  have HIB : Hid (∀ (pa : Option Addr) (pc pn : Nat) (W : World), pn = (msgL (repM m) D).length → Bytes W (.slice pa pn pc) (msgL (repM m) D) → Calls Try.prog 25 #[.agg #[.int .u8 (h.tos : Nat), .int .u16 (h.id : Nat), .bool false, .bool h.df, .bool false, .int .i64 0, .int .u8 64, .int .u8 1, .int .u32 (h.dst : Nat), .int .u32 (h.src : Nat), .slice none 0 0], .slice pa pn pc] W fun e w' => ∃ v, e = .returned v ∧ OwnB w' W.heap.size v R ∧ Below W.heap.size W w') := fun pa pc pn W hpn hp => by
    subst hpn
    rw [hr]
    exact bytesR_yes (ansH (repH h)) (ansH_ok (repH_ok hok)) none 0 [] pa pc (msgL (repM m) D) W (Bytes.nil _ _ _) hp (may_nil rfl) (by rw [msgL_length]; simp; omega)
  have HP := Lib.hid hp
  obtain ⟨ML, hML⟩ : ∃ L, L = msgL (repM m) D := ⟨_, rfl⟩
  rw [← hML] at HBS HIB
  clear hp hf hh hP hO hn hv hl hm hD hok hmo hbl hpl hk hR hr he hML
  go_enter Try.func45, Try.ntmps45
  go_wp2_with fail
  refine HP.out.mono ?_
  rintro e w1 ⟨u, v, rfl, hu, hv, hb1⟩
  obtain ⟨ua, uc, rfl⟩ := hu.form
  obtain ⟨pa, pc, rfl⟩ := hv.form
  have HB1 := Lib.hid (hb1.alloc hb1.size (.cells #[.int .u8 (h.tos : Nat), .int .u16 (h.id : Nat), .bool h.ev, .bool h.df, .bool h.mf, .int .i64 h.off, .int .u8 (h.ttl : Nat), .int .u8 (h.pr : Nat), .int .u32 (h.src : Nat), .int .u32 (h.dst : Nat), .slice ua O.length uc] 28))
  have ha1 : Below w1.heap.size w1 (w1.alloc (.cells #[.int .u8 (h.tos : Nat), .int .u16 (h.id : Nat), .bool h.ev, .bool h.df, .bool h.mf, .int .i64 h.off, .int .u8 (h.ttl : Nat), .int .u8 (h.pr : Nat), .int .u32 (h.src : Nat), .int .u32 (h.dst : Nat), .slice ua O.length uc] 28)) := (Below.refl _ _).alloc (Nat.le_refl _) _
  have HV := Lib.hid (hv.later ha1)
  have HR := Lib.hid (BlkAt.new (t := 28) w1 [.int .u8 (h.tos : Nat), .int .u16 (h.id : Nat), .bool h.ev, .bool h.df, .bool h.mf, .int .i64 h.off, .int .u8 (h.ttl : Nat), .int .u8 (h.pr : Nat), .int .u32 (h.src : Nat), .int .u32 (h.dst : Nat), .slice ua O.length uc])
  obtain ⟨on, hon⟩ : ∃ n, n = O.length := ⟨_, rfl⟩
  obtain ⟨pn, hpn⟩ : ∃ n, n = P.length := ⟨_, rfl⟩
  rw [← hon, ← hpn] at HV
  rw [← hon] at HB1 HR
  rw [← hon, ← hpn]
  clear hu hv hb1 hon hpn ha1
  go_wp2_with fail
  refine (HOF.out _ _ HV.out).mono ?_
  rintro e w3 ⟨b, rfl, hob, hb3⟩
  obtain ⟨ba, bc, rfl⟩ := hob.form
  obtain ⟨bn, hbn⟩ : ∃ n, n = D.length := ⟨_, rfl⟩
  rw [← hbn] at hob ⊢
  have HBN := Lib.hid hbn
  have hbz := HB1.out.trans (hb3.mono HB1.out.size)
  have HB3 := Lib.hid (hbz.alloc hbz.size (.cells #[.int .u8 0, .int .u8 (m.co : Nat), .int .u8 (m.r0 : Nat), .int .u8 (m.r1 : Nat), .int .u8 (m.r2 : Nat), .int .u8 (m.r3 : Nat), .slice ba bn bc] 46))
  have ha3 : Below w3.heap.size w3 (w3.alloc (.cells #[.int .u8 0, .int .u8 (m.co : Nat), .int .u8 (m.r0 : Nat), .int .u8 (m.r1 : Nat), .int .u8 (m.r2 : Nat), .int .u8 (m.r3 : Nat), .slice ba bn bc] 46)) := (Below.refl _ _).alloc (Nat.le_refl _) _
  have HR3 := Lib.hid ((HR.out.later hb3).later ha3)
  have HO3 := Lib.hid (hob.later ha3)
  have HM3 := Lib.hid (BlkAt.new (t := 46) w3 [.int .u8 0, .int .u8 (m.co : Nat), .int .u8 (m.r0 : Nat), .int .u8 (m.r1 : Nat), .int .u8 (m.r2 : Nat), .int .u8 (m.r3 : Nat), .slice ba bn bc])
  clear hob hb3 hbn hbz ha3
  go_wp2_with fail
  obtain ⟨w4, hw4⟩ : ∃ w4, w4 = w3.alloc (.cells #[.int .u8 0, .int .u8 (m.co : Nat), .int .u8 (m.r0 : Nat), .int .u8 (m.r1 : Nat), .int .u8 (m.r2 : Nat), .int .u8 (m.r3 : Nat), .slice ba bn bc] 46) := ⟨_, rfl⟩
  have HB4 : Hid (Below wm.heap.size wm w4) := by rw [hw4]; exact HB3.out
  have HR4 : Hid (BlkAt 28 w1.heap.size [.int .u8 (h.tos : Nat), .int .u16 (h.id : Nat), .bool h.ev, .bool h.df, .bool h.mf, .int .i64 h.off, .int .u8 (h.ttl : Nat), .int .u8 (h.pr : Nat), .int .u32 (h.src : Nat), .int .u32 (h.dst : Nat), .slice ua on uc] w4) := by rw [hw4]; exact HR3.out
  have HO4 : Hid (Bytes w4 (.slice ba bn bc) D) := by rw [hw4]; exact HO3.out
  have HM4 : Hid (BlkAt 46 w3.heap.size [.int .u8 0, .int .u8 (m.co : Nat), .int .u8 (m.r0 : Nat), .int .u8 (m.r1 : Nat), .int .u8 (m.r2 : Nat), .int .u8 (m.r3 : Nat), .slice ba bn bc] w4) := by rw [hw4]; exact HM3.out
  rw [← hw4]
  clear hw4 HB3 HR3 HO3 HM3 HR HB1 HV
  (refine wp_region_held_drew (S := (fun w' => Below w4.heap.size w4 w')) (by kernel_rfl) ?_ (fun hHeld => ?_); (focus ((try dsimp only); (exact (Below.refl _ _).drew))))
  (try dsimp only at hHeld)
  obtain ⟨w0, hw0⟩ : ∃ w0, w0 = World.drew w4 := ⟨_, rfl⟩
  rw [← hw0]
  rw [← hw0] at hHeld
  clear hw0
  (refine wpAnyH_take (i := 0) (v := ?_) rfl (by kernel_rfl) (by kernel_rfl) (by kernel_rfl) (fun _ _ _ h => h) (Or.inl ⟨by rfl, ?_⟩) hHeld ?_; rotate_left; (focus (intro w hSw; (try dsimp only at hSw); go_simp; try with_reducible rfl)); (try simp only [Act.put, List.setIfInBounds_toArray, List.set_cons_zero, List.set_cons_succ, List.getElem_toArray, List.getElem_cons_zero])); (refine wpAnyH_take (i := 2) (v := ?_) rfl (by kernel_rfl) (by kernel_rfl) (by kernel_rfl) (fun _ _ _ h => h) (Or.inl ⟨by rfl, ?_⟩) hHeld ?_; rotate_left; (focus (intro w hSw; (try dsimp only at hSw); go_simp; try with_reducible rfl)); (try simp only [Act.put, List.setIfInBounds_toArray, List.set_cons_zero, List.set_cons_succ, List.getElem_toArray, List.getElem_cons_zero, List.getElem_cons_succ])); (refine wpAnyH_take (i := 4) (v := ?_) rfl (by kernel_rfl) (by kernel_rfl) (by kernel_rfl) (fun _ _ _ h => h) (Or.inl ⟨by rfl, ?_⟩) hHeld ?_; rotate_left; (focus (intro w hSw; (try dsimp only at hSw); go_simp; try with_reducible rfl)); (try simp only [Act.put, List.setIfInBounds_toArray, List.set_cons_zero, List.set_cons_succ, List.getElem_toArray, List.getElem_cons_zero, List.getElem_cons_succ])); (refine wpAnyH_take (i := 6) (v := ?_) rfl (by kernel_rfl) (by kernel_rfl) (by kernel_rfl) (fun _ _ _ h => h) (Or.inl ⟨by rfl, ?_⟩) hHeld ?_; rotate_left; (focus (intro w hSw; (try dsimp only at hSw); go_simp; try with_reducible rfl)); (try simp only [Act.put, List.setIfInBounds_toArray, List.set_cons_zero, List.set_cons_succ, List.getElem_toArray, List.getElem_cons_zero, List.getElem_cons_succ])); (refine wpAnyH_take (i := 8) (v := ?_) rfl (by kernel_rfl) (by kernel_rfl) (by kernel_rfl) (fun _ _ _ h => h) (Or.inl ⟨by rfl, ?_⟩) hHeld ?_; rotate_left; (focus (intro w hSw; (try dsimp only at hSw); go_simp; try with_reducible rfl)); (try simp only [Act.put, List.setIfInBounds_toArray, List.set_cons_zero, List.set_cons_succ, List.getElem_toArray, List.getElem_cons_zero, List.getElem_cons_succ]))
  (refine wpAnyH_take (i := 1) (v := ?_) rfl (by kernel_rfl) (by kernel_rfl) (by kernel_rfl) (fun _ _ _ h => h) (Or.inl ⟨by rfl, ?_⟩) hHeld ?_; rotate_left; (focus (intro w hSw; (try dsimp only at hSw); go_simp; (have hq := BlkAt.later HR4.out hSw; have c0 := BlkAt.cell hq (j := 0) rfl; go_simp; try with_reducible rfl))); (try simp only [Act.put, List.setIfInBounds_toArray, List.set_cons_zero, List.set_cons_succ, List.getElem_toArray, List.getElem_cons_zero, List.getElem_cons_succ]))
  (refine wpAnyH_take (i := 3) (v := ?_) rfl (by kernel_rfl) (by kernel_rfl) (by kernel_rfl) (fun _ _ _ h => h) (Or.inl ⟨by rfl, ?_⟩) hHeld ?_; rotate_left; (focus (intro w hSw; (try dsimp only at hSw); go_simp; (have hq := BlkAt.later HR4.out hSw; have c0 := BlkAt.cell hq (j := 1) rfl; go_simp; try with_reducible rfl))); (try simp only [Act.put, List.setIfInBounds_toArray, List.set_cons_zero, List.set_cons_succ, List.getElem_toArray, List.getElem_cons_zero, List.getElem_cons_succ]))
  (refine wpAnyH_take (i := 5) (v := ?_) rfl (by kernel_rfl) (by kernel_rfl) (by kernel_rfl) (fun _ _ _ h => h) (Or.inl ⟨by rfl, ?_⟩) hHeld ?_; rotate_left; (focus (intro w hSw; (try dsimp only at hSw); go_simp; (have hq := BlkAt.later HR4.out hSw; have c0 := BlkAt.cell hq (j := 3) rfl; go_simp; try with_reducible rfl))); (try simp only [Act.put, List.setIfInBounds_toArray, List.set_cons_zero, List.set_cons_succ, List.getElem_toArray, List.getElem_cons_zero, List.getElem_cons_succ]))
  (refine wpAnyH_take (i := 7) (v := ?_) rfl (by kernel_rfl) (by kernel_rfl) (by kernel_rfl) (fun _ _ _ h => h) (Or.inl ⟨by rfl, ?_⟩) hHeld ?_; rotate_left; (focus (intro w hSw; (try dsimp only at hSw); go_simp; (have hq := BlkAt.later HR4.out hSw; have c0 := BlkAt.cell hq (j := 9) rfl; go_simp; try with_reducible rfl))); (try simp only [Act.put, List.setIfInBounds_toArray, List.set_cons_zero, List.set_cons_succ, List.getElem_toArray, List.getElem_cons_zero, List.getElem_cons_succ]))
  (refine wpAnyH_take (i := 9) (v := ?_) rfl (by kernel_rfl) (by kernel_rfl) (by kernel_rfl) (fun _ _ _ h => h) (Or.inl ⟨by rfl, ?_⟩) hHeld ?_; rotate_left; (focus (intro w hSw; (try dsimp only at hSw); go_simp; (have hq := BlkAt.later HR4.out hSw; have c0 := BlkAt.cell hq (j := 8) rfl; go_simp; try with_reducible rfl))); (try simp only [Act.put, List.setIfInBounds_toArray, List.set_cons_zero, List.set_cons_succ, List.getElem_toArray, List.getElem_cons_zero, List.getElem_cons_succ]))
  (refine wpAnyH_take (i := 10) (v := ?_) rfl (by kernel_rfl) (by kernel_rfl) (by kernel_rfl) (fun _ _ _ h => h) (Or.inl ⟨by rfl, ?_⟩) hHeld ?_; rotate_left; (focus (intro w hSw; (try dsimp only at hSw); go_simp; try with_reducible rfl)); (try simp only [Act.put, List.setIfInBounds_toArray, List.set_cons_zero, List.set_cons_succ, List.getElem_toArray, List.getElem_cons_zero, List.getElem_cons_succ]))
  (refine wpAnyH_take (i := 11) (v := ?_) rfl (by kernel_rfl) (by kernel_rfl) (by kernel_rfl) (fun _ _ _ h => h) (Or.inl ⟨by rfl, ?_⟩) hHeld ?_; rotate_left; (focus (intro w hSw; (try dsimp only at hSw); go_simp; (have hq := BlkAt.later HM4.out hSw; have c0 := BlkAt.cell hq (j := 0) rfl; have c1 := BlkAt.cell hq (j := 1) rfl; have c2 := BlkAt.cell hq (j := 2) rfl; have c3 := BlkAt.cell hq (j := 3) rfl; have c4 := BlkAt.cell hq (j := 4) rfl; have c5 := BlkAt.cell hq (j := 5) rfl; have c6 := BlkAt.cell hq (j := 6) rfl; go_simp; try with_reducible rfl))); (try simp only [Act.put, List.setIfInBounds_toArray, List.set_cons_zero, List.set_cons_succ, List.getElem_toArray, List.getElem_cons_zero, List.getElem_cons_succ]))
  refine wpAnyH_at (m := #[true, true, true, true, true, true, true, true, true, true, true, true, false, false, false]) (by kernel_rfl) ?_
  (refine wpAnyH_ready (rs := [12]) (by kernel_rfl) (by simp) ?_; refine AllReadyH.cons rfl (fun K hK => ?_) AllReadyH.nil; go_simp; refine (HBS.out ba bc bn _ HBN.out (Bytes.later HO4.out hHeld)).mono ?_; rintro e y1 ⟨y, rfl, hy, hs⟩; refine hK.out _ _ ?_ (fun hHeldN => ?_); (focus ((try dsimp only); (exact hHeld.trans (hs.mono hHeld.size)))); clear hK K hHeld; have hHeld := hHeldN; clear hHeldN; (try simp only [Act.put, List.setIfInBounds_toArray, List.set_cons_zero, List.set_cons_succ, List.getElem_toArray, List.getElem_cons_zero, List.getElem_cons_succ]))
  obtain ⟨ya, yc, rfl⟩ := hy.form
  obtain ⟨yn, hyn⟩ : ∃ n, n = ML.length := ⟨_, rfl⟩
  rw [← hyn] at hy ⊢
  have HY := Lib.hid (HIB.out ya yc yn y1 hyn hy.bytes)
  clear hs hy hyn
  refine wpAnyH_at (m := #[true, true, true, true, true, true, true, true, true, true, true, true, true, false, false]) (by kernel_rfl) ?_
  (refine wpAnyH_ready (rs := [13]) (by kernel_rfl) (by simp) ?_; refine AllReadyH.cons rfl (fun K hK => ?_) AllReadyH.nil; go_simp; refine (HY.out).mono ?_; rintro e y2 ⟨z, rfl, hz, hs⟩; have HZ2 := Lib.hid hz.bytes; refine hK.out _ _ ?_ (fun hHeldN => ?_); (focus ((try dsimp only); (exact hHeld.trans (hs.mono hHeld.size)))); clear hK K hHeld; have hHeld := hHeldN; clear hHeldN; (try simp only [Act.put, List.setIfInBounds_toArray, List.set_cons_zero, List.set_cons_succ, List.getElem_toArray, List.getElem_cons_zero, List.getElem_cons_succ]))
  clear hs hz
  (refine wpAnyH_take (i := 14) (v := ?_) rfl (by kernel_rfl) (by kernel_rfl) (by kernel_rfl) (fun _ _ _ h => h) (Or.inl ⟨by rfl, ?_⟩) hHeld ?_; rotate_left; (focus (intro w hSw; (try dsimp only at hSw); go_simp; try with_reducible rfl)); (try simp only [Act.put, List.setIfInBounds_toArray, List.set_cons_zero, List.set_cons_succ, List.getElem_toArray, List.getElem_cons_zero, List.getElem_cons_succ]))
  refine wpAnyH_done (by kernel_rfl) ?_ _
  have HB5 := Lib.hid (HB4.out.trans (hHeld.mono HB4.out.size))
  clear hHeld
  go_wp2_with fail
  go_ret
  exact ⟨_, rfl, HZ2.out, HB5.out⟩
end Go.Proofs.Ytnhkkpcepppgoaa

namespace Go.Proofs.Ytnhkkpcepppgoaa
open Go.RowKit
attribute [local go_sem ↓] Go.wp_at_zero Go.wp_at_succ

theorem repP_no {l : List UInt8} (he : echE l ≠ 0) : repP l = [] := by unfold repP; rw [if_neg he]
theorem repP_yes {l : List UInt8} (he : echE l = 0) : repP l = repL l := by unfold repP; rw [if_pos he]
theorem replyW_any (v : Value) (l : List UInt8) (hl : l.length ≤ 70000) (wm : World) (hv : Bytes wm v l) :
    Calls Try.prog 42 #[v] wm fun e w' => ∃ x, e = .returned (.tuple #[x, .int .i64 (echE l : Nat)]) ∧ OwnB w' wm.heap.size x (repP l) ∧ Below wm.heap.size wm w' := by
  by_cases he : echE l = 0
  · rw [repP_yes he, he]; exact reply_yes v l hl wm hv he
  · rw [repP_no he]; exact reply_no v l hl wm hv he

set_option maxHeartbeats 8000000 in
set_option maxRecDepth 100000 in
theorem ec_a (pa : Option Addr) (pc pn : Nat) (w : World) (h1 : (70000 : Int) < pn) :
    Calls Try.prog 7 #[.slice pa pn pc] w fun e w' => e = .returned (.bool true) ∧ Below w.heap.size w w' := by
  go_enter Try.func7, Try.ntmps7
  go_wp2_with fail
  refine (known4_any _).mono ?_
  rintro e w1 ⟨rfl, hb1⟩
  have HB1 := Lib.hid hb1
  clear hb1
  go_wp2_with fail
  go_ret
  exact ⟨rfl, HB1.out⟩
set_option maxHeartbeats 8000000 in
set_option maxRecDepth 100000 in
theorem ec_f (pa : Option Addr) (pc : Nat) (l : List UInt8) (w : World) (hv : Bytes w (.slice pa l.length pc) l) (hl : l.length ≤ 70000) (hz : flt l ≠ 0) :
    Calls Try.prog 7 #[.slice pa l.length pc] w fun e w' => e = .returned (.bool true) ∧ Below w.heap.size w w' := by
  have he : echE l = 4 := by exact echE_f hz
  obtain ⟨pn, hpn⟩ : ∃ n, n = l.length := ⟨_, rfl⟩
  have k1 : (pn : Int) ≤ 70000 := by omega
  have HV : Hid (∀ W, Below w.heap.size w W → Bytes W (.slice pa pn pc) l) := fun W hb => by rw [hpn]; exact hv.later hb
  have hp := prsR_any _ l (by omega) w hv
  obtain ⟨h, hh⟩ : ∃ h, h = hdP l := ⟨_, rfl⟩
  obtain ⟨P, hP⟩ : ∃ P, P = plP l := ⟨_, rfl⟩
  obtain ⟨O, hO⟩ : ∃ P, P = opP l := ⟨_, rfl⟩
  obtain ⟨f, hfe⟩ : ∃ f, f = flt l := ⟨_, rfl⟩
  unfold PrsR at hp
  rw [← hh, ← hP, ← hO, ← hfe, ← hpn] at hp
  have HP := Lib.hid hp
  obtain ⟨X, hX⟩ : ∃ X, X = repP l := ⟨_, rfl⟩
  have HRW : Hid (∀ W, Below w.heap.size w W → Calls Try.prog 42 #[.slice pa pn pc] W fun e w' => ∃ x, e = .returned (.tuple #[x, .int .i64 4]) ∧ OwnB w' W.heap.size x X ∧ Below W.heap.size W w') := fun W hb => by
    have h9 := replyW_any _ l (by omega) W (HV.out W hb)
    rw [he, ← hX] at h9
    exact h9
  have HEW : Hid (∀ W, Below w.heap.size w W → Calls Try.prog 43 #[.slice pa pn pc] W fun e w' => e = .returned (.bool false) ∧ Below W.heap.size W w') := fun W hb => by
    have h9 := echoI_any _ l (by omega) W (HV.out W hb)
    rw [he] at h9
    exact h9
  have HER : Hid (∀ W, Below w.heap.size w W → Calls Try.prog 44 #[.slice pa pn pc] W fun e w' => e = .returned (.bool false) ∧ Below W.heap.size W w') := fun W hb => by
    have h9 := echoR_any _ l (by omega) W (HV.out W hb)
    rw [he] at h9
    exact h9
  have k5 : ((f : Int) != 0) = true := by rw [bne_iff_ne]; omega
  have hX0 : X = [] := by rw [hX]; exact repP_no (by rw [he]; decide)
  subst hX0
  rw [← hpn]
  clear hpn hv hl hp hh hP hO hfe he hz
  go_enter Try.func7, Try.ntmps7
  go_wp2_with fail
  refine HP.out.mono ?_
  rintro e w1 ⟨u, v, rfl, hu, hvv, hb1⟩
  obtain ⟨ua, uc, rfl⟩ := hu.form
  obtain ⟨va, vc, rfl⟩ := hvv.form
  obtain ⟨on, hon⟩ : ∃ n, n = O.length := ⟨_, rfl⟩
  obtain ⟨vn, hvn⟩ : ∃ n, n = P.length := ⟨_, rfl⟩
  rw [← hon, ← hvn]
  have HB1 := Lib.hid (hb1.alloc hb1.size (.cells #[.int .u8 (h.tos : Nat), .int .u16 (h.id : Nat), .bool h.ev, .bool h.df, .bool h.mf, .int .i64 h.off, .int .u8 (h.ttl : Nat), .int .u8 (h.pr : Nat), .int .u32 (h.src : Nat), .int .u32 (h.dst : Nat), .slice ua on uc] 28))
  clear hu hvv hb1 hon hvn
  go_wp2_with fail
  refine (HRW.out _ HB1.out).mono ?_
  rintro e w2 ⟨q, rfl, hoq, hb2⟩
  obtain ⟨qa, qc, rfl⟩ := hoq.form
  have HB2 := Lib.hid (HB1.out.trans (hb2.mono HB1.out.size))
  have HX2 := Lib.hid hoq.bytes
  rw [List.length_nil] at HX2 ⊢
  clear hX
  clear hoq hb2
  go_wp2_with fail
  refine (HEW.out _ HB2.out).mono ?_
  rintro e w3 ⟨rfl, hb3⟩
  have HB3 := Lib.hid (HB2.out.trans (hb3.mono HB2.out.size))
  have HX3 := Lib.hid ((show Bytes _ _ _ from HX2.out).later hb3)
  clear hb3 HX2
  go_wp2_with fail
  refine (HER.out _ HB3.out).mono ?_
  rintro e w4 ⟨rfl, hb4⟩
  have HB4 := Lib.hid (HB3.out.trans (hb4.mono HB3.out.size))
  have HX4 := Lib.hid ((show Bytes _ _ _ from HX3.out).later hb4)
  clear hb4 HX3
  go_wp2_with fail
  refine (num4_any 4 _).mono ?_
  rintro e w5 ⟨rfl, rfl⟩
  go_wp2_with fail
  refine (known4_any _).mono ?_
  rintro e w6 ⟨rfl, hb6⟩
  have HB6 := Lib.hid (HB4.out.trans (hb6.mono HB4.out.size))
  clear hb6
  go_wp2_with fail
  go_ret
  exact ⟨rfl, HB6.out⟩
set_option maxHeartbeats 8000000 in
set_option maxRecDepth 100000 in
theorem ec_s (pa : Option Addr) (pc : Nat) (l : List UInt8) (w : World) (hv : Bytes w (.slice pa l.length pc) l) (hl : l.length ≤ 70000) (hz : flt l = 0) (hn : echB (hdP l) (plP l) = false) :
    Calls Try.prog 7 #[.slice pa l.length pc] w fun e w' => e = .returned (.bool true) ∧ Below w.heap.size w w' := by
  have he : echE l = 7 := by rw [echE_z hz, hn]; rfl
  obtain ⟨pn, hpn⟩ : ∃ n, n = l.length := ⟨_, rfl⟩
  have k1 : (pn : Int) ≤ 70000 := by omega
  have HV : Hid (∀ W, Below w.heap.size w W → Bytes W (.slice pa pn pc) l) := fun W hb => by rw [hpn]; exact hv.later hb
  have hp := prsR_any _ l (by omega) w hv
  obtain ⟨h, hh⟩ : ∃ h, h = hdP l := ⟨_, rfl⟩
  obtain ⟨P, hP⟩ : ∃ P, P = plP l := ⟨_, rfl⟩
  obtain ⟨O, hO⟩ : ∃ P, P = opP l := ⟨_, rfl⟩
  obtain ⟨f, hfe⟩ : ∃ f, f = flt l := ⟨_, rfl⟩
  unfold PrsR at hp
  rw [← hh, ← hP, ← hO, ← hfe, ← hpn] at hp
  have HP := Lib.hid hp
  obtain ⟨X, hX⟩ : ∃ X, X = repP l := ⟨_, rfl⟩
  have HRW : Hid (∀ W, Below w.heap.size w W → Calls Try.prog 42 #[.slice pa pn pc] W fun e w' => ∃ x, e = .returned (.tuple #[x, .int .i64 7]) ∧ OwnB w' W.heap.size x X ∧ Below W.heap.size W w') := fun W hb => by
    have h9 := replyW_any _ l (by omega) W (HV.out W hb)
    rw [he, ← hX] at h9
    exact h9
  have HEW : Hid (∀ W, Below w.heap.size w W → Calls Try.prog 43 #[.slice pa pn pc] W fun e w' => e = .returned (.bool false) ∧ Below W.heap.size W w') := fun W hb => by
    have h9 := echoI_any _ l (by omega) W (HV.out W hb)
    rw [he] at h9
    exact h9
  have HER : Hid (∀ W, Below w.heap.size w W → Calls Try.prog 44 #[.slice pa pn pc] W fun e w' => e = .returned (.bool false) ∧ Below W.heap.size W w') := fun W hb => by
    have h9 := echoR_any _ l (by omega) W (HV.out W hb)
    rw [he] at h9
    exact h9
  have k5 : ((f : Int) != 0) = false := by rw [bne_eq_false_iff_eq]; omega
  have hX0 : X = [] := by rw [hX]; exact repP_no (by rw [he]; decide)
  subst hX0
  rw [← hpn]
  clear hpn hv hl hp hh hP hO hfe he hz hn
  go_enter Try.func7, Try.ntmps7
  go_wp2_with fail
  refine HP.out.mono ?_
  rintro e w1 ⟨u, v, rfl, hu, hvv, hb1⟩
  obtain ⟨ua, uc, rfl⟩ := hu.form
  obtain ⟨va, vc, rfl⟩ := hvv.form
  obtain ⟨on, hon⟩ : ∃ n, n = O.length := ⟨_, rfl⟩
  obtain ⟨vn, hvn⟩ : ∃ n, n = P.length := ⟨_, rfl⟩
  rw [← hon, ← hvn]
  have HB1 := Lib.hid (hb1.alloc hb1.size (.cells #[.int .u8 (h.tos : Nat), .int .u16 (h.id : Nat), .bool h.ev, .bool h.df, .bool h.mf, .int .i64 h.off, .int .u8 (h.ttl : Nat), .int .u8 (h.pr : Nat), .int .u32 (h.src : Nat), .int .u32 (h.dst : Nat), .slice ua on uc] 28))
  clear hu hvv hb1 hon hvn
  go_wp2_with fail
  refine (HRW.out _ HB1.out).mono ?_
  rintro e w2 ⟨q, rfl, hoq, hb2⟩
  obtain ⟨qa, qc, rfl⟩ := hoq.form
  have HB2 := Lib.hid (HB1.out.trans (hb2.mono HB1.out.size))
  have HX2 := Lib.hid hoq.bytes
  rw [List.length_nil] at HX2 ⊢
  clear hX
  clear hoq hb2
  go_wp2_with fail
  refine (HEW.out _ HB2.out).mono ?_
  rintro e w3 ⟨rfl, hb3⟩
  have HB3 := Lib.hid (HB2.out.trans (hb3.mono HB2.out.size))
  have HX3 := Lib.hid ((show Bytes _ _ _ from HX2.out).later hb3)
  clear hb3 HX2
  go_wp2_with fail
  refine (HER.out _ HB3.out).mono ?_
  rintro e w4 ⟨rfl, hb4⟩
  have HB4 := Lib.hid (HB3.out.trans (hb4.mono HB3.out.size))
  have HX4 := Lib.hid ((show Bytes _ _ _ from HX3.out).later hb4)
  clear hb4 HX3
  go_wp2_with fail
  refine (HER.out _ HB4.out).mono ?_
  rintro e w5 ⟨rfl, hb5⟩
  have HB5 := Lib.hid (HB4.out.trans (hb5.mono HB4.out.size))
  clear hb5
  go_wp2_with fail
  refine (num4_any 7 _).mono ?_
  rintro e w6 ⟨rfl, rfl⟩
  go_wp2_with fail
  refine (known4_any _).mono ?_
  rintro e w7 ⟨rfl, hb7⟩
  have HB7 := Lib.hid (HB5.out.trans (hb7.mono HB5.out.size))
  clear hb7
  go_wp2_with fail
  go_ret
  exact ⟨rfl, HB7.out⟩
set_option maxHeartbeats 8000000 in
set_option maxRecDepth 100000 in
theorem ec_y (pa : Option Addr) (pc : Nat) (l : List UInt8) (w : World) (hv : Bytes w (.slice pa l.length pc) l) (hl : l.length ≤ 70000) (hz : flt l = 0) (hn : echB (hdP l) (plP l) = true) :
    Calls Try.prog 7 #[.slice pa l.length pc] w fun e w' => e = .returned (.bool true) ∧ Below w.heap.size w w' := by
  have he : echE l = 0 := by rw [echE_z hz, hn]; rfl
  obtain ⟨pn, hpn⟩ : ∃ n, n = l.length := ⟨_, rfl⟩
  have k1 : (pn : Int) ≤ 70000 := by omega
  have HV : Hid (∀ W, Below w.heap.size w W → Bytes W (.slice pa pn pc) l) := fun W hb => by rw [hpn]; exact hv.later hb
  have hp := prsR_any _ l (by omega) w hv
  obtain ⟨h, hh⟩ : ∃ h, h = hdP l := ⟨_, rfl⟩
  obtain ⟨P, hP⟩ : ∃ P, P = plP l := ⟨_, rfl⟩
  obtain ⟨O, hO⟩ : ∃ P, P = opP l := ⟨_, rfl⟩
  obtain ⟨f, hfe⟩ : ∃ f, f = flt l := ⟨_, rfl⟩
  unfold PrsR at hp
  rw [← hh, ← hP, ← hO, ← hfe, ← hpn] at hp
  have HP := Lib.hid hp
  obtain ⟨X, hX⟩ : ∃ X, X = repP l := ⟨_, rfl⟩
  have HRW : Hid (∀ W, Below w.heap.size w W → Calls Try.prog 42 #[.slice pa pn pc] W fun e w' => ∃ x, e = .returned (.tuple #[x, .int .i64 0]) ∧ OwnB w' W.heap.size x X ∧ Below W.heap.size W w') := fun W hb => by
    have h9 := replyW_any _ l (by omega) W (HV.out W hb)
    rw [he, ← hX] at h9
    exact h9
  have HRR0 : Hid (∀ W, Below w.heap.size w W → Calls Try.prog 45 #[.slice pa pn pc] W fun e w' => ∃ x, e = .returned x ∧ Bytes w' x X ∧ Below W.heap.size W w') := fun W hb => by
    have h9 := replyR_yes _ l (by omega) W (HV.out W hb) he
    rw [← repP_yes he, ← hX] at h9
    exact h9
  have HEW : Hid (∀ W, Below w.heap.size w W → Calls Try.prog 43 #[.slice pa pn pc] W fun e w' => e = .returned (.bool true) ∧ Below W.heap.size W w') := fun W hb => by
    have h9 := echoI_any _ l (by omega) W (HV.out W hb)
    rw [he] at h9
    exact h9
  have HER : Hid (∀ W, Below w.heap.size w W → Calls Try.prog 44 #[.slice pa pn pc] W fun e w' => e = .returned (.bool true) ∧ Below W.heap.size W w') := fun W hb => by
    have h9 := echoR_any _ l (by omega) W (HV.out W hb)
    rw [he] at h9
    exact h9
  have k5 : ((f : Int) != 0) = false := by rw [bne_eq_false_iff_eq]; omega
  rw [← hpn]
  clear hpn hv hl hp hh hP hO hfe he hz
  go_enter Try.func7, Try.ntmps7
  go_wp2_with fail
  refine HP.out.mono ?_
  rintro e w1 ⟨u, v, rfl, hu, hvv, hb1⟩
  obtain ⟨ua, uc, rfl⟩ := hu.form
  obtain ⟨va, vc, rfl⟩ := hvv.form
  obtain ⟨on, hon⟩ : ∃ n, n = O.length := ⟨_, rfl⟩
  obtain ⟨vn, hvn⟩ : ∃ n, n = P.length := ⟨_, rfl⟩
  rw [← hon, ← hvn]
  have HB1 := Lib.hid (hb1.alloc hb1.size (.cells #[.int .u8 (h.tos : Nat), .int .u16 (h.id : Nat), .bool h.ev, .bool h.df, .bool h.mf, .int .i64 h.off, .int .u8 (h.ttl : Nat), .int .u8 (h.pr : Nat), .int .u32 (h.src : Nat), .int .u32 (h.dst : Nat), .slice ua on uc] 28))
  clear hu hvv hb1 hon hvn
  go_wp2_with fail
  refine (HRW.out _ HB1.out).mono ?_
  rintro e w2 ⟨q, rfl, hoq, hb2⟩
  obtain ⟨qa, qc, rfl⟩ := hoq.form
  have HB2 := Lib.hid (HB1.out.trans (hb2.mono HB1.out.size))
  have HX2 := Lib.hid hoq.bytes
  obtain ⟨qn, hqn⟩ : ∃ n, n = X.length := ⟨_, rfl⟩
  rw [← hqn] at HX2 ⊢
  clear hqn hX hn
  clear hoq hb2
  go_wp2_with fail
  refine (HEW.out _ HB2.out).mono ?_
  rintro e w3 ⟨rfl, hb3⟩
  have HB3 := Lib.hid (HB2.out.trans (hb3.mono HB2.out.size))
  have HX3 := Lib.hid ((show Bytes _ _ _ from HX2.out).later hb3)
  clear hb3 HX2
  go_wp2_with fail
  refine (HER.out _ HB3.out).mono ?_
  rintro e w4 ⟨rfl, hb4⟩
  have HB4 := Lib.hid (HB3.out.trans (hb4.mono HB3.out.size))
  have HX4 := Lib.hid ((show Bytes _ _ _ from HX3.out).later hb4)
  clear hb4 HX3
  go_wp2_with fail
  refine (HER.out _ HB4.out).mono ?_
  rintro e w5 ⟨rfl, hb5⟩
  have HB5 := Lib.hid (HB4.out.trans (hb5.mono HB4.out.size))
  have HX5 := Lib.hid ((show Bytes _ _ X from HX4.out).later hb5)
  clear hb5 HX4
  go_wp2_with fail
  have HRR := Lib.hid (fun W (hb : Below w5.heap.size w5 W) => HRR0.out W (HB5.out.trans (hb.mono HB5.out.size)))
  obtain ⟨K, hK⟩ : ∃ K, X = K := ⟨_, rfl⟩
  (refine wp_region_held_drew (S := (fun w' => Below w5.heap.size w5 w')) (by kernel_rfl) ?_ (fun hHeld => ?_); (focus ((try dsimp only); (exact (Below.refl _ _).drew))))
  (try dsimp only at hHeld)
  obtain ⟨w0, hw0⟩ : ∃ w0, w0 = World.drew w5 := ⟨_, rfl⟩
  rw [← hw0]
  rw [← hw0] at hHeld
  clear hw0
  (refine wpAnyH_take (i := 0) (v := ?_) rfl (by kernel_rfl) (by kernel_rfl) (by kernel_rfl) (fun _ _ _ h => h) (Or.inl ⟨by rfl, ?_⟩) hHeld ?_; rotate_left; (focus (intro w hSw; (try dsimp only at hSw); go_simp; try with_reducible rfl)); (try simp only [Act.put, List.setIfInBounds_toArray, List.set_cons_zero, List.set_cons_succ, List.getElem_toArray, List.getElem_cons_zero])); (refine wpAnyH_take (i := 2) (v := ?_) rfl (by kernel_rfl) (by kernel_rfl) (by kernel_rfl) (fun _ _ _ h => h) (Or.inl ⟨by rfl, ?_⟩) hHeld ?_; rotate_left; (focus (intro w hSw; (try dsimp only at hSw); go_simp; try with_reducible rfl)); (try simp only [Act.put, List.setIfInBounds_toArray, List.set_cons_zero, List.set_cons_succ, List.getElem_toArray, List.getElem_cons_zero, List.getElem_cons_succ]))
  (refine wpAnyH_take (i := 1) (v := ?_) rfl (by kernel_rfl) (by kernel_rfl) (by kernel_rfl) (fun _ _ _ h => h) (Or.inl ⟨by rfl, ?_⟩) hHeld ?_; rotate_left; (focus (intro w hSw; (try dsimp only at hSw); go_simp; (have hz := (Bytes.later HX5.out hSw).str (P := Try.prog) (src := 22) (dst := 9) Try.underlying22 Try.underlying5 Try.underlying9; rw [hK] at hz; go_simp; try with_reducible rfl))); (try simp only [Act.put, List.setIfInBounds_toArray, List.set_cons_zero, List.set_cons_succ, List.getElem_toArray, List.getElem_cons_zero, List.getElem_cons_succ]))
  refine wpAnyH_at (m := #[true, true, true, false, false, false, false, false, false, false, false, false, false, false, false]) (by kernel_rfl) ?_
  (refine wpAnyH_ready (rs := [3]) (by kernel_rfl) (by simp) ?_; refine AllReadyH.cons rfl (fun K hK => ?_) AllReadyH.nil; go_simp; refine (HRR.out _ hHeld).mono ?_; rintro e y3 ⟨x, rfl, hx, hs⟩; refine hK.out _ _ ?_ (fun hHeldN => ?_); (focus ((try dsimp only); (exact hHeld.trans (hs.mono hHeld.size)))); clear hK K hHeld; have hHeld := hHeldN; clear hHeldN; (try simp only [Act.put, List.setIfInBounds_toArray, List.set_cons_zero, List.set_cons_succ, List.getElem_toArray, List.getElem_cons_zero, List.getElem_cons_succ]))
  have HX := Lib.hid hx
  have HBX := Lib.hid hHeld
  obtain ⟨xa, xc, rfl⟩ := hx.form
  clear hs hx hHeld
  refine wpAnyH_str (S' := fun w' => Below y3.heap.size y3 w') (fun w' h => HBX.out.trans (h.mono HBX.out.size)) _ _ _ _ ?_
  have hHeld := Below.refl y3.heap.size y3
  refine wpAnyH_at (m := #[true, true, true, true, false, false, false, false, false, false, false, false, false, false, false]) (by kernel_rfl) ?_
  (refine wpAnyH_take (i := 4) (v := ?_) rfl (by kernel_rfl) (by kernel_rfl) (by kernel_rfl) (fun _ _ _ h => h) (Or.inl ⟨by rfl, ?_⟩) hHeld ?_; rotate_left; (focus (intro w hSw; (try dsimp only at hSw); go_simp; (have hz := (Bytes.later HX.out hSw).str (P := Try.prog) (src := 22) (dst := 9) Try.underlying22 Try.underlying5 Try.underlying9; rw [hK] at hz; go_simp; try with_reducible rfl))); (try simp only [Act.put, List.setIfInBounds_toArray, List.set_cons_zero, List.set_cons_succ, List.getElem_toArray, List.getElem_cons_zero, List.getElem_cons_succ]))
  (refine wpAnyH_take (i := 5) (v := ?_) rfl (by kernel_rfl) (by kernel_rfl) (by kernel_rfl) (fun _ _ _ h => h) (Or.inl ⟨by rfl, ?_⟩) hHeld ?_; rotate_left; (focus (intro w hSw; (try dsimp only at hSw); go_simp; try with_reducible rfl)); (try simp only [Act.put, List.setIfInBounds_toArray, List.set_cons_zero, List.set_cons_succ, List.getElem_toArray, List.getElem_cons_zero, List.getElem_cons_succ])); (refine wpAnyH_take (i := 6) (v := ?_) rfl (by kernel_rfl) (by kernel_rfl) (by kernel_rfl) (fun _ _ _ h => h) (Or.inl ⟨by rfl, ?_⟩) hHeld ?_; rotate_left; (focus (intro w hSw; (try dsimp only at hSw); go_simp; try with_reducible rfl)); (try simp only [Act.put, List.setIfInBounds_toArray, List.set_cons_zero, List.set_cons_succ, List.getElem_toArray, List.getElem_cons_zero, List.getElem_cons_succ])); (refine wpAnyH_take (i := 7) (v := ?_) rfl (by kernel_rfl) (by kernel_rfl) (by kernel_rfl) (fun _ _ _ h => h) (Or.inl ⟨by rfl, ?_⟩) hHeld ?_; rotate_left; (focus (intro w hSw; (try dsimp only at hSw); go_simp; try with_reducible rfl)); (try simp only [Act.put, List.setIfInBounds_toArray, List.set_cons_zero, List.set_cons_succ, List.getElem_toArray, List.getElem_cons_zero, List.getElem_cons_succ]))
  refine wpAnyH_at (m := #[true, true, true, true, true, true, true, true, false, false, false, false, false, false, false]) (by kernel_rfl) ?_
  (refine wpAnyH_ready (rs := [8]) (by kernel_rfl) (by simp) ?_; refine AllReadyH.cons rfl (fun K hK => ?_) AllReadyH.nil; go_simp; refine (num4_any 0 y3).mono ?_; rintro e y4 ⟨rfl, rfl⟩; refine hK.out _ _ ?_ (fun hHeldN => ?_); (focus ((try dsimp only); (exact hHeld))); clear hK K hHeld; have hHeld := hHeldN; clear hHeldN; (try simp only [Act.put, List.setIfInBounds_toArray, List.set_cons_zero, List.set_cons_succ, List.getElem_toArray, List.getElem_cons_zero, List.getElem_cons_succ]))
  refine wpAnyH_at (m := #[true, true, true, true, true, true, true, true, true, false, false, false, false, false, false]) (by kernel_rfl) ?_
  (refine wpAnyH_take (i := 9) (v := ?_) rfl (by kernel_rfl) (by kernel_rfl) (by kernel_rfl) (fun _ _ _ h => h) (Or.inl ⟨by rfl, ?_⟩) hHeld ?_; rotate_left; (focus (intro w hSw; (try dsimp only at hSw); go_simp; try with_reducible rfl)); (try simp only [Act.put, List.setIfInBounds_toArray, List.set_cons_zero, List.set_cons_succ, List.getElem_toArray, List.getElem_cons_zero, List.getElem_cons_succ])); (refine wpAnyH_take (i := 10) (v := ?_) rfl (by kernel_rfl) (by kernel_rfl) (by kernel_rfl) (fun _ _ _ h => h) (Or.inl ⟨by rfl, ?_⟩) hHeld ?_; rotate_left; (focus (intro w hSw; (try dsimp only at hSw); go_simp; try with_reducible rfl)); (try simp only [Act.put, List.setIfInBounds_toArray, List.set_cons_zero, List.set_cons_succ, List.getElem_toArray, List.getElem_cons_zero, List.getElem_cons_succ])); (refine wpAnyH_take (i := 11) (v := ?_) rfl (by kernel_rfl) (by kernel_rfl) (by kernel_rfl) (fun _ _ _ h => h) (Or.inl ⟨by rfl, ?_⟩) hHeld ?_; rotate_left; (focus (intro w hSw; (try dsimp only at hSw); go_simp; try with_reducible rfl)); (try simp only [Act.put, List.setIfInBounds_toArray, List.set_cons_zero, List.set_cons_succ, List.getElem_toArray, List.getElem_cons_zero, List.getElem_cons_succ]))
  refine wpAnyH_at (m := #[true, true, true, true, true, true, true, true, true, true, true, true, false, false, false]) (by kernel_rfl) ?_
  (refine wpAnyH_ready (rs := [12]) (by kernel_rfl) (by simp) ?_; refine AllReadyH.cons rfl (fun K hK => ?_) AllReadyH.nil; go_simp; refine (known4_any _).mono ?_; rintro e y5 ⟨rfl, hs⟩; refine hK.out _ _ ?_ (fun hHeldN => ?_); (focus ((try dsimp only); (exact hHeld.trans (hs.mono hHeld.size)))); clear hK K hHeld; have hHeld := hHeldN; clear hHeldN; (try simp only [Act.put, List.setIfInBounds_toArray, List.set_cons_zero, List.set_cons_succ, List.getElem_toArray, List.getElem_cons_zero, List.getElem_cons_succ]))
  clear hs
  refine wpAnyH_at (m := #[true, true, true, true, true, true, true, true, true, true, true, true, true, false, false]) (by kernel_rfl) ?_
  (refine wpAnyH_take (i := 13) (v := ?_) rfl (by kernel_rfl) (by kernel_rfl) (by kernel_rfl) (fun _ _ _ h => h) (Or.inl ⟨by rfl, ?_⟩) hHeld ?_; rotate_left; (focus (intro w hSw; (try dsimp only at hSw); go_simp; try with_reducible rfl)); (try simp only [Act.put, List.setIfInBounds_toArray, List.set_cons_zero, List.set_cons_succ, List.getElem_toArray, List.getElem_cons_zero, List.getElem_cons_succ])); (refine wpAnyH_take (i := 14) (v := ?_) rfl (by kernel_rfl) (by kernel_rfl) (by kernel_rfl) (fun _ _ _ h => h) (Or.inl ⟨by rfl, ?_⟩) hHeld ?_; rotate_left; (focus (intro w hSw; (try dsimp only at hSw); go_simp; try with_reducible rfl)); (try simp only [Act.put, List.setIfInBounds_toArray, List.set_cons_zero, List.set_cons_succ, List.getElem_toArray, List.getElem_cons_zero, List.getElem_cons_succ]))
  refine wpAnyH_done (by kernel_rfl) ?_ _
  have HB8 := Lib.hid (HB5.out.trans ((HBX.out.trans (hHeld.mono HBX.out.size)).mono HB5.out.size))
  clear hHeld hK
  go_wp2_with fail
  go_ret
  exact ⟨rfl, HB8.out⟩
theorem icmpEchoes_walk (pv : Value) (l : List UInt8) (w : World) (hv : Bytes w pv l) (_ : l.length ≤ 9223372036854775807) :
    Calls Try.prog 7 #[pv] w fun e w' => e = .returned (.bool true) ∧ Below w.heap.size w w' := by
  obtain ⟨pa, pc, rfl⟩ := hv.form
  rcases Nat.lt_or_ge 70000 l.length with h1 | h1
  · exact ec_a pa pc _ w (by omega)
  · by_cases hf : flt l = 0
    · cases hb : echB (hdP l) (plP l) with
      | false => exact ec_s pa pc l w hv h1 hf hb
      | true => exact ec_y pa pc l w hv h1 hf hb
    · exact ec_f pa pc l w hv h1 hf
end Go.Proofs.Ytnhkkpcepppgoaa
