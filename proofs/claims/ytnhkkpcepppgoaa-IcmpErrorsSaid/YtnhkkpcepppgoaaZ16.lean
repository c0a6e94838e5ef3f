/- The walk of ref04.Error; Error, the program's and the reference's, in one contract each. -/
import Derived.Test.YtnhkkpcepppgoaaZ13
import Derived.Test.YtnhkkpcepppgoaaZ14
import Derived.Test.YtnhkkpcepppgoaaZ15

set_option linter.unusedSimpArgs false
set_option linter.unusedVariables false
namespace Go.Proofs.Ytnhkkpcepppgoaa
open Go.RowKit
attribute [local go_sem ↓] Go.wp_at_zero Go.wp_at_succ

set_option maxHeartbeats 8000000 in
set_option maxRecDepth 100000 in
theorem errR_b0 (k : Int) (pv : Value) (fr : Nat) (mtu : Int) (wm : World) (hpv : ∃ a n c, pv = .slice a n c) (k0 : k < 1) :
    Calls Try.prog 41 #[.int .i64 k, pv, .int .u32 (fr : Nat), .int .i64 mtu] wm fun e w' => e = .returned (.tuple #[.slice none 0 0, .int .i64 2]) ∧ Below wm.heap.size wm w' := by
  obtain ⟨a, n, c, rfl⟩ := hpv
  go_enter Try.func41, Try.ntmps41
  go_wp2_with fail
  go_ret2
  exact ⟨rfl, Below.refl _ _⟩
set_option maxHeartbeats 8000000 in
set_option maxRecDepth 100000 in
theorem errR_b1 (k : Int) (pv : Value) (fr : Nat) (mtu : Int) (wm : World) (hpv : ∃ a n c, pv = .slice a n c) (k0 : 3 < k) :
    Calls Try.prog 41 #[.int .i64 k, pv, .int .u32 (fr : Nat), .int .i64 mtu] wm fun e w' => e = .returned (.tuple #[.slice none 0 0, .int .i64 2]) ∧ Below wm.heap.size wm w' := by
  obtain ⟨a, n, c, rfl⟩ := hpv
  go_enter Try.func41, Try.ntmps41
  go_wp2_with fail
  go_ret2
  exact ⟨rfl, Below.refl _ _⟩
set_option maxHeartbeats 8000000 in
set_option maxRecDepth 100000 in
theorem errR_b2 (k : Int) (pv : Value) (fr : Nat) (mtu : Int) (wm : World) (hpv : ∃ a n c, pv = .slice a n c) (k0 : 1 ≤ k) (k1 : k ≤ 3) (k2 : mtu < 0) :
    Calls Try.prog 41 #[.int .i64 k, pv, .int .u32 (fr : Nat), .int .i64 mtu] wm fun e w' => e = .returned (.tuple #[.slice none 0 0, .int .i64 2]) ∧ Below wm.heap.size wm w' := by
  obtain ⟨a, n, c, rfl⟩ := hpv
  go_enter Try.func41, Try.ntmps41
  go_wp2_with fail
  go_ret2
  exact ⟨rfl, Below.refl _ _⟩
set_option maxHeartbeats 8000000 in
set_option maxRecDepth 100000 in
theorem errR_b3 (k : Int) (pv : Value) (fr : Nat) (mtu : Int) (wm : World) (hpv : ∃ a n c, pv = .slice a n c) (k0 : 1 ≤ k) (k1 : k ≤ 3) (k2 : 0 ≤ mtu) (k3 : 65535 < mtu) :
    Calls Try.prog 41 #[.int .i64 k, pv, .int .u32 (fr : Nat), .int .i64 mtu] wm fun e w' => e = .returned (.tuple #[.slice none 0 0, .int .i64 2]) ∧ Below wm.heap.size wm w' := by
  obtain ⟨a, n, c, rfl⟩ := hpv
  go_enter Try.func41, Try.ntmps41
  go_wp2_with fail
  go_ret2
  exact ⟨rfl, Below.refl _ _⟩
set_option maxHeartbeats 8000000 in
set_option maxRecDepth 100000 in
theorem errR_b4 (k : Int) (pv : Value) (fr : Nat) (mtu : Int) (wm : World) (hpv : ∃ a n c, pv = .slice a n c) (k0 : 1 ≤ k) (k1 : k ≤ 3) (k2 : 0 ≤ mtu) (k3 : mtu ≤ 65535) (k4 : (k != 2) = true) (k5 : (mtu != 0) = true) :
    Calls Try.prog 41 #[.int .i64 k, pv, .int .u32 (fr : Nat), .int .i64 mtu] wm fun e w' => e = .returned (.tuple #[.slice none 0 0, .int .i64 2]) ∧ Below wm.heap.size wm w' := by
  obtain ⟨a, n, c, rfl⟩ := hpv
  go_enter Try.func41, Try.ntmps41
  go_wp2_with fail
  go_ret2
  exact ⟨rfl, Below.refl _ _⟩
set_option maxHeartbeats 8000000 in
set_option maxRecDepth 100000 in
theorem errR_bytes1 (v : Value) (l : List UInt8) (hl : l.length ≤ 1000000) (fr : Nat) (mt : Nat) (hmt : mt = 0) (wm : World) (hv : Bytes wm v l) (hfl : flt l ≠ 0) :
    Calls Try.prog 41 #[.int .i64 1, v, .int .u32 (fr : Nat), .int .i64 (mt : Nat)] wm fun e w' => e = .returned (.tuple #[.slice none 0 0, .int .i64 4]) ∧ Below wm.heap.size wm w' := by
  subst hmt
  obtain ⟨a, c, rfl⟩ := hv.form
  have hp := prsR_any _ l hl _ hv
  have hmy := fun (W : World) (hb : Below wm.heap.size wm W) => mayIR_any _ l hl W (hv.later hb)
  have hok := hdP_ok l
  obtain ⟨h, hh⟩ : ∃ h, h = hdP l := ⟨_, rfl⟩
  obtain ⟨P, hP⟩ : ∃ P, P = plP l := ⟨_, rfl⟩
  obtain ⟨O, hO⟩ : ∃ P, P = opP l := ⟨_, rfl⟩
  obtain ⟨f, hf⟩ : ∃ f, f = flt l := ⟨_, rfl⟩
  obtain ⟨n, hn⟩ : ∃ n, n = l.length := ⟨_, rfl⟩
  have hma : maB l = (decide (f = 0) && ansB h P) := by unfold maB; rw [hh, hP, hf]
  rw [hma] at hmy
  unfold PrsR at hp
  rw [← hh, ← hP, ← hO, ← hf, ← hn] at hp
  rw [← hh] at hok
  have HV := Lib.hid hv
  rw [← hn] at hmy ⊢
  have HP := Lib.hid hp
  have HMY := Lib.hid hmy
  have HOK := Lib.hid hok
  have HE := Lib.hid (And.intro hh (And.intro hP (And.intro hf (And.intro hn hl))))
  clear hp hok hh hP hO hn hv hl hmy hma
  go_enter Try.func41, Try.ntmps41
  go_wp2_with fail
  refine HP.out.mono ?_
  rintro e w1 ⟨u, v, rfl, hu, hvv, hb1⟩
  obtain ⟨ua, uc, rfl⟩ := hu.form
  obtain ⟨pa, pc, rfl⟩ := hvv.form
  obtain ⟨on, hon⟩ : ∃ n, n = O.length := ⟨_, rfl⟩
  obtain ⟨pn, hpn⟩ : ∃ n, n = P.length := ⟨_, rfl⟩
  rw [← hon, ← hpn]
  have hb1a := hb1.alloc hb1.size (.cells #[.int .u8 (h.tos : Nat), .int .u16 (h.id : Nat), .bool h.ev, .bool h.df, .bool h.mf, .int .i64 h.off, .int .u8 (h.ttl : Nat), .int .u8 (h.pr : Nat), .int .u32 (h.src : Nat), .int .u32 (h.dst : Nat), .slice ua on uc] 28)
  have HB1 := Lib.hid hb1a
  have k5 : ((f : Int) != 0) = true := by rw [bne_iff_ne]; omega
  clear hu hvv hb1 hon hpn hf hfl hb1a
  go_wp2_with fail
  go_ret2
  exact ⟨rfl, HB1.out⟩
set_option maxHeartbeats 8000000 in
set_option maxRecDepth 100000 in
theorem errR_bytes2 (v : Value) (l : List UInt8) (hl : l.length ≤ 1000000) (fr : Nat) (mt : Nat) (hmt : mt ≤ 65535) (wm : World) (hv : Bytes wm v l) (hfl : flt l ≠ 0) :
    Calls Try.prog 41 #[.int .i64 2, v, .int .u32 (fr : Nat), .int .i64 (mt : Nat)] wm fun e w' => e = .returned (.tuple #[.slice none 0 0, .int .i64 4]) ∧ Below wm.heap.size wm w' := by
  obtain ⟨a, c, rfl⟩ := hv.form
  have hp := prsR_any _ l hl _ hv
  have hmy := fun (W : World) (hb : Below wm.heap.size wm W) => mayIR_any _ l hl W (hv.later hb)
  have hok := hdP_ok l
  obtain ⟨h, hh⟩ : ∃ h, h = hdP l := ⟨_, rfl⟩
  obtain ⟨P, hP⟩ : ∃ P, P = plP l := ⟨_, rfl⟩
  obtain ⟨O, hO⟩ : ∃ P, P = opP l := ⟨_, rfl⟩
  obtain ⟨f, hf⟩ : ∃ f, f = flt l := ⟨_, rfl⟩
  obtain ⟨n, hn⟩ : ∃ n, n = l.length := ⟨_, rfl⟩
  have hma : maB l = (decide (f = 0) && ansB h P) := by unfold maB; rw [hh, hP, hf]
  rw [hma] at hmy
  unfold PrsR at hp
  rw [← hh, ← hP, ← hO, ← hf, ← hn] at hp
  rw [← hh] at hok
  have HV := Lib.hid hv
  rw [← hn] at hmy ⊢
  have HP := Lib.hid hp
  have HMY := Lib.hid hmy
  have HOK := Lib.hid hok
  have HE := Lib.hid (And.intro hh (And.intro hP (And.intro hf (And.intro hn hl))))
  have k1 : (mt : Int) ≤ 65535 := by omega
  clear hp hok hh hP hO hn hv hl hmt hmy hma
  go_enter Try.func41, Try.ntmps41
  go_wp2_with fail
  refine HP.out.mono ?_
  rintro e w1 ⟨u, v, rfl, hu, hvv, hb1⟩
  obtain ⟨ua, uc, rfl⟩ := hu.form
  obtain ⟨pa, pc, rfl⟩ := hvv.form
  obtain ⟨on, hon⟩ : ∃ n, n = O.length := ⟨_, rfl⟩
  obtain ⟨pn, hpn⟩ : ∃ n, n = P.length := ⟨_, rfl⟩
  rw [← hon, ← hpn]
  have hb1a := hb1.alloc hb1.size (.cells #[.int .u8 (h.tos : Nat), .int .u16 (h.id : Nat), .bool h.ev, .bool h.df, .bool h.mf, .int .i64 h.off, .int .u8 (h.ttl : Nat), .int .u8 (h.pr : Nat), .int .u32 (h.src : Nat), .int .u32 (h.dst : Nat), .slice ua on uc] 28)
  have HB1 := Lib.hid hb1a
  have k5 : ((f : Int) != 0) = true := by rw [bne_iff_ne]; omega
  clear hu hvv hb1 hon hpn hf hfl hb1a
  go_wp2_with fail
  go_ret2
  exact ⟨rfl, HB1.out⟩
set_option maxHeartbeats 8000000 in
set_option maxRecDepth 100000 in
theorem errR_bytes3 (v : Value) (l : List UInt8) (hl : l.length ≤ 1000000) (fr : Nat) (mt : Nat) (hmt : mt = 0) (wm : World) (hv : Bytes wm v l) (hfl : flt l ≠ 0) :
    Calls Try.prog 41 #[.int .i64 3, v, .int .u32 (fr : Nat), .int .i64 (mt : Nat)] wm fun e w' => e = .returned (.tuple #[.slice none 0 0, .int .i64 4]) ∧ Below wm.heap.size wm w' := by
  subst hmt
  obtain ⟨a, c, rfl⟩ := hv.form
  have hp := prsR_any _ l hl _ hv
  have hmy := fun (W : World) (hb : Below wm.heap.size wm W) => mayIR_any _ l hl W (hv.later hb)
  have hok := hdP_ok l
  obtain ⟨h, hh⟩ : ∃ h, h = hdP l := ⟨_, rfl⟩
  obtain ⟨P, hP⟩ : ∃ P, P = plP l := ⟨_, rfl⟩
  obtain ⟨O, hO⟩ : ∃ P, P = opP l := ⟨_, rfl⟩
  obtain ⟨f, hf⟩ : ∃ f, f = flt l := ⟨_, rfl⟩
  obtain ⟨n, hn⟩ : ∃ n, n = l.length := ⟨_, rfl⟩
  have hma : maB l = (decide (f = 0) && ansB h P) := by unfold maB; rw [hh, hP, hf]
  rw [hma] at hmy
  unfold PrsR at hp
  rw [← hh, ← hP, ← hO, ← hf, ← hn] at hp
  rw [← hh] at hok
  have HV := Lib.hid hv
  rw [← hn] at hmy ⊢
  have HP := Lib.hid hp
  have HMY := Lib.hid hmy
  have HOK := Lib.hid hok
  have HE := Lib.hid (And.intro hh (And.intro hP (And.intro hf (And.intro hn hl))))
  clear hp hok hh hP hO hn hv hl hmy hma
  go_enter Try.func41, Try.ntmps41
  go_wp2_with fail
  refine HP.out.mono ?_
  rintro e w1 ⟨u, v, rfl, hu, hvv, hb1⟩
  obtain ⟨ua, uc, rfl⟩ := hu.form
  obtain ⟨pa, pc, rfl⟩ := hvv.form
  obtain ⟨on, hon⟩ : ∃ n, n = O.length := ⟨_, rfl⟩
  obtain ⟨pn, hpn⟩ : ∃ n, n = P.length := ⟨_, rfl⟩
  rw [← hon, ← hpn]
  have hb1a := hb1.alloc hb1.size (.cells #[.int .u8 (h.tos : Nat), .int .u16 (h.id : Nat), .bool h.ev, .bool h.df, .bool h.mf, .int .i64 h.off, .int .u8 (h.ttl : Nat), .int .u8 (h.pr : Nat), .int .u32 (h.src : Nat), .int .u32 (h.dst : Nat), .slice ua on uc] 28)
  have HB1 := Lib.hid hb1a
  have k5 : ((f : Int) != 0) = true := by rw [bne_iff_ne]; omega
  clear hu hvv hb1 hon hpn hf hfl hb1a
  go_wp2_with fail
  go_ret2
  exact ⟨rfl, HB1.out⟩
set_option maxHeartbeats 8000000 in
set_option maxRecDepth 100000 in
theorem errR_state1 (v : Value) (l : List UInt8) (hl : l.length ≤ 1000000) (fr : Nat) (mt : Nat) (hmt : mt = 0) (wm : World) (hv : Bytes wm v l) (hfl : flt l = 0) (han : ansB (hdP l) (plP l) = false) :
    Calls Try.prog 41 #[.int .i64 1, v, .int .u32 (fr : Nat), .int .i64 (mt : Nat)] wm fun e w' => e = .returned (.tuple #[.slice none 0 0, .int .i64 7]) ∧ Below wm.heap.size wm w' := by
  subst hmt
  obtain ⟨a, c, rfl⟩ := hv.form
  have hp := prsR_any _ l hl _ hv
  have hmy := fun (W : World) (hb : Below wm.heap.size wm W) => mayIR_any _ l hl W (hv.later hb)
  have hok := hdP_ok l
  obtain ⟨h, hh⟩ : ∃ h, h = hdP l := ⟨_, rfl⟩
  obtain ⟨P, hP⟩ : ∃ P, P = plP l := ⟨_, rfl⟩
  obtain ⟨O, hO⟩ : ∃ P, P = opP l := ⟨_, rfl⟩
  obtain ⟨f, hf⟩ : ∃ f, f = flt l := ⟨_, rfl⟩
  obtain ⟨n, hn⟩ : ∃ n, n = l.length := ⟨_, rfl⟩
  have hma : maB l = (decide (f = 0) && ansB h P) := by unfold maB; rw [hh, hP, hf]
  rw [hma] at hmy
  unfold PrsR at hp
  rw [← hh, ← hP, ← hO, ← hf, ← hn] at hp
  rw [← hh] at hok
  have HV := Lib.hid hv
  rw [← hn] at hmy ⊢
  have HP := Lib.hid hp
  have HMY := Lib.hid hmy
  have HOK := Lib.hid hok
  have HE := Lib.hid (And.intro hh (And.intro hP (And.intro hf (And.intro hn hl))))
  clear hp hok hh hP hO hn hv hl hmy hma
  go_enter Try.func41, Try.ntmps41
  go_wp2_with fail
  refine HP.out.mono ?_
  rintro e w1 ⟨u, v, rfl, hu, hvv, hb1⟩
  obtain ⟨ua, uc, rfl⟩ := hu.form
  obtain ⟨pa, pc, rfl⟩ := hvv.form
  obtain ⟨on, hon⟩ : ∃ n, n = O.length := ⟨_, rfl⟩
  obtain ⟨pn, hpn⟩ : ∃ n, n = P.length := ⟨_, rfl⟩
  rw [← hon, ← hpn]
  have hb1a := hb1.alloc hb1.size (.cells #[.int .u8 (h.tos : Nat), .int .u16 (h.id : Nat), .bool h.ev, .bool h.df, .bool h.mf, .int .i64 h.off, .int .u8 (h.ttl : Nat), .int .u8 (h.pr : Nat), .int .u32 (h.src : Nat), .int .u32 (h.dst : Nat), .slice ua on uc] 28)
  have HB1 := Lib.hid hb1a
  have k5 : ((f : Int) != 0) = false := by rw [bne_eq_false_iff_eq]; omega
  have HC := HMY.out _ HB1.out
  rw [← HE.out.1, ← HE.out.2.1] at han
  rw [han, Bool.and_false] at HC
  have HC := Lib.hid HC
  clear hu hvv hb1 hon hpn hf hfl hb1a han
  go_wp2_with fail
  refine HC.out.mono ?_
  rintro e w2 ⟨rfl, hb2⟩
  have HB2 := Lib.hid (HB1.out.trans (hb2.mono HB1.out.size))
  clear hb2
  go_wp2_with fail
  go_ret2
  exact ⟨rfl, HB2.out⟩
set_option maxHeartbeats 8000000 in
set_option maxRecDepth 100000 in
theorem errR_state2 (v : Value) (l : List UInt8) (hl : l.length ≤ 1000000) (fr : Nat) (mt : Nat) (hmt : mt ≤ 65535) (wm : World) (hv : Bytes wm v l) (hfl : flt l = 0) (han : ansB (hdP l) (plP l) = false) :
    Calls Try.prog 41 #[.int .i64 2, v, .int .u32 (fr : Nat), .int .i64 (mt : Nat)] wm fun e w' => e = .returned (.tuple #[.slice none 0 0, .int .i64 7]) ∧ Below wm.heap.size wm w' := by
  obtain ⟨a, c, rfl⟩ := hv.form
  have hp := prsR_any _ l hl _ hv
  have hmy := fun (W : World) (hb : Below wm.heap.size wm W) => mayIR_any _ l hl W (hv.later hb)
  have hok := hdP_ok l
  obtain ⟨h, hh⟩ : ∃ h, h = hdP l := ⟨_, rfl⟩
  obtain ⟨P, hP⟩ : ∃ P, P = plP l := ⟨_, rfl⟩
  obtain ⟨O, hO⟩ : ∃ P, P = opP l := ⟨_, rfl⟩
  obtain ⟨f, hf⟩ : ∃ f, f = flt l := ⟨_, rfl⟩
  obtain ⟨n, hn⟩ : ∃ n, n = l.length := ⟨_, rfl⟩
  have hma : maB l = (decide (f = 0) && ansB h P) := by unfold maB; rw [hh, hP, hf]
  rw [hma] at hmy
  unfold PrsR at hp
  rw [← hh, ← hP, ← hO, ← hf, ← hn] at hp
  rw [← hh] at hok
  have HV := Lib.hid hv
  rw [← hn] at hmy ⊢
  have HP := Lib.hid hp
  have HMY := Lib.hid hmy
  have HOK := Lib.hid hok
  have HE := Lib.hid (And.intro hh (And.intro hP (And.intro hf (And.intro hn hl))))
  have k1 : (mt : Int) ≤ 65535 := by omega
  clear hp hok hh hP hO hn hv hl hmt hmy hma
  go_enter Try.func41, Try.ntmps41
  go_wp2_with fail
  refine HP.out.mono ?_
  rintro e w1 ⟨u, v, rfl, hu, hvv, hb1⟩
  obtain ⟨ua, uc, rfl⟩ := hu.form
  obtain ⟨pa, pc, rfl⟩ := hvv.form
  obtain ⟨on, hon⟩ : ∃ n, n = O.length := ⟨_, rfl⟩
  obtain ⟨pn, hpn⟩ : ∃ n, n = P.length := ⟨_, rfl⟩
  rw [← hon, ← hpn]
  have hb1a := hb1.alloc hb1.size (.cells #[.int .u8 (h.tos : Nat), .int .u16 (h.id : Nat), .bool h.ev, .bool h.df, .bool h.mf, .int .i64 h.off, .int .u8 (h.ttl : Nat), .int .u8 (h.pr : Nat), .int .u32 (h.src : Nat), .int .u32 (h.dst : Nat), .slice ua on uc] 28)
  have HB1 := Lib.hid hb1a
  have k5 : ((f : Int) != 0) = false := by rw [bne_eq_false_iff_eq]; omega
  have HC := HMY.out _ HB1.out
  rw [← HE.out.1, ← HE.out.2.1] at han
  rw [han, Bool.and_false] at HC
  have HC := Lib.hid HC
  clear hu hvv hb1 hon hpn hf hfl hb1a han
  go_wp2_with fail
  refine HC.out.mono ?_
  rintro e w2 ⟨rfl, hb2⟩
  have HB2 := Lib.hid (HB1.out.trans (hb2.mono HB1.out.size))
  clear hb2
  go_wp2_with fail
  go_ret2
  exact ⟨rfl, HB2.out⟩
set_option maxHeartbeats 8000000 in
set_option maxRecDepth 100000 in
theorem errR_state3 (v : Value) (l : List UInt8) (hl : l.length ≤ 1000000) (fr : Nat) (mt : Nat) (hmt : mt = 0) (wm : World) (hv : Bytes wm v l) (hfl : flt l = 0) (han : ansB (hdP l) (plP l) = false) :
    Calls Try.prog 41 #[.int .i64 3, v, .int .u32 (fr : Nat), .int .i64 (mt : Nat)] wm fun e w' => e = .returned (.tuple #[.slice none 0 0, .int .i64 7]) ∧ Below wm.heap.size wm w' := by
  subst hmt
  obtain ⟨a, c, rfl⟩ := hv.form
  have hp := prsR_any _ l hl _ hv
  have hmy := fun (W : World) (hb : Below wm.heap.size wm W) => mayIR_any _ l hl W (hv.later hb)
  have hok := hdP_ok l
  obtain ⟨h, hh⟩ : ∃ h, h = hdP l := ⟨_, rfl⟩
  obtain ⟨P, hP⟩ : ∃ P, P = plP l := ⟨_, rfl⟩
  obtain ⟨O, hO⟩ : ∃ P, P = opP l := ⟨_, rfl⟩
  obtain ⟨f, hf⟩ : ∃ f, f = flt l := ⟨_, rfl⟩
  obtain ⟨n, hn⟩ : ∃ n, n = l.length := ⟨_, rfl⟩
  have hma : maB l = (decide (f = 0) && ansB h P) := by unfold maB; rw [hh, hP, hf]
  rw [hma] at hmy
  unfold PrsR at hp
  rw [← hh, ← hP, ← hO, ← hf, ← hn] at hp
  rw [← hh] at hok
  have HV := Lib.hid hv
  rw [← hn] at hmy ⊢
  have HP := Lib.hid hp
  have HMY := Lib.hid hmy
  have HOK := Lib.hid hok
  have HE := Lib.hid (And.intro hh (And.intro hP (And.intro hf (And.intro hn hl))))
  clear hp hok hh hP hO hn hv hl hmy hma
  go_enter Try.func41, Try.ntmps41
  go_wp2_with fail
  refine HP.out.mono ?_
  rintro e w1 ⟨u, v, rfl, hu, hvv, hb1⟩
  obtain ⟨ua, uc, rfl⟩ := hu.form
  obtain ⟨pa, pc, rfl⟩ := hvv.form
  obtain ⟨on, hon⟩ : ∃ n, n = O.length := ⟨_, rfl⟩
  obtain ⟨pn, hpn⟩ : ∃ n, n = P.length := ⟨_, rfl⟩
  rw [← hon, ← hpn]
  have hb1a := hb1.alloc hb1.size (.cells #[.int .u8 (h.tos : Nat), .int .u16 (h.id : Nat), .bool h.ev, .bool h.df, .bool h.mf, .int .i64 h.off, .int .u8 (h.ttl : Nat), .int .u8 (h.pr : Nat), .int .u32 (h.src : Nat), .int .u32 (h.dst : Nat), .slice ua on uc] 28)
  have HB1 := Lib.hid hb1a
  have k5 : ((f : Int) != 0) = false := by rw [bne_eq_false_iff_eq]; omega
  have HC := HMY.out _ HB1.out
  rw [← HE.out.1, ← HE.out.2.1] at han
  rw [han, Bool.and_false] at HC
  have HC := Lib.hid HC
  clear hu hvv hb1 hon hpn hf hfl hb1a han
  go_wp2_with fail
  refine HC.out.mono ?_
  rintro e w2 ⟨rfl, hb2⟩
  have HB2 := Lib.hid (HB1.out.trans (hb2.mono HB1.out.size))
  clear hb2
  go_wp2_with fail
  go_ret2
  exact ⟨rfl, HB2.out⟩
set_option maxHeartbeats 8000000 in
set_option maxRecDepth 100000 in
theorem errR_ok1 (v : Value) (l : List UInt8) (hl : l.length ≤ 1000000) (fr : Nat) (hfr : fr < 4294967296) (mt : Nat) (hmt : mt = 0) (wm : World) (hv : Bytes wm v l) (hfl : flt l = 0) (han : ansB (hdP l) (plP l) = true) :
    Calls Try.prog 41 #[.int .i64 1, v, .int .u32 (fr : Nat), .int .i64 (mt : Nat)] wm fun e w' => ∃ v, e = .returned (.tuple #[v, .int .i64 0]) ∧ OwnB w' wm.heap.size v (ansL (eH fr (hdP l).src) (eM 1 mt) (quoL l)) ∧ Below wm.heap.size wm w' := by
  subst hmt
  obtain ⟨a, c, rfl⟩ := hv.form
  have hp := prsR_any _ l hl _ hv
  have hmy := fun (W : World) (hb : Below wm.heap.size wm W) => mayIR_any _ l hl W (hv.later hb)
  have hok := hdP_ok l
  obtain ⟨h, hh⟩ : ∃ h, h = hdP l := ⟨_, rfl⟩
  obtain ⟨P, hP⟩ : ∃ P, P = plP l := ⟨_, rfl⟩
  obtain ⟨O, hO⟩ : ∃ P, P = opP l := ⟨_, rfl⟩
  obtain ⟨f, hf⟩ : ∃ f, f = flt l := ⟨_, rfl⟩
  obtain ⟨n, hn⟩ : ∃ n, n = l.length := ⟨_, rfl⟩
  have hma : maB l = (decide (f = 0) && ansB h P) := by unfold maB; rw [hh, hP, hf]
  rw [hma] at hmy
  unfold PrsR at hp
  rw [← hh, ← hP, ← hO, ← hf, ← hn] at hp
  rw [← hh] at hok
  have HV := Lib.hid hv
  rw [← hn] at hmy ⊢
  have HP := Lib.hid hp
  have HMY := Lib.hid hmy
  have HOK := Lib.hid hok
  have HE := Lib.hid (And.intro hh (And.intro hP (And.intro hf (And.intro hn hl))))
  clear hp hok hh hP hO hn hv hl hmy hma
  go_enter Try.func41, Try.ntmps41
  go_wp2_with fail
  refine HP.out.mono ?_
  rintro e w1 ⟨u, v, rfl, hu, hvv, hb1⟩
  obtain ⟨ua, uc, rfl⟩ := hu.form
  obtain ⟨pa, pc, rfl⟩ := hvv.form
  obtain ⟨on, hon⟩ : ∃ n, n = O.length := ⟨_, rfl⟩
  obtain ⟨pn, hpn⟩ : ∃ n, n = P.length := ⟨_, rfl⟩
  rw [← hon, ← hpn]
  have hb1a := hb1.alloc hb1.size (.cells #[.int .u8 (h.tos : Nat), .int .u16 (h.id : Nat), .bool h.ev, .bool h.df, .bool h.mf, .int .i64 h.off, .int .u8 (h.ttl : Nat), .int .u8 (h.pr : Nat), .int .u32 (h.src : Nat), .int .u32 (h.dst : Nat), .slice ua on uc] 28)
  have HB1 := Lib.hid hb1a
  have k5 : ((f : Int) != 0) = false := by rw [bne_eq_false_iff_eq]; omega
  have HC := HMY.out _ HB1.out
  rw [← HE.out.1, ← HE.out.2.1] at han
  rw [han, hf, hfl] at HC
  rw [show (decide ((0 : Nat) = 0) && true) = true from rfl] at HC
  have HC := Lib.hid HC
  have HQ : Hid (∀ (W : World), Below wm.heap.size wm W → Calls Try.prog 39 #[.slice a n c] W fun e w' => ∃ v, e = .returned v ∧ Bytes w' v (quoL l) ∧ Below W.heap.size W w') := fun W hb => by
    have h9 := quoIR_any (.slice a l.length c) l hfl HE.out.2.2.2.2 W ((show Bytes wm _ l from HV.out).later hb)
    rw [← HE.out.2.2.2.1] at h9
    exact h9
  have HQN : Hid ((quoL l).length ≤ 9990) := by
    have := prs_lens hfl
    show (quoL l).length ≤ 9990
    unfold quoL quoN; simp; omega
  have HAN : Hid (∀ (qa : Option Addr) (qc qn : Nat) (W : World), qn = (quoL l).length → Bytes W (.slice qa qn qc) (quoL l) → Calls Try.prog 32 #[.agg #[.int .u8 3, .int .u8 0, .int .u8 0, .int .u8 0, .int .u8 0, .int .u8 0, .slice qa qn qc]] W fun e w' => ∃ v, e = .returned v ∧ OwnB w' W.heap.size v (msgL (eM 1 0) (quoL l)) ∧ Below W.heap.size W w') := fun qa qc qn W hqn hq => by
    subst hqn
    exact bytesMR_any (eM 1 0) (eM_ok (by omega)) qa qc (quoL l) W hq HQN.out
  have HIB : Hid (∀ (pa : Option Addr) (pc pn : Nat) (W : World), pn = (msgL (eM 1 0) (quoL l)).length → Bytes W (.slice pa pn pc) (msgL (eM 1 0) (quoL l)) → Calls Try.prog 25 #[.agg #[.int .u8 0, .int .u16 0, .bool false, .bool false, .bool false, .int .i64 0, .int .u8 64, .int .u8 1, .int .u32 (fr : Nat), .int .u32 (h.src : Nat), .slice none 0 0], .slice pa pn pc] W fun e w' => ∃ v, e = .returned v ∧ OwnB w' W.heap.size v (ansL (eH fr (hdP l).src) (eM 1 0) (quoL l)) ∧ Below W.heap.size W w') := fun pa pc pn W hpn hp => by
    subst hpn
    have h9 := bytesR_yes (ansH (eH fr h.src)) (ansH_ok ⟨by show 0 < 256; omega, by show 0 < 65536; omega, by show 0 < 256; omega, by show 0 < 256; omega, hfr, HOK.out.src⟩) none 0 [] pa pc (msgL (eM 1 0) (quoL l)) W (Bytes.nil _ _ _) hp (may_nil rfl) (by rw [msgL_length]; have := HQN.out; simp; omega)
    rw [← HE.out.1]
    exact h9
  have hm0 : True := trivial
  have HHA : Hid (HdAt w1.heap.size [.int .u8 (h.tos : Nat), .int .u16 (h.id : Nat), .bool h.ev, .bool h.df, .bool h.mf, .int .i64 h.off, .int .u8 (h.ttl : Nat), .int .u8 (h.pr : Nat), .int .u32 (h.src : Nat), .int .u32 (h.dst : Nat), .slice ua on uc] (w1.alloc (.cells #[.int .u8 (h.tos : Nat), .int .u16 (h.id : Nat), .bool h.ev, .bool h.df, .bool h.mf, .int .i64 h.off, .int .u8 (h.ttl : Nat), .int .u8 (h.pr : Nat), .int .u32 (h.src : Nat), .int .u32 (h.dst : Nat), .slice ua on uc] 28))) := HdAt.new w1 _
  clear hu hvv hb1 hon hpn hf hfl hb1a han hfr
  go_wp2_with fail
  refine HC.out.mono ?_
  rintro e w2 ⟨rfl, hb2⟩
  have HB2 := Lib.hid (HB1.out.trans (hb2.mono HB1.out.size))
  have HH2 : Hid (HdAt w1.heap.size [.int .u8 (h.tos : Nat), .int .u16 (h.id : Nat), .bool h.ev, .bool h.df, .bool h.mf, .int .i64 h.off, .int .u8 (h.ttl : Nat), .int .u8 (h.pr : Nat), .int .u32 (h.src : Nat), .int .u32 (h.dst : Nat), .slice ua on uc] w2) := HHA.out.later hb2
  clear hb2
  go_wp2_with fail
  refine (HQ.out w2 HB2.out).mono ?_
  rintro e w3 ⟨y, rfl, hq, hb3⟩
  obtain ⟨qa, qc, rfl⟩ := hq.form
  obtain ⟨qn, hqn⟩ : ∃ n, n = (quoL l).length := ⟨_, rfl⟩
  rw [← hqn] at hq ⊢
  have hb3' : Below wm.heap.size wm w3 := HB2.out.trans (hb3.mono HB2.out.size)
  have hb4 := hb3'.alloc hb3'.size (.cells #[.int .u8 3, .int .u8 0, .int .u8 0, .int .u8 0, .int .u8 0, .int .u8 0, .slice qa qn qc] 46)
  have hr4 := BlkAt.new (t := 46) w3 [.int .u8 3, .int .u8 0, .int .u8 0, .int .u8 0, .int .u8 0, .int .u8 0, .slice qa qn qc]
  have HH4 : Hid (HdAt w1.heap.size [.int .u8 (h.tos : Nat), .int .u16 (h.id : Nat), .bool h.ev, .bool h.df, .bool h.mf, .int .i64 h.off, .int .u8 (h.ttl : Nat), .int .u8 (h.pr : Nat), .int .u32 (h.src : Nat), .int .u32 (h.dst : Nat), .slice ua on uc] (w3.alloc (.cells #[.int .u8 3, .int .u8 0, .int .u8 0, .int .u8 0, .int .u8 0, .int .u8 0, .slice qa qn qc] 46))) := (HH2.out.later hb3).later ((Below.refl _ _).alloc (Nat.le_refl _) _)
  have HQ4 : Hid (Bytes (w3.alloc (.cells #[.int .u8 3, .int .u8 0, .int .u8 0, .int .u8 0, .int .u8 0, .int .u8 0, .slice qa qn qc] 46)) (.slice qa qn qc) (quoL l)) := hq.later ((Below.refl _ _).alloc (Nat.le_refl _) _)
  obtain ⟨w4, hw4⟩ : ∃ w4, w4 = w3.alloc (.cells #[.int .u8 3, .int .u8 0, .int .u8 0, .int .u8 0, .int .u8 0, .int .u8 0, .slice qa qn qc] 46) := ⟨_, rfl⟩
  obtain ⟨g, hg⟩ : ∃ g, g = w3.heap.size := ⟨_, rfl⟩
  have HB4 : Hid (Below wm.heap.size wm w4) := by rw [hw4]; exact hb4
  have HR4 : Hid (BlkAt 46 g [.int .u8 3, .int .u8 0, .int .u8 0, .int .u8 0, .int .u8 0, .int .u8 0, .slice qa qn qc] w4) := by rw [hw4, hg]; exact hr4
  rw [← hw4] at HH4 HQ4
  have HQNL := Lib.hid hqn
  clear hb3' hb4 hr4 hq hb3 hqn
  go_wp2_with fail
  rw [← hw4, ← hg]
  clear hw4 hg
  (refine wp_region_held_drew (S := (fun w' => Below w4.heap.size w4 w')) (by kernel_rfl) ?_ (fun hHeld => ?_); (focus ((try dsimp only); (exact (Below.refl _ _).drew))))
  (try dsimp only at hHeld)
  obtain ⟨w5, hw5⟩ : ∃ w5, w5 = World.drew w4 := ⟨_, rfl⟩
  rw [← hw5]
  rw [← hw5] at hHeld
  clear hw5
  (refine wpAnyH_take (i := 0) (v := ?_) rfl (by kernel_rfl) (by kernel_rfl) (by kernel_rfl) (fun _ _ _ h => h) (Or.inl ⟨by rfl, ?_⟩) hHeld ?_; rotate_left; (focus (intro w hSw; (try dsimp only at hSw); go_simp; try with_reducible rfl)); (try simp only [Act.put, List.setIfInBounds_toArray, List.set_cons_zero, List.set_cons_succ, List.getElem_toArray, List.getElem_cons_zero])); (refine wpAnyH_take (i := 1) (v := ?_) rfl (by kernel_rfl) (by kernel_rfl) (by kernel_rfl) (fun _ _ _ h => h) (Or.inl ⟨by rfl, ?_⟩) hHeld ?_; rotate_left; (focus (intro w hSw; (try dsimp only at hSw); go_simp; try with_reducible rfl)); (try simp only [Act.put, List.setIfInBounds_toArray, List.set_cons_zero, List.set_cons_succ, List.getElem_toArray, List.getElem_cons_zero, List.getElem_cons_succ]))
  (refine wpAnyH_take (i := 2) (v := ?_) rfl (by kernel_rfl) (by kernel_rfl) (by kernel_rfl) (fun _ _ _ h => h) (Or.inl ⟨by rfl, ?_⟩) hHeld ?_; rotate_left; (focus (intro w hSw; (try dsimp only at hSw); go_simp; (have hcc := HdAt.cell (HH4.out.later hSw) (j := 8) rfl; go_simp; try with_reducible rfl))); (try simp only [Act.put, List.setIfInBounds_toArray, List.set_cons_zero, List.set_cons_succ, List.getElem_toArray, List.getElem_cons_zero, List.getElem_cons_succ]))
  (refine wpAnyH_take (i := 3) (v := ?_) rfl (by kernel_rfl) (by kernel_rfl) (by kernel_rfl) (fun _ _ _ h => h) (Or.inl ⟨by rfl, ?_⟩) hHeld ?_; rotate_left; (focus (intro w hSw; (try dsimp only at hSw); go_simp; try with_reducible rfl)); (try simp only [Act.put, List.setIfInBounds_toArray, List.set_cons_zero, List.set_cons_succ, List.getElem_toArray, List.getElem_cons_zero, List.getElem_cons_succ]))
  (refine wpAnyH_take (i := 4) (v := ?_) rfl (by kernel_rfl) (by kernel_rfl) (by kernel_rfl) (fun _ _ _ h => h) (Or.inl ⟨by rfl, ?_⟩) hHeld ?_; rotate_left; (focus (intro w hSw; (try dsimp only at hSw); go_simp; (have hq := BlkAt.later HR4.out hSw; have c0 := BlkAt.cell hq (j := 0) rfl; have c1 := BlkAt.cell hq (j := 1) rfl; have c2 := BlkAt.cell hq (j := 2) rfl; have c3 := BlkAt.cell hq (j := 3) rfl; have c4 := BlkAt.cell hq (j := 4) rfl; have c5 := BlkAt.cell hq (j := 5) rfl; have c6 := BlkAt.cell hq (j := 6) rfl; go_simp; try with_reducible rfl))); (try simp only [Act.put, List.setIfInBounds_toArray, List.set_cons_zero, List.set_cons_succ, List.getElem_toArray, List.getElem_cons_zero, List.getElem_cons_succ]))
  (refine wpAnyH_ready (rs := [5]) (by kernel_rfl) (by simp) ?_; refine AllReadyH.cons rfl (fun K hK => ?_) AllReadyH.nil; go_simp; refine (HAN.out qa qc qn w5 HQNL.out ((show Bytes w4 _ _ from HQ4.out).later hHeld)).mono ?_; rintro e w6 ⟨z, rfl, hoz, hs⟩; refine hK.out _ _ ?_ (fun hHeldN => ?_); (focus ((try dsimp only); (exact hHeld.trans (hs.mono hHeld.size)))); clear hK K hHeld; have hHeld := hHeldN; clear hHeldN; (try simp only [Act.put, List.setIfInBounds_toArray, List.set_cons_zero, List.set_cons_succ, List.getElem_toArray, List.getElem_cons_zero, List.getElem_cons_succ]))
  obtain ⟨za, zc, rfl⟩ := hoz.form
  obtain ⟨zn, hzn⟩ : ∃ n, n = (msgL (eM 1 0) (quoL l)).length := ⟨_, rfl⟩
  rw [← hzn]
  have HY := Lib.hid (HIB.out za zc zn w6 hzn (by rw [hzn]; exact OwnB.bytes hoz))
  clear hs hoz hzn
  (refine wpAnyH_ready (rs := [6]) (by kernel_rfl) (by simp) ?_; refine AllReadyH.cons rfl (fun K hK => ?_) AllReadyH.nil; go_simp; refine (HY.out).mono ?_; rintro e w7 ⟨x, rfl, hox, hs⟩; have HO7 := Lib.hid (OwnB.weak hox (Nat.le_trans HB4.out.size hHeld.size)); refine hK.out _ _ ?_ (fun hHeldN => ?_); (focus ((try dsimp only); (exact hHeld.trans (hs.mono hHeld.size)))); clear hK K hHeld; have hHeld := hHeldN; clear hHeldN; (try simp only [Act.put, List.setIfInBounds_toArray, List.set_cons_zero, List.set_cons_succ, List.getElem_toArray, List.getElem_cons_zero, List.getElem_cons_succ]))
  clear hs hox
  (refine wpAnyH_take (i := 7) (v := ?_) rfl (by kernel_rfl) (by kernel_rfl) (by kernel_rfl) (fun _ _ _ h => h) (Or.inl ⟨by rfl, ?_⟩) hHeld ?_; rotate_left; (focus (intro w hSw; (try dsimp only at hSw); go_simp; try with_reducible rfl)); (try simp only [Act.put, List.setIfInBounds_toArray, List.set_cons_zero, List.set_cons_succ, List.getElem_toArray, List.getElem_cons_zero, List.getElem_cons_succ])); (refine wpAnyH_take (i := 8) (v := ?_) rfl (by kernel_rfl) (by kernel_rfl) (by kernel_rfl) (fun _ _ _ h => h) (Or.inl ⟨by rfl, ?_⟩) hHeld ?_; rotate_left; (focus (intro w hSw; (try dsimp only at hSw); go_simp; try with_reducible rfl)); (try simp only [Act.put, List.setIfInBounds_toArray, List.set_cons_zero, List.set_cons_succ, List.getElem_toArray, List.getElem_cons_zero, List.getElem_cons_succ]))
  refine wpAnyH_done (by kernel_rfl) ?_ _
  have HB7 := Lib.hid (HB4.out.trans (hHeld.mono HB4.out.size))
  clear hHeld
  go_wp2_with fail
  go_ret2
  exact ⟨_, rfl, HO7.out, HB7.out⟩
set_option maxHeartbeats 8000000 in
set_option maxRecDepth 100000 in
theorem errR_ok2 (v : Value) (l : List UInt8) (hl : l.length ≤ 1000000) (fr : Nat) (hfr : fr < 4294967296) (mt : Nat) (hmt : mt ≤ 65535) (wm : World) (hv : Bytes wm v l) (hfl : flt l = 0) (han : ansB (hdP l) (plP l) = true) :
    Calls Try.prog 41 #[.int .i64 2, v, .int .u32 (fr : Nat), .int .i64 (mt : Nat)] wm fun e w' => ∃ v, e = .returned (.tuple #[v, .int .i64 0]) ∧ OwnB w' wm.heap.size v (ansL (eH fr (hdP l).src) (eM 2 mt) (quoL l)) ∧ Below wm.heap.size wm w' := by
  obtain ⟨a, c, rfl⟩ := hv.form
  have hp := prsR_any _ l hl _ hv
  have hmy := fun (W : World) (hb : Below wm.heap.size wm W) => mayIR_any _ l hl W (hv.later hb)
  have hok := hdP_ok l
  obtain ⟨h, hh⟩ : ∃ h, h = hdP l := ⟨_, rfl⟩
  obtain ⟨P, hP⟩ : ∃ P, P = plP l := ⟨_, rfl⟩
  obtain ⟨O, hO⟩ : ∃ P, P = opP l := ⟨_, rfl⟩
  obtain ⟨f, hf⟩ : ∃ f, f = flt l := ⟨_, rfl⟩
  obtain ⟨n, hn⟩ : ∃ n, n = l.length := ⟨_, rfl⟩
  have hma : maB l = (decide (f = 0) && ansB h P) := by unfold maB; rw [hh, hP, hf]
  rw [hma] at hmy
  unfold PrsR at hp
  rw [← hh, ← hP, ← hO, ← hf, ← hn] at hp
  rw [← hh] at hok
  have HV := Lib.hid hv
  rw [← hn] at hmy ⊢
  have HP := Lib.hid hp
  have HMY := Lib.hid hmy
  have HOK := Lib.hid hok
  have HE := Lib.hid (And.intro hh (And.intro hP (And.intro hf (And.intro hn hl))))
  have k1 : (mt : Int) ≤ 65535 := by omega
  clear hp hok hh hP hO hn hv hl hmt hmy hma
  go_enter Try.func41, Try.ntmps41
  go_wp2_with fail
  refine HP.out.mono ?_
  rintro e w1 ⟨u, v, rfl, hu, hvv, hb1⟩
  obtain ⟨ua, uc, rfl⟩ := hu.form
  obtain ⟨pa, pc, rfl⟩ := hvv.form
  obtain ⟨on, hon⟩ : ∃ n, n = O.length := ⟨_, rfl⟩
  obtain ⟨pn, hpn⟩ : ∃ n, n = P.length := ⟨_, rfl⟩
  rw [← hon, ← hpn]
  have hb1a := hb1.alloc hb1.size (.cells #[.int .u8 (h.tos : Nat), .int .u16 (h.id : Nat), .bool h.ev, .bool h.df, .bool h.mf, .int .i64 h.off, .int .u8 (h.ttl : Nat), .int .u8 (h.pr : Nat), .int .u32 (h.src : Nat), .int .u32 (h.dst : Nat), .slice ua on uc] 28)
  have HB1 := Lib.hid hb1a
  have k5 : ((f : Int) != 0) = false := by rw [bne_eq_false_iff_eq]; omega
  have HC := HMY.out _ HB1.out
  rw [← HE.out.1, ← HE.out.2.1] at han
  rw [han, hf, hfl] at HC
  rw [show (decide ((0 : Nat) = 0) && true) = true from rfl] at HC
  have HC := Lib.hid HC
  have HQ : Hid (∀ (W : World), Below wm.heap.size wm W → Calls Try.prog 39 #[.slice a n c] W fun e w' => ∃ v, e = .returned v ∧ Bytes w' v (quoL l) ∧ Below W.heap.size W w') := fun W hb => by
    have h9 := quoIR_any (.slice a l.length c) l hfl HE.out.2.2.2.2 W ((show Bytes wm _ l from HV.out).later hb)
    rw [← HE.out.2.2.2.1] at h9
    exact h9
  have HQN : Hid ((quoL l).length ≤ 9990) := by
    have := prs_lens hfl
    show (quoL l).length ≤ 9990
    unfold quoL quoN; simp; omega
  have HAN : Hid (∀ (qa : Option Addr) (qc qn : Nat) (W : World), qn = (quoL l).length → Bytes W (.slice qa qn qc) (quoL l) → Calls Try.prog 32 #[.agg #[.int .u8 3, .int .u8 4, .int .u8 0, .int .u8 0, .int .u8 ((mt / 256 : Nat) : Int), .int .u8 ((mt % 256 : Nat) : Int), .slice qa qn qc]] W fun e w' => ∃ v, e = .returned v ∧ OwnB w' W.heap.size v (msgL (eM 2 mt) (quoL l)) ∧ Below W.heap.size W w') := fun qa qc qn W hqn hq => by
    subst hqn
    exact bytesMR_any (eM 2 mt) (eM_ok (by omega)) qa qc (quoL l) W hq HQN.out
  have HIB : Hid (∀ (pa : Option Addr) (pc pn : Nat) (W : World), pn = (msgL (eM 2 mt) (quoL l)).length → Bytes W (.slice pa pn pc) (msgL (eM 2 mt) (quoL l)) → Calls Try.prog 25 #[.agg #[.int .u8 0, .int .u16 0, .bool false, .bool false, .bool false, .int .i64 0, .int .u8 64, .int .u8 1, .int .u32 (fr : Nat), .int .u32 (h.src : Nat), .slice none 0 0], .slice pa pn pc] W fun e w' => ∃ v, e = .returned v ∧ OwnB w' W.heap.size v (ansL (eH fr (hdP l).src) (eM 2 mt) (quoL l)) ∧ Below W.heap.size W w') := fun pa pc pn W hpn hp => by
    subst hpn
    have h9 := bytesR_yes (ansH (eH fr h.src)) (ansH_ok ⟨by show 0 < 256; omega, by show 0 < 65536; omega, by show 0 < 256; omega, by show 0 < 256; omega, hfr, HOK.out.src⟩) none 0 [] pa pc (msgL (eM 2 mt) (quoL l)) W (Bytes.nil _ _ _) hp (may_nil rfl) (by rw [msgL_length]; have := HQN.out; simp; omega)
    rw [← HE.out.1]
    exact h9
  have hdv : ((mt : Int).tdiv 256) = ((mt / 256 : Nat) : Int) := by rw [Int.tdiv_eq_ediv_of_nonneg (by omega)]; omega
  have hmd : ((mt : Int).tmod 256) = ((mt % 256 : Nat) : Int) := by rw [Int.tmod_eq_emod_of_nonneg (by omega)]; omega
  have hm2 : ((mt : Int) / 256) = ((mt / 256 : Nat) : Int) := by omega
  have hm3 : ((mt : Int) % 256) = ((mt % 256 : Nat) : Int) := by omega
  obtain ⟨r2, hr2⟩ : ∃ r, r = mt / 256 := ⟨_, rfl⟩
  obtain ⟨r3, hr3⟩ : ∃ r, r = mt % 256 := ⟨_, rfl⟩
  rw [← hr2] at hdv hm2 HAN
  rw [← hr3] at hmd hm3 HAN
  have q2 : (r2 : Int) < 256 := by omega
  have q3 : (r3 : Int) < 256 := by omega
  clear hr2 hr3
  have HHA : Hid (HdAt w1.heap.size [.int .u8 (h.tos : Nat), .int .u16 (h.id : Nat), .bool h.ev, .bool h.df, .bool h.mf, .int .i64 h.off, .int .u8 (h.ttl : Nat), .int .u8 (h.pr : Nat), .int .u32 (h.src : Nat), .int .u32 (h.dst : Nat), .slice ua on uc] (w1.alloc (.cells #[.int .u8 (h.tos : Nat), .int .u16 (h.id : Nat), .bool h.ev, .bool h.df, .bool h.mf, .int .i64 h.off, .int .u8 (h.ttl : Nat), .int .u8 (h.pr : Nat), .int .u32 (h.src : Nat), .int .u32 (h.dst : Nat), .slice ua on uc] 28))) := HdAt.new w1 _
  clear hu hvv hb1 hon hpn hf hfl hb1a han hfr
  go_wp2_with fail
  refine HC.out.mono ?_
  rintro e w2 ⟨rfl, hb2⟩
  have HB2 := Lib.hid (HB1.out.trans (hb2.mono HB1.out.size))
  have HH2 : Hid (HdAt w1.heap.size [.int .u8 (h.tos : Nat), .int .u16 (h.id : Nat), .bool h.ev, .bool h.df, .bool h.mf, .int .i64 h.off, .int .u8 (h.ttl : Nat), .int .u8 (h.pr : Nat), .int .u32 (h.src : Nat), .int .u32 (h.dst : Nat), .slice ua on uc] w2) := HHA.out.later hb2
  clear hb2
  go_wp2_with fail
  refine (HQ.out w2 HB2.out).mono ?_
  rintro e w3 ⟨y, rfl, hq, hb3⟩
  obtain ⟨qa, qc, rfl⟩ := hq.form
  obtain ⟨qn, hqn⟩ : ∃ n, n = (quoL l).length := ⟨_, rfl⟩
  rw [← hqn] at hq ⊢
  have hb3' : Below wm.heap.size wm w3 := HB2.out.trans (hb3.mono HB2.out.size)
  have hb4 := hb3'.alloc hb3'.size (.cells #[.int .u8 3, .int .u8 4, .int .u8 0, .int .u8 0, .int .u8 (r2 : Nat), .int .u8 (r3 : Nat), .slice qa qn qc] 46)
  have hr4 := BlkAt.new (t := 46) w3 [.int .u8 3, .int .u8 4, .int .u8 0, .int .u8 0, .int .u8 (r2 : Nat), .int .u8 (r3 : Nat), .slice qa qn qc]
  have HH4 : Hid (HdAt w1.heap.size [.int .u8 (h.tos : Nat), .int .u16 (h.id : Nat), .bool h.ev, .bool h.df, .bool h.mf, .int .i64 h.off, .int .u8 (h.ttl : Nat), .int .u8 (h.pr : Nat), .int .u32 (h.src : Nat), .int .u32 (h.dst : Nat), .slice ua on uc] (w3.alloc (.cells #[.int .u8 3, .int .u8 4, .int .u8 0, .int .u8 0, .int .u8 (r2 : Nat), .int .u8 (r3 : Nat), .slice qa qn qc] 46))) := (HH2.out.later hb3).later ((Below.refl _ _).alloc (Nat.le_refl _) _)
  have HQ4 : Hid (Bytes (w3.alloc (.cells #[.int .u8 3, .int .u8 4, .int .u8 0, .int .u8 0, .int .u8 (r2 : Nat), .int .u8 (r3 : Nat), .slice qa qn qc] 46)) (.slice qa qn qc) (quoL l)) := hq.later ((Below.refl _ _).alloc (Nat.le_refl _) _)
  obtain ⟨w4, hw4⟩ : ∃ w4, w4 = w3.alloc (.cells #[.int .u8 3, .int .u8 4, .int .u8 0, .int .u8 0, .int .u8 (r2 : Nat), .int .u8 (r3 : Nat), .slice qa qn qc] 46) := ⟨_, rfl⟩
  obtain ⟨g, hg⟩ : ∃ g, g = w3.heap.size := ⟨_, rfl⟩
  have HB4 : Hid (Below wm.heap.size wm w4) := by rw [hw4]; exact hb4
  have HR4 : Hid (BlkAt 46 g [.int .u8 3, .int .u8 4, .int .u8 0, .int .u8 0, .int .u8 (r2 : Nat), .int .u8 (r3 : Nat), .slice qa qn qc] w4) := by rw [hw4, hg]; exact hr4
  rw [← hw4] at HH4 HQ4
  have HQNL := Lib.hid hqn
  clear hb3' hb4 hr4 hq hb3 hqn
  go_wp2_with fail
  rw [← hw4, ← hg]
  clear hw4 hg
  (refine wp_region_held_drew (S := (fun w' => Below w4.heap.size w4 w')) (by kernel_rfl) ?_ (fun hHeld => ?_); (focus ((try dsimp only); (exact (Below.refl _ _).drew))))
  (try dsimp only at hHeld)
  obtain ⟨w5, hw5⟩ : ∃ w5, w5 = World.drew w4 := ⟨_, rfl⟩
  rw [← hw5]
  rw [← hw5] at hHeld
  clear hw5
  (refine wpAnyH_take (i := 0) (v := ?_) rfl (by kernel_rfl) (by kernel_rfl) (by kernel_rfl) (fun _ _ _ h => h) (Or.inl ⟨by rfl, ?_⟩) hHeld ?_; rotate_left; (focus (intro w hSw; (try dsimp only at hSw); go_simp; try with_reducible rfl)); (try simp only [Act.put, List.setIfInBounds_toArray, List.set_cons_zero, List.set_cons_succ, List.getElem_toArray, List.getElem_cons_zero])); (refine wpAnyH_take (i := 1) (v := ?_) rfl (by kernel_rfl) (by kernel_rfl) (by kernel_rfl) (fun _ _ _ h => h) (Or.inl ⟨by rfl, ?_⟩) hHeld ?_; rotate_left; (focus (intro w hSw; (try dsimp only at hSw); go_simp; try with_reducible rfl)); (try simp only [Act.put, List.setIfInBounds_toArray, List.set_cons_zero, List.set_cons_succ, List.getElem_toArray, List.getElem_cons_zero, List.getElem_cons_succ]))
  (refine wpAnyH_take (i := 2) (v := ?_) rfl (by kernel_rfl) (by kernel_rfl) (by kernel_rfl) (fun _ _ _ h => h) (Or.inl ⟨by rfl, ?_⟩) hHeld ?_; rotate_left; (focus (intro w hSw; (try dsimp only at hSw); go_simp; (have hcc := HdAt.cell (HH4.out.later hSw) (j := 8) rfl; go_simp; try with_reducible rfl))); (try simp only [Act.put, List.setIfInBounds_toArray, List.set_cons_zero, List.set_cons_succ, List.getElem_toArray, List.getElem_cons_zero, List.getElem_cons_succ]))
  (refine wpAnyH_take (i := 3) (v := ?_) rfl (by kernel_rfl) (by kernel_rfl) (by kernel_rfl) (fun _ _ _ h => h) (Or.inl ⟨by rfl, ?_⟩) hHeld ?_; rotate_left; (focus (intro w hSw; (try dsimp only at hSw); go_simp; try with_reducible rfl)); (try simp only [Act.put, List.setIfInBounds_toArray, List.set_cons_zero, List.set_cons_succ, List.getElem_toArray, List.getElem_cons_zero, List.getElem_cons_succ]))
  (refine wpAnyH_take (i := 4) (v := ?_) rfl (by kernel_rfl) (by kernel_rfl) (by kernel_rfl) (fun _ _ _ h => h) (Or.inl ⟨by rfl, ?_⟩) hHeld ?_; rotate_left; (focus (intro w hSw; (try dsimp only at hSw); go_simp; (have hq := BlkAt.later HR4.out hSw; have c0 := BlkAt.cell hq (j := 0) rfl; have c1 := BlkAt.cell hq (j := 1) rfl; have c2 := BlkAt.cell hq (j := 2) rfl; have c3 := BlkAt.cell hq (j := 3) rfl; have c4 := BlkAt.cell hq (j := 4) rfl; have c5 := BlkAt.cell hq (j := 5) rfl; have c6 := BlkAt.cell hq (j := 6) rfl; go_simp; try with_reducible rfl))); (try simp only [Act.put, List.setIfInBounds_toArray, List.set_cons_zero, List.set_cons_succ, List.getElem_toArray, List.getElem_cons_zero, List.getElem_cons_succ]))
  (refine wpAnyH_ready (rs := [5]) (by kernel_rfl) (by simp) ?_; refine AllReadyH.cons rfl (fun K hK => ?_) AllReadyH.nil; go_simp; refine (HAN.out qa qc qn w5 HQNL.out ((show Bytes w4 _ _ from HQ4.out).later hHeld)).mono ?_; rintro e w6 ⟨z, rfl, hoz, hs⟩; refine hK.out _ _ ?_ (fun hHeldN => ?_); (focus ((try dsimp only); (exact hHeld.trans (hs.mono hHeld.size)))); clear hK K hHeld; have hHeld := hHeldN; clear hHeldN; (try simp only [Act.put, List.setIfInBounds_toArray, List.set_cons_zero, List.set_cons_succ, List.getElem_toArray, List.getElem_cons_zero, List.getElem_cons_succ]))
  obtain ⟨za, zc, rfl⟩ := hoz.form
  obtain ⟨zn, hzn⟩ : ∃ n, n = (msgL (eM 2 mt) (quoL l)).length := ⟨_, rfl⟩
  rw [← hzn]
  have HY := Lib.hid (HIB.out za zc zn w6 hzn (by rw [hzn]; exact OwnB.bytes hoz))
  clear hs hoz hzn
  (refine wpAnyH_ready (rs := [6]) (by kernel_rfl) (by simp) ?_; refine AllReadyH.cons rfl (fun K hK => ?_) AllReadyH.nil; go_simp; refine (HY.out).mono ?_; rintro e w7 ⟨x, rfl, hox, hs⟩; have HO7 := Lib.hid (OwnB.weak hox (Nat.le_trans HB4.out.size hHeld.size)); refine hK.out _ _ ?_ (fun hHeldN => ?_); (focus ((try dsimp only); (exact hHeld.trans (hs.mono hHeld.size)))); clear hK K hHeld; have hHeld := hHeldN; clear hHeldN; (try simp only [Act.put, List.setIfInBounds_toArray, List.set_cons_zero, List.set_cons_succ, List.getElem_toArray, List.getElem_cons_zero, List.getElem_cons_succ]))
  clear hs hox
  (refine wpAnyH_take (i := 7) (v := ?_) rfl (by kernel_rfl) (by kernel_rfl) (by kernel_rfl) (fun _ _ _ h => h) (Or.inl ⟨by rfl, ?_⟩) hHeld ?_; rotate_left; (focus (intro w hSw; (try dsimp only at hSw); go_simp; try with_reducible rfl)); (try simp only [Act.put, List.setIfInBounds_toArray, List.set_cons_zero, List.set_cons_succ, List.getElem_toArray, List.getElem_cons_zero, List.getElem_cons_succ])); (refine wpAnyH_take (i := 8) (v := ?_) rfl (by kernel_rfl) (by kernel_rfl) (by kernel_rfl) (fun _ _ _ h => h) (Or.inl ⟨by rfl, ?_⟩) hHeld ?_; rotate_left; (focus (intro w hSw; (try dsimp only at hSw); go_simp; try with_reducible rfl)); (try simp only [Act.put, List.setIfInBounds_toArray, List.set_cons_zero, List.set_cons_succ, List.getElem_toArray, List.getElem_cons_zero, List.getElem_cons_succ]))
  refine wpAnyH_done (by kernel_rfl) ?_ _
  have HB7 := Lib.hid (HB4.out.trans (hHeld.mono HB4.out.size))
  clear hHeld
  go_wp2_with fail
  go_ret2
  exact ⟨_, rfl, HO7.out, HB7.out⟩
set_option maxHeartbeats 8000000 in
set_option maxRecDepth 100000 in
theorem errR_ok3 (v : Value) (l : List UInt8) (hl : l.length ≤ 1000000) (fr : Nat) (hfr : fr < 4294967296) (mt : Nat) (hmt : mt = 0) (wm : World) (hv : Bytes wm v l) (hfl : flt l = 0) (han : ansB (hdP l) (plP l) = true) :
    Calls Try.prog 41 #[.int .i64 3, v, .int .u32 (fr : Nat), .int .i64 (mt : Nat)] wm fun e w' => ∃ v, e = .returned (.tuple #[v, .int .i64 0]) ∧ OwnB w' wm.heap.size v (ansL (eH fr (hdP l).src) (eM 3 mt) (quoL l)) ∧ Below wm.heap.size wm w' := by
  subst hmt
  obtain ⟨a, c, rfl⟩ := hv.form
  have hp := prsR_any _ l hl _ hv
  have hmy := fun (W : World) (hb : Below wm.heap.size wm W) => mayIR_any _ l hl W (hv.later hb)
  have hok := hdP_ok l
  obtain ⟨h, hh⟩ : ∃ h, h = hdP l := ⟨_, rfl⟩
  obtain ⟨P, hP⟩ : ∃ P, P = plP l := ⟨_, rfl⟩
  obtain ⟨O, hO⟩ : ∃ P, P = opP l := ⟨_, rfl⟩
  obtain ⟨f, hf⟩ : ∃ f, f = flt l := ⟨_, rfl⟩
  obtain ⟨n, hn⟩ : ∃ n, n = l.length := ⟨_, rfl⟩
  have hma : maB l = (decide (f = 0) && ansB h P) := by unfold maB; rw [hh, hP, hf]
  rw [hma] at hmy
  unfold PrsR at hp
  rw [← hh, ← hP, ← hO, ← hf, ← hn] at hp
  rw [← hh] at hok
  have HV := Lib.hid hv
  rw [← hn] at hmy ⊢
  have HP := Lib.hid hp
  have HMY := Lib.hid hmy
  have HOK := Lib.hid hok
  have HE := Lib.hid (And.intro hh (And.intro hP (And.intro hf (And.intro hn hl))))
  clear hp hok hh hP hO hn hv hl hmy hma
  go_enter Try.func41, Try.ntmps41
  go_wp2_with fail
  refine HP.out.mono ?_
  rintro e w1 ⟨u, v, rfl, hu, hvv, hb1⟩
  obtain ⟨ua, uc, rfl⟩ := hu.form
  obtain ⟨pa, pc, rfl⟩ := hvv.form
  obtain ⟨on, hon⟩ : ∃ n, n = O.length := ⟨_, rfl⟩
  obtain ⟨pn, hpn⟩ : ∃ n, n = P.length := ⟨_, rfl⟩
  rw [← hon, ← hpn]
  have hb1a := hb1.alloc hb1.size (.cells #[.int .u8 (h.tos : Nat), .int .u16 (h.id : Nat), .bool h.ev, .bool h.df, .bool h.mf, .int .i64 h.off, .int .u8 (h.ttl : Nat), .int .u8 (h.pr : Nat), .int .u32 (h.src : Nat), .int .u32 (h.dst : Nat), .slice ua on uc] 28)
  have HB1 := Lib.hid hb1a
  have k5 : ((f : Int) != 0) = false := by rw [bne_eq_false_iff_eq]; omega
  have HC := HMY.out _ HB1.out
  rw [← HE.out.1, ← HE.out.2.1] at han
  rw [han, hf, hfl] at HC
  rw [show (decide ((0 : Nat) = 0) && true) = true from rfl] at HC
  have HC := Lib.hid HC
  have HQ : Hid (∀ (W : World), Below wm.heap.size wm W → Calls Try.prog 39 #[.slice a n c] W fun e w' => ∃ v, e = .returned v ∧ Bytes w' v (quoL l) ∧ Below W.heap.size W w') := fun W hb => by
    have h9 := quoIR_any (.slice a l.length c) l hfl HE.out.2.2.2.2 W ((show Bytes wm _ l from HV.out).later hb)
    rw [← HE.out.2.2.2.1] at h9
    exact h9
  have HQN : Hid ((quoL l).length ≤ 9990) := by
    have := prs_lens hfl
    show (quoL l).length ≤ 9990
    unfold quoL quoN; simp; omega
  have HAN : Hid (∀ (qa : Option Addr) (qc qn : Nat) (W : World), qn = (quoL l).length → Bytes W (.slice qa qn qc) (quoL l) → Calls Try.prog 32 #[.agg #[.int .u8 11, .int .u8 0, .int .u8 0, .int .u8 0, .int .u8 0, .int .u8 0, .slice qa qn qc]] W fun e w' => ∃ v, e = .returned v ∧ OwnB w' W.heap.size v (msgL (eM 3 0) (quoL l)) ∧ Below W.heap.size W w') := fun qa qc qn W hqn hq => by
    subst hqn
    exact bytesMR_any (eM 3 0) (eM_ok (by omega)) qa qc (quoL l) W hq HQN.out
  have HIB : Hid (∀ (pa : Option Addr) (pc pn : Nat) (W : World), pn = (msgL (eM 3 0) (quoL l)).length → Bytes W (.slice pa pn pc) (msgL (eM 3 0) (quoL l)) → Calls Try.prog 25 #[.agg #[.int .u8 0, .int .u16 0, .bool false, .bool false, .bool false, .int .i64 0, .int .u8 64, .int .u8 1, .int .u32 (fr : Nat), .int .u32 (h.src : Nat), .slice none 0 0], .slice pa pn pc] W fun e w' => ∃ v, e = .returned v ∧ OwnB w' W.heap.size v (ansL (eH fr (hdP l).src) (eM 3 0) (quoL l)) ∧ Below W.heap.size W w') := fun pa pc pn W hpn hp => by
    subst hpn
    have h9 := bytesR_yes (ansH (eH fr h.src)) (ansH_ok ⟨by show 0 < 256; omega, by show 0 < 65536; omega, by show 0 < 256; omega, by show 0 < 256; omega, hfr, HOK.out.src⟩) none 0 [] pa pc (msgL (eM 3 0) (quoL l)) W (Bytes.nil _ _ _) hp (may_nil rfl) (by rw [msgL_length]; have := HQN.out; simp; omega)
    rw [← HE.out.1]
    exact h9
  have hm0 : True := trivial
  have HHA : Hid (HdAt w1.heap.size [.int .u8 (h.tos : Nat), .int .u16 (h.id : Nat), .bool h.ev, .bool h.df, .bool h.mf, .int .i64 h.off, .int .u8 (h.ttl : Nat), .int .u8 (h.pr : Nat), .int .u32 (h.src : Nat), .int .u32 (h.dst : Nat), .slice ua on uc] (w1.alloc (.cells #[.int .u8 (h.tos : Nat), .int .u16 (h.id : Nat), .bool h.ev, .bool h.df, .bool h.mf, .int .i64 h.off, .int .u8 (h.ttl : Nat), .int .u8 (h.pr : Nat), .int .u32 (h.src : Nat), .int .u32 (h.dst : Nat), .slice ua on uc] 28))) := HdAt.new w1 _
  clear hu hvv hb1 hon hpn hf hfl hb1a han hfr
  go_wp2_with fail
  refine HC.out.mono ?_
  rintro e w2 ⟨rfl, hb2⟩
  have HB2 := Lib.hid (HB1.out.trans (hb2.mono HB1.out.size))
  have HH2 : Hid (HdAt w1.heap.size [.int .u8 (h.tos : Nat), .int .u16 (h.id : Nat), .bool h.ev, .bool h.df, .bool h.mf, .int .i64 h.off, .int .u8 (h.ttl : Nat), .int .u8 (h.pr : Nat), .int .u32 (h.src : Nat), .int .u32 (h.dst : Nat), .slice ua on uc] w2) := HHA.out.later hb2
  clear hb2
  go_wp2_with fail
  refine (HQ.out w2 HB2.out).mono ?_
  rintro e w3 ⟨y, rfl, hq, hb3⟩
  obtain ⟨qa, qc, rfl⟩ := hq.form
  obtain ⟨qn, hqn⟩ : ∃ n, n = (quoL l).length := ⟨_, rfl⟩
  rw [← hqn] at hq ⊢
  have hb3' : Below wm.heap.size wm w3 := HB2.out.trans (hb3.mono HB2.out.size)
  have hb4 := hb3'.alloc hb3'.size (.cells #[.int .u8 11, .int .u8 0, .int .u8 0, .int .u8 0, .int .u8 0, .int .u8 0, .slice qa qn qc] 46)
  have hr4 := BlkAt.new (t := 46) w3 [.int .u8 11, .int .u8 0, .int .u8 0, .int .u8 0, .int .u8 0, .int .u8 0, .slice qa qn qc]
  have HH4 : Hid (HdAt w1.heap.size [.int .u8 (h.tos : Nat), .int .u16 (h.id : Nat), .bool h.ev, .bool h.df, .bool h.mf, .int .i64 h.off, .int .u8 (h.ttl : Nat), .int .u8 (h.pr : Nat), .int .u32 (h.src : Nat), .int .u32 (h.dst : Nat), .slice ua on uc] (w3.alloc (.cells #[.int .u8 11, .int .u8 0, .int .u8 0, .int .u8 0, .int .u8 0, .int .u8 0, .slice qa qn qc] 46))) := (HH2.out.later hb3).later ((Below.refl _ _).alloc (Nat.le_refl _) _)
  have HQ4 : Hid (Bytes (w3.alloc (.cells #[.int .u8 11, .int .u8 0, .int .u8 0, .int .u8 0, .int .u8 0, .int .u8 0, .slice qa qn qc] 46)) (.slice qa qn qc) (quoL l)) := hq.later ((Below.refl _ _).alloc (Nat.le_refl _) _)
  obtain ⟨w4, hw4⟩ : ∃ w4, w4 = w3.alloc (.cells #[.int .u8 11, .int .u8 0, .int .u8 0, .int .u8 0, .int .u8 0, .int .u8 0, .slice qa qn qc] 46) := ⟨_, rfl⟩
  obtain ⟨g, hg⟩ : ∃ g, g = w3.heap.size := ⟨_, rfl⟩
  have HB4 : Hid (Below wm.heap.size wm w4) := by rw [hw4]; exact hb4
  have HR4 : Hid (BlkAt 46 g [.int .u8 11, .int .u8 0, .int .u8 0, .int .u8 0, .int .u8 0, .int .u8 0, .slice qa qn qc] w4) := by rw [hw4, hg]; exact hr4
  rw [← hw4] at HH4 HQ4
  have HQNL := Lib.hid hqn
  clear hb3' hb4 hr4 hq hb3 hqn
  go_wp2_with fail
  rw [← hw4, ← hg]
  clear hw4 hg
  (refine wp_region_held_drew (S := (fun w' => Below w4.heap.size w4 w')) (by kernel_rfl) ?_ (fun hHeld => ?_); (focus ((try dsimp only); (exact (Below.refl _ _).drew))))
  (try dsimp only at hHeld)
  obtain ⟨w5, hw5⟩ : ∃ w5, w5 = World.drew w4 := ⟨_, rfl⟩
  rw [← hw5]
  rw [← hw5] at hHeld
  clear hw5
  (refine wpAnyH_take (i := 0) (v := ?_) rfl (by kernel_rfl) (by kernel_rfl) (by kernel_rfl) (fun _ _ _ h => h) (Or.inl ⟨by rfl, ?_⟩) hHeld ?_; rotate_left; (focus (intro w hSw; (try dsimp only at hSw); go_simp; try with_reducible rfl)); (try simp only [Act.put, List.setIfInBounds_toArray, List.set_cons_zero, List.set_cons_succ, List.getElem_toArray, List.getElem_cons_zero])); (refine wpAnyH_take (i := 1) (v := ?_) rfl (by kernel_rfl) (by kernel_rfl) (by kernel_rfl) (fun _ _ _ h => h) (Or.inl ⟨by rfl, ?_⟩) hHeld ?_; rotate_left; (focus (intro w hSw; (try dsimp only at hSw); go_simp; try with_reducible rfl)); (try simp only [Act.put, List.setIfInBounds_toArray, List.set_cons_zero, List.set_cons_succ, List.getElem_toArray, List.getElem_cons_zero, List.getElem_cons_succ]))
  (refine wpAnyH_take (i := 2) (v := ?_) rfl (by kernel_rfl) (by kernel_rfl) (by kernel_rfl) (fun _ _ _ h => h) (Or.inl ⟨by rfl, ?_⟩) hHeld ?_; rotate_left; (focus (intro w hSw; (try dsimp only at hSw); go_simp; (have hcc := HdAt.cell (HH4.out.later hSw) (j := 8) rfl; go_simp; try with_reducible rfl))); (try simp only [Act.put, List.setIfInBounds_toArray, List.set_cons_zero, List.set_cons_succ, List.getElem_toArray, List.getElem_cons_zero, List.getElem_cons_succ]))
  (refine wpAnyH_take (i := 3) (v := ?_) rfl (by kernel_rfl) (by kernel_rfl) (by kernel_rfl) (fun _ _ _ h => h) (Or.inl ⟨by rfl, ?_⟩) hHeld ?_; rotate_left; (focus (intro w hSw; (try dsimp only at hSw); go_simp; try with_reducible rfl)); (try simp only [Act.put, List.setIfInBounds_toArray, List.set_cons_zero, List.set_cons_succ, List.getElem_toArray, List.getElem_cons_zero, List.getElem_cons_succ]))
  (refine wpAnyH_take (i := 4) (v := ?_) rfl (by kernel_rfl) (by kernel_rfl) (by kernel_rfl) (fun _ _ _ h => h) (Or.inl ⟨by rfl, ?_⟩) hHeld ?_; rotate_left; (focus (intro w hSw; (try dsimp only at hSw); go_simp; (have hq := BlkAt.later HR4.out hSw; have c0 := BlkAt.cell hq (j := 0) rfl; have c1 := BlkAt.cell hq (j := 1) rfl; have c2 := BlkAt.cell hq (j := 2) rfl; have c3 := BlkAt.cell hq (j := 3) rfl; have c4 := BlkAt.cell hq (j := 4) rfl; have c5 := BlkAt.cell hq (j := 5) rfl; have c6 := BlkAt.cell hq (j := 6) rfl; go_simp; try with_reducible rfl))); (try simp only [Act.put, List.setIfInBounds_toArray, List.set_cons_zero, List.set_cons_succ, List.getElem_toArray, List.getElem_cons_zero, List.getElem_cons_succ]))
  (refine wpAnyH_ready (rs := [5]) (by kernel_rfl) (by simp) ?_; refine AllReadyH.cons rfl (fun K hK => ?_) AllReadyH.nil; go_simp; refine (HAN.out qa qc qn w5 HQNL.out ((show Bytes w4 _ _ from HQ4.out).later hHeld)).mono ?_; rintro e w6 ⟨z, rfl, hoz, hs⟩; refine hK.out _ _ ?_ (fun hHeldN => ?_); (focus ((try dsimp only); (exact hHeld.trans (hs.mono hHeld.size)))); clear hK K hHeld; have hHeld := hHeldN; clear hHeldN; (try simp only [Act.put, List.setIfInBounds_toArray, List.set_cons_zero, List.set_cons_succ, List.getElem_toArray, List.getElem_cons_zero, List.getElem_cons_succ]))
  obtain ⟨za, zc, rfl⟩ := hoz.form
  obtain ⟨zn, hzn⟩ : ∃ n, n = (msgL (eM 3 0) (quoL l)).length := ⟨_, rfl⟩
  rw [← hzn]
  have HY := Lib.hid (HIB.out za zc zn w6 hzn (by rw [hzn]; exact OwnB.bytes hoz))
  clear hs hoz hzn
  (refine wpAnyH_ready (rs := [6]) (by kernel_rfl) (by simp) ?_; refine AllReadyH.cons rfl (fun K hK => ?_) AllReadyH.nil; go_simp; refine (HY.out).mono ?_; rintro e w7 ⟨x, rfl, hox, hs⟩; have HO7 := Lib.hid (OwnB.weak hox (Nat.le_trans HB4.out.size hHeld.size)); refine hK.out _ _ ?_ (fun hHeldN => ?_); (focus ((try dsimp only); (exact hHeld.trans (hs.mono hHeld.size)))); clear hK K hHeld; have hHeld := hHeldN; clear hHeldN; (try simp only [Act.put, List.setIfInBounds_toArray, List.set_cons_zero, List.set_cons_succ, List.getElem_toArray, List.getElem_cons_zero, List.getElem_cons_succ]))
  clear hs hox
  (refine wpAnyH_take (i := 7) (v := ?_) rfl (by kernel_rfl) (by kernel_rfl) (by kernel_rfl) (fun _ _ _ h => h) (Or.inl ⟨by rfl, ?_⟩) hHeld ?_; rotate_left; (focus (intro w hSw; (try dsimp only at hSw); go_simp; try with_reducible rfl)); (try simp only [Act.put, List.setIfInBounds_toArray, List.set_cons_zero, List.set_cons_succ, List.getElem_toArray, List.getElem_cons_zero, List.getElem_cons_succ])); (refine wpAnyH_take (i := 8) (v := ?_) rfl (by kernel_rfl) (by kernel_rfl) (by kernel_rfl) (fun _ _ _ h => h) (Or.inl ⟨by rfl, ?_⟩) hHeld ?_; rotate_left; (focus (intro w hSw; (try dsimp only at hSw); go_simp; try with_reducible rfl)); (try simp only [Act.put, List.setIfInBounds_toArray, List.set_cons_zero, List.set_cons_succ, List.getElem_toArray, List.getElem_cons_zero, List.getElem_cons_succ]))
  refine wpAnyH_done (by kernel_rfl) ?_ _
  have HB7 := Lib.hid (HB4.out.trans (hHeld.mono HB4.out.size))
  clear hHeld
  go_wp2_with fail
  go_ret2
  exact ⟨_, rfl, HO7.out, HB7.out⟩

/-- Arguments that Error refuses; the error it tells; the packet. -/
def badA (k mtu : Int) : Bool := !sentB k || (decide (mtu < 0) || (decide (65535 < mtu) || ((k != 2) && (mtu != 0))))
def errN (k mtu : Int) (l : List UInt8) : Nat := if badA k mtu = true then 2 else if flt l ≠ 0 then 4 else if ansB (hdP l) (plP l) = false then 7 else 0
def errL (k mtu : Int) (l : List UInt8) (fr : Nat) : List UInt8 := if errN k mtu l = 0 then ansL (eH fr (hdP l).src) (eM k mtu.toNat) (quoL l) else []
theorem errN_cases (k mtu : Int) (l : List UInt8) : (badA k mtu = true ∧ errN k mtu l = 2) ∨ (badA k mtu = false ∧ flt l ≠ 0 ∧ errN k mtu l = 4) ∨ (badA k mtu = false ∧ flt l = 0 ∧ ansB (hdP l) (plP l) = false ∧ errN k mtu l = 7) ∨ (badA k mtu = false ∧ flt l = 0 ∧ ansB (hdP l) (plP l) = true ∧ errN k mtu l = 0) := by
  unfold errN
  cases h1 : badA k mtu
  · by_cases h2 : flt l = 0
    · cases h3 : ansB (hdP l) (plP l) <;> simp [h2]
    · simp [h2]
  · simp
def ErrRes (wm : World) (k mtu : Int) (l : List UInt8) (fr : Nat) (e : Ending) (w' : World) : Prop := ∃ v, e = .returned (.tuple #[v, .int .i64 (errN k mtu l : Nat)]) ∧ OwnB w' wm.heap.size v (errL k mtu l fr) ∧ Below wm.heap.size wm w'
theorem err_bad {wm : World} {k mtu : Int} {l : List UInt8} {fr : Nat} {n : Nat} {e : Ending} {w' : World} (hn : errN k mtu l = n) (h0 : n ≠ 0) (h : e = .returned (.tuple #[.slice none 0 0, .int .i64 (n : Nat)]) ∧ Below wm.heap.size wm w') : ErrRes wm k mtu l fr e w' := by
  obtain ⟨rfl, hb⟩ := h
  refine ⟨.slice none 0 0, by rw [hn], ?_, hb⟩
  unfold errL; rw [if_neg (by omega)]; exact OwnB.nil _ _
theorem good_args {k mtu : Int} (h : badA k mtu = false) : sentB k = true ∧ ∃ mt : Nat, mtu = (mt : Int) ∧ mtu.toNat = mt ∧ mt ≤ 65535 ∧ ((k != 2) = true → mt = 0) := by
  unfold badA at h
  simp only [Bool.or_eq_false_iff, Bool.not_eq_false', decide_eq_false_iff_not, Bool.and_eq_false_iff] at h
  obtain ⟨h1, h2, h3, h4⟩ := h
  obtain ⟨mt, rfl⟩ := Int.eq_ofNat_of_zero_le (show 0 ≤ mtu by omega)
  refine ⟨h1, mt, rfl, rfl, by omega, fun hk => ?_⟩
  rcases h4 with h4 | h4
  · rw [h4] at hk; cases hk
  · rw [bne_eq_false_iff_eq] at h4; omega
theorem sent_cases {k : Int} (h : sentB k = true) : k = 1 ∨ k = 2 ∨ k = 3 := by unfold sentB at h; simpa using h
theorem sent_range {k : Int} (h : sentB k = true) : 1 ≤ k ∧ k ≤ 3 := by rcases sent_cases h with rfl | rfl | rfl <;> omega
theorem sent_no {k : Int} (h : sentB k = false) : k < 1 ∨ 3 < k := by
  unfold sentB at h
  simp only [Bool.or_eq_false_iff, decide_eq_false_iff_not] at h
  omega
theorem bad_cases {k mtu : Int} (h : badA k mtu = true) : sentB k = false ∨ (sentB k = true ∧ mtu < 0) ∨ (sentB k = true ∧ 0 ≤ mtu ∧ 65535 < mtu) ∨ (sentB k = true ∧ 0 ≤ mtu ∧ mtu ≤ 65535 ∧ (k != 2) = true ∧ (mtu != 0) = true) := by
  unfold badA at h
  cases hs : sentB k
  · exact .inl rfl
  · rw [hs] at h
    simp only [Bool.not_true, Bool.false_or, Bool.or_eq_true, decide_eq_true_eq, Bool.and_eq_true] at h
    rcases h with h | h | ⟨h1, h2⟩
    · exact .inr (.inl ⟨rfl, h⟩)
    · exact .inr (.inr (.inl ⟨rfl, by omega, h⟩))
    · by_cases h3 : 0 ≤ mtu
      · by_cases h4 : mtu ≤ 65535
        · exact .inr (.inr (.inr ⟨rfl, h3, h4, h1, h2⟩))
        · exact .inr (.inr (.inl ⟨rfl, h3, by omega⟩))
      · exact .inr (.inl ⟨rfl, by omega⟩)
theorem errW_any (k : Int) (v : Value) (l : List UInt8) (hl : l.length ≤ 1000000) (fr : Nat) (hfr : fr < 4294967296) (mtu : Int) (wm : World) (hv : Bytes wm v l) :
    Calls Try.prog 40 #[.int .i64 k, v, .int .u32 (fr : Nat), .int .i64 mtu] wm (ErrRes wm k mtu l fr) := by
  have hf := hv.form
  rcases errN_cases k mtu l with ⟨hb, hn⟩ | ⟨hb, h1, hn⟩ | ⟨hb, h1, h2, hn⟩ | ⟨hb, h1, h2, hn⟩
  · obtain ⟨a, c, hvf⟩ := hf
    have hpv : ∃ a n c, v = .slice a n c := ⟨a, _, c, hvf⟩
    rcases bad_cases hb with h | ⟨h, h1⟩ | ⟨h, h1, h2⟩ | ⟨h, h1, h2, h3, h4⟩
    · exact (errW_b0 k v fr mtu wm hpv h).mono fun e w' h => err_bad hn (by decide) h
    · exact (errW_b1 k v fr mtu wm hpv h h1).mono fun e w' h => err_bad hn (by decide) h
    · exact (errW_b2 k v fr mtu wm hpv h h1 h2).mono fun e w' h => err_bad hn (by decide) h
    · exact (errW_b3 k v fr mtu wm hpv h h1 h2 h3 h4).mono fun e w' h => err_bad hn (by decide) h
  · obtain ⟨hk, mt, rfl, _, hm, hz⟩ := good_args hb
    cases hk2 : (k != 2)
    · exact (errW_bytes2 k hk hk2 v l hl fr mt hm wm hv h1).mono fun e w' h => err_bad hn (by decide) h
    · exact (errW_bytes1 k hk hk2 v l hl fr mt (hz hk2) wm hv h1).mono fun e w' h => err_bad hn (by decide) h
  · obtain ⟨hk, mt, rfl, _, hm, hz⟩ := good_args hb
    cases hk2 : (k != 2)
    · exact (errW_state2 k hk hk2 v l hl fr mt hm wm hv h1 h2).mono fun e w' h => err_bad hn (by decide) h
    · exact (errW_state1 k hk hk2 v l hl fr mt (hz hk2) wm hv h1 h2).mono fun e w' h => err_bad hn (by decide) h
  · obtain ⟨hk, mt, rfl, ht, hm, hz⟩ := good_args hb
    have fin : ∀ e w', (∃ v, e = .returned (.tuple #[v, .int .i64 0]) ∧ OwnB w' wm.heap.size v (ansL (eH fr (hdP l).src) (eM k mt) (quoL l)) ∧ Below wm.heap.size wm w') → ErrRes wm k mt l fr e w' := by
      rintro e w' ⟨x, rfl, ho, hb⟩
      refine ⟨x, by rw [hn]; rfl, ?_, hb⟩
      unfold errL; rw [if_pos hn, ht]; exact ho
    cases hk2 : (k != 2)
    · exact (errW_ok2 k hk hk2 v l hl fr hfr mt hm wm hv h1 h2).mono fin
    · exact (errW_ok1 k hk hk2 v l hl fr hfr mt (hz hk2) wm hv h1 h2).mono fin
theorem errR_any (k : Int) (v : Value) (l : List UInt8) (hl : l.length ≤ 1000000) (fr : Nat) (hfr : fr < 4294967296) (mtu : Int) (wm : World) (hv : Bytes wm v l) :
    Calls Try.prog 41 #[.int .i64 k, v, .int .u32 (fr : Nat), .int .i64 mtu] wm (ErrRes wm k mtu l fr) := by
  have hf := hv.form
  rcases errN_cases k mtu l with ⟨hb, hn⟩ | ⟨hb, h1, hn⟩ | ⟨hb, h1, h2, hn⟩ | ⟨hb, h1, h2, hn⟩
  · obtain ⟨a, c, hvf⟩ := hf
    have hpv : ∃ a n c, v = .slice a n c := ⟨a, _, c, hvf⟩
    rcases bad_cases hb with h | ⟨h, h1⟩ | ⟨h, h1, h2⟩ | ⟨h, h1, h2, h3, h4⟩
    · rcases sent_no h with h | h
      · exact (errR_b0 k v fr mtu wm hpv h).mono fun e w' h => err_bad hn (by decide) h
      · exact (errR_b1 k v fr mtu wm hpv h).mono fun e w' h => err_bad hn (by decide) h
    · obtain ⟨g1, g2⟩ := sent_range h
      exact (errR_b2 k v fr mtu wm hpv g1 g2 h1).mono fun e w' h => err_bad hn (by decide) h
    · obtain ⟨g1, g2⟩ := sent_range h
      exact (errR_b3 k v fr mtu wm hpv g1 g2 h1 h2).mono fun e w' h => err_bad hn (by decide) h
    · obtain ⟨g1, g2⟩ := sent_range h
      exact (errR_b4 k v fr mtu wm hpv g1 g2 h1 h2 h3 h4).mono fun e w' h => err_bad hn (by decide) h
  · obtain ⟨hk, mt, rfl, _, hm, hz⟩ := good_args hb
    rcases sent_cases hk with rfl | rfl | rfl
    · exact (errR_bytes1 v l hl fr mt (hz rfl) wm hv h1).mono fun e w' h => err_bad hn (by decide) h
    · exact (errR_bytes2 v l hl fr mt hm wm hv h1).mono fun e w' h => err_bad hn (by decide) h
    · exact (errR_bytes3 v l hl fr mt (hz rfl) wm hv h1).mono fun e w' h => err_bad hn (by decide) h
  · obtain ⟨hk, mt, rfl, _, hm, hz⟩ := good_args hb
    rcases sent_cases hk with rfl | rfl | rfl
    · exact (errR_state1 v l hl fr mt (hz rfl) wm hv h1 h2).mono fun e w' h => err_bad hn (by decide) h
    · exact (errR_state2 v l hl fr mt hm wm hv h1 h2).mono fun e w' h => err_bad hn (by decide) h
    · exact (errR_state3 v l hl fr mt (hz rfl) wm hv h1 h2).mono fun e w' h => err_bad hn (by decide) h
  · obtain ⟨hk, mt, rfl, ht, hm, hz⟩ := good_args hb
    have fin : ∀ e w', (∃ v, e = .returned (.tuple #[v, .int .i64 0]) ∧ OwnB w' wm.heap.size v (ansL (eH fr (hdP l).src) (eM k mt) (quoL l)) ∧ Below wm.heap.size wm w') → ErrRes wm k mt l fr e w' := by
      rintro e w' ⟨x, rfl, ho, hb⟩
      refine ⟨x, by rw [hn]; rfl, ?_, hb⟩
      unfold errL; rw [if_pos hn, ht]; exact ho
    rcases sent_cases hk with rfl | rfl | rfl
    · exact (errR_ok1 v l hl fr hfr mt (hz rfl) wm hv h1 h2).mono fin
    · exact (errR_ok2 v l hl fr hfr mt hm wm hv h1 h2).mono fin
    · exact (errR_ok3 v l hl fr hfr mt (hz rfl) wm hv h1 h2).mono fin
end Go.Proofs.Ytnhkkpcepppgoaa
