/- The walk of icmp.Error. -/
import Derived.Test.YtnhkkpcepppgoaaZ12

set_option linter.unusedSimpArgs false
set_option linter.unusedVariables false
namespace Go.Proofs.Ytnhkkpcepppgoaa
open Go.RowKit
attribute [local go_sem ↓] Go.wp_at_zero Go.wp_at_succ

/-- The header that an error is told with, ahead of its TTL and Proto. -/
def eH (fr src : Nat) : Hd := ⟨0, 0, false, false, false, 0, 0, 0, fr, src⟩
def eTy (k : Int) : Nat := if k = 3 then 11 else 3
def eCo (k : Int) : Nat := if k = 2 then 4 else 0
def eM (k : Int) (mt : Nat) : Mg := ⟨eTy k, eCo k, 0, 0, mt / 256, mt % 256⟩
theorem sentV_yes {k : Int} (h : sentB k = true) : sentV k = .agg #[.int .u8 (eTy k : Nat), .int .u8 (eCo k : Nat), .int .u8 0, .int .u8 0, .int .u8 0, .int .u8 0, .slice none 0 0] := by
  unfold sentB at h
  have h : k = 1 ∨ k = 2 ∨ k = 3 := by simpa using h
  rcases h with rfl | rfl | rfl <;> rfl
theorem eM_ok {k : Int} {mt : Nat} (h : mt < 65536) : (eM k mt).Ok := by
  unfold eM eTy eCo
  refine ⟨?_, ?_, ?_, ?_, ?_, ?_⟩ <;> simp only <;> (try split) <;> omega
theorem sentV_form (k : Int) : ∃ ty co : Nat, sentV k = .agg #[.int .u8 (ty : Nat), .int .u8 (co : Nat), .int .u8 0, .int .u8 0, .int .u8 0, .int .u8 0, .slice none 0 0] := by
  unfold sentV
  split
  · exact ⟨3, 0, rfl⟩
  · split
    · exact ⟨3, 4, rfl⟩
    · split
      · exact ⟨11, 0, rfl⟩
      · exact ⟨0, 0, rfl⟩
theorem putL2 (n : Nat) (h : n < 65536) : bv (putL n 2) = [.int .u8 (n / 256 : Nat), .int .u8 (n % 256 : Nat)] := by
  have e : putL n 2 = [UInt8.ofNat (n / 256), UInt8.ofNat n] := by simp [putL]
  rw [e]
  simp only [bv, List.map_cons, List.map_nil, UInt8.toNat_ofNat']
  rw [show n / 256 % 2 ^ 8 = n / 256 from by omega, show n % 2 ^ 8 = n % 256 from by omega]
set_option maxHeartbeats 8000000 in
set_option maxRecDepth 100000 in
theorem errW_b0 (k : Int) (pv : Value) (fr : Nat) (mtu : Int) (wm : World) (hpv : ∃ a n c, pv = .slice a n c) (hk : sentB k = false) :
    Calls Try.prog 40 #[.int .i64 k, pv, .int .u32 (fr : Nat), .int .i64 mtu] wm fun e w' => e = .returned (.tuple #[.slice none 0 0, .int .i64 2]) ∧ Below wm.heap.size wm w' := by
  obtain ⟨a, n, c, rfl⟩ := hpv
  have hlk := look_sent (wm.alloc (.map sentM 3)) wm.heap.size 3 k (World.alloc_heap_new wm _)
  obtain ⟨ty, co, hsv⟩ := sentV_form k
  rw [hsv] at hlk
  rw [hk] at hlk
  clear hsv hk
  have hbb : Below wm.heap.size wm (wm.alloc (.map sentM 3)) := (Below.refl _ _).alloc (Nat.le_refl _) _
  have HBB := Lib.hid (hbb.alloc hbb.size (.cells #[.int .u8 (ty : Nat), .int .u8 (co : Nat), .int .u8 0, .int .u8 0, .int .u8 0, .int .u8 0, .slice none 0 0] 46))
  clear hbb
  go_enter Try.func40, Try.ntmps40
  go_wp2_with fail
  refine (sent_any wm).mono ?_
  rintro e w1 ⟨rfl, rfl⟩
  go_wp2_with fail
  go_ret2
  exact ⟨rfl, HBB.out⟩
set_option maxHeartbeats 8000000 in
set_option maxRecDepth 100000 in
theorem errW_b1 (k : Int) (pv : Value) (fr : Nat) (mtu : Int) (wm : World) (hpv : ∃ a n c, pv = .slice a n c) (hk : sentB k = true) (k1 : mtu < 0) :
    Calls Try.prog 40 #[.int .i64 k, pv, .int .u32 (fr : Nat), .int .i64 mtu] wm fun e w' => e = .returned (.tuple #[.slice none 0 0, .int .i64 2]) ∧ Below wm.heap.size wm w' := by
  obtain ⟨a, n, c, rfl⟩ := hpv
  have hlk := look_sent (wm.alloc (.map sentM 3)) wm.heap.size 3 k (World.alloc_heap_new wm _)
  obtain ⟨ty, co, hsv⟩ := sentV_form k
  rw [hsv] at hlk
  rw [hk] at hlk
  clear hsv hk
  have hbb : Below wm.heap.size wm (wm.alloc (.map sentM 3)) := (Below.refl _ _).alloc (Nat.le_refl _) _
  have HBB := Lib.hid (hbb.alloc hbb.size (.cells #[.int .u8 (ty : Nat), .int .u8 (co : Nat), .int .u8 0, .int .u8 0, .int .u8 0, .int .u8 0, .slice none 0 0] 46))
  clear hbb
  go_enter Try.func40, Try.ntmps40
  go_wp2_with fail
  refine (sent_any wm).mono ?_
  rintro e w1 ⟨rfl, rfl⟩
  go_wp2_with fail
  go_ret2
  exact ⟨rfl, HBB.out⟩
set_option maxHeartbeats 8000000 in
set_option maxRecDepth 100000 in
theorem errW_b2 (k : Int) (pv : Value) (fr : Nat) (mtu : Int) (wm : World) (hpv : ∃ a n c, pv = .slice a n c) (hk : sentB k = true) (k1 : 0 ≤ mtu) (k2 : 65535 < mtu) :
    Calls Try.prog 40 #[.int .i64 k, pv, .int .u32 (fr : Nat), .int .i64 mtu] wm fun e w' => e = .returned (.tuple #[.slice none 0 0, .int .i64 2]) ∧ Below wm.heap.size wm w' := by
  obtain ⟨a, n, c, rfl⟩ := hpv
  have hlk := look_sent (wm.alloc (.map sentM 3)) wm.heap.size 3 k (World.alloc_heap_new wm _)
  obtain ⟨ty, co, hsv⟩ := sentV_form k
  rw [hsv] at hlk
  rw [hk] at hlk
  clear hsv hk
  have hbb : Below wm.heap.size wm (wm.alloc (.map sentM 3)) := (Below.refl _ _).alloc (Nat.le_refl _) _
  have HBB := Lib.hid (hbb.alloc hbb.size (.cells #[.int .u8 (ty : Nat), .int .u8 (co : Nat), .int .u8 0, .int .u8 0, .int .u8 0, .int .u8 0, .slice none 0 0] 46))
  clear hbb
  go_enter Try.func40, Try.ntmps40
  go_wp2_with fail
  refine (sent_any wm).mono ?_
  rintro e w1 ⟨rfl, rfl⟩
  go_wp2_with fail
  go_ret2
  exact ⟨rfl, HBB.out⟩
set_option maxHeartbeats 8000000 in
set_option maxRecDepth 100000 in
theorem errW_b3 (k : Int) (pv : Value) (fr : Nat) (mtu : Int) (wm : World) (hpv : ∃ a n c, pv = .slice a n c) (hk : sentB k = true) (k1 : 0 ≤ mtu) (k2 : mtu ≤ 65535) (k3 : (k != 2) = true) (k4 : (mtu != 0) = true) :
    Calls Try.prog 40 #[.int .i64 k, pv, .int .u32 (fr : Nat), .int .i64 mtu] wm fun e w' => e = .returned (.tuple #[.slice none 0 0, .int .i64 2]) ∧ Below wm.heap.size wm w' := by
  obtain ⟨a, n, c, rfl⟩ := hpv
  have hlk := look_sent (wm.alloc (.map sentM 3)) wm.heap.size 3 k (World.alloc_heap_new wm _)
  obtain ⟨ty, co, hsv⟩ := sentV_form k
  rw [hsv] at hlk
  rw [hk] at hlk
  clear hsv hk
  have hbb : Below wm.heap.size wm (wm.alloc (.map sentM 3)) := (Below.refl _ _).alloc (Nat.le_refl _) _
  have HBB := Lib.hid (hbb.alloc hbb.size (.cells #[.int .u8 (ty : Nat), .int .u8 (co : Nat), .int .u8 0, .int .u8 0, .int .u8 0, .int .u8 0, .slice none 0 0] 46))
  clear hbb
  go_enter Try.func40, Try.ntmps40
  go_wp2_with fail
  refine (sent_any wm).mono ?_
  rintro e w1 ⟨rfl, rfl⟩
  go_wp2_with fail
  go_ret2
  exact ⟨rfl, HBB.out⟩
set_option maxHeartbeats 8000000 in
set_option maxRecDepth 100000 in
theorem errW_bytes2 (k : Int) (hk : sentB k = true) (kk : (k != 2) = false) (v : Value) (l : List UInt8) (hl : l.length ≤ 1000000) (fr : Nat) (mt : Nat) (hmt : mt ≤ 65535) (wm : World) (hv : Bytes wm v l) (hfl : flt l ≠ 0) :
    Calls Try.prog 40 #[.int .i64 k, v, .int .u32 (fr : Nat), .int .i64 (mt : Nat)] wm fun e w' => e = .returned (.tuple #[.slice none 0 0, .int .i64 4]) ∧ Below wm.heap.size wm w' := by
  obtain ⟨a, c, rfl⟩ := hv.form
  have hlk := look_sent (wm.alloc (.map sentM 3)) wm.heap.size 3 k (World.alloc_heap_new wm _)
  rw [sentV_yes hk, hk] at hlk
  obtain ⟨ty, hty⟩ : ∃ x, x = eTy k := ⟨_, rfl⟩
  obtain ⟨co, hco⟩ : ∃ x, x = eCo k := ⟨_, rfl⟩
  rw [← hty, ← hco] at hlk
  have hbb : Below wm.heap.size wm (wm.alloc (.map sentM 3)) := (Below.refl _ _).alloc (Nat.le_refl _) _
  have hb2 := hbb.alloc hbb.size (.cells #[.int .u8 (ty : Nat), .int .u8 (co : Nat), .int .u8 0, .int .u8 0, .int .u8 0, .int .u8 0, .slice none 0 0] 46)
  have hr2 := BlkAt.new (t := 46) (wm.alloc (.map sentM 3)) [.int .u8 (ty : Nat), .int .u8 (co : Nat), .int .u8 0, .int .u8 0, .int .u8 0, .int .u8 0, .slice none 0 0]
  rw [World.size_alloc] at hr2
  have hp := prsW_any _ l hl _ (hv.later hb2)
  obtain ⟨g, hg⟩ : ∃ g, g = wm.heap.size + 1 := ⟨_, rfl⟩
  obtain ⟨w, hw⟩ : ∃ w, w = ((wm.alloc (.map sentM 3)).alloc (.cells #[.int .u8 (ty : Nat), .int .u8 (co : Nat), .int .u8 0, .int .u8 0, .int .u8 0, .int .u8 0, .slice none 0 0] 46)) := ⟨_, rfl⟩
  rw [← hw] at hb2 hp
  have hr2 : BlkAt 46 g [.int .u8 (ty : Nat), .int .u8 (co : Nat), .int .u8 0, .int .u8 0, .int .u8 0, .int .u8 0, .slice none 0 0] w := by rw [hw, hg]; exact hr2
  have hok := hdP_ok l
  obtain ⟨h, hh⟩ : ∃ h, h = hdP l := ⟨_, rfl⟩
  obtain ⟨P, hP⟩ : ∃ P, P = plP l := ⟨_, rfl⟩
  obtain ⟨O, hO⟩ : ∃ P, P = opP l := ⟨_, rfl⟩
  obtain ⟨f, hf⟩ : ∃ f, f = flt l := ⟨_, rfl⟩
  obtain ⟨n, hn⟩ : ∃ n, n = l.length := ⟨_, rfl⟩
  unfold PrsW at hp
  rw [← hh, ← hP, ← hO, ← hf, ← hn] at hp
  rw [← hh] at hok
  have HV := Lib.hid hv
  rw [← hn]
  have HP := Lib.hid hp
  have HOK := Lib.hid hok
  have HB := Lib.hid hb2
  have HR := Lib.hid hr2
  have HG : Hid (g = wm.heap.size + 1) := hg
  have HE := Lib.hid (And.intro hty (And.intro hco (And.intro hh (And.intro hP (And.intro hO (And.intro hf (And.intro hn (And.intro hk hl))))))))
  have k1 : (mt : Int) ≤ 65535 := by omega
  clear hp hok hb2 hr2 hbb hty hco hh hP hO hn hv hl hk hmt
  go_enter Try.func40, Try.ntmps40
  go_wp2_with fail
  refine (sent_any wm).mono ?_
  rintro e w1 ⟨rfl, rfl⟩
  go_wp2_with fail
  rw [← hw, ← hg]
  clear hw hg
  refine HP.out.mono ?_
  rintro e w1 ⟨u, v, B, rfl, hu, hvv, _, _, hb1⟩
  obtain ⟨ua, uc, rfl⟩ := hu.form
  obtain ⟨pa, pc, rfl⟩ := hvv.form
  obtain ⟨on, hon⟩ : ∃ n, n = O.length := ⟨_, rfl⟩
  obtain ⟨pn, hpn⟩ : ∃ n, n = P.length := ⟨_, rfl⟩
  rw [← hon] at hu
  rw [← hpn] at hvv
  rw [← hon, ← hpn]
  have hb1a := hb1.alloc hb1.size (.cells #[.int .u8 (h.tos : Nat), .int .u16 (h.id : Nat), .bool h.ev, .bool h.df, .bool h.mf, .int .i64 h.off, .int .u8 (h.ttl : Nat), .int .u8 (h.pr : Nat), .int .u32 (h.src : Nat), .int .u32 (h.dst : Nat), .slice ua on uc] 28)
  have HB1 := Lib.hid (HB.out.trans (hb1a.mono HB.out.size))
  have k5 : ((f : Int) != 0) = true := by rw [bne_iff_ne]; omega
  clear hu hvv hb1 hon hpn hf hfl hb1a
  go_wp2_with fail
  go_ret2
  exact ⟨rfl, HB1.out⟩
set_option maxHeartbeats 8000000 in
set_option maxRecDepth 100000 in
theorem errW_bytes1 (k : Int) (hk : sentB k = true) (kk : (k != 2) = true) (v : Value) (l : List UInt8) (hl : l.length ≤ 1000000) (fr : Nat) (mt : Nat) (hmt : mt = 0) (wm : World) (hv : Bytes wm v l) (hfl : flt l ≠ 0) :
    Calls Try.prog 40 #[.int .i64 k, v, .int .u32 (fr : Nat), .int .i64 (mt : Nat)] wm fun e w' => e = .returned (.tuple #[.slice none 0 0, .int .i64 4]) ∧ Below wm.heap.size wm w' := by
  obtain ⟨a, c, rfl⟩ := hv.form
  have km : ((mt : Int) != 0) = false := by rw [bne_eq_false_iff_eq]; omega
  have hlk := look_sent (wm.alloc (.map sentM 3)) wm.heap.size 3 k (World.alloc_heap_new wm _)
  rw [sentV_yes hk, hk] at hlk
  obtain ⟨ty, hty⟩ : ∃ x, x = eTy k := ⟨_, rfl⟩
  obtain ⟨co, hco⟩ : ∃ x, x = eCo k := ⟨_, rfl⟩
  rw [← hty, ← hco] at hlk
  have hbb : Below wm.heap.size wm (wm.alloc (.map sentM 3)) := (Below.refl _ _).alloc (Nat.le_refl _) _
  have hb2 := hbb.alloc hbb.size (.cells #[.int .u8 (ty : Nat), .int .u8 (co : Nat), .int .u8 0, .int .u8 0, .int .u8 0, .int .u8 0, .slice none 0 0] 46)
  have hr2 := BlkAt.new (t := 46) (wm.alloc (.map sentM 3)) [.int .u8 (ty : Nat), .int .u8 (co : Nat), .int .u8 0, .int .u8 0, .int .u8 0, .int .u8 0, .slice none 0 0]
  rw [World.size_alloc] at hr2
  have hp := prsW_any _ l hl _ (hv.later hb2)
  obtain ⟨g, hg⟩ : ∃ g, g = wm.heap.size + 1 := ⟨_, rfl⟩
  obtain ⟨w, hw⟩ : ∃ w, w = ((wm.alloc (.map sentM 3)).alloc (.cells #[.int .u8 (ty : Nat), .int .u8 (co : Nat), .int .u8 0, .int .u8 0, .int .u8 0, .int .u8 0, .slice none 0 0] 46)) := ⟨_, rfl⟩
  rw [← hw] at hb2 hp
  have hr2 : BlkAt 46 g [.int .u8 (ty : Nat), .int .u8 (co : Nat), .int .u8 0, .int .u8 0, .int .u8 0, .int .u8 0, .slice none 0 0] w := by rw [hw, hg]; exact hr2
  have hok := hdP_ok l
  obtain ⟨h, hh⟩ : ∃ h, h = hdP l := ⟨_, rfl⟩
  obtain ⟨P, hP⟩ : ∃ P, P = plP l := ⟨_, rfl⟩
  obtain ⟨O, hO⟩ : ∃ P, P = opP l := ⟨_, rfl⟩
  obtain ⟨f, hf⟩ : ∃ f, f = flt l := ⟨_, rfl⟩
  obtain ⟨n, hn⟩ : ∃ n, n = l.length := ⟨_, rfl⟩
  unfold PrsW at hp
  rw [← hh, ← hP, ← hO, ← hf, ← hn] at hp
  rw [← hh] at hok
  have HV := Lib.hid hv
  rw [← hn]
  have HP := Lib.hid hp
  have HOK := Lib.hid hok
  have HB := Lib.hid hb2
  have HR := Lib.hid hr2
  have HG : Hid (g = wm.heap.size + 1) := hg
  have HE := Lib.hid (And.intro hty (And.intro hco (And.intro hh (And.intro hP (And.intro hO (And.intro hf (And.intro hn (And.intro hk hl))))))))
  have k1 : (mt : Int) ≤ 65535 := by omega
  clear hp hok hb2 hr2 hbb hty hco hh hP hO hn hv hl hk hmt
  go_enter Try.func40, Try.ntmps40
  go_wp2_with fail
  refine (sent_any wm).mono ?_
  rintro e w1 ⟨rfl, rfl⟩
  go_wp2_with fail
  rw [← hw, ← hg]
  clear hw hg
  refine HP.out.mono ?_
  rintro e w1 ⟨u, v, B, rfl, hu, hvv, _, _, hb1⟩
  obtain ⟨ua, uc, rfl⟩ := hu.form
  obtain ⟨pa, pc, rfl⟩ := hvv.form
  obtain ⟨on, hon⟩ : ∃ n, n = O.length := ⟨_, rfl⟩
  obtain ⟨pn, hpn⟩ : ∃ n, n = P.length := ⟨_, rfl⟩
  rw [← hon] at hu
  rw [← hpn] at hvv
  rw [← hon, ← hpn]
  have hb1a := hb1.alloc hb1.size (.cells #[.int .u8 (h.tos : Nat), .int .u16 (h.id : Nat), .bool h.ev, .bool h.df, .bool h.mf, .int .i64 h.off, .int .u8 (h.ttl : Nat), .int .u8 (h.pr : Nat), .int .u32 (h.src : Nat), .int .u32 (h.dst : Nat), .slice ua on uc] 28)
  have HB1 := Lib.hid (HB.out.trans (hb1a.mono HB.out.size))
  have k5 : ((f : Int) != 0) = true := by rw [bne_iff_ne]; omega
  clear hu hvv hb1 hon hpn hf hfl hb1a
  go_wp2_with fail
  go_ret2
  exact ⟨rfl, HB1.out⟩
set_option maxHeartbeats 8000000 in
set_option maxRecDepth 100000 in
theorem errW_state2 (k : Int) (hk : sentB k = true) (kk : (k != 2) = false) (v : Value) (l : List UInt8) (hl : l.length ≤ 1000000) (fr : Nat) (mt : Nat) (hmt : mt ≤ 65535) (wm : World) (hv : Bytes wm v l) (hfl : flt l = 0) (han : ansB (hdP l) (plP l) = false) :
    Calls Try.prog 40 #[.int .i64 k, v, .int .u32 (fr : Nat), .int .i64 (mt : Nat)] wm fun e w' => e = .returned (.tuple #[.slice none 0 0, .int .i64 7]) ∧ Below wm.heap.size wm w' := by
  obtain ⟨a, c, rfl⟩ := hv.form
  have hlk := look_sent (wm.alloc (.map sentM 3)) wm.heap.size 3 k (World.alloc_heap_new wm _)
  rw [sentV_yes hk, hk] at hlk
  obtain ⟨ty, hty⟩ : ∃ x, x = eTy k := ⟨_, rfl⟩
  obtain ⟨co, hco⟩ : ∃ x, x = eCo k := ⟨_, rfl⟩
  rw [← hty, ← hco] at hlk
  have hbb : Below wm.heap.size wm (wm.alloc (.map sentM 3)) := (Below.refl _ _).alloc (Nat.le_refl _) _
  have hb2 := hbb.alloc hbb.size (.cells #[.int .u8 (ty : Nat), .int .u8 (co : Nat), .int .u8 0, .int .u8 0, .int .u8 0, .int .u8 0, .slice none 0 0] 46)
  have hr2 := BlkAt.new (t := 46) (wm.alloc (.map sentM 3)) [.int .u8 (ty : Nat), .int .u8 (co : Nat), .int .u8 0, .int .u8 0, .int .u8 0, .int .u8 0, .slice none 0 0]
  rw [World.size_alloc] at hr2
  have hp := prsW_any _ l hl _ (hv.later hb2)
  obtain ⟨g, hg⟩ : ∃ g, g = wm.heap.size + 1 := ⟨_, rfl⟩
  obtain ⟨w, hw⟩ : ∃ w, w = ((wm.alloc (.map sentM 3)).alloc (.cells #[.int .u8 (ty : Nat), .int .u8 (co : Nat), .int .u8 0, .int .u8 0, .int .u8 0, .int .u8 0, .slice none 0 0] 46)) := ⟨_, rfl⟩
  rw [← hw] at hb2 hp
  have hr2 : BlkAt 46 g [.int .u8 (ty : Nat), .int .u8 (co : Nat), .int .u8 0, .int .u8 0, .int .u8 0, .int .u8 0, .slice none 0 0] w := by rw [hw, hg]; exact hr2
  have hok := hdP_ok l
  obtain ⟨h, hh⟩ : ∃ h, h = hdP l := ⟨_, rfl⟩
  obtain ⟨P, hP⟩ : ∃ P, P = plP l := ⟨_, rfl⟩
  obtain ⟨O, hO⟩ : ∃ P, P = opP l := ⟨_, rfl⟩
  obtain ⟨f, hf⟩ : ∃ f, f = flt l := ⟨_, rfl⟩
  obtain ⟨n, hn⟩ : ∃ n, n = l.length := ⟨_, rfl⟩
  unfold PrsW at hp
  rw [← hh, ← hP, ← hO, ← hf, ← hn] at hp
  rw [← hh] at hok
  have HV := Lib.hid hv
  rw [← hn]
  have HP := Lib.hid hp
  have HOK := Lib.hid hok
  have HB := Lib.hid hb2
  have HR := Lib.hid hr2
  have HG : Hid (g = wm.heap.size + 1) := hg
  have HE := Lib.hid (And.intro hty (And.intro hco (And.intro hh (And.intro hP (And.intro hO (And.intro hf (And.intro hn (And.intro hk hl))))))))
  have k1 : (mt : Int) ≤ 65535 := by omega
  clear hp hok hb2 hr2 hbb hty hco hh hP hO hn hv hl hk hmt
  go_enter Try.func40, Try.ntmps40
  go_wp2_with fail
  refine (sent_any wm).mono ?_
  rintro e w1 ⟨rfl, rfl⟩
  go_wp2_with fail
  rw [← hw, ← hg]
  clear hw hg
  refine HP.out.mono ?_
  rintro e w1 ⟨u, v, B, rfl, hu, hvv, _, _, hb1⟩
  obtain ⟨ua, uc, rfl⟩ := hu.form
  obtain ⟨pa, pc, rfl⟩ := hvv.form
  obtain ⟨on, hon⟩ : ∃ n, n = O.length := ⟨_, rfl⟩
  obtain ⟨pn, hpn⟩ : ∃ n, n = P.length := ⟨_, rfl⟩
  rw [← hon] at hu
  rw [← hpn] at hvv
  rw [← hon, ← hpn]
  have hb1a := hb1.alloc hb1.size (.cells #[.int .u8 (h.tos : Nat), .int .u16 (h.id : Nat), .bool h.ev, .bool h.df, .bool h.mf, .int .i64 h.off, .int .u8 (h.ttl : Nat), .int .u8 (h.pr : Nat), .int .u32 (h.src : Nat), .int .u32 (h.dst : Nat), .slice ua on uc] 28)
  have HU := Lib.hid (OwnB.bytes hu)
  have HVV := Lib.hid (OwnB.bytes hvv)
  have HB1 := Lib.hid hb1a
  have k5 : ((f : Int) != 0) = false := by rw [bne_eq_false_iff_eq]; omega
  have HC := Lib.hid (fun W hb => ansW_any h HOK.out ua uc on pa pc P W ((show Bytes w1 _ P by rw [← hpn]; exact HVV.out).later hb))
  rw [← hpn] at HC
  rw [← HE.out.2.2.1, ← HE.out.2.2.2.1] at han
  rw [han] at HC
  clear hu hvv hb1 hon hpn hf hfl hb1a han
  go_wp2_with fail
  refine (HC.out _ (by go_grown)).mono ?_
  rintro e w2 ⟨rfl, hb2⟩
  have HB2 := Lib.hid (HB.out.trans ((HB1.out.trans (hb2.mono HB1.out.size)).mono HB.out.size))
  clear hb2
  go_wp2_with fail
  go_ret2
  exact ⟨rfl, HB2.out⟩
set_option maxHeartbeats 8000000 in
set_option maxRecDepth 100000 in
theorem errW_state1 (k : Int) (hk : sentB k = true) (kk : (k != 2) = true) (v : Value) (l : List UInt8) (hl : l.length ≤ 1000000) (fr : Nat) (mt : Nat) (hmt : mt = 0) (wm : World) (hv : Bytes wm v l) (hfl : flt l = 0) (han : ansB (hdP l) (plP l) = false) :
    Calls Try.prog 40 #[.int .i64 k, v, .int .u32 (fr : Nat), .int .i64 (mt : Nat)] wm fun e w' => e = .returned (.tuple #[.slice none 0 0, .int .i64 7]) ∧ Below wm.heap.size wm w' := by
  obtain ⟨a, c, rfl⟩ := hv.form
  have km : ((mt : Int) != 0) = false := by rw [bne_eq_false_iff_eq]; omega
  have hlk := look_sent (wm.alloc (.map sentM 3)) wm.heap.size 3 k (World.alloc_heap_new wm _)
  rw [sentV_yes hk, hk] at hlk
  obtain ⟨ty, hty⟩ : ∃ x, x = eTy k := ⟨_, rfl⟩
  obtain ⟨co, hco⟩ : ∃ x, x = eCo k := ⟨_, rfl⟩
  rw [← hty, ← hco] at hlk
  have hbb : Below wm.heap.size wm (wm.alloc (.map sentM 3)) := (Below.refl _ _).alloc (Nat.le_refl _) _
  have hb2 := hbb.alloc hbb.size (.cells #[.int .u8 (ty : Nat), .int .u8 (co : Nat), .int .u8 0, .int .u8 0, .int .u8 0, .int .u8 0, .slice none 0 0] 46)
  have hr2 := BlkAt.new (t := 46) (wm.alloc (.map sentM 3)) [.int .u8 (ty : Nat), .int .u8 (co : Nat), .int .u8 0, .int .u8 0, .int .u8 0, .int .u8 0, .slice none 0 0]
  rw [World.size_alloc] at hr2
  have hp := prsW_any _ l hl _ (hv.later hb2)
  obtain ⟨g, hg⟩ : ∃ g, g = wm.heap.size + 1 := ⟨_, rfl⟩
  obtain ⟨w, hw⟩ : ∃ w, w = ((wm.alloc (.map sentM 3)).alloc (.cells #[.int .u8 (ty : Nat), .int .u8 (co : Nat), .int .u8 0, .int .u8 0, .int .u8 0, .int .u8 0, .slice none 0 0] 46)) := ⟨_, rfl⟩
  rw [← hw] at hb2 hp
  have hr2 : BlkAt 46 g [.int .u8 (ty : Nat), .int .u8 (co : Nat), .int .u8 0, .int .u8 0, .int .u8 0, .int .u8 0, .slice none 0 0] w := by rw [hw, hg]; exact hr2
  have hok := hdP_ok l
  obtain ⟨h, hh⟩ : ∃ h, h = hdP l := ⟨_, rfl⟩
  obtain ⟨P, hP⟩ : ∃ P, P = plP l := ⟨_, rfl⟩
  obtain ⟨O, hO⟩ : ∃ P, P = opP l := ⟨_, rfl⟩
  obtain ⟨f, hf⟩ : ∃ f, f = flt l := ⟨_, rfl⟩
  obtain ⟨n, hn⟩ : ∃ n, n = l.length := ⟨_, rfl⟩
  unfold PrsW at hp
  rw [← hh, ← hP, ← hO, ← hf, ← hn] at hp
  rw [← hh] at hok
  have HV := Lib.hid hv
  rw [← hn]
  have HP := Lib.hid hp
  have HOK := Lib.hid hok
  have HB := Lib.hid hb2
  have HR := Lib.hid hr2
  have HG : Hid (g = wm.heap.size + 1) := hg
  have HE := Lib.hid (And.intro hty (And.intro hco (And.intro hh (And.intro hP (And.intro hO (And.intro hf (And.intro hn (And.intro hk hl))))))))
  have k1 : (mt : Int) ≤ 65535 := by omega
  clear hp hok hb2 hr2 hbb hty hco hh hP hO hn hv hl hk hmt
  go_enter Try.func40, Try.ntmps40
  go_wp2_with fail
  refine (sent_any wm).mono ?_
  rintro e w1 ⟨rfl, rfl⟩
  go_wp2_with fail
  rw [← hw, ← hg]
  clear hw hg
  refine HP.out.mono ?_
  rintro e w1 ⟨u, v, B, rfl, hu, hvv, _, _, hb1⟩
  obtain ⟨ua, uc, rfl⟩ := hu.form
  obtain ⟨pa, pc, rfl⟩ := hvv.form
  obtain ⟨on, hon⟩ : ∃ n, n = O.length := ⟨_, rfl⟩
  obtain ⟨pn, hpn⟩ : ∃ n, n = P.length := ⟨_, rfl⟩
  rw [← hon] at hu
  rw [← hpn] at hvv
  rw [← hon, ← hpn]
  have hb1a := hb1.alloc hb1.size (.cells #[.int .u8 (h.tos : Nat), .int .u16 (h.id : Nat), .bool h.ev, .bool h.df, .bool h.mf, .int .i64 h.off, .int .u8 (h.ttl : Nat), .int .u8 (h.pr : Nat), .int .u32 (h.src : Nat), .int .u32 (h.dst : Nat), .slice ua on uc] 28)
  have HU := Lib.hid (OwnB.bytes hu)
  have HVV := Lib.hid (OwnB.bytes hvv)
  have HB1 := Lib.hid hb1a
  have k5 : ((f : Int) != 0) = false := by rw [bne_eq_false_iff_eq]; omega
  have HC := Lib.hid (fun W hb => ansW_any h HOK.out ua uc on pa pc P W ((show Bytes w1 _ P by rw [← hpn]; exact HVV.out).later hb))
  rw [← hpn] at HC
  rw [← HE.out.2.2.1, ← HE.out.2.2.2.1] at han
  rw [han] at HC
  clear hu hvv hb1 hon hpn hf hfl hb1a han
  go_wp2_with fail
  refine (HC.out _ (by go_grown)).mono ?_
  rintro e w2 ⟨rfl, hb2⟩
  have HB2 := Lib.hid (HB.out.trans ((HB1.out.trans (hb2.mono HB1.out.size)).mono HB.out.size))
  clear hb2
  go_wp2_with fail
  go_ret2
  exact ⟨rfl, HB2.out⟩
set_option maxHeartbeats 8000000 in
set_option maxRecDepth 100000 in
theorem errW_ok2 (k : Int) (hk : sentB k = true) (kk : (k != 2) = false) (v : Value) (l : List UInt8) (hl : l.length ≤ 1000000) (fr : Nat) (hfr : fr < 4294967296) (mt : Nat) (hmt : mt ≤ 65535) (wm : World) (hv : Bytes wm v l) (hfl : flt l = 0) (han : ansB (hdP l) (plP l) = true) :
    Calls Try.prog 40 #[.int .i64 k, v, .int .u32 (fr : Nat), .int .i64 (mt : Nat)] wm fun e w' => ∃ v, e = .returned (.tuple #[v, .int .i64 0]) ∧ OwnB w' wm.heap.size v (ansL (eH fr (hdP l).src) (eM k mt) (quoL l)) ∧ Below wm.heap.size wm w' := by
  obtain ⟨a, c, rfl⟩ := hv.form
  have hlk := look_sent (wm.alloc (.map sentM 3)) wm.heap.size 3 k (World.alloc_heap_new wm _)
  rw [sentV_yes hk, hk] at hlk
  obtain ⟨ty, hty⟩ : ∃ x, x = eTy k := ⟨_, rfl⟩
  obtain ⟨co, hco⟩ : ∃ x, x = eCo k := ⟨_, rfl⟩
  rw [← hty, ← hco] at hlk
  have hbb : Below wm.heap.size wm (wm.alloc (.map sentM 3)) := (Below.refl _ _).alloc (Nat.le_refl _) _
  have hb2 := hbb.alloc hbb.size (.cells #[.int .u8 (ty : Nat), .int .u8 (co : Nat), .int .u8 0, .int .u8 0, .int .u8 0, .int .u8 0, .slice none 0 0] 46)
  have hr2 := BlkAt.new (t := 46) (wm.alloc (.map sentM 3)) [.int .u8 (ty : Nat), .int .u8 (co : Nat), .int .u8 0, .int .u8 0, .int .u8 0, .int .u8 0, .slice none 0 0]
  rw [World.size_alloc] at hr2
  have hp := prsW_any _ l hl _ (hv.later hb2)
  obtain ⟨g, hg⟩ : ∃ g, g = wm.heap.size + 1 := ⟨_, rfl⟩
  obtain ⟨w, hw⟩ : ∃ w, w = ((wm.alloc (.map sentM 3)).alloc (.cells #[.int .u8 (ty : Nat), .int .u8 (co : Nat), .int .u8 0, .int .u8 0, .int .u8 0, .int .u8 0, .slice none 0 0] 46)) := ⟨_, rfl⟩
  rw [← hw] at hb2 hp
  have hr2 : BlkAt 46 g [.int .u8 (ty : Nat), .int .u8 (co : Nat), .int .u8 0, .int .u8 0, .int .u8 0, .int .u8 0, .slice none 0 0] w := by rw [hw, hg]; exact hr2
  have hok := hdP_ok l
  obtain ⟨h, hh⟩ : ∃ h, h = hdP l := ⟨_, rfl⟩
  obtain ⟨P, hP⟩ : ∃ P, P = plP l := ⟨_, rfl⟩
  obtain ⟨O, hO⟩ : ∃ P, P = opP l := ⟨_, rfl⟩
  obtain ⟨f, hf⟩ : ∃ f, f = flt l := ⟨_, rfl⟩
  obtain ⟨n, hn⟩ : ∃ n, n = l.length := ⟨_, rfl⟩
  unfold PrsW at hp
  rw [← hh, ← hP, ← hO, ← hf, ← hn] at hp
  rw [← hh] at hok
  have HV := Lib.hid hv
  rw [← hn]
  have HP := Lib.hid hp
  have HOK := Lib.hid hok
  have HB := Lib.hid hb2
  have HR := Lib.hid hr2
  have HG : Hid (g = wm.heap.size + 1) := hg
  have HE := Lib.hid (And.intro hty (And.intro hco (And.intro hh (And.intro hP (And.intro hO (And.intro hf (And.intro hn (And.intro hk hl))))))))
  have k1 : (mt : Int) ≤ 65535 := by omega
  clear hp hok hb2 hr2 hbb hty hco hh hP hO hn hv hl hk hmt
  go_enter Try.func40, Try.ntmps40
  go_wp2_with fail
  refine (sent_any wm).mono ?_
  rintro e w1 ⟨rfl, rfl⟩
  go_wp2_with fail
  rw [← hw, ← hg]
  clear hw hg
  refine HP.out.mono ?_
  rintro e w1 ⟨u, v, B, rfl, hu, hvv, _, _, hb1⟩
  obtain ⟨ua, uc, rfl⟩ := hu.form
  obtain ⟨pa, pc, rfl⟩ := hvv.form
  obtain ⟨on, hon⟩ : ∃ n, n = O.length := ⟨_, rfl⟩
  obtain ⟨pn, hpn⟩ : ∃ n, n = P.length := ⟨_, rfl⟩
  rw [← hon] at hu
  rw [← hpn] at hvv
  rw [← hon, ← hpn]
  have hb1a := hb1.alloc hb1.size (.cells #[.int .u8 (h.tos : Nat), .int .u16 (h.id : Nat), .bool h.ev, .bool h.df, .bool h.mf, .int .i64 h.off, .int .u8 (h.ttl : Nat), .int .u8 (h.pr : Nat), .int .u32 (h.src : Nat), .int .u32 (h.dst : Nat), .slice ua on uc] 28)
  have HU := Lib.hid hu
  have HVV := Lib.hid (OwnB.bytes hvv)
  have HB1 := Lib.hid hb1a
  have k5 : ((f : Int) != 0) = false := by rw [bne_eq_false_iff_eq]; omega
  have HC := Lib.hid (fun W hb => ansW_any h HOK.out ua uc on pa pc P W ((show Bytes w1 _ P by rw [← hpn]; exact HVV.out).later hb))
  rw [← hpn] at HC
  rw [← HE.out.2.2.1, ← HE.out.2.2.2.1] at han
  rw [han] at HC
  have HQ : Hid (∀ (W : World), Below wm.heap.size wm W → Bytes W (.slice ua on uc) O → Calls Try.prog 69 #[.agg #[.int .u8 (h.tos : Nat), .int .u16 (h.id : Nat), .bool h.ev, .bool h.df, .bool h.mf, .int .i64 h.off, .int .u8 (h.ttl : Nat), .int .u8 (h.pr : Nat), .int .u32 (h.src : Nat), .int .u32 (h.dst : Nat), .slice ua on uc], .slice pa pn pc, .slice a n c] W fun e w' => ∃ v, e = .returned v ∧ OwnB w' W.heap.size v (quoL l) ∧ Below W.heap.size W w') := fun W hb hu => by
    obtain ⟨_, _, e1, e2, e3, _, e4, _, hl⟩ := HE.out
    have h9 := quoteW_any l hfl h (by rw [e1]) ua uc pa pc a c W (by rw [← e3, ← hon]; exact hu) ((show Bytes wm _ l from HV.out).later hb) hl
    rw [← e3, ← e2, ← hon, ← hpn, ← e4] at h9
    exact h9
  have HQN : Hid ((quoL l).length ≤ 9990) := by
    have := prs_lens hfl
    show (quoL l).length ≤ 9990
    unfold quoL quoN; simp; omega
  have HAN : Hid (∀ (qa : Option Addr) (qc qn : Nat) (W : World), qn = (quoL l).length → Bytes W (.slice qa qn qc) (quoL l) → Calls Try.prog 72 #[.agg #[.int .u8 0, .int .u16 0, .bool false, .bool false, .bool false, .int .i64 0, .int .u8 0, .int .u8 0, .int .u32 (fr : Nat), .int .u32 (h.src : Nat), .slice none 0 0], .agg #[.int .u8 (ty : Nat), .int .u8 (co : Nat), .int .u8 0, .int .u8 0, .int .u8 ((mt / 256 : Nat) : Int), .int .u8 ((mt % 256 : Nat) : Int), .slice qa qn qc]] W fun e w' => ∃ v, e = .returned (.tuple #[v, .int .i64 0]) ∧ OwnB w' W.heap.size v (ansL (eH fr (hdP l).src) (eM k mt) (quoL l)) ∧ Below W.heap.size W w') := fun qa qc qn W hqn hq => by
    subst hqn
    have h9 := answer_any (eH fr h.src) ⟨by show 0 < 256; omega, by show 0 < 65536; omega, by show 0 < 256; omega, by show 0 < 256; omega, hfr, HOK.out.src⟩ rfl (eM k mt) (eM_ok (by omega)) qa qc (quoL l) W hq HQN.out
    rw [HE.out.1, HE.out.2.1]
    rw [HE.out.2.2.1] at h9 ⊢
    exact h9
  have HPT : Hid (mt < 65536 ∧ bv (putL mt 2) = [.int .u8 (mt / 256 : Nat), .int .u8 (mt % 256 : Nat)]) := ⟨by omega, putL2 mt (by omega)⟩
  obtain ⟨r2, hr2⟩ : ∃ r, r = mt / 256 := ⟨_, rfl⟩
  obtain ⟨r3, hr3⟩ : ∃ r, r = mt % 256 := ⟨_, rfl⟩
  rw [← hr2, ← hr3] at HPT HAN
  have HRA : Hid (BlkAt 46 g [.int .u8 (ty : Nat), .int .u8 (co : Nat), .int .u8 0, .int .u8 0, .int .u8 0, .int .u8 0, .slice none 0 0] (w1.alloc (.cells #[.int .u8 (h.tos : Nat), .int .u16 (h.id : Nat), .bool h.ev, .bool h.df, .bool h.mf, .int .i64 h.off, .int .u8 (h.ttl : Nat), .int .u8 (h.pr : Nat), .int .u32 (h.src : Nat), .int .u32 (h.dst : Nat), .slice ua on uc] 28))) := HR.out.later hb1a
  have HHA : Hid (HdAt w1.heap.size [.int .u8 (h.tos : Nat), .int .u16 (h.id : Nat), .bool h.ev, .bool h.df, .bool h.mf, .int .i64 h.off, .int .u8 (h.ttl : Nat), .int .u8 (h.pr : Nat), .int .u32 (h.src : Nat), .int .u32 (h.dst : Nat), .slice ua on uc] (w1.alloc (.cells #[.int .u8 (h.tos : Nat), .int .u16 (h.id : Nat), .bool h.ev, .bool h.df, .bool h.mf, .int .i64 h.off, .int .u8 (h.ttl : Nat), .int .u8 (h.pr : Nat), .int .u32 (h.src : Nat), .int .u32 (h.dst : Nat), .slice ua on uc] 28))) := HdAt.new w1 _
  have HUA : Hid (OwnB (w1.alloc (.cells #[.int .u8 (h.tos : Nat), .int .u16 (h.id : Nat), .bool h.ev, .bool h.df, .bool h.mf, .int .i64 h.off, .int .u8 (h.ttl : Nat), .int .u8 (h.pr : Nat), .int .u32 (h.src : Nat), .int .u32 (h.dst : Nat), .slice ua on uc] 28)) w.heap.size (.slice ua on uc) O) := by show OwnB _ _ _ _; rw [hon]; exact OwnB.alloc (by rw [← hon]; exact HU.out) _
  clear hu hvv hb1 hon hpn hf hfl hb1a han hr2 hr3 hfr
  go_wp2_with fail
  refine (HC.out _ (by go_grown)).mono ?_
  rintro e w2 ⟨rfl, hb2⟩
  have HB2 := Lib.hid (HB.out.trans ((HB1.out.trans (hb2.mono HB1.out.size)).mono HB.out.size))
  have HR2 : Hid (BlkAt 46 g [.int .u8 (ty : Nat), .int .u8 (co : Nat), .int .u8 0, .int .u8 0, .int .u8 0, .int .u8 0, .slice none 0 0] w2) := HRA.out.later hb2
  have HH2 : Hid (HdAt w1.heap.size [.int .u8 (h.tos : Nat), .int .u16 (h.id : Nat), .bool h.ev, .bool h.df, .bool h.mf, .int .i64 h.off, .int .u8 (h.ttl : Nat), .int .u8 (h.pr : Nat), .int .u32 (h.src : Nat), .int .u32 (h.dst : Nat), .slice ua on uc] w2) := HHA.out.later hb2
  have HU2 : Hid (OwnB w2 w.heap.size (.slice ua on uc) O) := OwnB.later HUA.out hb2
  clear hb2
  go_wp2_with fail
  (refine wp_region_held_drew (S := (fun w' => Below wm.heap.size wm w')) (by kernel_rfl) ?_ (fun hHeld => ?_); (focus ((try dsimp only); (exact HB2.out.drew))))
  (try dsimp only at hHeld)
  obtain ⟨w3, hw3⟩ : ∃ w4, w4 = World.drew w2 := ⟨_, rfl⟩
  have HR3 : Hid (BlkAt 46 g [.int .u8 (ty : Nat), .int .u8 (co : Nat), .int .u8 0, .int .u8 0, .int .u8 0, .int .u8 0, .slice none 0 0] w3) := by rw [hw3]; exact HR2.out
  have HH3 : Hid (HdAt w1.heap.size [.int .u8 (h.tos : Nat), .int .u16 (h.id : Nat), .bool h.ev, .bool h.df, .bool h.mf, .int .i64 h.off, .int .u8 (h.ttl : Nat), .int .u8 (h.pr : Nat), .int .u32 (h.src : Nat), .int .u32 (h.dst : Nat), .slice ua on uc] w3) := by rw [hw3]; exact HH2.out
  have HU3 : Hid (OwnB w3 w.heap.size (.slice ua on uc) O) := by rw [hw3]; exact HU2.out
  rw [← hw3]
  rw [← hw3] at hHeld
  clear hw3
  (refine wpAnyH_take (i := 0) (v := ?_) rfl (by kernel_rfl) (by kernel_rfl) (by kernel_rfl) (fun _ _ _ h => h) (Or.inl ⟨by rfl, ?_⟩) hHeld ?_; rotate_left; (focus (intro w hSw; (try dsimp only at hSw); go_simp; try with_reducible rfl)); (try simp only [Act.put, List.setIfInBounds_toArray, List.set_cons_zero, List.set_cons_succ, List.getElem_toArray, List.getElem_cons_zero])); (refine wpAnyH_take (i := 1) (v := ?_) rfl (by kernel_rfl) (by kernel_rfl) (by kernel_rfl) (fun _ _ _ h => h) (Or.inl ⟨by rfl, ?_⟩) hHeld ?_; rotate_left; (focus (intro w hSw; (try dsimp only at hSw); go_simp; try with_reducible rfl)); (try simp only [Act.put, List.setIfInBounds_toArray, List.set_cons_zero, List.set_cons_succ, List.getElem_toArray, List.getElem_cons_zero, List.getElem_cons_succ])); (refine wpAnyH_take (i := 2) (v := ?_) rfl (by kernel_rfl) (by kernel_rfl) (by kernel_rfl) (fun _ _ _ h => h) (Or.inl ⟨by rfl, ?_⟩) hHeld ?_; rotate_left; (focus (intro w hSw; (try dsimp only at hSw); go_simp; try with_reducible rfl)); (try simp only [Act.put, List.setIfInBounds_toArray, List.set_cons_zero, List.set_cons_succ, List.getElem_toArray, List.getElem_cons_zero, List.getElem_cons_succ]))
  (refine wpAnyH_ready (rs := [3]) (by kernel_rfl) (by simp) ?_; refine AllReadyH.cons rfl (fun K hK => ?_) AllReadyH.nil; go_simp; refine (pair_any mt HPT.out.1 w3).mono ?_; rintro e w4 ⟨y, rfl, hy, hb4⟩; have HR4 := Lib.hid (HR3.out.later hb4); have HH4 := Lib.hid (HH3.out.later hb4); have HU4 := Lib.hid (OwnB.later HU3.out hb4); refine hK.out _ _ ?_ (fun hHeldN => ?_); (focus ((try dsimp only); (exact hHeld.trans (hb4.mono hHeld.size)))); clear hK K hHeld; have hHeld := hHeldN; clear hHeldN; (try simp only [Act.put, List.setIfInBounds_toArray, List.set_cons_zero, List.set_cons_succ, List.getElem_toArray, List.getElem_cons_zero, List.getElem_cons_succ]))
  clear hb4
  obtain ⟨b5, o5, c5, rfl⟩ : ∃ b o c, y = .slice (some ⟨b, o, none⟩) 2 c := by
    rcases hy with ⟨h0, _⟩ | ⟨b, o, c, e, _⟩
    · have := congrArg List.length h0; rw [putL_length] at this; simp at this
    · rw [putL_length] at e; exact ⟨b, o, c, e⟩
  (refine wpAnyH_ready (rs := [4]) (by kernel_rfl) (by simp) ?_; refine AllReadyH.cons rfl (fun K hK => ?_) AllReadyH.nil; refine step_copy_blk rfl (.tmp 54) (.tmp 56) 22 22 rfl 5 Try.underlying22 (by kernel_rfl) g 4 _ _ ⟨b5, o5, none⟩ _ _ rfl rfl [.int .u8 (ty : Nat), .int .u8 (co : Nat), .int .u8 0, .int .u8 0, .int .u8 0, .int .u8 0, .slice none 0 0] 46 HR4.out [.int .u8 (r2 : Nat), .int .u8 (r3 : Nat)] (by rfl) (by rw [← HPT.out.2]; exact Bytes.news hy) (by simp) (by simp [Value.oneCell']) ?_; intro w5 hg5 hk5 hb5; refine hK.out _ _ ?_ (fun hHeldN => ?_); (focus ((try dsimp only); (exact hHeld.trans (hb5.out _ (by have := HG.out; omega))))); clear hK K hHeld; have hHeld := hHeldN; clear hHeldN; (try simp only [Act.put, List.setIfInBounds_toArray, List.set_cons_zero, List.set_cons_succ, List.getElem_toArray, List.getElem_cons_zero, List.getElem_cons_succ]))
  refine wpAnyH_done (by kernel_rfl) ?_ _
  have hne : w1.heap.size ≠ g := by
    intro e
    have h1 : w5.heap[g]? = _ := hg5.out
    have h2 : w4.heap[w1.heap.size]? = _ := HH4.out
    rw [e] at h2
    have h3 : w4.heap[g]? = _ := HR4.out
    rw [h2] at h3
    simp only [Option.some.injEq, Obj.cells.injEq] at h3
    exact absurd h3.2.1 (by decide)
  have HR5 : Hid (BlkAt 46 g [.int .u8 (ty : Nat), .int .u8 (co : Nat), .int .u8 0, .int .u8 0, .int .u8 (r2 : Nat), .int .u8 (r3 : Nat), .slice none 0 0] w5) := hg5
  have HH5 : Hid (HdAt w1.heap.size [.int .u8 (h.tos : Nat), .int .u16 (h.id : Nat), .bool h.ev, .bool h.df, .bool h.mf, .int .i64 h.off, .int .u8 (h.ttl : Nat), .int .u8 (h.pr : Nat), .int .u32 (h.src : Nat), .int .u32 (h.dst : Nat), .slice ua on uc] w5) := (hk5.out _ hne).trans HH4.out
  have HU5 : Hid (OwnB w5 w.heap.size (.slice ua on uc) O) := OwnB.kept HU4.out hk5.out (fun b hb => BlkAt.ne_own HR4.out ic_ne HU4.out hb)
  have HB5 := Lib.hid hHeld
  have HNE := Lib.hid hne
  have c0 := HdAt.cell HH5.out (j := 0) rfl
  have c1 := HdAt.cell HH5.out (j := 1) rfl
  have c2 := HdAt.cell HH5.out (j := 2) rfl
  have c3 := HdAt.cell HH5.out (j := 3) rfl
  have c4 := HdAt.cell HH5.out (j := 4) rfl
  have c5 := HdAt.cell HH5.out (j := 5) rfl
  have c6 := HdAt.cell HH5.out (j := 6) rfl
  have c7 := HdAt.cell HH5.out (j := 7) rfl
  have c8 := HdAt.cell HH5.out (j := 8) rfl
  have c9 := HdAt.cell HH5.out (j := 9) rfl
  have c10 := HdAt.cell HH5.out (j := 10) rfl
  clear hne hHeld hg5 hk5 hb5 hy
  go_wp2_with fail
  refine (HQ.out w5 HB5.out (OwnB.bytes HU5.out)).mono ?_
  rintro e w6 ⟨y, rfl, hoq, hb6⟩
  obtain ⟨qa, qc, rfl⟩ := hoq.form
  obtain ⟨qn, hqn⟩ : ∃ n, n = (quoL l).length := ⟨_, rfl⟩
  rw [← hqn] at hoq ⊢
  have HR6 : Hid (BlkAt 46 g [.int .u8 (ty : Nat), .int .u8 (co : Nat), .int .u8 0, .int .u8 0, .int .u8 (r2 : Nat), .int .u8 (r3 : Nat), .slice none 0 0] w6) := HR5.out.later hb6
  have HH6 : Hid (HdAt w1.heap.size [.int .u8 (h.tos : Nat), .int .u16 (h.id : Nat), .bool h.ev, .bool h.df, .bool h.mf, .int .i64 h.off, .int .u8 (h.ttl : Nat), .int .u8 (h.pr : Nat), .int .u32 (h.src : Nat), .int .u32 (h.dst : Nat), .slice ua on uc] w6) := HH5.out.later hb6
  have hr7 : BlkAt 46 g [.int .u8 (ty : Nat), .int .u8 (co : Nat), .int .u8 0, .int .u8 0, .int .u8 (r2 : Nat), .int .u8 (r3 : Nat), .slice qa qn qc] (w6.setCell ⟨g, 6, none⟩ (.slice qa qn qc)) := HR6.out.set 6 _
  have HH7 : Hid (HdAt w1.heap.size [.int .u8 (h.tos : Nat), .int .u16 (h.id : Nat), .bool h.ev, .bool h.df, .bool h.mf, .int .i64 h.off, .int .u8 (h.ttl : Nat), .int .u8 (h.pr : Nat), .int .u32 (h.src : Nat), .int .u32 (h.dst : Nat), .slice ua on uc] (w6.setCell ⟨g, 6, none⟩ (.slice qa qn qc))) := HdAt.other HH6.out HNE.out 6 _
  have HO7 : Hid (OwnB (w6.setCell ⟨g, 6, none⟩ (.slice qa qn qc)) w5.heap.size (.slice qa qn qc) (quoL l)) := BlkAt.own HR6.out ic_ne 6 _ hoq
  have HB7 : Hid (Below wm.heap.size wm (w6.setCell ⟨g, 6, none⟩ (.slice qa qn qc))) := (HB5.out.trans (hb6.mono HB5.out.size)).setCell (p := ⟨g, 6, none⟩) (by have := HG.out; show wm.heap.size ≤ g; omega) _
  have HQNL := Lib.hid hqn
  have hfz : w6.frozen? ⟨g, 6, none⟩ = false := HR6.out.frozen 6
  have z6 := HR6.out.cell (j := 6) rfl
  clear c0 c1 c2 c3 c4 c5 c6 c7 c8 c9 c10
  have d0 := hr7.cell (j := 0) rfl
  have d1 := hr7.cell (j := 1) rfl
  have d2 := hr7.cell (j := 2) rfl
  have d3 := hr7.cell (j := 3) rfl
  have d4 := hr7.cell (j := 4) rfl
  have d5 := hr7.cell (j := 5) rfl
  have d6 := hr7.cell (j := 6) rfl
  have s8 := HdAt.cell HH7.out (j := 8) rfl
  clear hr7 hoq hb6 hqn
  go_wp2_with fail
  refine (HAN.out qa qc qn _ HQNL.out (OwnB.bytes HO7.out)).mono ?_
  rintro e w8 ⟨z, rfl, hoz, hb8⟩
  go_wp2_with fail
  go_ret2
  exact ⟨_, rfl, OwnB.weak hoz HB7.out.size, HB7.out.trans (hb8.mono HB7.out.size)⟩
set_option maxHeartbeats 8000000 in
set_option maxRecDepth 100000 in
theorem errW_ok1 (k : Int) (hk : sentB k = true) (kk : (k != 2) = true) (v : Value) (l : List UInt8) (hl : l.length ≤ 1000000) (fr : Nat) (hfr : fr < 4294967296) (mt : Nat) (hmt : mt = 0) (wm : World) (hv : Bytes wm v l) (hfl : flt l = 0) (han : ansB (hdP l) (plP l) = true) :
    Calls Try.prog 40 #[.int .i64 k, v, .int .u32 (fr : Nat), .int .i64 (mt : Nat)] wm fun e w' => ∃ v, e = .returned (.tuple #[v, .int .i64 0]) ∧ OwnB w' wm.heap.size v (ansL (eH fr (hdP l).src) (eM k mt) (quoL l)) ∧ Below wm.heap.size wm w' := by
  obtain ⟨a, c, rfl⟩ := hv.form
  have km : ((mt : Int) != 0) = false := by rw [bne_eq_false_iff_eq]; omega
  have hlk := look_sent (wm.alloc (.map sentM 3)) wm.heap.size 3 k (World.alloc_heap_new wm _)
  rw [sentV_yes hk, hk] at hlk
  obtain ⟨ty, hty⟩ : ∃ x, x = eTy k := ⟨_, rfl⟩
  obtain ⟨co, hco⟩ : ∃ x, x = eCo k := ⟨_, rfl⟩
  rw [← hty, ← hco] at hlk
  have hbb : Below wm.heap.size wm (wm.alloc (.map sentM 3)) := (Below.refl _ _).alloc (Nat.le_refl _) _
  have hb2 := hbb.alloc hbb.size (.cells #[.int .u8 (ty : Nat), .int .u8 (co : Nat), .int .u8 0, .int .u8 0, .int .u8 0, .int .u8 0, .slice none 0 0] 46)
  have hr2 := BlkAt.new (t := 46) (wm.alloc (.map sentM 3)) [.int .u8 (ty : Nat), .int .u8 (co : Nat), .int .u8 0, .int .u8 0, .int .u8 0, .int .u8 0, .slice none 0 0]
  rw [World.size_alloc] at hr2
  have hp := prsW_any _ l hl _ (hv.later hb2)
  obtain ⟨g, hg⟩ : ∃ g, g = wm.heap.size + 1 := ⟨_, rfl⟩
  obtain ⟨w, hw⟩ : ∃ w, w = ((wm.alloc (.map sentM 3)).alloc (.cells #[.int .u8 (ty : Nat), .int .u8 (co : Nat), .int .u8 0, .int .u8 0, .int .u8 0, .int .u8 0, .slice none 0 0] 46)) := ⟨_, rfl⟩
  rw [← hw] at hb2 hp
  have hr2 : BlkAt 46 g [.int .u8 (ty : Nat), .int .u8 (co : Nat), .int .u8 0, .int .u8 0, .int .u8 0, .int .u8 0, .slice none 0 0] w := by rw [hw, hg]; exact hr2
  have hok := hdP_ok l
  obtain ⟨h, hh⟩ : ∃ h, h = hdP l := ⟨_, rfl⟩
  obtain ⟨P, hP⟩ : ∃ P, P = plP l := ⟨_, rfl⟩
  obtain ⟨O, hO⟩ : ∃ P, P = opP l := ⟨_, rfl⟩
  obtain ⟨f, hf⟩ : ∃ f, f = flt l := ⟨_, rfl⟩
  obtain ⟨n, hn⟩ : ∃ n, n = l.length := ⟨_, rfl⟩
  unfold PrsW at hp
  rw [← hh, ← hP, ← hO, ← hf, ← hn] at hp
  rw [← hh] at hok
  have HV := Lib.hid hv
  rw [← hn]
  have HP := Lib.hid hp
  have HOK := Lib.hid hok
  have HB := Lib.hid hb2
  have HR := Lib.hid hr2
  have HG : Hid (g = wm.heap.size + 1) := hg
  have HE := Lib.hid (And.intro hty (And.intro hco (And.intro hh (And.intro hP (And.intro hO (And.intro hf (And.intro hn (And.intro hk hl))))))))
  have k1 : (mt : Int) ≤ 65535 := by omega
  clear hp hok hb2 hr2 hbb hty hco hh hP hO hn hv hl hk hmt
  go_enter Try.func40, Try.ntmps40
  go_wp2_with fail
  refine (sent_any wm).mono ?_
  rintro e w1 ⟨rfl, rfl⟩
  go_wp2_with fail
  rw [← hw, ← hg]
  clear hw hg
  refine HP.out.mono ?_
  rintro e w1 ⟨u, v, B, rfl, hu, hvv, _, _, hb1⟩
  obtain ⟨ua, uc, rfl⟩ := hu.form
  obtain ⟨pa, pc, rfl⟩ := hvv.form
  obtain ⟨on, hon⟩ : ∃ n, n = O.length := ⟨_, rfl⟩
  obtain ⟨pn, hpn⟩ : ∃ n, n = P.length := ⟨_, rfl⟩
  rw [← hon] at hu
  rw [← hpn] at hvv
  rw [← hon, ← hpn]
  have hb1a := hb1.alloc hb1.size (.cells #[.int .u8 (h.tos : Nat), .int .u16 (h.id : Nat), .bool h.ev, .bool h.df, .bool h.mf, .int .i64 h.off, .int .u8 (h.ttl : Nat), .int .u8 (h.pr : Nat), .int .u32 (h.src : Nat), .int .u32 (h.dst : Nat), .slice ua on uc] 28)
  have HU := Lib.hid hu
  have HVV := Lib.hid (OwnB.bytes hvv)
  have HB1 := Lib.hid hb1a
  have k5 : ((f : Int) != 0) = false := by rw [bne_eq_false_iff_eq]; omega
  have HC := Lib.hid (fun W hb => ansW_any h HOK.out ua uc on pa pc P W ((show Bytes w1 _ P by rw [← hpn]; exact HVV.out).later hb))
  rw [← hpn] at HC
  rw [← HE.out.2.2.1, ← HE.out.2.2.2.1] at han
  rw [han] at HC
  have HQ : Hid (∀ (W : World), Below wm.heap.size wm W → Bytes W (.slice ua on uc) O → Calls Try.prog 69 #[.agg #[.int .u8 (h.tos : Nat), .int .u16 (h.id : Nat), .bool h.ev, .bool h.df, .bool h.mf, .int .i64 h.off, .int .u8 (h.ttl : Nat), .int .u8 (h.pr : Nat), .int .u32 (h.src : Nat), .int .u32 (h.dst : Nat), .slice ua on uc], .slice pa pn pc, .slice a n c] W fun e w' => ∃ v, e = .returned v ∧ OwnB w' W.heap.size v (quoL l) ∧ Below W.heap.size W w') := fun W hb hu => by
    obtain ⟨_, _, e1, e2, e3, _, e4, _, hl⟩ := HE.out
    have h9 := quoteW_any l hfl h (by rw [e1]) ua uc pa pc a c W (by rw [← e3, ← hon]; exact hu) ((show Bytes wm _ l from HV.out).later hb) hl
    rw [← e3, ← e2, ← hon, ← hpn, ← e4] at h9
    exact h9
  have HQN : Hid ((quoL l).length ≤ 9990) := by
    have := prs_lens hfl
    show (quoL l).length ≤ 9990
    unfold quoL quoN; simp; omega
  have HAN : Hid (∀ (qa : Option Addr) (qc qn : Nat) (W : World), qn = (quoL l).length → Bytes W (.slice qa qn qc) (quoL l) → Calls Try.prog 72 #[.agg #[.int .u8 0, .int .u16 0, .bool false, .bool false, .bool false, .int .i64 0, .int .u8 0, .int .u8 0, .int .u32 (fr : Nat), .int .u32 (h.src : Nat), .slice none 0 0], .agg #[.int .u8 (ty : Nat), .int .u8 (co : Nat), .int .u8 0, .int .u8 0, .int .u8 ((mt / 256 : Nat) : Int), .int .u8 ((mt % 256 : Nat) : Int), .slice qa qn qc]] W fun e w' => ∃ v, e = .returned (.tuple #[v, .int .i64 0]) ∧ OwnB w' W.heap.size v (ansL (eH fr (hdP l).src) (eM k mt) (quoL l)) ∧ Below W.heap.size W w') := fun qa qc qn W hqn hq => by
    subst hqn
    have h9 := answer_any (eH fr h.src) ⟨by show 0 < 256; omega, by show 0 < 65536; omega, by show 0 < 256; omega, by show 0 < 256; omega, hfr, HOK.out.src⟩ rfl (eM k mt) (eM_ok (by omega)) qa qc (quoL l) W hq HQN.out
    rw [HE.out.1, HE.out.2.1]
    rw [HE.out.2.2.1] at h9 ⊢
    exact h9
  have HPT : Hid (mt < 65536 ∧ bv (putL mt 2) = [.int .u8 (mt / 256 : Nat), .int .u8 (mt % 256 : Nat)]) := ⟨by omega, putL2 mt (by omega)⟩
  obtain ⟨r2, hr2⟩ : ∃ r, r = mt / 256 := ⟨_, rfl⟩
  obtain ⟨r3, hr3⟩ : ∃ r, r = mt % 256 := ⟨_, rfl⟩
  rw [← hr2, ← hr3] at HPT HAN
  have HRA : Hid (BlkAt 46 g [.int .u8 (ty : Nat), .int .u8 (co : Nat), .int .u8 0, .int .u8 0, .int .u8 0, .int .u8 0, .slice none 0 0] (w1.alloc (.cells #[.int .u8 (h.tos : Nat), .int .u16 (h.id : Nat), .bool h.ev, .bool h.df, .bool h.mf, .int .i64 h.off, .int .u8 (h.ttl : Nat), .int .u8 (h.pr : Nat), .int .u32 (h.src : Nat), .int .u32 (h.dst : Nat), .slice ua on uc] 28))) := HR.out.later hb1a
  have HHA : Hid (HdAt w1.heap.size [.int .u8 (h.tos : Nat), .int .u16 (h.id : Nat), .bool h.ev, .bool h.df, .bool h.mf, .int .i64 h.off, .int .u8 (h.ttl : Nat), .int .u8 (h.pr : Nat), .int .u32 (h.src : Nat), .int .u32 (h.dst : Nat), .slice ua on uc] (w1.alloc (.cells #[.int .u8 (h.tos : Nat), .int .u16 (h.id : Nat), .bool h.ev, .bool h.df, .bool h.mf, .int .i64 h.off, .int .u8 (h.ttl : Nat), .int .u8 (h.pr : Nat), .int .u32 (h.src : Nat), .int .u32 (h.dst : Nat), .slice ua on uc] 28))) := HdAt.new w1 _
  have HUA : Hid (OwnB (w1.alloc (.cells #[.int .u8 (h.tos : Nat), .int .u16 (h.id : Nat), .bool h.ev, .bool h.df, .bool h.mf, .int .i64 h.off, .int .u8 (h.ttl : Nat), .int .u8 (h.pr : Nat), .int .u32 (h.src : Nat), .int .u32 (h.dst : Nat), .slice ua on uc] 28)) w.heap.size (.slice ua on uc) O) := by show OwnB _ _ _ _; rw [hon]; exact OwnB.alloc (by rw [← hon]; exact HU.out) _
  clear hu hvv hb1 hon hpn hf hfl hb1a han hr2 hr3 hfr
  go_wp2_with fail
  refine (HC.out _ (by go_grown)).mono ?_
  rintro e w2 ⟨rfl, hb2⟩
  have HB2 := Lib.hid (HB.out.trans ((HB1.out.trans (hb2.mono HB1.out.size)).mono HB.out.size))
  have HR2 : Hid (BlkAt 46 g [.int .u8 (ty : Nat), .int .u8 (co : Nat), .int .u8 0, .int .u8 0, .int .u8 0, .int .u8 0, .slice none 0 0] w2) := HRA.out.later hb2
  have HH2 : Hid (HdAt w1.heap.size [.int .u8 (h.tos : Nat), .int .u16 (h.id : Nat), .bool h.ev, .bool h.df, .bool h.mf, .int .i64 h.off, .int .u8 (h.ttl : Nat), .int .u8 (h.pr : Nat), .int .u32 (h.src : Nat), .int .u32 (h.dst : Nat), .slice ua on uc] w2) := HHA.out.later hb2
  have HU2 : Hid (OwnB w2 w.heap.size (.slice ua on uc) O) := OwnB.later HUA.out hb2
  clear hb2
  go_wp2_with fail
  (refine wp_region_held_drew (S := (fun w' => Below wm.heap.size wm w')) (by kernel_rfl) ?_ (fun hHeld => ?_); (focus ((try dsimp only); (exact HB2.out.drew))))
  (try dsimp only at hHeld)
  obtain ⟨w3, hw3⟩ : ∃ w4, w4 = World.drew w2 := ⟨_, rfl⟩
  have HR3 : Hid (BlkAt 46 g [.int .u8 (ty : Nat), .int .u8 (co : Nat), .int .u8 0, .int .u8 0, .int .u8 0, .int .u8 0, .slice none 0 0] w3) := by rw [hw3]; exact HR2.out
  have HH3 : Hid (HdAt w1.heap.size [.int .u8 (h.tos : Nat), .int .u16 (h.id : Nat), .bool h.ev, .bool h.df, .bool h.mf, .int .i64 h.off, .int .u8 (h.ttl : Nat), .int .u8 (h.pr : Nat), .int .u32 (h.src : Nat), .int .u32 (h.dst : Nat), .slice ua on uc] w3) := by rw [hw3]; exact HH2.out
  have HU3 : Hid (OwnB w3 w.heap.size (.slice ua on uc) O) := by rw [hw3]; exact HU2.out
  rw [← hw3]
  rw [← hw3] at hHeld
  clear hw3
  (refine wpAnyH_take (i := 0) (v := ?_) rfl (by kernel_rfl) (by kernel_rfl) (by kernel_rfl) (fun _ _ _ h => h) (Or.inl ⟨by rfl, ?_⟩) hHeld ?_; rotate_left; (focus (intro w hSw; (try dsimp only at hSw); go_simp; try with_reducible rfl)); (try simp only [Act.put, List.setIfInBounds_toArray, List.set_cons_zero, List.set_cons_succ, List.getElem_toArray, List.getElem_cons_zero])); (refine wpAnyH_take (i := 1) (v := ?_) rfl (by kernel_rfl) (by kernel_rfl) (by kernel_rfl) (fun _ _ _ h => h) (Or.inl ⟨by rfl, ?_⟩) hHeld ?_; rotate_left; (focus (intro w hSw; (try dsimp only at hSw); go_simp; try with_reducible rfl)); (try simp only [Act.put, List.setIfInBounds_toArray, List.set_cons_zero, List.set_cons_succ, List.getElem_toArray, List.getElem_cons_zero, List.getElem_cons_succ])); (refine wpAnyH_take (i := 2) (v := ?_) rfl (by kernel_rfl) (by kernel_rfl) (by kernel_rfl) (fun _ _ _ h => h) (Or.inl ⟨by rfl, ?_⟩) hHeld ?_; rotate_left; (focus (intro w hSw; (try dsimp only at hSw); go_simp; try with_reducible rfl)); (try simp only [Act.put, List.setIfInBounds_toArray, List.set_cons_zero, List.set_cons_succ, List.getElem_toArray, List.getElem_cons_zero, List.getElem_cons_succ]))
  (refine wpAnyH_ready (rs := [3]) (by kernel_rfl) (by simp) ?_; refine AllReadyH.cons rfl (fun K hK => ?_) AllReadyH.nil; go_simp; refine (pair_any mt HPT.out.1 w3).mono ?_; rintro e w4 ⟨y, rfl, hy, hb4⟩; have HR4 := Lib.hid (HR3.out.later hb4); have HH4 := Lib.hid (HH3.out.later hb4); have HU4 := Lib.hid (OwnB.later HU3.out hb4); refine hK.out _ _ ?_ (fun hHeldN => ?_); (focus ((try dsimp only); (exact hHeld.trans (hb4.mono hHeld.size)))); clear hK K hHeld; have hHeld := hHeldN; clear hHeldN; (try simp only [Act.put, List.setIfInBounds_toArray, List.set_cons_zero, List.set_cons_succ, List.getElem_toArray, List.getElem_cons_zero, List.getElem_cons_succ]))
  clear hb4
  obtain ⟨b5, o5, c5, rfl⟩ : ∃ b o c, y = .slice (some ⟨b, o, none⟩) 2 c := by
    rcases hy with ⟨h0, _⟩ | ⟨b, o, c, e, _⟩
    · have := congrArg List.length h0; rw [putL_length] at this; simp at this
    · rw [putL_length] at e; exact ⟨b, o, c, e⟩
  (refine wpAnyH_ready (rs := [4]) (by kernel_rfl) (by simp) ?_; refine AllReadyH.cons rfl (fun K hK => ?_) AllReadyH.nil; refine step_copy_blk rfl (.tmp 54) (.tmp 56) 22 22 rfl 5 Try.underlying22 (by kernel_rfl) g 4 _ _ ⟨b5, o5, none⟩ _ _ rfl rfl [.int .u8 (ty : Nat), .int .u8 (co : Nat), .int .u8 0, .int .u8 0, .int .u8 0, .int .u8 0, .slice none 0 0] 46 HR4.out [.int .u8 (r2 : Nat), .int .u8 (r3 : Nat)] (by rfl) (by rw [← HPT.out.2]; exact Bytes.news hy) (by simp) (by simp [Value.oneCell']) ?_; intro w5 hg5 hk5 hb5; refine hK.out _ _ ?_ (fun hHeldN => ?_); (focus ((try dsimp only); (exact hHeld.trans (hb5.out _ (by have := HG.out; omega))))); clear hK K hHeld; have hHeld := hHeldN; clear hHeldN; (try simp only [Act.put, List.setIfInBounds_toArray, List.set_cons_zero, List.set_cons_succ, List.getElem_toArray, List.getElem_cons_zero, List.getElem_cons_succ]))
  refine wpAnyH_done (by kernel_rfl) ?_ _
  have hne : w1.heap.size ≠ g := by
    intro e
    have h1 : w5.heap[g]? = _ := hg5.out
    have h2 : w4.heap[w1.heap.size]? = _ := HH4.out
    rw [e] at h2
    have h3 : w4.heap[g]? = _ := HR4.out
    rw [h2] at h3
    simp only [Option.some.injEq, Obj.cells.injEq] at h3
    exact absurd h3.2.1 (by decide)
  have HR5 : Hid (BlkAt 46 g [.int .u8 (ty : Nat), .int .u8 (co : Nat), .int .u8 0, .int .u8 0, .int .u8 (r2 : Nat), .int .u8 (r3 : Nat), .slice none 0 0] w5) := hg5
  have HH5 : Hid (HdAt w1.heap.size [.int .u8 (h.tos : Nat), .int .u16 (h.id : Nat), .bool h.ev, .bool h.df, .bool h.mf, .int .i64 h.off, .int .u8 (h.ttl : Nat), .int .u8 (h.pr : Nat), .int .u32 (h.src : Nat), .int .u32 (h.dst : Nat), .slice ua on uc] w5) := (hk5.out _ hne).trans HH4.out
  have HU5 : Hid (OwnB w5 w.heap.size (.slice ua on uc) O) := OwnB.kept HU4.out hk5.out (fun b hb => BlkAt.ne_own HR4.out ic_ne HU4.out hb)
  have HB5 := Lib.hid hHeld
  have HNE := Lib.hid hne
  have c0 := HdAt.cell HH5.out (j := 0) rfl
  have c1 := HdAt.cell HH5.out (j := 1) rfl
  have c2 := HdAt.cell HH5.out (j := 2) rfl
  have c3 := HdAt.cell HH5.out (j := 3) rfl
  have c4 := HdAt.cell HH5.out (j := 4) rfl
  have c5 := HdAt.cell HH5.out (j := 5) rfl
  have c6 := HdAt.cell HH5.out (j := 6) rfl
  have c7 := HdAt.cell HH5.out (j := 7) rfl
  have c8 := HdAt.cell HH5.out (j := 8) rfl
  have c9 := HdAt.cell HH5.out (j := 9) rfl
  have c10 := HdAt.cell HH5.out (j := 10) rfl
  clear hne hHeld hg5 hk5 hb5 hy
  go_wp2_with fail
  refine (HQ.out w5 HB5.out (OwnB.bytes HU5.out)).mono ?_
  rintro e w6 ⟨y, rfl, hoq, hb6⟩
  obtain ⟨qa, qc, rfl⟩ := hoq.form
  obtain ⟨qn, hqn⟩ : ∃ n, n = (quoL l).length := ⟨_, rfl⟩
  rw [← hqn] at hoq ⊢
  have HR6 : Hid (BlkAt 46 g [.int .u8 (ty : Nat), .int .u8 (co : Nat), .int .u8 0, .int .u8 0, .int .u8 (r2 : Nat), .int .u8 (r3 : Nat), .slice none 0 0] w6) := HR5.out.later hb6
  have HH6 : Hid (HdAt w1.heap.size [.int .u8 (h.tos : Nat), .int .u16 (h.id : Nat), .bool h.ev, .bool h.df, .bool h.mf, .int .i64 h.off, .int .u8 (h.ttl : Nat), .int .u8 (h.pr : Nat), .int .u32 (h.src : Nat), .int .u32 (h.dst : Nat), .slice ua on uc] w6) := HH5.out.later hb6
  have hr7 : BlkAt 46 g [.int .u8 (ty : Nat), .int .u8 (co : Nat), .int .u8 0, .int .u8 0, .int .u8 (r2 : Nat), .int .u8 (r3 : Nat), .slice qa qn qc] (w6.setCell ⟨g, 6, none⟩ (.slice qa qn qc)) := HR6.out.set 6 _
  have HH7 : Hid (HdAt w1.heap.size [.int .u8 (h.tos : Nat), .int .u16 (h.id : Nat), .bool h.ev, .bool h.df, .bool h.mf, .int .i64 h.off, .int .u8 (h.ttl : Nat), .int .u8 (h.pr : Nat), .int .u32 (h.src : Nat), .int .u32 (h.dst : Nat), .slice ua on uc] (w6.setCell ⟨g, 6, none⟩ (.slice qa qn qc))) := HdAt.other HH6.out HNE.out 6 _
  have HO7 : Hid (OwnB (w6.setCell ⟨g, 6, none⟩ (.slice qa qn qc)) w5.heap.size (.slice qa qn qc) (quoL l)) := BlkAt.own HR6.out ic_ne 6 _ hoq
  have HB7 : Hid (Below wm.heap.size wm (w6.setCell ⟨g, 6, none⟩ (.slice qa qn qc))) := (HB5.out.trans (hb6.mono HB5.out.size)).setCell (p := ⟨g, 6, none⟩) (by have := HG.out; show wm.heap.size ≤ g; omega) _
  have HQNL := Lib.hid hqn
  have hfz : w6.frozen? ⟨g, 6, none⟩ = false := HR6.out.frozen 6
  have z6 := HR6.out.cell (j := 6) rfl
  clear c0 c1 c2 c3 c4 c5 c6 c7 c8 c9 c10
  have d0 := hr7.cell (j := 0) rfl
  have d1 := hr7.cell (j := 1) rfl
  have d2 := hr7.cell (j := 2) rfl
  have d3 := hr7.cell (j := 3) rfl
  have d4 := hr7.cell (j := 4) rfl
  have d5 := hr7.cell (j := 5) rfl
  have d6 := hr7.cell (j := 6) rfl
  have s8 := HdAt.cell HH7.out (j := 8) rfl
  clear hr7 hoq hb6 hqn
  go_wp2_with fail
  refine (HAN.out qa qc qn _ HQNL.out (OwnB.bytes HO7.out)).mono ?_
  rintro e w8 ⟨z, rfl, hoz, hb8⟩
  go_wp2_with fail
  go_ret2
  exact ⟨_, rfl, OwnB.weak hoz HB7.out.size, HB7.out.trans (hb8.mono HB7.out.size)⟩
end Go.Proofs.Ytnhkkpcepppgoaa
