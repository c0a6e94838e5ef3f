/- The walk of the law IpMeans where a packet is made. -/
import Derived.Test.YtccfebaifgnodaaKw
namespace Go.Proofs.Ytccfebaifgnodaa
open Go.RowKit
attribute [local go_sem ↓] Go.wp_at_zero Go.wp_at_succ

set_option maxHeartbeats 1600000 in
set_option maxRecDepth 100000 in
theorem means_c (h : Hd) (oa : Option Addr) (oc n : Nat) (O : List UInt8) (pa : Option Addr) (pc m : Nat) (P : List UInt8) (xa : Option Addr) (xc k : Nat) (X : List UInt8) (w : World) (hh : h.Ok) (hn : n = O.length) (hme : m = P.length) (hk : k = X.length) (hO : Bytes w (.slice oa n oc) O) (hP : Bytes w (.slice pa m pc) P) (hX : Bytes w (.slice xa k xc) X) (h1 : (n : Int) ≤ 300) (h2 : (m : Int) ≤ 3000) (h3 : (k : Int) ≤ 3000) (hm : mayB h.off O = true) :
    Calls Try.prog 7 #[.agg #[.int .u8 (h.tos : Nat), .int .u16 (h.id : Nat), .bool h.ev, .bool h.df, .bool h.mf, .int .i64 h.off, .int .u8 (h.ttl : Nat), .int .u8 (h.pr : Nat), .int .u32 (h.src : Nat), .int .u32 (h.dst : Nat), .slice oa n oc], .slice pa m pc, .slice xa k xc] w fun e w' => e = .returned (.bool true) ∧ Below w.heap.size w w' := by
  have HO := Lib.hid hO
  have HP := Lib.hid hP
  have HX := Lib.hid hX
  have hl40 := mayB_len hm
  have hfit : P.length ≤ 65535 - 20 - O.length := by omega
  have HN := Lib.hid (And.intro hn (And.intro hme (And.intro hk (And.intro hm (And.intro hh (And.intro hfit hl40))))))
  clear hO hP hX hn hme hk hm hh hfit hl40
  have hA : Below w.heap.size w (w.alloc (.cells #[.int .u8 (h.tos : Nat), .int .u16 (h.id : Nat), .bool h.ev, .bool h.df, .bool h.mf, .int .i64 h.off, .int .u8 (h.ttl : Nat), .int .u8 (h.pr : Nat), .int .u32 (h.src : Nat), .int .u32 (h.dst : Nat), .slice oa n oc] 28)) := (Below.refl _ _).alloc (Nat.le_refl _) _
  have HR0 : Hid (HdAt w.heap.size [.int .u8 (h.tos : Nat), .int .u16 (h.id : Nat), .bool h.ev, .bool h.df, .bool h.mf, .int .i64 h.off, .int .u8 (h.ttl : Nat), .int .u8 (h.pr : Nat), .int .u32 (h.src : Nat), .int .u32 (h.dst : Nat), .slice oa n oc] (w.alloc (.cells #[.int .u8 (h.tos : Nat), .int .u16 (h.id : Nat), .bool h.ev, .bool h.df, .bool h.mf, .int .i64 h.off, .int .u8 (h.ttl : Nat), .int .u8 (h.pr : Nat), .int .u32 (h.src : Nat), .int .u32 (h.dst : Nat), .slice oa n oc] 28))) := HdAt.new w [.int .u8 (h.tos : Nat), .int .u16 (h.id : Nat), .bool h.ev, .bool h.df, .bool h.mf, .int .i64 h.off, .int .u8 (h.ttl : Nat), .int .u8 (h.pr : Nat), .int .u32 (h.src : Nat), .int .u32 (h.dst : Nat), .slice oa n oc]
  have HA := Lib.hid hA
  clear hA
  go_enter Try.func7, Try.ntmps7
  go_wp2_with fail
  refine (known3_any _).mono ?_
  rintro e w1 ⟨rfl, hb1⟩
  have hr1 : HdAt w.heap.size [.int .u8 (h.tos : Nat), .int .u16 (h.id : Nat), .bool h.ev, .bool h.df, .bool h.mf, .int .i64 h.off, .int .u8 (h.ttl : Nat), .int .u8 (h.pr : Nat), .int .u32 (h.src : Nat), .int .u32 (h.dst : Nat), .slice oa n oc] w1 := HdAt.later HR0.out hb1
  have HB1 := Lib.hid (HA.out.trans (hb1.mono HA.out.size))
  have HR1 := Lib.hid hr1
  clear hb1 hr1
  have hcz := fun j x hx => HdAt.cell (show HdAt w.heap.size [.int .u8 (h.tos : Nat), .int .u16 (h.id : Nat), .bool h.ev, .bool h.df, .bool h.mf, .int .i64 h.off, .int .u8 (h.ttl : Nat), .int .u8 (h.pr : Nat), .int .u32 (h.src : Nat), .int .u32 (h.dst : Nat), .slice oa n oc] w1 from HR1.out) (j := j) (x := x) hx
  have c0 := hcz 0 _ rfl
  have c1 := hcz 1 _ rfl
  have c2 := hcz 2 _ rfl
  have c3 := hcz 3 _ rfl
  have c4 := hcz 4 _ rfl
  have c5 := hcz 5 _ rfl
  have c6 := hcz 6 _ rfl
  have c7 := hcz 7 _ rfl
  have c8 := hcz 8 _ rfl
  have c9 := hcz 9 _ rfl
  have c10 := hcz 10 _ rfl
  clear hcz
  go_wp2_with fail
  have hyes := bytes_yes h HN.out.2.2.2.2.1 oa oc O pa pc P w1 (by rw [← HN.out.1]; exact (show Bytes w _ O from HO.out).later HB1.out) (by rw [← HN.out.2.1]; exact (show Bytes w _ P from HP.out).later HB1.out) HN.out.2.2.2.1 HN.out.2.2.2.2.2.1
  rw [← HN.out.1, ← HN.out.2.1] at hyes
  refine hyes.mono ?_
  rintro e w2 ⟨v2, rfl, ho2, hb2⟩
  obtain ⟨a2, b2, rfl⟩ := ho2.form
  have htl := pkt_len h O P
  have hpp : ∀ (a : Option Addr) (c s : Nat) wm, s = (pktL h O P ++ X).length → Bytes wm (.slice a s c) (pktL h O P ++ X) → Calls Try.prog 10 #[.slice a s c] wm (ParsedH wm h O P) := fun a c s wm hs hv => by
    subst hs
    exact parse_pkt a c h O P X HN.out.2.2.2.2.1 HN.out.2.2.2.1 HN.out.2.2.2.2.2.1 (by have := HN.out.2.2.1; omega) wm hv
  obtain ⟨K, hK⟩ : ∃ K, K = pktL h O P := ⟨_, rfl⟩
  rw [← hK] at ho2 htl hpp ⊢
  obtain ⟨t, ht⟩ : ∃ t, t = K.length := ⟨_, rfl⟩
  rw [← ht] at ho2 htl ⊢
  have HT := Lib.hid (And.intro hK (And.intro ht htl))
  have HPP := Lib.hid hpp
  have hq1 : ([] : List UInt8).length + K.length ≤ 140737488355328 := by have := HN.out.1; have := HN.out.2.1; simp; omega
  have hq2 : K.length + X.length ≤ 140737488355328 := by have := HN.out.1; have := HN.out.2.1; have := HN.out.2.2.1; omega
  have HB2 := Lib.hid (HB1.out.trans (hb2.mono HB1.out.size))
  have HR2 : Hid (HdAt w.heap.size [.int .u8 (h.tos : Nat), .int .u16 (h.id : Nat), .bool h.ev, .bool h.df, .bool h.mf, .int .i64 h.off, .int .u8 (h.ttl : Nat), .int .u8 (h.pr : Nat), .int .u32 (h.src : Nat), .int .u32 (h.dst : Nat), .slice oa n oc] w2) := HdAt.later HR1.out hb2
  have HY2 := Lib.hid ho2.bytes
  clear hb2 hyes c0 c1 c2 c3 c4 c5 c6 c7 c8 c9 c10 ho2 ht hK htl hpp
  go_wp2_with fail
  refine (num3_any 0 w2).mono ?_
  rintro e w3 ⟨rfl, rfl⟩
  go_wp2_with (at_builtin; refine wpList_app rfl (.const (.slice none 0 0)) (.tmp 44) rfl w2.heap.size (.slice none 0 0) _ [] K rfl rfl (OwnB.nil _ _) HY2.out hq1 (Nat.le_refl _) ?_)
  intro v4 w4 ho4 hb4 _
  have HB4 := Lib.hid hb4
  have HO4 : Hid (OwnB w4 w2.heap.size v4 K) := ho4
  clear ho4 hb4
  have g4 := own_lt HO4.out
  go_wp2_with (at_builtin; refine wpList_app rfl (.tmp 45) (.tmp 46) rfl w2.heap.size _ _ K X rfl rfl HO4.out ((show Bytes w _ X from HX.out).later (HB2.out.trans ((HB4.out.mono HB2.out.size)))) hq2 HB4.out.size ?_)
  intro v5 w5 ho5 hb5 _
  obtain ⟨a5, b5, rfl⟩ := ho5.form
  obtain ⟨s5, hs5⟩ : ∃ s, s = (K ++ X).length := ⟨_, rfl⟩
  rw [← hs5] at ho5 ⊢
  have HS5 := Lib.hid hs5
  have HB5 := Lib.hid (HB4.out.trans hb5)
  have HO5 := Lib.hid ho5.bytes
  have HR5 : Hid (HdAt w.heap.size [.int .u8 (h.tos : Nat), .int .u16 (h.id : Nat), .bool h.ev, .bool h.df, .bool h.mf, .int .i64 h.off, .int .u8 (h.ttl : Nat), .int .u8 (h.pr : Nat), .int .u32 (h.src : Nat), .int .u32 (h.dst : Nat), .slice oa n oc] w5) := HdAt.later HR2.out HB5.out
  clear ho5 hb5 g4 hs5
  go_wp2_with fail
  refine (HPP.out a5 b5 s5 w5 HS5.out HO5.out).mono ?_
  rintro e w6 ⟨u6, v6, B6, rfl, hu6, hv6, hB6, hg6, hb6⟩
  obtain ⟨ua6, ub6, rfl⟩ := hu6.form
  obtain ⟨va6, vb6, rfl⟩ := hv6.form
  have HB6 := Lib.hid (HB2.out.trans ((HB5.out.trans (hb6.mono HB5.out.size)).mono HB2.out.size))
  have HR6 : Hid (HdAt w.heap.size [.int .u8 (h.tos : Nat), .int .u16 (h.id : Nat), .bool h.ev, .bool h.df, .bool h.mf, .int .i64 h.off, .int .u8 (h.ttl : Nat), .int .u8 (h.pr : Nat), .int .u32 (h.src : Nat), .int .u32 (h.dst : Nat), .slice oa n oc] w6) := HdAt.later HR5.out hb6
  rw [← HN.out.1] at hu6 ⊢
  rw [← HN.out.2.1] at hv6 ⊢
  have HU6 := Lib.hid hu6.bytes
  have HV6 := Lib.hid hv6.bytes
  have HY6 : Hid (Bytes w6 (.slice a2 t b2) K) := (show Bytes w2 _ _ from HY2.out).later (HB5.out.trans (hb6.mono HB5.out.size))
  clear hu6 hv6 hB6 hg6 hb6
  have hR7 : HdAt w.heap.size [.int .u8 (h.tos : Nat), .int .u16 (h.id : Nat), .bool h.ev, .bool h.df, .bool h.mf, .int .i64 h.off, .int .u8 (h.ttl : Nat), .int .u8 (h.pr : Nat), .int .u32 (h.src : Nat), .int .u32 (h.dst : Nat), .slice oa n oc] (w6.alloc (.cells #[.int .u8 (h.tos : Nat), .int .u16 (h.id : Nat), .bool h.ev, .bool h.df, .bool h.mf, .int .i64 h.off, .int .u8 (h.ttl : Nat), .int .u8 (h.pr : Nat), .int .u32 (h.src : Nat), .int .u32 (h.dst : Nat), .slice ua6 n ub6] 28)) := HdAt.later HR6.out ((Below.refl _ _).alloc (Nat.le_refl _) _)
  have HR7 := Lib.hid hR7
  have hB7 : Below w6.heap.size w6 (w6.alloc (.cells #[.int .u8 (h.tos : Nat), .int .u16 (h.id : Nat), .bool h.ev, .bool h.df, .bool h.mf, .int .i64 h.off, .int .u8 (h.ttl : Nat), .int .u8 (h.pr : Nat), .int .u32 (h.src : Nat), .int .u32 (h.dst : Nat), .slice ua6 n ub6] 28)) := (Below.refl _ _).alloc (Nat.le_refl _) _
  have hsm := sameH_any h ua6 oa ub6 oc O _ (by rw [← HN.out.1]; exact (show Bytes w6 _ O from HU6.out).later hB7) (by rw [← HN.out.1]; exact ((show Bytes w _ O from HO.out).later HB6.out).later hB7)
  rw [← HN.out.1] at hsm
  have HSM := Lib.hid hsm
  have HB7 := Lib.hid hB7
  have hcz := fun j x hx => HdAt.cell (show HdAt w.heap.size [.int .u8 (h.tos : Nat), .int .u16 (h.id : Nat), .bool h.ev, .bool h.df, .bool h.mf, .int .i64 h.off, .int .u8 (h.ttl : Nat), .int .u8 (h.pr : Nat), .int .u32 (h.src : Nat), .int .u32 (h.dst : Nat), .slice oa n oc] (w6.alloc (.cells #[.int .u8 (h.tos : Nat), .int .u16 (h.id : Nat), .bool h.ev, .bool h.df, .bool h.mf, .int .i64 h.off, .int .u8 (h.ttl : Nat), .int .u8 (h.pr : Nat), .int .u32 (h.src : Nat), .int .u32 (h.dst : Nat), .slice ua6 n ub6] 28)) from HR7.out) (j := j) (x := x) hx
  have e0 := hcz 0 _ rfl
  have e1 := hcz 1 _ rfl
  have e2 := hcz 2 _ rfl
  have e3 := hcz 3 _ rfl
  have e4 := hcz 4 _ rfl
  have e5 := hcz 5 _ rfl
  have e6 := hcz 6 _ rfl
  have e7 := hcz 7 _ rfl
  have e8 := hcz 8 _ rfl
  have e9 := hcz 9 _ rfl
  have e10 := hcz 10 _ rfl
  clear hcz
  clear hR7 hB7 hsm
  go_wp2_with fail
  refine HSM.out.mono ?_
  rintro e w8 ⟨rfl, hb8⟩
  have HB8' : Hid (Below w6.heap.size w6 w8) := HB7.out.trans (hb8.mono HB7.out.size)
  have HB8 : Hid (Below w.heap.size w w8) := HB6.out.trans (HB8'.out.mono HB6.out.size)
  have HR8 : Hid (HdAt w.heap.size [.int .u8 (h.tos : Nat), .int .u16 (h.id : Nat), .bool h.ev, .bool h.df, .bool h.mf, .int .i64 h.off, .int .u8 (h.ttl : Nat), .int .u8 (h.pr : Nat), .int .u32 (h.src : Nat), .int .u32 (h.dst : Nat), .slice oa n oc] w8) := HdAt.later HR7.out hb8
  have HY8 : Hid (Bytes w8 (.slice a2 t b2) K) := (show Bytes w6 _ _ from HY6.out).later HB8'.out
  have hcv1 := ((show Bytes w6 _ P from HV6.out).later HB8'.out).str (P := Try.prog) (src := 22) (dst := 9) Try.underlying22 Try.underlying5 Try.underlying9
  have hcv2 := ((show Bytes w _ P from HP.out).later HB8.out).str (P := Try.prog) (src := 22) (dst := 9) Try.underlying22 Try.underlying5 Try.underlying9
  clear hb8 e0 e1 e2 e3 e4 e5 e6 e7 e8 e9 e10
  have hflt : flt K = 0 := by
    rw [HT.out.1]; have := flt_pkt h O P [] HN.out.2.2.2.2.1 HN.out.2.2.2.1 HN.out.2.2.2.2.2.1
    rwa [List.append_nil] at this
  have hat8 : Sm.at0 K 8 = h.ttl := by
    rw [HT.out.1]; have := (pkt_fields h O P [] HN.out.2.2.2.2.1 HN.out.2.2.2.1).2.2.2.1
    rwa [List.append_nil] at this
  have hle := lessW_any (.slice a2 t b2) K (by have := HT.out.2.1; have := HT.out.2.2; have := HN.out.1; have := HN.out.2.1; omega) w8 HY8.out
  simp only [hflt, hat8, ne_eq, not_true_eq_false, if_false] at hle
  clear hflt hat8
  by_cases h0 : h.ttl = 0
  · rw [if_pos h0, if_pos h0] at hle
    have HLE := Lib.hid hle
    have g0 : ((h.ttl : Int) == 0) = true := by rw [beq_iff_eq]; omega
    clear hle h0
    go_wp2_with fail
    refine HLE.out.mono ?_
    rintro e w9 ⟨v9, rfl, ho9, hb9⟩
    obtain ⟨a9, b9, rfl⟩ := ho9.form
    have hr9 : HdAt w.heap.size [.int .u8 (h.tos : Nat), .int .u16 (h.id : Nat), .bool h.ev, .bool h.df, .bool h.mf, .int .i64 h.off, .int .u8 (h.ttl : Nat), .int .u8 (h.pr : Nat), .int .u32 (h.src : Nat), .int .u32 (h.dst : Nat), .slice oa n oc] w9 := HdAt.later HR8.out hb9
    have hc6 := HdAt.cell hr9 (j := 6) rfl
    have HB9 := Lib.hid (HB8.out.trans (hb9.mono HB8.out.size))
    clear ho9 hb9 hr9
    go_wp2_with fail
    refine (num3_any 7 w9).mono ?_
    rintro e w10 ⟨rfl, rfl⟩
    go_wp2_with fail
    go_ret
    exact ⟨rfl, HB9.out⟩
  · rw [if_neg h0, if_neg h0, HT.out.1, less_pkt h O P HN.out.2.2.2.2.1 HN.out.2.2.2.2.2.2.1] at hle
    have hy256 : h.ttl < 256 := HN.out.2.2.2.2.1.ttl
    have hpk2 := pkt_len (h.set (h.ttl - 1)) O P
    have hh2 : (h.set (h.ttl - 1)).Ok := ⟨HN.out.2.2.2.2.1.tos, HN.out.2.2.2.2.1.id, by show h.ttl - 1 < 256; omega, HN.out.2.2.2.2.1.pr, HN.out.2.2.2.2.1.src, HN.out.2.2.2.2.1.dst⟩
    obtain ⟨y, hy⟩ : ∃ y, y = h.ttl - 1 := ⟨_, rfl⟩
    rw [← hy] at hle hpk2 hh2
    have hwr : IntKind.u8.wrap ((h.ttl : Int) - 1) = (y : Int) := by rw [show (h.ttl : Int) - 1 = (y : Int) by omega]; exact IntWalk.u8_in _ ⟨by omega, by omega⟩
    have hpp2 : ∀ (a : Option Addr) (c s : Nat) wm, s = (pktL (h.set y) O P).length → Bytes wm (.slice a s c) (pktL (h.set y) O P) → Calls Try.prog 10 #[.slice a s c] wm fun e w' => ∃ (u v : Value) (B : Nat), e = .returned (.tuple #[.agg #[.int .u8 (h.tos : Nat), .int .u16 (h.id : Nat), .bool h.ev, .bool h.df, .bool h.mf, .int .i64 h.off, .int .u8 (y : Nat), .int .u8 (h.pr : Nat), .int .u32 (h.src : Nat), .int .u32 (h.dst : Nat), u], v, .int .i64 0]) ∧ OwnB w' wm.heap.size u O ∧ OwnB w' B v P ∧ wm.heap.size ≤ B ∧ (∀ g, u.ownBlock = some g → g < B) ∧ Below wm.heap.size wm w' := fun a c s wm hs hv => by
      subst hs
      have := parse_pkt a c (h.set y) O P [] hh2 HN.out.2.2.2.1 HN.out.2.2.2.2.2.1 (by simp) wm (by rw [List.append_nil]; exact hv)
      rw [List.append_nil] at this
      exact this
    have hby2 : ∀ wm, Bytes wm (.slice oa n oc) O → Bytes wm (.slice pa m pc) P → Calls Try.prog 21 #[.agg #[.int .u8 (h.tos : Nat), .int .u16 (h.id : Nat), .bool h.ev, .bool h.df, .bool h.mf, .int .i64 h.off, .int .u8 (y : Nat), .int .u8 (h.pr : Nat), .int .u32 (h.src : Nat), .int .u32 (h.dst : Nat), .slice oa n oc], .slice pa m pc] wm (BytesYes wm (h.set y) O P) := fun wm hv hv2 => by
      have := bytes_yes (h.set y) hh2 oa oc O pa pc P wm (by rw [← HN.out.1]; exact hv) (by rw [← HN.out.2.1]; exact hv2) HN.out.2.2.2.1 HN.out.2.2.2.2.2.1
      rw [← HN.out.1, ← HN.out.2.1] at this
      exact this
    have hsm2 : ∀ (a : Option Addr) (c : Nat) wm, Bytes wm (.slice a n c) O → Bytes wm (.slice oa n oc) O → Calls Try.prog 12 #[.agg #[.int .u8 (h.tos : Nat), .int .u16 (h.id : Nat), .bool h.ev, .bool h.df, .bool h.mf, .int .i64 h.off, .int .u8 (y : Nat), .int .u8 (h.pr : Nat), .int .u32 (h.src : Nat), .int .u32 (h.dst : Nat), .slice a n c], .agg #[.int .u8 (h.tos : Nat), .int .u16 (h.id : Nat), .bool h.ev, .bool h.df, .bool h.mf, .int .i64 h.off, .int .u8 (y : Nat), .int .u8 (h.pr : Nat), .int .u32 (h.src : Nat), .int .u32 (h.dst : Nat), .slice oa n oc]] wm fun e w' => e = .returned (.bool true) ∧ Below wm.heap.size wm w' := fun a c wm hv hv2 => by
      have := sameH_any (h.set y) a oa c oc O wm (by rw [← HN.out.1]; exact hv) (by rw [← HN.out.1]; exact hv2)
      rw [← HN.out.1] at this
      exact this
    obtain ⟨S, hS⟩ : ∃ S, S = 20 + O.length := ⟨_, rfl⟩
    have hsz2 : ∀ wm, Bytes wm (.slice oa n oc) O → Calls Try.prog 15 #[.agg #[.int .u8 (h.tos : Nat), .int .u16 (h.id : Nat), .bool h.ev, .bool h.df, .bool h.mf, .int .i64 h.off, .int .u8 (y : Nat), .int .u8 (h.pr : Nat), .int .u32 (h.src : Nat), .int .u32 (h.dst : Nat), .slice oa n oc]] wm fun e w' => e = .returned (.int .i64 (S : Nat)) ∧ Below wm.heap.size wm w' := fun wm hv => by
      rw [hS]
      have := size_any (h.set y) oa oc O wm (by rw [← HN.out.1]; exact hv) (by have := HN.out.2.2.2.2.2.2.1; omega)
      rw [← HN.out.1, show sizeN (h.set y).off O = 20 + O.length from by unfold sizeN; rw [show mayB (h.set y).off O = true from HN.out.2.2.2.1]; rfl] at this
      exact this
    have htt : Sm.tot ((pktL (h.set y) O P).take S) = 65535 := by
      rw [hS]
      have := (pkt_facts (h.set y) O P [] hh2 HN.out.2.2.2.1 HN.out.2.2.2.2.2.1).2.2.2.1
      rw [List.append_nil] at this
      rw [this]; exact tot_hdr _ _ _
    obtain ⟨M, hM⟩ : ∃ M, M = pktL (h.set y) O P := ⟨_, rfl⟩
    rw [← hM] at hle hpk2 hpp2 htt
    obtain ⟨r, hr⟩ : ∃ r, r = M.length := ⟨_, rfl⟩
    have HM := Lib.hid (And.intro hM (And.intro hr (And.intro hpk2 (And.intro htt hS))))
    have HPP2 := Lib.hid hpp2
    have HBY2 := Lib.hid hby2
    have HSM2 := Lib.hid hsm2
    have HSZ2 := Lib.hid hsz2
    have HLE := Lib.hid hle
    have g0 : ((h.ttl : Int) == 0) = false := by rw [beq_eq_false_iff_ne]; omega
    clear hle hpk2 hpp2 hby2 hsm2 hsz2 hM hh2 hy hy256 htt h0 hS
    go_wp2_with fail
    refine HLE.out.mono ?_
    rintro e w9 ⟨v9, rfl, ho9, hb9⟩
    obtain ⟨a9, b9, rfl⟩ := ho9.form
    rw [← hr] at ho9 ⊢
    clear hr
    have hr9 : HdAt w.heap.size [.int .u8 (h.tos : Nat), .int .u16 (h.id : Nat), .bool h.ev, .bool h.df, .bool h.mf, .int .i64 h.off, .int .u8 (h.ttl : Nat), .int .u8 (h.pr : Nat), .int .u32 (h.src : Nat), .int .u32 (h.dst : Nat), .slice oa n oc] w9 := HdAt.later HR8.out hb9
    have hc6 := HdAt.cell hr9 (j := 6) rfl
    have HB9 := Lib.hid (HB8.out.trans (hb9.mono HB8.out.size))
    have HR9 := Lib.hid hr9
    have HO9 : Hid (OwnB w9 w.heap.size (.slice a9 r b9) M) := OwnB.weak ho9 HB8.out.size
    clear ho9 hb9 hr9
    go_wp2_with fail
    refine (num3_any 0 w9).mono ?_
    rintro e w10 ⟨rfl, rfl⟩
    go_wp2_with fail
    refine (HPP2.out a9 b9 r w9 HM.out.2.1 (OwnB.bytes HO9.out)).mono ?_
    rintro e w11 ⟨u11, v11, B11, rfl, hu11, hv11, hB11, _, hb11⟩
    obtain ⟨ua11, ub11, rfl⟩ := hu11.form
    obtain ⟨va11, vb11, rfl⟩ := hv11.form
    rw [← HN.out.1] at hu11 ⊢
    rw [← HN.out.2.1] at hv11 ⊢
    have HB11 := Lib.hid (HB9.out.trans (hb11.mono HB9.out.size))
    have HR11 : Hid (HdAt w.heap.size [.int .u8 (h.tos : Nat), .int .u16 (h.id : Nat), .bool h.ev, .bool h.df, .bool h.mf, .int .i64 h.off, .int .u8 (h.ttl : Nat), .int .u8 (h.pr : Nat), .int .u32 (h.src : Nat), .int .u32 (h.dst : Nat), .slice oa n oc] w11) := HdAt.later HR9.out hb11
    have HU11 : Hid (OwnB w11 w.heap.size (.slice ua11 n ub11) O) := OwnB.weak hu11 HB9.out.size
    have HV11 : Hid (OwnB w11 w.heap.size (.slice va11 m vb11) P) := OwnB.weak hv11 (Nat.le_trans HB9.out.size hB11)
    have HO11 : Hid (OwnB w11 w.heap.size (.slice a9 r b9) M) := OwnB.later HO9.out hb11
    clear hu11 hv11 hb11 hc6
    have hR12 : HdAt w.heap.size [.int .u8 (h.tos : Nat), .int .u16 (h.id : Nat), .bool h.ev, .bool h.df, .bool h.mf, .int .i64 h.off, .int .u8 (h.ttl : Nat), .int .u8 (h.pr : Nat), .int .u32 (h.src : Nat), .int .u32 (h.dst : Nat), .slice oa n oc] (w11.alloc (.cells #[.int .u8 (h.tos : Nat), .int .u16 (h.id : Nat), .bool h.ev, .bool h.df, .bool h.mf, .int .i64 h.off, .int .u8 (y : Nat), .int .u8 (h.pr : Nat), .int .u32 (h.src : Nat), .int .u32 (h.dst : Nat), .slice ua11 n ub11] 28)) := HdAt.later HR11.out ((Below.refl _ _).alloc (Nat.le_refl _) _)
    have k6 := HdAt.cell hR12 (j := 6) rfl
    have kf6 := HdAt.frozen hR12 6
    have hlt12 : w.heap.size ≠ w11.heap.size := by have := HdAt.lt HR11.out; omega
    have HR13 : Hid (HdAt w.heap.size [.int .u8 (h.tos : Nat), .int .u16 (h.id : Nat), .bool h.ev, .bool h.df, .bool h.mf, .int .i64 h.off, .int .u8 (y : Nat), .int .u8 (h.pr : Nat), .int .u32 (h.src : Nat), .int .u32 (h.dst : Nat), .slice oa n oc] ((w11.alloc (.cells #[.int .u8 (h.tos : Nat), .int .u16 (h.id : Nat), .bool h.ev, .bool h.df, .bool h.mf, .int .i64 h.off, .int .u8 (y : Nat), .int .u8 (h.pr : Nat), .int .u32 (h.src : Nat), .int .u32 (h.dst : Nat), .slice ua11 n ub11] 28)).setCell ⟨w.heap.size, 6, none⟩ (.int .u8 (y : Nat)))) := HdAt.set hR12 6 _
    have HT13 : Hid (HdAt w11.heap.size [.int .u8 (h.tos : Nat), .int .u16 (h.id : Nat), .bool h.ev, .bool h.df, .bool h.mf, .int .i64 h.off, .int .u8 (y : Nat), .int .u8 (h.pr : Nat), .int .u32 (h.src : Nat), .int .u32 (h.dst : Nat), .slice ua11 n ub11] ((w11.alloc (.cells #[.int .u8 (h.tos : Nat), .int .u16 (h.id : Nat), .bool h.ev, .bool h.df, .bool h.mf, .int .i64 h.off, .int .u8 (y : Nat), .int .u8 (h.pr : Nat), .int .u32 (h.src : Nat), .int .u32 (h.dst : Nat), .slice ua11 n ub11] 28)).setCell ⟨w.heap.size, 6, none⟩ (.int .u8 (y : Nat)))) := HdAt.other (HdAt.new w11 _) hlt12.symm 6 _
    have HU13 : Hid (OwnB ((w11.alloc (.cells #[.int .u8 (h.tos : Nat), .int .u16 (h.id : Nat), .bool h.ev, .bool h.df, .bool h.mf, .int .i64 h.off, .int .u8 (y : Nat), .int .u8 (h.pr : Nat), .int .u32 (h.src : Nat), .int .u32 (h.dst : Nat), .slice ua11 n ub11] 28)).setCell ⟨w.heap.size, 6, none⟩ (.int .u8 (y : Nat))) w.heap.size (.slice ua11 n ub11) O) := HdAt.own hR12 6 _ (OwnB.alloc HU11.out _)
    have HV13 : Hid (OwnB ((w11.alloc (.cells #[.int .u8 (h.tos : Nat), .int .u16 (h.id : Nat), .bool h.ev, .bool h.df, .bool h.mf, .int .i64 h.off, .int .u8 (y : Nat), .int .u8 (h.pr : Nat), .int .u32 (h.src : Nat), .int .u32 (h.dst : Nat), .slice ua11 n ub11] 28)).setCell ⟨w.heap.size, 6, none⟩ (.int .u8 (y : Nat))) w.heap.size (.slice va11 m vb11) P) := HdAt.own hR12 6 _ (OwnB.alloc HV11.out _)
    have HO13 : Hid (OwnB ((w11.alloc (.cells #[.int .u8 (h.tos : Nat), .int .u16 (h.id : Nat), .bool h.ev, .bool h.df, .bool h.mf, .int .i64 h.off, .int .u8 (y : Nat), .int .u8 (h.pr : Nat), .int .u32 (h.src : Nat), .int .u32 (h.dst : Nat), .slice ua11 n ub11] 28)).setCell ⟨w.heap.size, 6, none⟩ (.int .u8 (y : Nat))) w.heap.size (.slice a9 r b9) M) := HdAt.own hR12 6 _ (OwnB.alloc HO11.out _)
    have HB13 : Hid (Below w.heap.size w ((w11.alloc (.cells #[.int .u8 (h.tos : Nat), .int .u16 (h.id : Nat), .bool h.ev, .bool h.df, .bool h.mf, .int .i64 h.off, .int .u8 (y : Nat), .int .u8 (h.pr : Nat), .int .u32 (h.src : Nat), .int .u32 (h.dst : Nat), .slice ua11 n ub11] 28)).setCell ⟨w.heap.size, 6, none⟩ (.int .u8 (y : Nat)))) := (HB11.out.alloc HB11.out.size _).setCell (Nat.le_refl _) _
    have hcz := fun j x hx => HdAt.cell (show HdAt w.heap.size [.int .u8 (h.tos : Nat), .int .u16 (h.id : Nat), .bool h.ev, .bool h.df, .bool h.mf, .int .i64 h.off, .int .u8 (y : Nat), .int .u8 (h.pr : Nat), .int .u32 (h.src : Nat), .int .u32 (h.dst : Nat), .slice oa n oc] ((w11.alloc (.cells #[.int .u8 (h.tos : Nat), .int .u16 (h.id : Nat), .bool h.ev, .bool h.df, .bool h.mf, .int .i64 h.off, .int .u8 (y : Nat), .int .u8 (h.pr : Nat), .int .u32 (h.src : Nat), .int .u32 (h.dst : Nat), .slice ua11 n ub11] 28)).setCell ⟨w.heap.size, 6, none⟩ (.int .u8 (y : Nat))) from HR13.out) (j := j) (x := x) hx
    have f0 := hcz 0 _ rfl
    have f1 := hcz 1 _ rfl
    have f2 := hcz 2 _ rfl
    have f3 := hcz 3 _ rfl
    have f4 := hcz 4 _ rfl
    have f5 := hcz 5 _ rfl
    have f6 := hcz 6 _ rfl
    have f7 := hcz 7 _ rfl
    have f8 := hcz 8 _ rfl
    have f9 := hcz 9 _ rfl
    have f10 := hcz 10 _ rfl
    clear hcz
    clear hR12 hlt12
    go_wp2_with fail
    refine (HBY2.out _ ((show Bytes w _ O from HO.out).later HB13.out) ((show Bytes w _ P from HP.out).later HB13.out)).mono ?_
    rintro e w14 ⟨v14, rfl, ho14, hb14⟩
    rw [← HM.out.1] at ho14
    obtain ⟨a14, b14, rfl⟩ := ho14.form
    rw [← HM.out.2.1] at ho14 ⊢
    have HB14 := Lib.hid (HB13.out.trans (hb14.mono HB13.out.size))
    have HR14 : Hid (HdAt w.heap.size [.int .u8 (h.tos : Nat), .int .u16 (h.id : Nat), .bool h.ev, .bool h.df, .bool h.mf, .int .i64 h.off, .int .u8 (y : Nat), .int .u8 (h.pr : Nat), .int .u32 (h.src : Nat), .int .u32 (h.dst : Nat), .slice oa n oc] w14) := HdAt.later HR13.out hb14
    have HT14 : Hid (HdAt w11.heap.size [.int .u8 (h.tos : Nat), .int .u16 (h.id : Nat), .bool h.ev, .bool h.df, .bool h.mf, .int .i64 h.off, .int .u8 (y : Nat), .int .u8 (h.pr : Nat), .int .u32 (h.src : Nat), .int .u32 (h.dst : Nat), .slice ua11 n ub11] w14) := HdAt.later HT13.out hb14
    have HU14 := Lib.hid ((OwnB.bytes HU13.out).later hb14)
    have HV14 := Lib.hid ((OwnB.bytes HV13.out).later hb14)
    have HO14 := Lib.hid ((OwnB.bytes HO13.out).later hb14)
    have HZ14 := Lib.hid ho14.bytes
    clear ho14 hb14 k6 kf6 f0 f1 f2 f3 f4 f5 f6 f7 f8 f9 f10
    have hcz := fun j x hx => HdAt.cell (show HdAt w.heap.size [.int .u8 (h.tos : Nat), .int .u16 (h.id : Nat), .bool h.ev, .bool h.df, .bool h.mf, .int .i64 h.off, .int .u8 (y : Nat), .int .u8 (h.pr : Nat), .int .u32 (h.src : Nat), .int .u32 (h.dst : Nat), .slice oa n oc] w14 from HR14.out) (j := j) (x := x) hx
    have f0 := hcz 0 _ rfl
    have f1 := hcz 1 _ rfl
    have f2 := hcz 2 _ rfl
    have f3 := hcz 3 _ rfl
    have f4 := hcz 4 _ rfl
    have f5 := hcz 5 _ rfl
    have f6 := hcz 6 _ rfl
    have f7 := hcz 7 _ rfl
    have f8 := hcz 8 _ rfl
    have f9 := hcz 9 _ rfl
    have f10 := hcz 10 _ rfl
    clear hcz
    have hcz := fun j x hx => HdAt.cell (show HdAt w11.heap.size [.int .u8 (h.tos : Nat), .int .u16 (h.id : Nat), .bool h.ev, .bool h.df, .bool h.mf, .int .i64 h.off, .int .u8 (y : Nat), .int .u8 (h.pr : Nat), .int .u32 (h.src : Nat), .int .u32 (h.dst : Nat), .slice ua11 n ub11] w14 from HT14.out) (j := j) (x := x) hx
    have gg0 := hcz 0 _ rfl
    have gg1 := hcz 1 _ rfl
    have gg2 := hcz 2 _ rfl
    have gg3 := hcz 3 _ rfl
    have gg4 := hcz 4 _ rfl
    have gg5 := hcz 5 _ rfl
    have gg6 := hcz 6 _ rfl
    have gg7 := hcz 7 _ rfl
    have gg8 := hcz 8 _ rfl
    have gg9 := hcz 9 _ rfl
    have gg10 := hcz 10 _ rfl
    clear hcz
    go_wp2_with fail
    refine (HSM2.out ua11 ub11 w14 HU14.out ((show Bytes w _ O from HO.out).later HB14.out)).mono ?_
    rintro e w15 ⟨rfl, hb15⟩
    have HB15 := Lib.hid (HB14.out.trans (hb15.mono HB14.out.size))
    have HR15 : Hid (HdAt w.heap.size [.int .u8 (h.tos : Nat), .int .u16 (h.id : Nat), .bool h.ev, .bool h.df, .bool h.mf, .int .i64 h.off, .int .u8 (y : Nat), .int .u8 (h.pr : Nat), .int .u32 (h.src : Nat), .int .u32 (h.dst : Nat), .slice oa n oc] w15) := HdAt.later HR14.out hb15
    have HO15 : Hid (Bytes w15 (.slice a9 r b9) M) := (show Bytes w14 _ _ from HO14.out).later hb15
    have q1 := ((show Bytes w14 _ P from HV14.out).later hb15).str (P := Try.prog) (src := 22) (dst := 9) Try.underlying22 Try.underlying5 Try.underlying9
    have q2 := ((show Bytes w _ P from HP.out).later HB15.out).str (P := Try.prog) (src := 22) (dst := 9) Try.underlying22 Try.underlying5 Try.underlying9
    have q3 := ((show Bytes w14 _ M from HZ14.out).later hb15).str (P := Try.prog) (src := 22) (dst := 9) Try.underlying22 Try.underlying5 Try.underlying9
    have q4 := ((show Bytes w15 _ M from HO15.out)).str (P := Try.prog) (src := 22) (dst := 9) Try.underlying22 Try.underlying5 Try.underlying9
    clear hb15 f0 f1 f2 f3 f4 f5 f6 f7 f8 f9 f10 gg0 gg1 gg2 gg3 gg4 gg5 gg6 gg7 gg8 gg9 gg10
    have hcz := fun j x hx => HdAt.cell (show HdAt w.heap.size [.int .u8 (h.tos : Nat), .int .u16 (h.id : Nat), .bool h.ev, .bool h.df, .bool h.mf, .int .i64 h.off, .int .u8 (y : Nat), .int .u8 (h.pr : Nat), .int .u32 (h.src : Nat), .int .u32 (h.dst : Nat), .slice oa n oc] w15 from HR15.out) (j := j) (x := x) hx
    have f0 := hcz 0 _ rfl
    have f1 := hcz 1 _ rfl
    have f2 := hcz 2 _ rfl
    have f3 := hcz 3 _ rfl
    have f4 := hcz 4 _ rfl
    have f5 := hcz 5 _ rfl
    have f6 := hcz 6 _ rfl
    have f7 := hcz 7 _ rfl
    have f8 := hcz 8 _ rfl
    have f9 := hcz 9 _ rfl
    have f10 := hcz 10 _ rfl
    clear hcz
    go_wp2_with fail
    refine (num3_any 0 w15).mono ?_
    rintro e w16 ⟨rfl, rfl⟩
    go_wp2_with fail
    refine (HSZ2.out w15 ((show Bytes w _ O from HO.out).later HB15.out)).mono ?_
    rintro e w17 ⟨rfl, hb17⟩
    have hSM : S ≤ M.length := by have := HM.out.2.2.1; have := HM.out.2.2.2.2; omega
    obtain ⟨hct, hcb⟩ := Bytes.cut_hk .i64 ((show Bytes w15 _ M from HO15.out).later hb17) (S : Int) S rfl hSM
    have hto := totalR_any _ (M.take S) w17 hcb (by rw [List.length_take]; have := HM.out.2.2.2.2; have := HN.out.2.2.2.2.2.2.1; omega)
    rw [HM.out.2.2.2.1] at hto
    have HTO := Lib.hid hto
    have HB17 := Lib.hid (HB15.out.trans (hb17.mono HB15.out.size))
    clear hb17 hcb hto hSM f0 f1 f2 f3 f4 f5 f6 f7 f8 f9 f10 q1 q2 q3 q4
    go_wp2_with fail
    refine HTO.out.mono ?_
    rintro e w18 ⟨rfl, hb18⟩
    have HB18 := Lib.hid (HB17.out.trans (hb18.mono HB17.out.size))
    clear hb18
    go_wp2_with fail
    go_ret
    exact ⟨rfl, HB18.out⟩
theorem ipMeans_walk (h : Hd) (oa : Option Addr) (oc : Nat) (O : List UInt8) (v1 : Value) (P : List UInt8) (v2 : Value) (X : List UInt8) (w : World) (hh : h.Ok) (hO : Bytes w (.slice oa O.length oc) O) (hl0 : O.length ≤ 9223372036854775807) (_ : -9223372036854775808 ≤ h.off) (_ : h.off ≤ 9223372036854775807)
    (hP : Bytes w v1 P) (hl1 : P.length ≤ 9223372036854775807) (hX : Bytes w v2 X) (hl2 : X.length ≤ 9223372036854775807) :
    Calls Try.prog 7 #[.agg #[.int .u8 (h.tos : Nat), .int .u16 (h.id : Nat), .bool h.ev, .bool h.df, .bool h.mf, .int .i64 h.off, .int .u8 (h.ttl : Nat), .int .u8 (h.pr : Nat), .int .u32 (h.src : Nat), .int .u32 (h.dst : Nat), .slice oa O.length oc], v1, v2] w fun e w' => e = .returned (.bool true) ∧ Below w.heap.size w w' := by
  obtain ⟨pa, pc, rfl⟩ := hP.form
  obtain ⟨xa, xc, rfl⟩ := hX.form
  rcases Nat.lt_or_ge 300 O.length with g1 | g1
  · exact means_a1 h oa oc _ O pa pc _ P xa xc _ X w (by omega)
  · rcases Nat.lt_or_ge 3000 P.length with g2 | g2
    · exact means_a2 h oa oc _ O pa pc _ P xa xc _ X w (by omega) (by omega)
    · rcases Nat.lt_or_ge 3000 X.length with g3 | g3
      · exact means_a3 h oa oc _ O pa pc _ P xa xc _ X w (by omega) (by omega) (by omega)
      · cases hm : mayB h.off O with
        | false => exact means_b h oa oc _ O pa pc _ P xa xc _ X w rfl hO (by omega) (by omega) (by omega) hm
        | true => exact means_c h oa oc _ O pa pc _ P xa xc _ X w hh rfl rfl rfl hO hP hX (by omega) (by omega) (by omega) hm
end Go.Proofs.Ytccfebaifgnodaa
