/- The walk of ref03.Parse where nothing is wrong. -/
import Derived.Test.YtdjhgahdiggahaaZ06
import Derived.Test.YtdjhgahdiggahaaZ07

set_option linter.unusedSimpArgs false
set_option linter.unusedVariables false
namespace Go.Proofs.Ytdjhgahdiggahaa
open Go.RowKit
attribute [local go_sem ↓] Go.wp_at_zero Go.wp_at_succ

/-- What the reference tells of a packet that is not wrong. -/
def ParsedR (wm : World) (l : List UInt8) (e : Ending) (w' : World) : Prop :=
  ∃ (u v : Value), e = .returned (.tuple #[.agg #[.int .u8 (Sm.at0 l 1 : Nat), .int .u16 (numAt l 4 2 : Nat), .bool (evB (numAt l 6 2)), .bool (dfB (numAt l 6 2)), .bool (mfB (numAt l 6 2)), .int .i64 (numAt l 6 2 % 8192 : Nat), .int .u8 (Sm.at0 l 8 : Nat), .int .u8 (Sm.at0 l 9 : Nat), .int .u32 (numAt l 12 4 : Nat), .int .u32 (numAt l 16 4 : Nat), u], v, .int .i64 0]) ∧
    Bytes w' u ((l.take (hsz l)).drop 20) ∧ Bytes w' v ((l.take (numAt l 2 2)).drop (hsz l)) ∧ Below wm.heap.size wm w'
theorem flt_zero2 {l : List UInt8} (h : flt l = 0) : Sm.at0 l 0 / 16 = 4 ∧ Sm.tot (l.take (hsz l)) = 65535 ∧ Om.ok ((l.take (hsz l)).drop 20) = true := by
  obtain ⟨h1, h2, h3, h4, h5⟩ := flt_zero h
  unfold flt at h
  rw [if_neg (by omega)] at h
  by_cases a2 : Sm.at0 l 0 / 16 ≠ 4
  · rw [if_pos a2] at h; omega
  · rw [if_neg a2, if_neg (by omega), if_neg (by omega)] at h
    by_cases a5 : Sm.tot (l.take (hsz l)) ≠ 65535
    · rw [if_pos a5] at h; omega
    · rw [if_neg a5] at h
      cases hk : Om.ok ((l.take (hsz l)).drop 20) with
      | true => exact ⟨by omega, by omega, rfl⟩
      | false => rw [hk, if_pos rfl] at h; omega
set_option maxRecDepth 100000 in
set_option maxHeartbeats 20000000 in
theorem parseR_yes (bx ox : Nat) (c : Nat) (l : List UInt8) (hl : l.length ≤ 1000000) (wm : World) (hv : Bytes wm (.slice (some ⟨bx, ox, none⟩) l.length c) l) (hf : flt l = 0) :
    Calls Try.prog 79 #[.slice (some ⟨bx, ox, none⟩) l.length c] wm (ParsedR wm l) := by
  have HV := Lib.hid hv
  obtain ⟨h20, hs20, hsl, hst, htl⟩ := flt_zero hf
  obtain ⟨hx4, htot, hok⟩ := flt_zero2 hf
  have hA : Below wm.heap.size wm ((wm.alloc (.cells #[.int .u8 0, .int .u16 0, .bool false, .bool false, .bool false, .int .i64 0, .int .u8 0, .int .u8 0, .int .u32 0, .int .u32 0, .slice none 0 0] 106)).alloc (.cells #[.int .u8 0, .int .u16 0, .bool false, .bool false, .bool false, .int .i64 0, .int .u8 0, .int .u8 0, .int .u32 0, .int .u32 0, .slice none 0 0] 106)) := by go_grown
  have HR0 : Hid (HdAt wm.heap.size hz ((wm.alloc (.cells #[.int .u8 0, .int .u16 0, .bool false, .bool false, .bool false, .int .i64 0, .int .u8 0, .int .u8 0, .int .u32 0, .int .u32 0, .slice none 0 0] 106)).alloc (.cells #[.int .u8 0, .int .u16 0, .bool false, .bool false, .bool false, .int .i64 0, .int .u8 0, .int .u8 0, .int .u32 0, .int .u32 0, .slice none 0 0] 106))) := HdAt.later (HdAt.new wm hz) ((Below.refl _ _).alloc (Nat.le_refl _) _)
  have hslm := hsz_le l
  have htm := numAt_lt (l := l) (i := 2) (k := 2) (by omega)
  have hfm := numAt_lt (l := l) (i := 6) (k := 2) (by omega)
  obtain ⟨s, hs⟩ : ∃ s, s = hsz l := ⟨_, rfl⟩
  obtain ⟨t, ht⟩ : ∃ t, t = numAt l 2 2 := ⟨_, rfl⟩
  obtain ⟨f, hfe⟩ : ∃ f, f = numAt l 6 2 := ⟨_, rfl⟩
  rw [← hs] at hs20 hsl hst hslm
  rw [← ht] at hst htl htm
  rw [← hfe] at hfm
  obtain ⟨ev, hev2⟩ : ∃ b, b = evB f := ⟨_, rfl⟩
  obtain ⟨df, hdf2⟩ : ∃ b, b = dfB f := ⟨_, rfl⟩
  obtain ⟨mf, hmf2⟩ : ∃ b, b = mfB f := ⟨_, rfl⟩
  obtain ⟨o, ho⟩ : ∃ o, o = f % 8192 := ⟨_, rfl⟩
  have ho2 : o < 8192 := by omega
  have hwo : IntKind.i64.wrap (o : Int) = o := IntWalk.i64_in _ ⟨by omega, by omega⟩
  have hn1 := Sm.at0_lt l 1
  have hn8 := Sm.at0_lt l 8
  have hn9 := Sm.at0_lt l 9
  have hn4 := numAt_lt (l := l) (i := 4) (k := 2) (by omega)
  have hn12 := numAt_lt (l := l) (i := 12) (k := 4) (by omega)
  have hn16 := numAt_lt (l := l) (i := 16) (k := 4) (by omega)
  obtain ⟨n1, e1⟩ : ∃ n, n = Sm.at0 l 1 := ⟨_, rfl⟩
  obtain ⟨n8, e8⟩ : ∃ n, n = Sm.at0 l 8 := ⟨_, rfl⟩
  obtain ⟨n9, e9⟩ : ∃ n, n = Sm.at0 l 9 := ⟨_, rfl⟩
  obtain ⟨n4, e4⟩ : ∃ n, n = numAt l 4 2 := ⟨_, rfl⟩
  obtain ⟨n12, e12⟩ : ∃ n, n = numAt l 12 4 := ⟨_, rfl⟩
  obtain ⟨n16, e16⟩ : ∃ n, n = numAt l 16 4 := ⟨_, rfl⟩
  rw [← e1] at hn1
  rw [← e8] at hn8
  rw [← e9] at hn9
  rw [← e4] at hn4
  rw [← e12] at hn12
  rw [← e16] at hn16
  have hbyte : ∀ i, i < l.length → bx < wm.heap.size ∧ wm.cell? ⟨bx, ox + i, none⟩ = some (.int .u8 (Sm.at0 l i : Nat)) := fun i hi => by
    obtain ⟨b', o', e, hb, hc⟩ := hv.at1 hi
    simp only [Option.some.injEq, Addr.mk.injEq, and_true] at e
    obtain ⟨rfl, rfl⟩ := e
    exact ⟨hb, hc⟩
  have hbx := (hbyte 0 (by omega)).1
  have hex0 : wm.cell? ⟨bx, ox, none⟩ = some (.int .u8 (Sm.at0 l 0 : Nat)) := (hbyte 0 (by omega)).2
  have hex1 := (hbyte 1 (by omega)).2
  have hex8 := (hbyte 8 (by omega)).2
  have hex9 := (hbyte 9 (by omega)).2
  rw [← e1] at hex1
  rw [← e8] at hex8
  rw [← e9] at hex9
  have hx256 := Sm.at0_lt l 0
  have hsx : s = Sm.at0 l 0 % 16 * 4 := hs
  obtain ⟨x, hx⟩ : ∃ x, x = Sm.at0 l 0 := ⟨_, rfl⟩
  rw [← hx] at hex0 hx256 hx4 hsx
  have hex0A := cell_later hA hex0
  obtain ⟨a2, hs2, hg2⟩ := getR_at hv 2 2 (by omega) (by omega)
  obtain ⟨a4, hs4, hg4⟩ := getR_at hv 4 2 (by omega) (by omega)
  obtain ⟨a6, hs6, hg6⟩ := getR_at hv 6 2 (by omega) (by omega)
  obtain ⟨a12, hs12, hg12⟩ := getR_at hv 12 4 (by omega) (by omega)
  obtain ⟨a16, hs16, hg16⟩ := getR_at hv 16 4 (by omega) (by omega)
  rw [← ht] at hg2
  rw [← e4] at hg4
  rw [← hfe] at hg6
  rw [← e12] at hg12
  rw [← e16] at hg16
  have hs2' : ∀ w, (Instr.slice 97 (.slice (some ⟨bx, ox, none⟩) l.length c) (some (.int .i64 2)) (some (.int .i64 4)) none).run Try.prog w = .ok (.slice a2 2 (c - 2)) w := hs2
  have hs6' : ∀ w, (Instr.slice 97 (.slice (some ⟨bx, ox, none⟩) l.length c) (some (.int .i64 6)) (some (.int .i64 8)) none).run Try.prog w = .ok (.slice a6 2 (c - 6)) w := hs6
  have hs4' : ∀ w, (Instr.slice 97 (.slice (some ⟨bx, ox, none⟩) l.length c) (some (.int .i64 4)) (some (.int .i64 6)) none).run Try.prog w = .ok (.slice a4 2 (c - 4)) w := hs4
  have hs12' : ∀ w, (Instr.slice 97 (.slice (some ⟨bx, ox, none⟩) l.length c) (some (.int .i64 12)) (some (.int .i64 16)) none).run Try.prog w = .ok (.slice a12 4 (c - 12)) w := hs12
  have hs16' : ∀ w, (Instr.slice 97 (.slice (some ⟨bx, ox, none⟩) l.length c) (some (.int .i64 16)) (some (.int .i64 20)) none).run Try.prog w = .ok (.slice a16 4 (c - 16)) w := hs16
  have HG2 := Lib.hid hg2
  have HG4m := Lib.hid hg4
  have HG6 := Lib.hid hg6
  have HG12m := Lib.hid hg12
  have HG16m := Lib.hid hg16
  obtain ⟨ao, hso, hbo⟩ := hv.cut_lh 20 (s : Int) 20 s rfl rfl hs20 hsl
  obtain ⟨ap, hsp, hbp⟩ := hv.cut_lh (s : Int) (t : Int) s t rfl rfl hst htl
  obtain ⟨hsh, hbh⟩ := Bytes.cut_hk .i64 hv (s : Int) s rfl hsl
  obtain ⟨O, hO⟩ : ∃ O, O = (l.take s).drop 20 := ⟨_, rfl⟩
  obtain ⟨Pl, hPl⟩ : ∃ O, O = (l.take t).drop s := ⟨_, rfl⟩
  obtain ⟨sn, hsn⟩ : ∃ n, n = s - 20 := ⟨_, rfl⟩
  obtain ⟨sc, hsc⟩ : ∃ n, n = c - 20 := ⟨_, rfl⟩
  obtain ⟨pn, hpn⟩ : ∃ n, n = t - s := ⟨_, rfl⟩
  obtain ⟨pcc, hpcc⟩ : ∃ n, n = c - s := ⟨_, rfl⟩
  rw [← hs] at htot hok
  rw [← hO, ← hsn, ← hsc] at hbo
  rw [← hsn, ← hsc] at hso
  rw [← hPl, ← hpn, ← hpcc] at hbp
  rw [← hpn, ← hpcc] at hsp
  rw [← hO] at hok
  have hOl : O.length ≤ 1000 := by rw [hO, List.length_drop, List.length_take]; omega
  have HTO : Hid (∀ W, Below wm.heap.size wm W → Calls Try.prog 114 #[.slice (some ⟨bx, ox, none⟩) s c] W fun e w' => e = .returned (.int .u16 65535) ∧ Below W.heap.size W w') := fun W hb => by
    have := totalR_any _ (l.take s) W (hbh.later hb) (by rw [List.length_take]; omega)
    rw [htot] at this
    exact this
  have HPA : Hid (∀ W, Below wm.heap.size wm W → Calls Try.prog 82 #[.slice ao sn sc] W fun e w' => ∃ a c n, e = .returned (.tuple #[.slice a n c, .bool true]) ∧ Below W.heap.size W w') := fun W hb =>
    (partsR_any _ O hOl W (hbo.later hb)).mono fun e w' ⟨a, c, A, he, _, _, _, _, hB⟩ => by rw [hok] at he; exact ⟨a, c, _, he, hB⟩
  have HBO := Lib.hid hbo
  have HBP := Lib.hid hbp
  have HE : Hid (s = hsz l ∧ t = numAt l 2 2 ∧ n1 = Sm.at0 l 1 ∧ n8 = Sm.at0 l 8 ∧ n9 = Sm.at0 l 9 ∧ n4 = numAt l 4 2 ∧ n12 = numAt l 12 4 ∧ n16 = numAt l 16 4 ∧ O = (l.take s).drop 20 ∧ Pl = (l.take t).drop s ∧ ev = evB f ∧ df = dfB f ∧ mf = mfB f ∧ o = f % 8192 ∧ f = numAt l 6 2) := ⟨hs, ht, e1, e8, e9, e4, e12, e16, hO, hPl, hev2, hdf2, hmf2, ho, hfe⟩
  have w4' : IntKind.u16.wrap (n4 : Int) = n4 := IntWalk.u16_in _ ⟨by omega, by omega⟩
  have w12' : IntKind.u32.wrap (n12 : Int) = n12 := IntWalk.u32_in _ ⟨by omega, by omega⟩
  have w16' : IntKind.u32.wrap (n16 : Int) = n16 := IntWalk.u32_in _ ⟨by omega, by omega⟩
  have q1 : IntKind.u64.wrap ((f : Int) / 32768) = ((f / 32768 : Nat) : Int) := by rw [show (f : Int) / 32768 = ((f / 32768 : Nat) : Int) by omega]; exact IntWalk.u64_in _ ⟨by omega, by omega⟩
  have q2 : IntKind.u64.wrap ((f : Int) / 16384) = ((f / 16384 : Nat) : Int) := by rw [show (f : Int) / 16384 = ((f / 16384 : Nat) : Int) by omega]; exact IntWalk.u64_in _ ⟨by omega, by omega⟩
  have q3 : IntKind.u64.wrap ((f : Int) / 8192) = ((f / 8192 : Nat) : Int) := by rw [show (f : Int) / 8192 = ((f / 8192 : Nat) : Int) by omega]; exact IntWalk.u64_in _ ⟨by omega, by omega⟩
  have hev : (IntKind.u64.wrap ((f : Int) / 32768) == 1) = ev := by rw [q1, hev2]; unfold evB; rw [Bool.eq_iff_iff, beq_iff_eq, decide_eq_true_eq]; omega
  have hdf : ((IntKind.u64.wrap ((f : Int) / 16384)).tmod 2 == 1) = df := by rw [q2, Int.tmod_eq_emod_of_nonneg (by omega), hdf2]; unfold dfB; rw [Bool.eq_iff_iff, beq_iff_eq, decide_eq_true_eq]; omega
  have hmf : ((IntKind.u64.wrap ((f : Int) / 8192)).tmod 2 == 1) = mf := by rw [q3, Int.tmod_eq_emod_of_nonneg (by omega), hmf2]; unfold mfB; rw [Bool.eq_iff_iff, beq_iff_eq, decide_eq_true_eq]; omega
  have hof : (f : Int).tmod 8192 = o := by rw [Int.tmod_eq_emod_of_nonneg (by omega)]; omega
  clear q1 q2 q3
  have HW := Lib.hid (And.intro w4' (And.intro w12' (And.intro w16' (And.intro hev (And.intro hdf (And.intro hmf (And.intro hof (And.intro hwo (And.intro hs4' (And.intro hs12' (And.intro hs16' (And.intro hso hsp))))))))))))
  have k1 : (20 : Int) ≤ s := by omega
  have k2 : (s : Int) ≤ l.length := by omega
  have k3 : (s : Int) ≤ t := by omega
  have k4 : (t : Int) ≤ l.length := by omega
  have k5 : (20 : Int) ≤ l.length := by omega
  have k6 : ((x : Int) / 16 != 4) = false := by simp; omega
  have k7 : 4 * ((x : Int) % 16) = s := by omega
  have hwt : IntKind.i64.wrap (t : Int) = t := IntWalk.i64_in _ ⟨by omega, by omega⟩
  have hl2 : 20 ≤ l.length := h20
  have i1 : (1 : Int) < l.length := by omega
  have j1 : 1 < l.length := by omega
  have i8 : (8 : Int) < l.length := by omega
  have j8 : 8 < l.length := by omega
  have i9 : (9 : Int) < l.length := by omega
  have j9 : 9 < l.length := by omega
  have HA := Lib.hid hA
  have HX := Lib.hid (And.intro hex1 (And.intro hex8 hex9))
  clear hf hv hs ht e1 e8 e9 e4 e12 e16 hO hPl hbo hbp hbh hev2 hdf2 hmf2 ho hfe hn1 hn8 hn9 hn4 hn12 hn16 hfm w4' w12' w16' hev hdf hmf hof hwo hslm htm ho2 hg2 hg4 hg6 hg12 hg16 htot hok hOl hsn hsc hpn hpcc hbyte hx hsx hs4 hs12 hs16 hs2 hs6 hs4' hs12' hs16' hA hex0 hex1 hex8 hex9 hx4 hsp
  go_enter Try.func79, Try.ntmps79
  go_wp2_with fail
  refine (HG2.out _ HA.out).mono ?_
  rintro e w3 ⟨rfl, rfl⟩
  go_wp2_with fail
  refine (HTO.out _ HA.out).mono ?_
  rintro e w4 ⟨rfl, hb4⟩
  have HB4 := Lib.hid (HA.out.trans (hb4.mono HA.out.size))
  have HR4 : Hid (HdAt wm.heap.size hz w4) := HdAt.later HR0.out hb4
  clear hb4
  go_wp2_with fail
  refine (HPA.out _ HB4.out).mono ?_
  rintro e w ⟨pa, pc, pnn, rfl, hb5⟩
  have HBM := Lib.hid (HB4.out.trans (hb5.mono HB4.out.size))
  have HR3 : Hid (HdAt wm.heap.size hz w) := HdAt.later HR4.out hb5
  clear hb5
  go_wp2_with fail
  refine (HG6.out _ HBM.out).mono ?_
  rintro e w9 ⟨rfl, rfl⟩
  have HG4 := Lib.hid (fun W' (hb : Below w.heap.size w W') => HG4m.out W' (HBM.out.trans (hb.mono HBM.out.size)))
  have HG12 := Lib.hid (fun W' (hb : Below w.heap.size w W') => HG12m.out W' (HBM.out.trans (hb.mono HBM.out.size)))
  have HG16 := Lib.hid (fun W' (hb : Below w.heap.size w W') => HG16m.out W' (HBM.out.trans (hb.mono HBM.out.size)))
  go_wp2_with fail
  obtain ⟨w4', w12', w16', hev, hdf, hmf, hof, hwo, hs4, hs12, hs16, hso2, hsp⟩ := HW.out
  obtain ⟨hex1, hex8, hex9⟩ := HX.out
  clear hex0A hs2' hs6' hsh k6 k7 hwt hx256 HG2 HG4m HG6 HG12m HG16m HTO HPA HA HR0 HB4 HR4 HX HW
  refine wp_region_fin (S := fun w' => Below w.heap.size w w') (fun A w3 => ∃ (v78 : Value) (v81 : Value) (v82 : Value) (v85 : Value) (v86 : Value) (v89 : Value) (g11 : Nat), A = ⟨#[.slice (some ⟨bx, ox, none⟩) l.length c, undef, .pointer (some ⟨wm.heap.size, 0, none⟩), .slice none 0 0, .int .i64 0, (A.tmps.getD 5 undef), .int .i64 (s : Nat), .int .i64 (t : Nat), (A.tmps.getD 8 undef), (A.tmps.getD 9 undef), .int .u64 (f : Nat), .pointer (some ⟨g11, 0, none⟩), (A.tmps.getD 12 undef), (A.tmps.getD 13 undef), (A.tmps.getD 14 undef), undef, (A.tmps.getD 16 undef), (A.tmps.getD 17 undef), (A.tmps.getD 18 undef), (A.tmps.getD 19 undef), (A.tmps.getD 20 undef), undef, (A.tmps.getD 22 undef), (A.tmps.getD 23 undef), (A.tmps.getD 24 undef), (A.tmps.getD 25 undef), (A.tmps.getD 26 undef), (A.tmps.getD 27 undef), (A.tmps.getD 28 undef), (A.tmps.getD 29 undef), (A.tmps.getD 30 undef), (A.tmps.getD 31 undef), (A.tmps.getD 32 undef), (A.tmps.getD 33 undef), (A.tmps.getD 34 undef), (A.tmps.getD 35 undef), undef, (A.tmps.getD 37 undef), (A.tmps.getD 38 undef), (A.tmps.getD 39 undef), (A.tmps.getD 40 undef), (A.tmps.getD 41 undef), (A.tmps.getD 42 undef), (A.tmps.getD 43 undef), (A.tmps.getD 44 undef), (A.tmps.getD 45 undef), (A.tmps.getD 46 undef), (A.tmps.getD 47 undef), (A.tmps.getD 48 undef), (A.tmps.getD 49 undef), undef, (A.tmps.getD 51 undef), (A.tmps.getD 52 undef), (A.tmps.getD 53 undef), (A.tmps.getD 54 undef), (A.tmps.getD 55 undef), undef, (A.tmps.getD 57 undef), (A.tmps.getD 58 undef), (A.tmps.getD 59 undef), (A.tmps.getD 60 undef), (A.tmps.getD 61 undef), (A.tmps.getD 62 undef), (A.tmps.getD 63 undef), (A.tmps.getD 64 undef), (A.tmps.getD 65 undef), undef, (A.tmps.getD 67 undef), (A.tmps.getD 68 undef), (A.tmps.getD 69 undef), .slice (some ⟨bx, ox, none⟩) l.length c, .pointer (some ⟨bx, ox + 1, none⟩), .int .u8 (n1 : Nat), .slice (some ⟨bx, ox, none⟩) l.length c, .slice a4 2 (c - 4), .int .u64 (n4 : Nat), .int .u16 (n4 : Nat), .int .u64 (f : Nat), v78, .bool ev, .int .u64 (f : Nat), v81, v82, .bool df, .int .u64 (f : Nat), v85, v86, .bool mf, .int .u64 (f : Nat), v89, .int .i64 (o : Nat), .slice (some ⟨bx, ox, none⟩) l.length c, .pointer (some ⟨bx, ox + 8, none⟩), .int .u8 (n8 : Nat), .slice (some ⟨bx, ox, none⟩) l.length c, .pointer (some ⟨bx, ox + 9, none⟩), .int .u8 (n9 : Nat), .slice (some ⟨bx, ox, none⟩) l.length c, .slice a12 4 (c - 12), .int .u64 (n12 : Nat), .int .u32 (n12 : Nat), .slice (some ⟨bx, ox, none⟩) l.length c, .slice a16 4 (c - 16), .int .u64 (n16 : Nat), .int .u32 (n16 : Nat), .slice (some ⟨bx, ox, none⟩) l.length c, .int .i64 (s : Nat), .slice ao sn sc, .agg #[.int .u8 (n1 : Nat), .int .u16 (n4 : Nat), .bool ev, .bool df, .bool mf, .int .i64 (o : Nat), .int .u8 (n8 : Nat), .int .u8 (n9 : Nat), .int .u32 (n12 : Nat), .int .u32 (n16 : Nat), .slice ao sn sc], undef, undef, undef, undef, undef], []⟩ ∧ Hid (HdAt g11 [.int .u8 (n1 : Nat), .int .u16 (n4 : Nat), .bool ev, .bool df, .bool mf, .int .i64 (o : Nat), .int .u8 (n8 : Nat), .int .u8 (n9 : Nat), .int .u32 (n12 : Nat), .int .u32 (n16 : Nat), .slice ao sn sc] w3) ∧ Hid (Below w.heap.size w w3) ∧ w.heap.size ≤ g11) (by kernel_rfl) (Below.refl _ _).drew ?fin (fun hfin hHeld => ?_)
  case fin =>
    rintro A w3 ⟨v78, v81, v82, v85, v86, v89, g11, hAe, G1, G3, hg11⟩
    obtain ⟨X, hX⟩ : ∃ X : Nat → Value, X = fun i => A.tmps.getD i undef := ⟨_, rfl⟩
    have hAe2 : A = ⟨#[.slice (some ⟨bx, ox, none⟩) l.length c, undef, .pointer (some ⟨wm.heap.size, 0, none⟩), .slice none 0 0, .int .i64 0, (X 5), .int .i64 (s : Nat), .int .i64 (t : Nat), (X 8), (X 9), .int .u64 (f : Nat), .pointer (some ⟨g11, 0, none⟩), (X 12), (X 13), (X 14), undef, (X 16), (X 17), (X 18), (X 19), (X 20), undef, (X 22), (X 23), (X 24), (X 25), (X 26), (X 27), (X 28), (X 29), (X 30), (X 31), (X 32), (X 33), (X 34), (X 35), undef, (X 37), (X 38), (X 39), (X 40), (X 41), (X 42), (X 43), (X 44), (X 45), (X 46), (X 47), (X 48), (X 49), undef, (X 51), (X 52), (X 53), (X 54), (X 55), undef, (X 57), (X 58), (X 59), (X 60), (X 61), (X 62), (X 63), (X 64), (X 65), undef, (X 67), (X 68), (X 69), .slice (some ⟨bx, ox, none⟩) l.length c, .pointer (some ⟨bx, ox + 1, none⟩), .int .u8 (n1 : Nat), .slice (some ⟨bx, ox, none⟩) l.length c, .slice a4 2 (c - 4), .int .u64 (n4 : Nat), .int .u16 (n4 : Nat), .int .u64 (f : Nat), v78, .bool ev, .int .u64 (f : Nat), v81, v82, .bool df, .int .u64 (f : Nat), v85, v86, .bool mf, .int .u64 (f : Nat), v89, .int .i64 (o : Nat), .slice (some ⟨bx, ox, none⟩) l.length c, .pointer (some ⟨bx, ox + 8, none⟩), .int .u8 (n8 : Nat), .slice (some ⟨bx, ox, none⟩) l.length c, .pointer (some ⟨bx, ox + 9, none⟩), .int .u8 (n9 : Nat), .slice (some ⟨bx, ox, none⟩) l.length c, .slice a12 4 (c - 12), .int .u64 (n12 : Nat), .int .u32 (n12 : Nat), .slice (some ⟨bx, ox, none⟩) l.length c, .slice a16 4 (c - 16), .int .u64 (n16 : Nat), .int .u32 (n16 : Nat), .slice (some ⟨bx, ox, none⟩) l.length c, .int .i64 (s : Nat), .slice ao sn sc, .agg #[.int .u8 (n1 : Nat), .int .u16 (n4 : Nat), .bool ev, .bool df, .bool mf, .int .i64 (o : Nat), .int .u8 (n8 : Nat), .int .u8 (n9 : Nat), .int .u32 (n12 : Nat), .int .u32 (n16 : Nat), .slice ao sn sc], undef, undef, undef, undef, undef], []⟩ := by subst hX; exact hAe
    clear hX hAe
    subst hAe2
    clear i1 j1 i8 j8 i9 j9 hso hso2 w4' w12' w16' hev hdf hmf hof hwo hs4 hs12 hs16 hex1 hex8 hex9
    go_wp2_with fail
    have hr3 : HdAt wm.heap.size hz w3 := HdAt.later HR3.out G3.out
    have hbm3 : Below wm.heap.size wm w3 := HBM.out.trans (G3.out.mono HBM.out.size)
    have HR4 := Lib.hid hr3
    have hgne : g11 ≠ wm.heap.size := by have := HdAt.lt HR3.out; omega
    refine wp_region_held_drew (S := fun w' => HdAt g11 [.int .u8 (n1 : Nat), .int .u16 (n4 : Nat), .bool ev, .bool df, .bool mf, .int .i64 (o : Nat), .int .u8 (n8 : Nat), .int .u8 (n9 : Nat), .int .u32 (n12 : Nat), .int .u32 (n16 : Nat), .slice ao sn sc] w' ∧ Below wm.heap.size wm w') (by kernel_rfl) ⟨G1.out, hbm3.drew⟩ (fun hHeld => ?_)
    obtain ⟨w0, hw0⟩ : ∃ w0, w0 = World.drew w3 := ⟨_, rfl⟩
    rw [← hw0]
    rw [← hw0] at hHeld
    have hd : Below w3.heap.size w3 w0 := by rw [hw0]; exact (Below.refl _ _).drew
    have hr5 : HdAt wm.heap.size hz w0 := HdAt.later HR4.out hd
    clear hw0 hd
    refine wpAnyH_take (i := 0) (v := .agg #[.int .u8 (n1 : Nat), .int .u16 (n4 : Nat), .bool ev, .bool df, .bool mf, .int .i64 (o : Nat), .int .u8 (n8 : Nat), .int .u8 (n9 : Nat), .int .u32 (n12 : Nat), .int .u32 (n16 : Nat), .slice ao sn sc]) rfl (by kernel_rfl) (by kernel_rfl) (by kernel_rfl) (fun _ _ _ h => h) (yieldsIf_load_mid (by rfl) 106 (.tmp 11) rfl g11 0 rfl [.int .u8 (n1 : Nat), .int .u16 (n4 : Nat), .bool ev, .bool df, .bool mf, .int .i64 (o : Nat), .int .u8 (n8 : Nat), .int .u8 (n9 : Nat), .int .u32 (n12 : Nat), .int .u32 (n16 : Nat), .slice ao sn sc] _ (fun w hS => HdAt.range hS.1) Try.underlying106 rfl (by kernel_rfl)) hHeld ?_
    (try simp only [Act.put, List.setIfInBounds_toArray, List.set_cons_zero, List.set_cons_succ, List.getElem_toArray, List.getElem_cons_zero])
    (refine wpAnyH_take (i := 1) (v := ?_) rfl (by kernel_rfl) (by kernel_rfl) (by kernel_rfl) (fun _ _ _ h => h) (Or.inl ⟨by rfl, ?_⟩) hHeld ?_; rotate_left; (focus (intro w hSw; (try dsimp only at hSw); go_simp; try with_reducible rfl)); (try simp only [Act.put, List.setIfInBounds_toArray, List.set_cons_zero, List.set_cons_succ, List.getElem_toArray, List.getElem_cons_zero, List.getElem_cons_succ])); (refine wpAnyH_take (i := 2) (v := ?_) rfl (by kernel_rfl) (by kernel_rfl) (by kernel_rfl) (fun _ _ _ h => h) (Or.inl ⟨by rfl, ?_⟩) hHeld ?_; rotate_left; (focus (intro w hSw; (try dsimp only at hSw); go_simp; try with_reducible rfl)); (try simp only [Act.put, List.setIfInBounds_toArray, List.set_cons_zero, List.set_cons_succ, List.getElem_toArray, List.getElem_cons_zero, List.getElem_cons_succ])); (refine wpAnyH_take (i := 3) (v := ?_) rfl (by kernel_rfl) (by kernel_rfl) (by kernel_rfl) (fun _ _ _ h => h) (Or.inl ⟨by rfl, ?_⟩) hHeld ?_; rotate_left; (focus (intro w hSw; (try dsimp only at hSw); go_simp; try with_reducible rfl)); (try simp only [Act.put, List.setIfInBounds_toArray, List.set_cons_zero, List.set_cons_succ, List.getElem_toArray, List.getElem_cons_zero, List.getElem_cons_succ])); (refine wpAnyH_take (i := 4) (v := ?_) rfl (by kernel_rfl) (by kernel_rfl) (by kernel_rfl) (fun _ _ _ h => h) (Or.inl ⟨by rfl, ?_⟩) hHeld ?_; rotate_left; (focus (intro w hSw; (try dsimp only at hSw); go_simp; try with_reducible rfl)); (try simp only [Act.put, List.setIfInBounds_toArray, List.set_cons_zero, List.set_cons_succ, List.getElem_toArray, List.getElem_cons_zero, List.getElem_cons_succ]))
    refine wpAnyH_ready (rs := [5]) (by kernel_rfl) (by simp) ?_
    refine AllReadyH.cons rfl (fun K2 hK2 => ?_) AllReadyH.nil
    have hcz : ∀ j x, hz[j]? = some x → w0.cell? ⟨wm.heap.size, j, none⟩ = some x := fun j x hx => HdAt.cell hr5 hx
    have hfz : ∀ j, w0.frozen? ⟨wm.heap.size, j, none⟩ = false := fun j => HdAt.frozen hr5 j
    have c0 := hcz 0 _ rfl
    have c1 := hcz 1 _ rfl
    have c2 := hcz 2 _ rfl
    have c3 := hcz 3 _ rfl
    have c4 := hcz 4 _ rfl
    have c5 := hcz 5 _ rfl
    have c6 := hcz 6 _ rfl
    have c7 := hcz 7 _ rfl
    have c8 := hcz 8 _ rfl
    have c9 := hcz 9 _ rfl
    have c10 := hcz 10 _ rfl
    obtain ⟨s1, s2, s3, s4⟩ := HdAt.set11 (show HdAt wm.heap.size hz w0 from hr5) (.int .u8 (n1 : Nat)) (.int .u16 (n4 : Nat)) (.bool ev) (.bool df) (.bool mf) (.int .i64 (o : Nat)) (.int .u8 (n8 : Nat)) (.int .u8 (n9 : Nat)) (.int .u32 (n12 : Nat)) (.int .u32 (n16 : Nat)) (.slice ao sn sc)
    have Q1 := Lib.hid s1
    have Q4 := Lib.hid (hHeld.2.trans (s3 _ (Nat.le_refl _)))
    have Q5 := Lib.hid (s4 _ _ hgne hHeld.1)
    clear hcz s1 s2 s3 s4 hr5
    go_simp
    clear hfz c0 c1 c2 c3 c4 c5 c6 c7 c8 c9 c10
    obtain ⟨w6, hw6⟩ : ∃ w6, w6 = (((((((((((w0.setCell ⟨wm.heap.size, 0, none⟩ (.int .u8 (n1 : Nat))).setCell ⟨wm.heap.size, 1, none⟩ (.int .u16 (n4 : Nat))).setCell ⟨wm.heap.size, 2, none⟩ (.bool ev)).setCell ⟨wm.heap.size, 3, none⟩ (.bool df)).setCell ⟨wm.heap.size, 4, none⟩ (.bool mf)).setCell ⟨wm.heap.size, 5, none⟩ (.int .i64 (o : Nat))).setCell ⟨wm.heap.size, 6, none⟩ (.int .u8 (n8 : Nat))).setCell ⟨wm.heap.size, 7, none⟩ (.int .u8 (n9 : Nat))).setCell ⟨wm.heap.size, 8, none⟩ (.int .u32 (n12 : Nat))).setCell ⟨wm.heap.size, 9, none⟩ (.int .u32 (n16 : Nat))).setCell ⟨wm.heap.size, 10, none⟩ (.slice ao sn sc)) := ⟨_, rfl⟩
    rw [← hw6] at Q1 Q4 Q5 ⊢
    clear hw6
    refine hK2.out _ _ ⟨Q5.out, Q4.out⟩ (fun hHeldN2 => ?_)
    (try simp only [Act.put, List.setIfInBounds_toArray, List.set_cons_zero, List.set_cons_succ, List.getElem_toArray, List.getElem_cons_zero, List.getElem_cons_succ])
    (clear hHeld; have hHeld := hHeldN2)
    (refine wpAnyH_take (i := 6) (v := ?_) rfl (by kernel_rfl) (by kernel_rfl) (by kernel_rfl) (fun _ _ _ h => h) (Or.inl ⟨by rfl, ?_⟩) hHeld ?_; rotate_left; (focus (intro w hSw; (try dsimp only at hSw); go_simp; try with_reducible rfl)); (try simp only [Act.put, List.setIfInBounds_toArray, List.set_cons_zero, List.set_cons_succ, List.getElem_toArray, List.getElem_cons_zero, List.getElem_cons_succ])); (refine wpAnyH_take (i := 7) (v := ?_) rfl (by kernel_rfl) (by kernel_rfl) (by kernel_rfl) (fun _ _ _ h => h) (Or.inl ⟨by rfl, ?_⟩) hHeld ?_; rotate_left; (focus (intro w hSw; (try dsimp only at hSw); go_simp; try with_reducible rfl)); (try simp only [Act.put, List.setIfInBounds_toArray, List.set_cons_zero, List.set_cons_succ, List.getElem_toArray, List.getElem_cons_zero, List.getElem_cons_succ]))
    refine wpAnyH_done (by kernel_rfl) ?_ _
    go_wp2_with fail
    have d0 : w6.cell? ⟨wm.heap.size, 0, none⟩ = _ := HdAt.cell Q1.out (j := 0) rfl
    have d1 := HdAt.cell Q1.out (j := 1) rfl
    have d2 := HdAt.cell Q1.out (j := 2) rfl
    have d3 := HdAt.cell Q1.out (j := 3) rfl
    have d4 := HdAt.cell Q1.out (j := 4) rfl
    have d5 := HdAt.cell Q1.out (j := 5) rfl
    have d6 := HdAt.cell Q1.out (j := 6) rfl
    have d7 := HdAt.cell Q1.out (j := 7) rfl
    have d8 := HdAt.cell Q1.out (j := 8) rfl
    have d9 := HdAt.cell Q1.out (j := 9) rfl
    have d10 := HdAt.cell Q1.out (j := 10) rfl
    refine bodyPost_ret (v := .tuple #[.agg #[.int .u8 (n1 : Nat), .int .u16 (n4 : Nat), .bool ev, .bool df, .bool mf, .int .i64 (o : Nat), .int .u8 (n8 : Nat), .int .u8 (n9 : Nat), .int .u32 (n12 : Nat), .int .u32 (n16 : Nat), .slice ao sn sc], .slice ap pn pcc, .int .i64 0]) (by simp [results, Try.results79, go_sem, d0, d1, d2, d3, d4, d5, d6, d7, d8, d9, d10]) rfl ?_
    obtain ⟨e0, e1, e2, e3, e4, e5, e6, e7, e8, e9, e10, e11, e12, e13, e14⟩ := HE.out
    rw [e2, e3, e4, e5, e6, e7, e10, e11, e12, e13, e14]
    refine ⟨_, _, rfl, ?_, ?_, Q4.out⟩
    · rw [← e0, ← e8]; exact (show Bytes wm _ O from HBO.out).later Q4.out
    · rw [← e0, ← e1, ← e9]; exact (show Bytes wm _ Pl from HBP.out).later Q4.out
  · obtain ⟨w0, hw0⟩ : ∃ w0, w0 = World.drew w := ⟨_, rfl⟩
    rw [← hw0]
    (try dsimp only at hHeld)
    rw [← hw0] at hHeld
    clear hw0
    change wpAnyH _ _ _ _ _ 41 _ _ _
    refine wpAnyH_cut #[true, true, true, true, true, true, true, true, true, true, true, true, true, true, true, true, true, true, true, true, true, true, true, true, true, true, true, true, true, true, true, true, true, true, true, true, true, true, true, true, false] 1 (fun A w1 => ∃ (v78 : Value) (v81 : Value) (v82 : Value) (v85 : Value) (v86 : Value) (v89 : Value) (g11 : Nat), A = ⟨#[.slice (some ⟨bx, ox, none⟩) l.length c, undef, .pointer (some ⟨wm.heap.size, 0, none⟩), .slice none 0 0, .int .i64 0, (A.tmps.getD 5 undef), .int .i64 (s : Nat), .int .i64 (t : Nat), (A.tmps.getD 8 undef), (A.tmps.getD 9 undef), .int .u64 (f : Nat), .pointer (some ⟨g11, 0, none⟩), (A.tmps.getD 12 undef), (A.tmps.getD 13 undef), (A.tmps.getD 14 undef), undef, (A.tmps.getD 16 undef), (A.tmps.getD 17 undef), (A.tmps.getD 18 undef), (A.tmps.getD 19 undef), (A.tmps.getD 20 undef), undef, (A.tmps.getD 22 undef), (A.tmps.getD 23 undef), (A.tmps.getD 24 undef), (A.tmps.getD 25 undef), (A.tmps.getD 26 undef), (A.tmps.getD 27 undef), (A.tmps.getD 28 undef), (A.tmps.getD 29 undef), (A.tmps.getD 30 undef), (A.tmps.getD 31 undef), (A.tmps.getD 32 undef), (A.tmps.getD 33 undef), (A.tmps.getD 34 undef), (A.tmps.getD 35 undef), undef, (A.tmps.getD 37 undef), (A.tmps.getD 38 undef), (A.tmps.getD 39 undef), (A.tmps.getD 40 undef), (A.tmps.getD 41 undef), (A.tmps.getD 42 undef), (A.tmps.getD 43 undef), (A.tmps.getD 44 undef), (A.tmps.getD 45 undef), (A.tmps.getD 46 undef), (A.tmps.getD 47 undef), (A.tmps.getD 48 undef), (A.tmps.getD 49 undef), undef, (A.tmps.getD 51 undef), (A.tmps.getD 52 undef), (A.tmps.getD 53 undef), (A.tmps.getD 54 undef), (A.tmps.getD 55 undef), undef, (A.tmps.getD 57 undef), (A.tmps.getD 58 undef), (A.tmps.getD 59 undef), (A.tmps.getD 60 undef), (A.tmps.getD 61 undef), (A.tmps.getD 62 undef), (A.tmps.getD 63 undef), (A.tmps.getD 64 undef), (A.tmps.getD 65 undef), undef, (A.tmps.getD 67 undef), (A.tmps.getD 68 undef), (A.tmps.getD 69 undef), .slice (some ⟨bx, ox, none⟩) l.length c, .pointer (some ⟨bx, ox + 1, none⟩), .int .u8 (n1 : Nat), .slice (some ⟨bx, ox, none⟩) l.length c, .slice a4 2 (c - 4), .int .u64 (n4 : Nat), .int .u16 (n4 : Nat), .int .u64 (f : Nat), v78, .bool ev, .int .u64 (f : Nat), v81, v82, .bool df, .int .u64 (f : Nat), v85, v86, .bool mf, .int .u64 (f : Nat), v89, .int .i64 (o : Nat), .slice (some ⟨bx, ox, none⟩) l.length c, .pointer (some ⟨bx, ox + 8, none⟩), .int .u8 (n8 : Nat), .slice (some ⟨bx, ox, none⟩) l.length c, .pointer (some ⟨bx, ox + 9, none⟩), .int .u8 (n9 : Nat), .slice (some ⟨bx, ox, none⟩) l.length c, .slice a12 4 (c - 12), .int .u64 (n12 : Nat), .int .u32 (n12 : Nat), .slice (some ⟨bx, ox, none⟩) l.length c, .slice a16 4 (c - 16), .int .u64 (n16 : Nat), .int .u32 (n16 : Nat), .slice (some ⟨bx, ox, none⟩) l.length c, .int .i64 (s : Nat), .slice ao sn sc, .agg #[.int .u8 (n1 : Nat), .int .u16 (n4 : Nat), .bool ev, .bool df, .bool mf, .int .i64 (o : Nat), .int .u8 (n8 : Nat), .int .u8 (n9 : Nat), .int .u32 (n12 : Nat), .int .u32 (n16 : Nat), .slice ao sn sc], undef, undef, undef, undef, undef], []⟩ ∧ Hid (HdAtG w g11 hz w1)) ?_ (fun m0 => ?_)
    · rintro l A w1 rfl ⟨v78, v81, v82, v85, v86, v89, g11, hAe, F11⟩ hHeld
      obtain ⟨X, hX⟩ : ∃ X : Nat → Value, X = fun i => A.tmps.getD i undef := ⟨_, rfl⟩
      have hAe2 : A = ⟨#[.slice (some ⟨bx, ox, none⟩) l.length c, undef, .pointer (some ⟨wm.heap.size, 0, none⟩), .slice none 0 0, .int .i64 0, (X 5), .int .i64 (s : Nat), .int .i64 (t : Nat), (X 8), (X 9), .int .u64 (f : Nat), .pointer (some ⟨g11, 0, none⟩), (X 12), (X 13), (X 14), undef, (X 16), (X 17), (X 18), (X 19), (X 20), undef, (X 22), (X 23), (X 24), (X 25), (X 26), (X 27), (X 28), (X 29), (X 30), (X 31), (X 32), (X 33), (X 34), (X 35), undef, (X 37), (X 38), (X 39), (X 40), (X 41), (X 42), (X 43), (X 44), (X 45), (X 46), (X 47), (X 48), (X 49), undef, (X 51), (X 52), (X 53), (X 54), (X 55), undef, (X 57), (X 58), (X 59), (X 60), (X 61), (X 62), (X 63), (X 64), (X 65), undef, (X 67), (X 68), (X 69), .slice (some ⟨bx, ox, none⟩) l.length c, .pointer (some ⟨bx, ox + 1, none⟩), .int .u8 (n1 : Nat), .slice (some ⟨bx, ox, none⟩) l.length c, .slice a4 2 (c - 4), .int .u64 (n4 : Nat), .int .u16 (n4 : Nat), .int .u64 (f : Nat), v78, .bool ev, .int .u64 (f : Nat), v81, v82, .bool df, .int .u64 (f : Nat), v85, v86, .bool mf, .int .u64 (f : Nat), v89, .int .i64 (o : Nat), .slice (some ⟨bx, ox, none⟩) l.length c, .pointer (some ⟨bx, ox + 8, none⟩), .int .u8 (n8 : Nat), .slice (some ⟨bx, ox, none⟩) l.length c, .pointer (some ⟨bx, ox + 9, none⟩), .int .u8 (n9 : Nat), .slice (some ⟨bx, ox, none⟩) l.length c, .slice a12 4 (c - 12), .int .u64 (n12 : Nat), .int .u32 (n12 : Nat), .slice (some ⟨bx, ox, none⟩) l.length c, .slice a16 4 (c - 16), .int .u64 (n16 : Nat), .int .u32 (n16 : Nat), .slice (some ⟨bx, ox, none⟩) l.length c, .int .i64 (s : Nat), .slice ao sn sc, .agg #[.int .u8 (n1 : Nat), .int .u16 (n4 : Nat), .bool ev, .bool df, .bool mf, .int .i64 (o : Nat), .int .u8 (n8 : Nat), .int .u8 (n9 : Nat), .int .u32 (n12 : Nat), .int .u32 (n16 : Nat), .slice ao sn sc], undef, undef, undef, undef, undef], []⟩ := by subst hX; exact hAe
      clear hX hAe
      subst hAe2
      refine wpAnyH_ready (rs := [40]) (by kernel_rfl) (by simp) ?_
      refine AllReadyH.cons rfl (fun K hK => ?_) AllReadyH.nil
      have hcz : ∀ j x, hz[j]? = some x → w1.cell? ⟨g11, j, none⟩ = some x := fun j x hx => HdAt.cell F11.out.1 hx
      have hfz : ∀ j, w1.frozen? ⟨g11, j, none⟩ = false := fun j => HdAt.frozen F11.out.1 j
      have c0 := hcz 0 _ rfl
      have c1 := hcz 1 _ rfl
      have c2 := hcz 2 _ rfl
      have c3 := hcz 3 _ rfl
      have c4 := hcz 4 _ rfl
      have c5 := hcz 5 _ rfl
      have c6 := hcz 6 _ rfl
      have c7 := hcz 7 _ rfl
      have c8 := hcz 8 _ rfl
      have c9 := hcz 9 _ rfl
      have c10 := hcz 10 _ rfl
      clear hcz
      obtain ⟨s1, s2, s3, _⟩ := HdAt.set11 (show HdAt g11 hz w1 from F11.out.1) (.int .u8 (n1 : Nat)) (.int .u16 (n4 : Nat)) (.bool ev) (.bool df) (.bool mf) (.int .i64 (o : Nat)) (.int .u8 (n8 : Nat)) (.int .u8 (n9 : Nat)) (.int .u32 (n12 : Nat)) (.int .u32 (n16 : Nat)) (.slice ao sn sc)
      have G1 := Lib.hid s1
      have G3 := Lib.hid (hHeld.trans (s3 _ F11.out.2))
      clear s1 s2 s3
      go_simp
      refine hK.out _ _ G3.out (fun hHeldN => ?_)
      refine wpAnyH_done (by kernel_rfl) ?_ _
      exact hfin _ _ ⟨_, _, _, _, _, _, _, rfl, G1, G3, F11.out.2⟩
    refine wpAnyH_cut #[true, true, true, true, true, true, true, true, true, true, true, true, true, true, true, true, true, true, true, true, true, true, true, true, true, true, true, true, true, true, true, true, true, true, true, true, true, true, true, false, false] 2 (fun A w1 => ∃ (v78 : Value) (v81 : Value) (v82 : Value) (v85 : Value) (v86 : Value) (v89 : Value), A = ⟨#[.slice (some ⟨bx, ox, none⟩) l.length c, undef, .pointer (some ⟨wm.heap.size, 0, none⟩), .slice none 0 0, .int .i64 0, (A.tmps.getD 5 undef), .int .i64 (s : Nat), .int .i64 (t : Nat), (A.tmps.getD 8 undef), (A.tmps.getD 9 undef), .int .u64 (f : Nat), undef, (A.tmps.getD 12 undef), (A.tmps.getD 13 undef), (A.tmps.getD 14 undef), undef, (A.tmps.getD 16 undef), (A.tmps.getD 17 undef), (A.tmps.getD 18 undef), (A.tmps.getD 19 undef), (A.tmps.getD 20 undef), undef, (A.tmps.getD 22 undef), (A.tmps.getD 23 undef), (A.tmps.getD 24 undef), (A.tmps.getD 25 undef), (A.tmps.getD 26 undef), (A.tmps.getD 27 undef), (A.tmps.getD 28 undef), (A.tmps.getD 29 undef), (A.tmps.getD 30 undef), (A.tmps.getD 31 undef), (A.tmps.getD 32 undef), (A.tmps.getD 33 undef), (A.tmps.getD 34 undef), (A.tmps.getD 35 undef), undef, (A.tmps.getD 37 undef), (A.tmps.getD 38 undef), (A.tmps.getD 39 undef), (A.tmps.getD 40 undef), (A.tmps.getD 41 undef), (A.tmps.getD 42 undef), (A.tmps.getD 43 undef), (A.tmps.getD 44 undef), (A.tmps.getD 45 undef), (A.tmps.getD 46 undef), (A.tmps.getD 47 undef), (A.tmps.getD 48 undef), (A.tmps.getD 49 undef), undef, (A.tmps.getD 51 undef), (A.tmps.getD 52 undef), (A.tmps.getD 53 undef), (A.tmps.getD 54 undef), (A.tmps.getD 55 undef), undef, (A.tmps.getD 57 undef), (A.tmps.getD 58 undef), (A.tmps.getD 59 undef), (A.tmps.getD 60 undef), (A.tmps.getD 61 undef), (A.tmps.getD 62 undef), (A.tmps.getD 63 undef), (A.tmps.getD 64 undef), (A.tmps.getD 65 undef), undef, (A.tmps.getD 67 undef), (A.tmps.getD 68 undef), (A.tmps.getD 69 undef), .slice (some ⟨bx, ox, none⟩) l.length c, .pointer (some ⟨bx, ox + 1, none⟩), .int .u8 (n1 : Nat), .slice (some ⟨bx, ox, none⟩) l.length c, .slice a4 2 (c - 4), .int .u64 (n4 : Nat), .int .u16 (n4 : Nat), .int .u64 (f : Nat), v78, .bool ev, .int .u64 (f : Nat), v81, v82, .bool df, .int .u64 (f : Nat), v85, v86, .bool mf, .int .u64 (f : Nat), v89, .int .i64 (o : Nat), .slice (some ⟨bx, ox, none⟩) l.length c, .pointer (some ⟨bx, ox + 8, none⟩), .int .u8 (n8 : Nat), .slice (some ⟨bx, ox, none⟩) l.length c, .pointer (some ⟨bx, ox + 9, none⟩), .int .u8 (n9 : Nat), .slice (some ⟨bx, ox, none⟩) l.length c, .slice a12 4 (c - 12), .int .u64 (n12 : Nat), .int .u32 (n12 : Nat), .slice (some ⟨bx, ox, none⟩) l.length c, .slice a16 4 (c - 16), .int .u64 (n16 : Nat), .int .u32 (n16 : Nat), .slice (some ⟨bx, ox, none⟩) l.length c, .int .i64 (s : Nat), .slice ao sn sc, .agg #[.int .u8 (n1 : Nat), .int .u16 (n4 : Nat), .bool ev, .bool df, .bool mf, .int .i64 (o : Nat), .int .u8 (n8 : Nat), .int .u8 (n9 : Nat), .int .u32 (n12 : Nat), .int .u32 (n16 : Nat), .slice ao sn sc], undef, undef, undef, undef, undef], []⟩) ?_ (fun m1 => ?_)
    · rintro l A w1 rfl ⟨v78, v81, v82, v85, v86, v89, hAe⟩ hHeld
      obtain ⟨X, hX⟩ : ∃ X : Nat → Value, X = fun i => A.tmps.getD i undef := ⟨_, rfl⟩
      have hAe2 : A = ⟨#[.slice (some ⟨bx, ox, none⟩) l.length c, undef, .pointer (some ⟨wm.heap.size, 0, none⟩), .slice none 0 0, .int .i64 0, (X 5), .int .i64 (s : Nat), .int .i64 (t : Nat), (X 8), (X 9), .int .u64 (f : Nat), undef, (X 12), (X 13), (X 14), undef, (X 16), (X 17), (X 18), (X 19), (X 20), undef, (X 22), (X 23), (X 24), (X 25), (X 26), (X 27), (X 28), (X 29), (X 30), (X 31), (X 32), (X 33), (X 34), (X 35), undef, (X 37), (X 38), (X 39), (X 40), (X 41), (X 42), (X 43), (X 44), (X 45), (X 46), (X 47), (X 48), (X 49), undef, (X 51), (X 52), (X 53), (X 54), (X 55), undef, (X 57), (X 58), (X 59), (X 60), (X 61), (X 62), (X 63), (X 64), (X 65), undef, (X 67), (X 68), (X 69), .slice (some ⟨bx, ox, none⟩) l.length c, .pointer (some ⟨bx, ox + 1, none⟩), .int .u8 (n1 : Nat), .slice (some ⟨bx, ox, none⟩) l.length c, .slice a4 2 (c - 4), .int .u64 (n4 : Nat), .int .u16 (n4 : Nat), .int .u64 (f : Nat), v78, .bool ev, .int .u64 (f : Nat), v81, v82, .bool df, .int .u64 (f : Nat), v85, v86, .bool mf, .int .u64 (f : Nat), v89, .int .i64 (o : Nat), .slice (some ⟨bx, ox, none⟩) l.length c, .pointer (some ⟨bx, ox + 8, none⟩), .int .u8 (n8 : Nat), .slice (some ⟨bx, ox, none⟩) l.length c, .pointer (some ⟨bx, ox + 9, none⟩), .int .u8 (n9 : Nat), .slice (some ⟨bx, ox, none⟩) l.length c, .slice a12 4 (c - 12), .int .u64 (n12 : Nat), .int .u32 (n12 : Nat), .slice (some ⟨bx, ox, none⟩) l.length c, .slice a16 4 (c - 16), .int .u64 (n16 : Nat), .int .u32 (n16 : Nat), .slice (some ⟨bx, ox, none⟩) l.length c, .int .i64 (s : Nat), .slice ao sn sc, .agg #[.int .u8 (n1 : Nat), .int .u16 (n4 : Nat), .bool ev, .bool df, .bool mf, .int .i64 (o : Nat), .int .u8 (n8 : Nat), .int .u8 (n9 : Nat), .int .u32 (n12 : Nat), .int .u32 (n16 : Nat), .slice ao sn sc], undef, undef, undef, undef, undef], []⟩ := by subst hX; exact hAe
      clear hX hAe
      subst hAe2
      refine wpAnyH_ready (rs := [39]) (by kernel_rfl) (by simp) ?_
      refine AllReadyH.cons rfl (fun K hK => ?_) AllReadyH.nil
      go_simp
      have hs : Below (World.heap w1).size w1 (w1.alloc (.cells #[.int .u8 0, .int .u16 0, .bool false, .bool false, .bool false, .int .i64 0, .int .u8 0, .int .u8 0, .int .u32 0, .int .u32 0, .slice none 0 0] 106)) := (Below.refl _ _).alloc (Nat.le_refl _) _
      have hF : Hid (HdAtG w (World.heap w1).size hz (w1.alloc (.cells #[.int .u8 0, .int .u16 0, .bool false, .bool false, .bool false, .int .i64 0, .int .u8 0, .int .u8 0, .int .u32 0, .int .u32 0, .slice none 0 0] 106))) := ⟨HdAt.new w1 hz, hHeld.size⟩
      refine hK.out _ _ (hHeld.trans (hs.mono hHeld.size)) (fun hHeldN => ?_)
      exact m0 _ _ _ (by kernel_rfl) ⟨_, _, _, _, _, _, _, rfl, hF⟩ hHeldN
    refine wpAnyH_cut #[true, true, true, true, true, true, true, true, true, true, true, true, true, true, true, true, true, true, true, true, true, true, true, true, true, true, true, true, true, true, true, true, true, false, false, true, true, true, false, true, false] 4 (fun A w1 => ∃ (v78 : Value) (v81 : Value) (v82 : Value) (v85 : Value) (v86 : Value) (v89 : Value) (g11 : Nat), A = ⟨#[.slice (some ⟨bx, ox, none⟩) l.length c, undef, .pointer (some ⟨wm.heap.size, 0, none⟩), .slice none 0 0, .int .i64 0, (A.tmps.getD 5 undef), .int .i64 (s : Nat), .int .i64 (t : Nat), (A.tmps.getD 8 undef), (A.tmps.getD 9 undef), .int .u64 (f : Nat), .pointer (some ⟨g11, 0, none⟩), (A.tmps.getD 12 undef), (A.tmps.getD 13 undef), (A.tmps.getD 14 undef), undef, (A.tmps.getD 16 undef), (A.tmps.getD 17 undef), (A.tmps.getD 18 undef), (A.tmps.getD 19 undef), (A.tmps.getD 20 undef), undef, (A.tmps.getD 22 undef), (A.tmps.getD 23 undef), (A.tmps.getD 24 undef), (A.tmps.getD 25 undef), (A.tmps.getD 26 undef), (A.tmps.getD 27 undef), (A.tmps.getD 28 undef), (A.tmps.getD 29 undef), (A.tmps.getD 30 undef), (A.tmps.getD 31 undef), (A.tmps.getD 32 undef), (A.tmps.getD 33 undef), (A.tmps.getD 34 undef), (A.tmps.getD 35 undef), undef, (A.tmps.getD 37 undef), (A.tmps.getD 38 undef), (A.tmps.getD 39 undef), (A.tmps.getD 40 undef), (A.tmps.getD 41 undef), (A.tmps.getD 42 undef), (A.tmps.getD 43 undef), (A.tmps.getD 44 undef), (A.tmps.getD 45 undef), (A.tmps.getD 46 undef), (A.tmps.getD 47 undef), (A.tmps.getD 48 undef), (A.tmps.getD 49 undef), undef, (A.tmps.getD 51 undef), (A.tmps.getD 52 undef), (A.tmps.getD 53 undef), (A.tmps.getD 54 undef), (A.tmps.getD 55 undef), undef, (A.tmps.getD 57 undef), (A.tmps.getD 58 undef), (A.tmps.getD 59 undef), (A.tmps.getD 60 undef), (A.tmps.getD 61 undef), (A.tmps.getD 62 undef), (A.tmps.getD 63 undef), (A.tmps.getD 64 undef), (A.tmps.getD 65 undef), undef, (A.tmps.getD 67 undef), (A.tmps.getD 68 undef), (A.tmps.getD 69 undef), .slice (some ⟨bx, ox, none⟩) l.length c, .pointer (some ⟨bx, ox + 1, none⟩), .int .u8 (n1 : Nat), .slice (some ⟨bx, ox, none⟩) l.length c, .slice a4 2 (c - 4), .int .u64 (n4 : Nat), .int .u16 (n4 : Nat), .int .u64 (f : Nat), v78, .bool ev, .int .u64 (f : Nat), v81, v82, .bool df, .int .u64 (f : Nat), v85, v86, .bool mf, .int .u64 (f : Nat), v89, .int .i64 (o : Nat), .slice (some ⟨bx, ox, none⟩) l.length c, .pointer (some ⟨bx, ox + 8, none⟩), .int .u8 (n8 : Nat), .slice (some ⟨bx, ox, none⟩) l.length c, .pointer (some ⟨bx, ox + 9, none⟩), .int .u8 (n9 : Nat), .slice (some ⟨bx, ox, none⟩) l.length c, .slice a12 4 (c - 12), .int .u64 (n12 : Nat), .int .u32 (n12 : Nat), .slice (some ⟨bx, ox, none⟩) l.length c, .slice a16 4 (c - 16), undef, undef, .slice (some ⟨bx, ox, none⟩) l.length c, .int .i64 (s : Nat), .slice ao sn sc, undef, undef, undef, undef, undef, undef], []⟩ ∧ Hid (HdAtG w g11 hz w1)) ?_ (fun m2 => ?_)
    · rintro l A w1 rfl ⟨v78, v81, v82, v85, v86, v89, g11, hAe, F11⟩ hHeld
      obtain ⟨X, hX⟩ : ∃ X : Nat → Value, X = fun i => A.tmps.getD i undef := ⟨_, rfl⟩
      have hAe2 : A = ⟨#[.slice (some ⟨bx, ox, none⟩) l.length c, undef, .pointer (some ⟨wm.heap.size, 0, none⟩), .slice none 0 0, .int .i64 0, (X 5), .int .i64 (s : Nat), .int .i64 (t : Nat), (X 8), (X 9), .int .u64 (f : Nat), .pointer (some ⟨g11, 0, none⟩), (X 12), (X 13), (X 14), undef, (X 16), (X 17), (X 18), (X 19), (X 20), undef, (X 22), (X 23), (X 24), (X 25), (X 26), (X 27), (X 28), (X 29), (X 30), (X 31), (X 32), (X 33), (X 34), (X 35), undef, (X 37), (X 38), (X 39), (X 40), (X 41), (X 42), (X 43), (X 44), (X 45), (X 46), (X 47), (X 48), (X 49), undef, (X 51), (X 52), (X 53), (X 54), (X 55), undef, (X 57), (X 58), (X 59), (X 60), (X 61), (X 62), (X 63), (X 64), (X 65), undef, (X 67), (X 68), (X 69), .slice (some ⟨bx, ox, none⟩) l.length c, .pointer (some ⟨bx, ox + 1, none⟩), .int .u8 (n1 : Nat), .slice (some ⟨bx, ox, none⟩) l.length c, .slice a4 2 (c - 4), .int .u64 (n4 : Nat), .int .u16 (n4 : Nat), .int .u64 (f : Nat), v78, .bool ev, .int .u64 (f : Nat), v81, v82, .bool df, .int .u64 (f : Nat), v85, v86, .bool mf, .int .u64 (f : Nat), v89, .int .i64 (o : Nat), .slice (some ⟨bx, ox, none⟩) l.length c, .pointer (some ⟨bx, ox + 8, none⟩), .int .u8 (n8 : Nat), .slice (some ⟨bx, ox, none⟩) l.length c, .pointer (some ⟨bx, ox + 9, none⟩), .int .u8 (n9 : Nat), .slice (some ⟨bx, ox, none⟩) l.length c, .slice a12 4 (c - 12), .int .u64 (n12 : Nat), .int .u32 (n12 : Nat), .slice (some ⟨bx, ox, none⟩) l.length c, .slice a16 4 (c - 16), undef, undef, .slice (some ⟨bx, ox, none⟩) l.length c, .int .i64 (s : Nat), .slice ao sn sc, undef, undef, undef, undef, undef, undef], []⟩ := by subst hX; exact hAe
      clear hX hAe
      subst hAe2
      refine wpAnyH_ready (rs := [33]) (by kernel_rfl) (by simp) ?_
      refine AllReadyH.cons rfl (fun K hK => ?_) AllReadyH.nil
      go_simp
      refine (HG16.out _ hHeld).mono ?_
      rintro e w_n ⟨rfl, rfl⟩
      simp only []
      have hs : Below (World.heap w1).size w1 w1 := Below.refl _ _
      refine hK.out _ _ (hHeld.trans (hs.mono hHeld.size)) (fun hHeldN => ?_)
      try simp only [Act.put, List.setIfInBounds_toArray, List.set_cons_zero, List.set_cons_succ, List.getElem_toArray, List.getElem_cons_zero, List.getElem_cons_succ]
      (have hHeldO := hHeld; clear hHeld; have hHeld := hHeldN)
      (refine wpAnyH_take (i := 34) (v := ?_) rfl (by kernel_rfl) (by kernel_rfl) (by kernel_rfl) (fun _ _ _ h => h) (Or.inl ⟨by rfl, ?_⟩) hHeld ?_; rotate_left; (focus (intro w hSw; (try dsimp only at hSw); go_simp; try with_reducible rfl)); (try simp only [Act.put, List.setIfInBounds_toArray, List.set_cons_zero, List.set_cons_succ, List.getElem_toArray, List.getElem_cons_zero, List.getElem_cons_succ])); (refine wpAnyH_take (i := 38) (v := ?_) rfl (by kernel_rfl) (by kernel_rfl) (by kernel_rfl) (fun _ _ _ h => h) (Or.inl ⟨by rfl, ?_⟩) hHeld ?_; rotate_left; (focus (intro w hSw; (try dsimp only at hSw); go_simp; try with_reducible rfl)); (try simp only [Act.put, List.setIfInBounds_toArray, List.set_cons_zero, List.set_cons_succ, List.getElem_toArray, List.getElem_cons_zero, List.getElem_cons_succ]))
      exact m0 _ _ _ (by kernel_rfl) ⟨_, _, _, _, _, _, _, rfl, Lib.hid (F11.out.later hs)⟩ hHeldN
    refine wpAnyH_cut #[true, true, true, true, true, true, true, true, true, true, true, true, true, true, true, true, true, true, true, true, true, true, true, true, true, true, true, true, true, true, true, true, true, false, false, true, true, true, false, false, false] 5 (fun A w1 => ∃ (v78 : Value) (v81 : Value) (v82 : Value) (v85 : Value) (v86 : Value) (v89 : Value), A = ⟨#[.slice (some ⟨bx, ox, none⟩) l.length c, undef, .pointer (some ⟨wm.heap.size, 0, none⟩), .slice none 0 0, .int .i64 0, (A.tmps.getD 5 undef), .int .i64 (s : Nat), .int .i64 (t : Nat), (A.tmps.getD 8 undef), (A.tmps.getD 9 undef), .int .u64 (f : Nat), undef, (A.tmps.getD 12 undef), (A.tmps.getD 13 undef), (A.tmps.getD 14 undef), undef, (A.tmps.getD 16 undef), (A.tmps.getD 17 undef), (A.tmps.getD 18 undef), (A.tmps.getD 19 undef), (A.tmps.getD 20 undef), undef, (A.tmps.getD 22 undef), (A.tmps.getD 23 undef), (A.tmps.getD 24 undef), (A.tmps.getD 25 undef), (A.tmps.getD 26 undef), (A.tmps.getD 27 undef), (A.tmps.getD 28 undef), (A.tmps.getD 29 undef), (A.tmps.getD 30 undef), (A.tmps.getD 31 undef), (A.tmps.getD 32 undef), (A.tmps.getD 33 undef), (A.tmps.getD 34 undef), (A.tmps.getD 35 undef), undef, (A.tmps.getD 37 undef), (A.tmps.getD 38 undef), (A.tmps.getD 39 undef), (A.tmps.getD 40 undef), (A.tmps.getD 41 undef), (A.tmps.getD 42 undef), (A.tmps.getD 43 undef), (A.tmps.getD 44 undef), (A.tmps.getD 45 undef), (A.tmps.getD 46 undef), (A.tmps.getD 47 undef), (A.tmps.getD 48 undef), (A.tmps.getD 49 undef), undef, (A.tmps.getD 51 undef), (A.tmps.getD 52 undef), (A.tmps.getD 53 undef), (A.tmps.getD 54 undef), (A.tmps.getD 55 undef), undef, (A.tmps.getD 57 undef), (A.tmps.getD 58 undef), (A.tmps.getD 59 undef), (A.tmps.getD 60 undef), (A.tmps.getD 61 undef), (A.tmps.getD 62 undef), (A.tmps.getD 63 undef), (A.tmps.getD 64 undef), (A.tmps.getD 65 undef), undef, (A.tmps.getD 67 undef), (A.tmps.getD 68 undef), (A.tmps.getD 69 undef), .slice (some ⟨bx, ox, none⟩) l.length c, .pointer (some ⟨bx, ox + 1, none⟩), .int .u8 (n1 : Nat), .slice (some ⟨bx, ox, none⟩) l.length c, .slice a4 2 (c - 4), .int .u64 (n4 : Nat), .int .u16 (n4 : Nat), .int .u64 (f : Nat), v78, .bool ev, .int .u64 (f : Nat), v81, v82, .bool df, .int .u64 (f : Nat), v85, v86, .bool mf, .int .u64 (f : Nat), v89, .int .i64 (o : Nat), .slice (some ⟨bx, ox, none⟩) l.length c, .pointer (some ⟨bx, ox + 8, none⟩), .int .u8 (n8 : Nat), .slice (some ⟨bx, ox, none⟩) l.length c, .pointer (some ⟨bx, ox + 9, none⟩), .int .u8 (n9 : Nat), .slice (some ⟨bx, ox, none⟩) l.length c, .slice a12 4 (c - 12), .int .u64 (n12 : Nat), .int .u32 (n12 : Nat), .slice (some ⟨bx, ox, none⟩) l.length c, .slice a16 4 (c - 16), undef, undef, .slice (some ⟨bx, ox, none⟩) l.length c, .int .i64 (s : Nat), .slice ao sn sc, undef, undef, undef, undef, undef, undef], []⟩) ?_ (fun m3 => ?_)
    · rintro l A w1 rfl ⟨v78, v81, v82, v85, v86, v89, hAe⟩ hHeld
      obtain ⟨X, hX⟩ : ∃ X : Nat → Value, X = fun i => A.tmps.getD i undef := ⟨_, rfl⟩
      have hAe2 : A = ⟨#[.slice (some ⟨bx, ox, none⟩) l.length c, undef, .pointer (some ⟨wm.heap.size, 0, none⟩), .slice none 0 0, .int .i64 0, (X 5), .int .i64 (s : Nat), .int .i64 (t : Nat), (X 8), (X 9), .int .u64 (f : Nat), undef, (X 12), (X 13), (X 14), undef, (X 16), (X 17), (X 18), (X 19), (X 20), undef, (X 22), (X 23), (X 24), (X 25), (X 26), (X 27), (X 28), (X 29), (X 30), (X 31), (X 32), (X 33), (X 34), (X 35), undef, (X 37), (X 38), (X 39), (X 40), (X 41), (X 42), (X 43), (X 44), (X 45), (X 46), (X 47), (X 48), (X 49), undef, (X 51), (X 52), (X 53), (X 54), (X 55), undef, (X 57), (X 58), (X 59), (X 60), (X 61), (X 62), (X 63), (X 64), (X 65), undef, (X 67), (X 68), (X 69), .slice (some ⟨bx, ox, none⟩) l.length c, .pointer (some ⟨bx, ox + 1, none⟩), .int .u8 (n1 : Nat), .slice (some ⟨bx, ox, none⟩) l.length c, .slice a4 2 (c - 4), .int .u64 (n4 : Nat), .int .u16 (n4 : Nat), .int .u64 (f : Nat), v78, .bool ev, .int .u64 (f : Nat), v81, v82, .bool df, .int .u64 (f : Nat), v85, v86, .bool mf, .int .u64 (f : Nat), v89, .int .i64 (o : Nat), .slice (some ⟨bx, ox, none⟩) l.length c, .pointer (some ⟨bx, ox + 8, none⟩), .int .u8 (n8 : Nat), .slice (some ⟨bx, ox, none⟩) l.length c, .pointer (some ⟨bx, ox + 9, none⟩), .int .u8 (n9 : Nat), .slice (some ⟨bx, ox, none⟩) l.length c, .slice a12 4 (c - 12), .int .u64 (n12 : Nat), .int .u32 (n12 : Nat), .slice (some ⟨bx, ox, none⟩) l.length c, .slice a16 4 (c - 16), undef, undef, .slice (some ⟨bx, ox, none⟩) l.length c, .int .i64 (s : Nat), .slice ao sn sc, undef, undef, undef, undef, undef, undef], []⟩ := by subst hX; exact hAe
      clear hX hAe
      subst hAe2
      refine wpAnyH_ready (rs := [33, 39]) (by kernel_rfl) (by simp) ?_
      refine AllReadyH.cons rfl (fun K hK => ?_) (AllReadyH.cons rfl (fun K hK => ?_) AllReadyH.nil)
      · go_simp
        refine (HG16.out _ hHeld).mono ?_
        rintro e w_n ⟨rfl, rfl⟩
        simp only []
        have hs : Below (World.heap w1).size w1 w1 := Below.refl _ _
        refine hK.out _ _ (hHeld.trans (hs.mono hHeld.size)) (fun hHeldN => ?_)
        try simp only [Act.put, List.setIfInBounds_toArray, List.set_cons_zero, List.set_cons_succ, List.getElem_toArray, List.getElem_cons_zero, List.getElem_cons_succ]
        (have hHeldO := hHeld; clear hHeld; have hHeld := hHeldN)
        (refine wpAnyH_take (i := 34) (v := ?_) rfl (by kernel_rfl) (by kernel_rfl) (by kernel_rfl) (fun _ _ _ h => h) (Or.inl ⟨by rfl, ?_⟩) hHeld ?_; rotate_left; (focus (intro w hSw; (try dsimp only at hSw); go_simp; try with_reducible rfl)); (try simp only [Act.put, List.setIfInBounds_toArray, List.set_cons_zero, List.set_cons_succ, List.getElem_toArray, List.getElem_cons_zero, List.getElem_cons_succ])); (refine wpAnyH_take (i := 38) (v := ?_) rfl (by kernel_rfl) (by kernel_rfl) (by kernel_rfl) (fun _ _ _ h => h) (Or.inl ⟨by rfl, ?_⟩) hHeld ?_; rotate_left; (focus (intro w hSw; (try dsimp only at hSw); go_simp; try with_reducible rfl)); (try simp only [Act.put, List.setIfInBounds_toArray, List.set_cons_zero, List.set_cons_succ, List.getElem_toArray, List.getElem_cons_zero, List.getElem_cons_succ]))
        exact m1 _ _ _ (by kernel_rfl) ⟨_, _, _, _, _, _, rfl⟩ hHeldN
      · go_simp
        have hs : Below (World.heap w1).size w1 (w1.alloc (.cells #[.int .u8 0, .int .u16 0, .bool false, .bool false, .bool false, .int .i64 0, .int .u8 0, .int .u8 0, .int .u32 0, .int .u32 0, .slice none 0 0] 106)) := (Below.refl _ _).alloc (Nat.le_refl _) _
        have hF : Hid (HdAtG w (World.heap w1).size hz (w1.alloc (.cells #[.int .u8 0, .int .u16 0, .bool false, .bool false, .bool false, .int .i64 0, .int .u8 0, .int .u8 0, .int .u32 0, .int .u32 0, .slice none 0 0] 106))) := ⟨HdAt.new w1 hz, hHeld.size⟩
        refine hK.out _ _ (hHeld.trans (hs.mono hHeld.size)) (fun hHeldN => ?_)
        exact m2 _ _ _ (by kernel_rfl) ⟨_, _, _, _, _, _, _, rfl, hF⟩ hHeldN
    refine wpAnyH_cut #[true, true, true, true, true, true, true, true, true, true, true, true, true, true, true, true, true, true, true, true, true, true, true, true, true, true, true, true, true, false, false, true, true, false, false, true, true, true, false, true, false] 6 (fun A w1 => ∃ (v78 : Value) (v81 : Value) (v82 : Value) (v85 : Value) (v86 : Value) (v89 : Value) (g11 : Nat), A = ⟨#[.slice (some ⟨bx, ox, none⟩) l.length c, undef, .pointer (some ⟨wm.heap.size, 0, none⟩), .slice none 0 0, .int .i64 0, (A.tmps.getD 5 undef), .int .i64 (s : Nat), .int .i64 (t : Nat), (A.tmps.getD 8 undef), (A.tmps.getD 9 undef), .int .u64 (f : Nat), .pointer (some ⟨g11, 0, none⟩), (A.tmps.getD 12 undef), (A.tmps.getD 13 undef), (A.tmps.getD 14 undef), undef, (A.tmps.getD 16 undef), (A.tmps.getD 17 undef), (A.tmps.getD 18 undef), (A.tmps.getD 19 undef), (A.tmps.getD 20 undef), undef, (A.tmps.getD 22 undef), (A.tmps.getD 23 undef), (A.tmps.getD 24 undef), (A.tmps.getD 25 undef), (A.tmps.getD 26 undef), (A.tmps.getD 27 undef), (A.tmps.getD 28 undef), (A.tmps.getD 29 undef), (A.tmps.getD 30 undef), (A.tmps.getD 31 undef), (A.tmps.getD 32 undef), (A.tmps.getD 33 undef), (A.tmps.getD 34 undef), (A.tmps.getD 35 undef), undef, (A.tmps.getD 37 undef), (A.tmps.getD 38 undef), (A.tmps.getD 39 undef), (A.tmps.getD 40 undef), (A.tmps.getD 41 undef), (A.tmps.getD 42 undef), (A.tmps.getD 43 undef), (A.tmps.getD 44 undef), (A.tmps.getD 45 undef), (A.tmps.getD 46 undef), (A.tmps.getD 47 undef), (A.tmps.getD 48 undef), (A.tmps.getD 49 undef), undef, (A.tmps.getD 51 undef), (A.tmps.getD 52 undef), (A.tmps.getD 53 undef), (A.tmps.getD 54 undef), (A.tmps.getD 55 undef), undef, (A.tmps.getD 57 undef), (A.tmps.getD 58 undef), (A.tmps.getD 59 undef), (A.tmps.getD 60 undef), (A.tmps.getD 61 undef), (A.tmps.getD 62 undef), (A.tmps.getD 63 undef), (A.tmps.getD 64 undef), (A.tmps.getD 65 undef), undef, (A.tmps.getD 67 undef), (A.tmps.getD 68 undef), (A.tmps.getD 69 undef), .slice (some ⟨bx, ox, none⟩) l.length c, .pointer (some ⟨bx, ox + 1, none⟩), .int .u8 (n1 : Nat), .slice (some ⟨bx, ox, none⟩) l.length c, .slice a4 2 (c - 4), .int .u64 (n4 : Nat), .int .u16 (n4 : Nat), .int .u64 (f : Nat), v78, .bool ev, .int .u64 (f : Nat), v81, v82, .bool df, .int .u64 (f : Nat), v85, v86, .bool mf, .int .u64 (f : Nat), v89, .int .i64 (o : Nat), .slice (some ⟨bx, ox, none⟩) l.length c, .pointer (some ⟨bx, ox + 8, none⟩), .int .u8 (n8 : Nat), .slice (some ⟨bx, ox, none⟩) l.length c, .pointer (some ⟨bx, ox + 9, none⟩), .int .u8 (n9 : Nat), .slice (some ⟨bx, ox, none⟩) l.length c, .slice a12 4 (c - 12), undef, undef, .slice (some ⟨bx, ox, none⟩) l.length c, .slice a16 4 (c - 16), undef, undef, .slice (some ⟨bx, ox, none⟩) l.length c, .int .i64 (s : Nat), .slice ao sn sc, undef, undef, undef, undef, undef, undef], []⟩ ∧ Hid (HdAtG w g11 hz w1)) ?_ (fun m4 => ?_)
    · rintro l A w1 rfl ⟨v78, v81, v82, v85, v86, v89, g11, hAe, F11⟩ hHeld
      obtain ⟨X, hX⟩ : ∃ X : Nat → Value, X = fun i => A.tmps.getD i undef := ⟨_, rfl⟩
      have hAe2 : A = ⟨#[.slice (some ⟨bx, ox, none⟩) l.length c, undef, .pointer (some ⟨wm.heap.size, 0, none⟩), .slice none 0 0, .int .i64 0, (X 5), .int .i64 (s : Nat), .int .i64 (t : Nat), (X 8), (X 9), .int .u64 (f : Nat), .pointer (some ⟨g11, 0, none⟩), (X 12), (X 13), (X 14), undef, (X 16), (X 17), (X 18), (X 19), (X 20), undef, (X 22), (X 23), (X 24), (X 25), (X 26), (X 27), (X 28), (X 29), (X 30), (X 31), (X 32), (X 33), (X 34), (X 35), undef, (X 37), (X 38), (X 39), (X 40), (X 41), (X 42), (X 43), (X 44), (X 45), (X 46), (X 47), (X 48), (X 49), undef, (X 51), (X 52), (X 53), (X 54), (X 55), undef, (X 57), (X 58), (X 59), (X 60), (X 61), (X 62), (X 63), (X 64), (X 65), undef, (X 67), (X 68), (X 69), .slice (some ⟨bx, ox, none⟩) l.length c, .pointer (some ⟨bx, ox + 1, none⟩), .int .u8 (n1 : Nat), .slice (some ⟨bx, ox, none⟩) l.length c, .slice a4 2 (c - 4), .int .u64 (n4 : Nat), .int .u16 (n4 : Nat), .int .u64 (f : Nat), v78, .bool ev, .int .u64 (f : Nat), v81, v82, .bool df, .int .u64 (f : Nat), v85, v86, .bool mf, .int .u64 (f : Nat), v89, .int .i64 (o : Nat), .slice (some ⟨bx, ox, none⟩) l.length c, .pointer (some ⟨bx, ox + 8, none⟩), .int .u8 (n8 : Nat), .slice (some ⟨bx, ox, none⟩) l.length c, .pointer (some ⟨bx, ox + 9, none⟩), .int .u8 (n9 : Nat), .slice (some ⟨bx, ox, none⟩) l.length c, .slice a12 4 (c - 12), undef, undef, .slice (some ⟨bx, ox, none⟩) l.length c, .slice a16 4 (c - 16), undef, undef, .slice (some ⟨bx, ox, none⟩) l.length c, .int .i64 (s : Nat), .slice ao sn sc, undef, undef, undef, undef, undef, undef], []⟩ := by subst hX; exact hAe
      clear hX hAe
      subst hAe2
      refine wpAnyH_ready (rs := [29]) (by kernel_rfl) (by simp) ?_
      refine AllReadyH.cons rfl (fun K hK => ?_) AllReadyH.nil
      go_simp
      refine (HG12.out _ hHeld).mono ?_
      rintro e w_n ⟨rfl, rfl⟩
      simp only []
      have hs : Below (World.heap w1).size w1 w1 := Below.refl _ _
      refine hK.out _ _ (hHeld.trans (hs.mono hHeld.size)) (fun hHeldN => ?_)
      try simp only [Act.put, List.setIfInBounds_toArray, List.set_cons_zero, List.set_cons_succ, List.getElem_toArray, List.getElem_cons_zero, List.getElem_cons_succ]
      (have hHeldO := hHeld; clear hHeld; have hHeld := hHeldN)
      (refine wpAnyH_take (i := 30) (v := ?_) rfl (by kernel_rfl) (by kernel_rfl) (by kernel_rfl) (fun _ _ _ h => h) (Or.inl ⟨by rfl, ?_⟩) hHeld ?_; rotate_left; (focus (intro w hSw; (try dsimp only at hSw); go_simp; try with_reducible rfl)); (try simp only [Act.put, List.setIfInBounds_toArray, List.set_cons_zero, List.set_cons_succ, List.getElem_toArray, List.getElem_cons_zero, List.getElem_cons_succ]))
      exact m2 _ _ _ (by kernel_rfl) ⟨_, _, _, _, _, _, _, rfl, Lib.hid (F11.out.later hs)⟩ hHeldN
    refine wpAnyH_cut #[true, true, true, true, true, true, true, true, true, true, true, true, true, true, true, true, true, true, true, true, true, true, true, true, true, true, true, true, true, false, false, true, true, false, false, true, true, true, false, false, false] 7 (fun A w1 => ∃ (v78 : Value) (v81 : Value) (v82 : Value) (v85 : Value) (v86 : Value) (v89 : Value), A = ⟨#[.slice (some ⟨bx, ox, none⟩) l.length c, undef, .pointer (some ⟨wm.heap.size, 0, none⟩), .slice none 0 0, .int .i64 0, (A.tmps.getD 5 undef), .int .i64 (s : Nat), .int .i64 (t : Nat), (A.tmps.getD 8 undef), (A.tmps.getD 9 undef), .int .u64 (f : Nat), undef, (A.tmps.getD 12 undef), (A.tmps.getD 13 undef), (A.tmps.getD 14 undef), undef, (A.tmps.getD 16 undef), (A.tmps.getD 17 undef), (A.tmps.getD 18 undef), (A.tmps.getD 19 undef), (A.tmps.getD 20 undef), undef, (A.tmps.getD 22 undef), (A.tmps.getD 23 undef), (A.tmps.getD 24 undef), (A.tmps.getD 25 undef), (A.tmps.getD 26 undef), (A.tmps.getD 27 undef), (A.tmps.getD 28 undef), (A.tmps.getD 29 undef), (A.tmps.getD 30 undef), (A.tmps.getD 31 undef), (A.tmps.getD 32 undef), (A.tmps.getD 33 undef), (A.tmps.getD 34 undef), (A.tmps.getD 35 undef), undef, (A.tmps.getD 37 undef), (A.tmps.getD 38 undef), (A.tmps.getD 39 undef), (A.tmps.getD 40 undef), (A.tmps.getD 41 undef), (A.tmps.getD 42 undef), (A.tmps.getD 43 undef), (A.tmps.getD 44 undef), (A.tmps.getD 45 undef), (A.tmps.getD 46 undef), (A.tmps.getD 47 undef), (A.tmps.getD 48 undef), (A.tmps.getD 49 undef), undef, (A.tmps.getD 51 undef), (A.tmps.getD 52 undef), (A.tmps.getD 53 undef), (A.tmps.getD 54 undef), (A.tmps.getD 55 undef), undef, (A.tmps.getD 57 undef), (A.tmps.getD 58 undef), (A.tmps.getD 59 undef), (A.tmps.getD 60 undef), (A.tmps.getD 61 undef), (A.tmps.getD 62 undef), (A.tmps.getD 63 undef), (A.tmps.getD 64 undef), (A.tmps.getD 65 undef), undef, (A.tmps.getD 67 undef), (A.tmps.getD 68 undef), (A.tmps.getD 69 undef), .slice (some ⟨bx, ox, none⟩) l.length c, .pointer (some ⟨bx, ox + 1, none⟩), .int .u8 (n1 : Nat), .slice (some ⟨bx, ox, none⟩) l.length c, .slice a4 2 (c - 4), .int .u64 (n4 : Nat), .int .u16 (n4 : Nat), .int .u64 (f : Nat), v78, .bool ev, .int .u64 (f : Nat), v81, v82, .bool df, .int .u64 (f : Nat), v85, v86, .bool mf, .int .u64 (f : Nat), v89, .int .i64 (o : Nat), .slice (some ⟨bx, ox, none⟩) l.length c, .pointer (some ⟨bx, ox + 8, none⟩), .int .u8 (n8 : Nat), .slice (some ⟨bx, ox, none⟩) l.length c, .pointer (some ⟨bx, ox + 9, none⟩), .int .u8 (n9 : Nat), .slice (some ⟨bx, ox, none⟩) l.length c, .slice a12 4 (c - 12), undef, undef, .slice (some ⟨bx, ox, none⟩) l.length c, .slice a16 4 (c - 16), undef, undef, .slice (some ⟨bx, ox, none⟩) l.length c, .int .i64 (s : Nat), .slice ao sn sc, undef, undef, undef, undef, undef, undef], []⟩) ?_ (fun m5 => ?_)
    · rintro l A w1 rfl ⟨v78, v81, v82, v85, v86, v89, hAe⟩ hHeld
      obtain ⟨X, hX⟩ : ∃ X : Nat → Value, X = fun i => A.tmps.getD i undef := ⟨_, rfl⟩
      have hAe2 : A = ⟨#[.slice (some ⟨bx, ox, none⟩) l.length c, undef, .pointer (some ⟨wm.heap.size, 0, none⟩), .slice none 0 0, .int .i64 0, (X 5), .int .i64 (s : Nat), .int .i64 (t : Nat), (X 8), (X 9), .int .u64 (f : Nat), undef, (X 12), (X 13), (X 14), undef, (X 16), (X 17), (X 18), (X 19), (X 20), undef, (X 22), (X 23), (X 24), (X 25), (X 26), (X 27), (X 28), (X 29), (X 30), (X 31), (X 32), (X 33), (X 34), (X 35), undef, (X 37), (X 38), (X 39), (X 40), (X 41), (X 42), (X 43), (X 44), (X 45), (X 46), (X 47), (X 48), (X 49), undef, (X 51), (X 52), (X 53), (X 54), (X 55), undef, (X 57), (X 58), (X 59), (X 60), (X 61), (X 62), (X 63), (X 64), (X 65), undef, (X 67), (X 68), (X 69), .slice (some ⟨bx, ox, none⟩) l.length c, .pointer (some ⟨bx, ox + 1, none⟩), .int .u8 (n1 : Nat), .slice (some ⟨bx, ox, none⟩) l.length c, .slice a4 2 (c - 4), .int .u64 (n4 : Nat), .int .u16 (n4 : Nat), .int .u64 (f : Nat), v78, .bool ev, .int .u64 (f : Nat), v81, v82, .bool df, .int .u64 (f : Nat), v85, v86, .bool mf, .int .u64 (f : Nat), v89, .int .i64 (o : Nat), .slice (some ⟨bx, ox, none⟩) l.length c, .pointer (some ⟨bx, ox + 8, none⟩), .int .u8 (n8 : Nat), .slice (some ⟨bx, ox, none⟩) l.length c, .pointer (some ⟨bx, ox + 9, none⟩), .int .u8 (n9 : Nat), .slice (some ⟨bx, ox, none⟩) l.length c, .slice a12 4 (c - 12), undef, undef, .slice (some ⟨bx, ox, none⟩) l.length c, .slice a16 4 (c - 16), undef, undef, .slice (some ⟨bx, ox, none⟩) l.length c, .int .i64 (s : Nat), .slice ao sn sc, undef, undef, undef, undef, undef, undef], []⟩ := by subst hX; exact hAe
      clear hX hAe
      subst hAe2
      refine wpAnyH_ready (rs := [29, 39]) (by kernel_rfl) (by simp) ?_
      refine AllReadyH.cons rfl (fun K hK => ?_) (AllReadyH.cons rfl (fun K hK => ?_) AllReadyH.nil)
      · go_simp
        refine (HG12.out _ hHeld).mono ?_
        rintro e w_n ⟨rfl, rfl⟩
        simp only []
        have hs : Below (World.heap w1).size w1 w1 := Below.refl _ _
        refine hK.out _ _ (hHeld.trans (hs.mono hHeld.size)) (fun hHeldN => ?_)
        try simp only [Act.put, List.setIfInBounds_toArray, List.set_cons_zero, List.set_cons_succ, List.getElem_toArray, List.getElem_cons_zero, List.getElem_cons_succ]
        (have hHeldO := hHeld; clear hHeld; have hHeld := hHeldN)
        (refine wpAnyH_take (i := 30) (v := ?_) rfl (by kernel_rfl) (by kernel_rfl) (by kernel_rfl) (fun _ _ _ h => h) (Or.inl ⟨by rfl, ?_⟩) hHeld ?_; rotate_left; (focus (intro w hSw; (try dsimp only at hSw); go_simp; try with_reducible rfl)); (try simp only [Act.put, List.setIfInBounds_toArray, List.set_cons_zero, List.set_cons_succ, List.getElem_toArray, List.getElem_cons_zero, List.getElem_cons_succ]))
        exact m3 _ _ _ (by kernel_rfl) ⟨_, _, _, _, _, _, rfl⟩ hHeldN
      · go_simp
        have hs : Below (World.heap w1).size w1 (w1.alloc (.cells #[.int .u8 0, .int .u16 0, .bool false, .bool false, .bool false, .int .i64 0, .int .u8 0, .int .u8 0, .int .u32 0, .int .u32 0, .slice none 0 0] 106)) := (Below.refl _ _).alloc (Nat.le_refl _) _
        have hF : Hid (HdAtG w (World.heap w1).size hz (w1.alloc (.cells #[.int .u8 0, .int .u16 0, .bool false, .bool false, .bool false, .int .i64 0, .int .u8 0, .int .u8 0, .int .u32 0, .int .u32 0, .slice none 0 0] 106))) := ⟨HdAt.new w1 hz, hHeld.size⟩
        refine hK.out _ _ (hHeld.trans (hs.mono hHeld.size)) (fun hHeldN => ?_)
        exact m4 _ _ _ (by kernel_rfl) ⟨_, _, _, _, _, _, _, rfl, hF⟩ hHeldN
    refine wpAnyH_cut #[true, true, true, true, true, false, false, true, true, true, true, true, true, true, true, true, true, true, true, true, true, true, true, true, true, true, true, true, true, false, false, true, true, false, false, true, true, true, false, true, false] 8 (fun A w1 => ∃ (v78 : Value) (v81 : Value) (v82 : Value) (v85 : Value) (v86 : Value) (v89 : Value) (g11 : Nat), A = ⟨#[.slice (some ⟨bx, ox, none⟩) l.length c, undef, .pointer (some ⟨wm.heap.size, 0, none⟩), .slice none 0 0, .int .i64 0, (A.tmps.getD 5 undef), .int .i64 (s : Nat), .int .i64 (t : Nat), (A.tmps.getD 8 undef), (A.tmps.getD 9 undef), .int .u64 (f : Nat), .pointer (some ⟨g11, 0, none⟩), (A.tmps.getD 12 undef), (A.tmps.getD 13 undef), (A.tmps.getD 14 undef), undef, (A.tmps.getD 16 undef), (A.tmps.getD 17 undef), (A.tmps.getD 18 undef), (A.tmps.getD 19 undef), (A.tmps.getD 20 undef), undef, (A.tmps.getD 22 undef), (A.tmps.getD 23 undef), (A.tmps.getD 24 undef), (A.tmps.getD 25 undef), (A.tmps.getD 26 undef), (A.tmps.getD 27 undef), (A.tmps.getD 28 undef), (A.tmps.getD 29 undef), (A.tmps.getD 30 undef), (A.tmps.getD 31 undef), (A.tmps.getD 32 undef), (A.tmps.getD 33 undef), (A.tmps.getD 34 undef), (A.tmps.getD 35 undef), undef, (A.tmps.getD 37 undef), (A.tmps.getD 38 undef), (A.tmps.getD 39 undef), (A.tmps.getD 40 undef), (A.tmps.getD 41 undef), (A.tmps.getD 42 undef), (A.tmps.getD 43 undef), (A.tmps.getD 44 undef), (A.tmps.getD 45 undef), (A.tmps.getD 46 undef), (A.tmps.getD 47 undef), (A.tmps.getD 48 undef), (A.tmps.getD 49 undef), undef, (A.tmps.getD 51 undef), (A.tmps.getD 52 undef), (A.tmps.getD 53 undef), (A.tmps.getD 54 undef), (A.tmps.getD 55 undef), undef, (A.tmps.getD 57 undef), (A.tmps.getD 58 undef), (A.tmps.getD 59 undef), (A.tmps.getD 60 undef), (A.tmps.getD 61 undef), (A.tmps.getD 62 undef), (A.tmps.getD 63 undef), (A.tmps.getD 64 undef), (A.tmps.getD 65 undef), undef, (A.tmps.getD 67 undef), (A.tmps.getD 68 undef), (A.tmps.getD 69 undef), .slice (some ⟨bx, ox, none⟩) l.length c, .pointer (some ⟨bx, ox + 1, none⟩), .int .u8 (n1 : Nat), .slice (some ⟨bx, ox, none⟩) l.length c, .slice a4 2 (c - 4), undef, undef, .int .u64 (f : Nat), v78, .bool ev, .int .u64 (f : Nat), v81, v82, .bool df, .int .u64 (f : Nat), v85, v86, .bool mf, .int .u64 (f : Nat), v89, .int .i64 (o : Nat), .slice (some ⟨bx, ox, none⟩) l.length c, .pointer (some ⟨bx, ox + 8, none⟩), .int .u8 (n8 : Nat), .slice (some ⟨bx, ox, none⟩) l.length c, .pointer (some ⟨bx, ox + 9, none⟩), .int .u8 (n9 : Nat), .slice (some ⟨bx, ox, none⟩) l.length c, .slice a12 4 (c - 12), undef, undef, .slice (some ⟨bx, ox, none⟩) l.length c, .slice a16 4 (c - 16), undef, undef, .slice (some ⟨bx, ox, none⟩) l.length c, .int .i64 (s : Nat), .slice ao sn sc, undef, undef, undef, undef, undef, undef], []⟩ ∧ Hid (HdAtG w g11 hz w1)) ?_ (fun m6 => ?_)
    · rintro l A w1 rfl ⟨v78, v81, v82, v85, v86, v89, g11, hAe, F11⟩ hHeld
      obtain ⟨X, hX⟩ : ∃ X : Nat → Value, X = fun i => A.tmps.getD i undef := ⟨_, rfl⟩
      have hAe2 : A = ⟨#[.slice (some ⟨bx, ox, none⟩) l.length c, undef, .pointer (some ⟨wm.heap.size, 0, none⟩), .slice none 0 0, .int .i64 0, (X 5), .int .i64 (s : Nat), .int .i64 (t : Nat), (X 8), (X 9), .int .u64 (f : Nat), .pointer (some ⟨g11, 0, none⟩), (X 12), (X 13), (X 14), undef, (X 16), (X 17), (X 18), (X 19), (X 20), undef, (X 22), (X 23), (X 24), (X 25), (X 26), (X 27), (X 28), (X 29), (X 30), (X 31), (X 32), (X 33), (X 34), (X 35), undef, (X 37), (X 38), (X 39), (X 40), (X 41), (X 42), (X 43), (X 44), (X 45), (X 46), (X 47), (X 48), (X 49), undef, (X 51), (X 52), (X 53), (X 54), (X 55), undef, (X 57), (X 58), (X 59), (X 60), (X 61), (X 62), (X 63), (X 64), (X 65), undef, (X 67), (X 68), (X 69), .slice (some ⟨bx, ox, none⟩) l.length c, .pointer (some ⟨bx, ox + 1, none⟩), .int .u8 (n1 : Nat), .slice (some ⟨bx, ox, none⟩) l.length c, .slice a4 2 (c - 4), undef, undef, .int .u64 (f : Nat), v78, .bool ev, .int .u64 (f : Nat), v81, v82, .bool df, .int .u64 (f : Nat), v85, v86, .bool mf, .int .u64 (f : Nat), v89, .int .i64 (o : Nat), .slice (some ⟨bx, ox, none⟩) l.length c, .pointer (some ⟨bx, ox + 8, none⟩), .int .u8 (n8 : Nat), .slice (some ⟨bx, ox, none⟩) l.length c, .pointer (some ⟨bx, ox + 9, none⟩), .int .u8 (n9 : Nat), .slice (some ⟨bx, ox, none⟩) l.length c, .slice a12 4 (c - 12), undef, undef, .slice (some ⟨bx, ox, none⟩) l.length c, .slice a16 4 (c - 16), undef, undef, .slice (some ⟨bx, ox, none⟩) l.length c, .int .i64 (s : Nat), .slice ao sn sc, undef, undef, undef, undef, undef, undef], []⟩ := by subst hX; exact hAe
      clear hX hAe
      subst hAe2
      refine wpAnyH_ready (rs := [5]) (by kernel_rfl) (by simp) ?_
      refine AllReadyH.cons rfl (fun K hK => ?_) AllReadyH.nil
      go_simp
      refine (HG4.out _ hHeld).mono ?_
      rintro e w_n ⟨rfl, rfl⟩
      simp only []
      have hs : Below (World.heap w1).size w1 w1 := Below.refl _ _
      refine hK.out _ _ (hHeld.trans (hs.mono hHeld.size)) (fun hHeldN => ?_)
      try simp only [Act.put, List.setIfInBounds_toArray, List.set_cons_zero, List.set_cons_succ, List.getElem_toArray, List.getElem_cons_zero, List.getElem_cons_succ]
      (have hHeldO := hHeld; clear hHeld; have hHeld := hHeldN)
      (refine wpAnyH_take (i := 6) (v := ?_) rfl (by kernel_rfl) (by kernel_rfl) (by kernel_rfl) (fun _ _ _ h => h) (Or.inl ⟨by rfl, ?_⟩) hHeld ?_; rotate_left; (focus (intro w hSw; (try dsimp only at hSw); go_simp; try with_reducible rfl)); (try simp only [Act.put, List.setIfInBounds_toArray, List.set_cons_zero, List.set_cons_succ, List.getElem_toArray, List.getElem_cons_zero, List.getElem_cons_succ]))
      exact m4 _ _ _ (by kernel_rfl) ⟨_, _, _, _, _, _, _, rfl, Lib.hid (F11.out.later hs)⟩ hHeldN
    (refine wpAnyH_take (i := 0) (v := ?_) rfl (by kernel_rfl) (by kernel_rfl) (by kernel_rfl) (fun _ _ _ h => h) (Or.inl ⟨by rfl, ?_⟩) hHeld ?_; rotate_left; (focus (intro w hSw; (try dsimp only at hSw); go_simp; try with_reducible rfl)); (try simp only [Act.put, List.setIfInBounds_toArray, List.set_cons_zero, List.set_cons_succ, List.getElem_toArray, List.getElem_cons_zero])); (refine wpAnyH_take (i := 3) (v := ?_) rfl (by kernel_rfl) (by kernel_rfl) (by kernel_rfl) (fun _ _ _ h => h) (Or.inl ⟨by rfl, ?_⟩) hHeld ?_; rotate_left; (focus (intro w hSw; (try dsimp only at hSw); go_simp; try with_reducible rfl)); (try simp only [Act.put, List.setIfInBounds_toArray, List.set_cons_zero, List.set_cons_succ, List.getElem_toArray, List.getElem_cons_zero, List.getElem_cons_succ])); (refine wpAnyH_take (i := 7) (v := ?_) rfl (by kernel_rfl) (by kernel_rfl) (by kernel_rfl) (fun _ _ _ h => h) (Or.inl ⟨by rfl, ?_⟩) hHeld ?_; rotate_left; (focus (intro w hSw; (try dsimp only at hSw); go_simp; try with_reducible rfl)); (try simp only [Act.put, List.setIfInBounds_toArray, List.set_cons_zero, List.set_cons_succ, List.getElem_toArray, List.getElem_cons_zero, List.getElem_cons_succ])); (refine wpAnyH_take (i := 10) (v := ?_) rfl (by kernel_rfl) (by kernel_rfl) (by kernel_rfl) (fun _ _ _ h => h) (Or.inl ⟨by rfl, ?_⟩) hHeld ?_; rotate_left; (focus (intro w hSw; (try dsimp only at hSw); go_simp; try with_reducible rfl)); (try simp only [Act.put, List.setIfInBounds_toArray, List.set_cons_zero, List.set_cons_succ, List.getElem_toArray, List.getElem_cons_zero, List.getElem_cons_succ])); (refine wpAnyH_take (i := 14) (v := ?_) rfl (by kernel_rfl) (by kernel_rfl) (by kernel_rfl) (fun _ _ _ h => h) (Or.inl ⟨by rfl, ?_⟩) hHeld ?_; rotate_left; (focus (intro w hSw; (try dsimp only at hSw); go_simp; try with_reducible rfl)); (try simp only [Act.put, List.setIfInBounds_toArray, List.set_cons_zero, List.set_cons_succ, List.getElem_toArray, List.getElem_cons_zero, List.getElem_cons_succ])); (refine wpAnyH_take (i := 18) (v := ?_) rfl (by kernel_rfl) (by kernel_rfl) (by kernel_rfl) (fun _ _ _ h => h) (Or.inl ⟨by rfl, ?_⟩) hHeld ?_; rotate_left; (focus (intro w hSw; (try dsimp only at hSw); go_simp; try with_reducible rfl)); (try simp only [Act.put, List.setIfInBounds_toArray, List.set_cons_zero, List.set_cons_succ, List.getElem_toArray, List.getElem_cons_zero, List.getElem_cons_succ])); (refine wpAnyH_take (i := 21) (v := ?_) rfl (by kernel_rfl) (by kernel_rfl) (by kernel_rfl) (fun _ _ _ h => h) (Or.inl ⟨by rfl, ?_⟩) hHeld ?_; rotate_left; (focus (intro w hSw; (try dsimp only at hSw); go_simp; try with_reducible rfl)); (try simp only [Act.put, List.setIfInBounds_toArray, List.set_cons_zero, List.set_cons_succ, List.getElem_toArray, List.getElem_cons_zero, List.getElem_cons_succ])); (refine wpAnyH_take (i := 24) (v := ?_) rfl (by kernel_rfl) (by kernel_rfl) (by kernel_rfl) (fun _ _ _ h => h) (Or.inl ⟨by rfl, ?_⟩) hHeld ?_; rotate_left; (focus (intro w hSw; (try dsimp only at hSw); go_simp; try with_reducible rfl)); (try simp only [Act.put, List.setIfInBounds_toArray, List.set_cons_zero, List.set_cons_succ, List.getElem_toArray, List.getElem_cons_zero, List.getElem_cons_succ])); (refine wpAnyH_take (i := 27) (v := ?_) rfl (by kernel_rfl) (by kernel_rfl) (by kernel_rfl) (fun _ _ _ h => h) (Or.inl ⟨by rfl, ?_⟩) hHeld ?_; rotate_left; (focus (intro w hSw; (try dsimp only at hSw); go_simp; try with_reducible rfl)); (try simp only [Act.put, List.setIfInBounds_toArray, List.set_cons_zero, List.set_cons_succ, List.getElem_toArray, List.getElem_cons_zero, List.getElem_cons_succ])); (refine wpAnyH_take (i := 31) (v := ?_) rfl (by kernel_rfl) (by kernel_rfl) (by kernel_rfl) (fun _ _ _ h => h) (Or.inl ⟨by rfl, ?_⟩) hHeld ?_; rotate_left; (focus (intro w hSw; (try dsimp only at hSw); go_simp; try with_reducible rfl)); (try simp only [Act.put, List.setIfInBounds_toArray, List.set_cons_zero, List.set_cons_succ, List.getElem_toArray, List.getElem_cons_zero, List.getElem_cons_succ])); (refine wpAnyH_take (i := 35) (v := ?_) rfl (by kernel_rfl) (by kernel_rfl) (by kernel_rfl) (fun _ _ _ h => h) (Or.inl ⟨by rfl, ?_⟩) hHeld ?_; rotate_left; (focus (intro w hSw; (try dsimp only at hSw); go_simp; try with_reducible rfl)); (try simp only [Act.put, List.setIfInBounds_toArray, List.set_cons_zero, List.set_cons_succ, List.getElem_toArray, List.getElem_cons_zero, List.getElem_cons_succ])); (refine wpAnyH_take (i := 36) (v := ?_) rfl (by kernel_rfl) (by kernel_rfl) (by kernel_rfl) (fun _ _ _ h => h) (Or.inl ⟨by rfl, ?_⟩) hHeld ?_; rotate_left; (focus (intro w hSw; (try dsimp only at hSw); go_simp; try with_reducible rfl)); (try simp only [Act.put, List.setIfInBounds_toArray, List.set_cons_zero, List.set_cons_succ, List.getElem_toArray, List.getElem_cons_zero, List.getElem_cons_succ])); (refine wpAnyH_take (i := 1) (v := ?_) rfl (by kernel_rfl) (by kernel_rfl) (by kernel_rfl) (fun _ _ _ h => h) (Or.inl ⟨by rfl, ?_⟩) hHeld ?_; rotate_left; (focus (intro w hSw; (try dsimp only at hSw); go_simp; try with_reducible rfl)); (try simp only [Act.put, List.setIfInBounds_toArray, List.set_cons_zero, List.set_cons_succ, List.getElem_toArray, List.getElem_cons_zero, List.getElem_cons_succ])); (refine wpAnyH_take (i := 4) (v := ?_) rfl (by kernel_rfl) (by kernel_rfl) (by kernel_rfl) (fun _ _ _ h => h) (Or.inl ⟨by rfl, ?_⟩) hHeld ?_; rotate_left; (focus (intro w hSw; (try dsimp only at hSw); go_simp; try with_reducible rfl)); (try simp only [Act.put, List.setIfInBounds_toArray, List.set_cons_zero, List.set_cons_succ, List.getElem_toArray, List.getElem_cons_zero, List.getElem_cons_succ])); (refine wpAnyH_take (i := 8) (v := ?_) rfl (by kernel_rfl) (by kernel_rfl) (by kernel_rfl) (fun _ _ _ h => h) (Or.inl ⟨by rfl, ?_⟩) hHeld ?_; rotate_left; (focus (intro w hSw; (try dsimp only at hSw); go_simp; try with_reducible rfl)); (try simp only [Act.put, List.setIfInBounds_toArray, List.set_cons_zero, List.set_cons_succ, List.getElem_toArray, List.getElem_cons_zero, List.getElem_cons_succ])); (refine wpAnyH_take (i := 11) (v := ?_) rfl (by kernel_rfl) (by kernel_rfl) (by kernel_rfl) (fun _ _ _ h => h) (Or.inl ⟨by rfl, ?_⟩) hHeld ?_; rotate_left; (focus (intro w hSw; (try dsimp only at hSw); go_simp; try with_reducible rfl)); (try simp only [Act.put, List.setIfInBounds_toArray, List.set_cons_zero, List.set_cons_succ, List.getElem_toArray, List.getElem_cons_zero, List.getElem_cons_succ])); (refine wpAnyH_take (i := 15) (v := ?_) rfl (by kernel_rfl) (by kernel_rfl) (by kernel_rfl) (fun _ _ _ h => h) (Or.inl ⟨by rfl, ?_⟩) hHeld ?_; rotate_left; (focus (intro w hSw; (try dsimp only at hSw); go_simp; try with_reducible rfl)); (try simp only [Act.put, List.setIfInBounds_toArray, List.set_cons_zero, List.set_cons_succ, List.getElem_toArray, List.getElem_cons_zero, List.getElem_cons_succ])); (refine wpAnyH_take (i := 19) (v := ?_) rfl (by kernel_rfl) (by kernel_rfl) (by kernel_rfl) (fun _ _ _ h => h) (Or.inl ⟨by rfl, ?_⟩) hHeld ?_; rotate_left; (focus (intro w hSw; (try dsimp only at hSw); go_simp; try with_reducible rfl)); (try simp only [Act.put, List.setIfInBounds_toArray, List.set_cons_zero, List.set_cons_succ, List.getElem_toArray, List.getElem_cons_zero, List.getElem_cons_succ])); (refine wpAnyH_take (i := 22) (v := ?_) rfl (by kernel_rfl) (by kernel_rfl) (by kernel_rfl) (fun _ _ _ h => h) (Or.inl ⟨by rfl, ?_⟩) hHeld ?_; rotate_left; (focus (intro w hSw; (try dsimp only at hSw); go_simp; try with_reducible rfl)); (try simp only [Act.put, List.setIfInBounds_toArray, List.set_cons_zero, List.set_cons_succ, List.getElem_toArray, List.getElem_cons_zero, List.getElem_cons_succ])); (refine wpAnyH_take (i := 25) (v := ?_) rfl (by kernel_rfl) (by kernel_rfl) (by kernel_rfl) (fun _ _ _ h => h) (Or.inl ⟨by rfl, ?_⟩) hHeld ?_; rotate_left; (focus (intro w hSw; (try dsimp only at hSw); go_simp; try with_reducible rfl)); (try simp only [Act.put, List.setIfInBounds_toArray, List.set_cons_zero, List.set_cons_succ, List.getElem_toArray, List.getElem_cons_zero, List.getElem_cons_succ])); (refine wpAnyH_take (i := 28) (v := ?_) rfl (by kernel_rfl) (by kernel_rfl) (by kernel_rfl) (fun _ _ _ h => h) (Or.inl ⟨by rfl, ?_⟩) hHeld ?_; rotate_left; (focus (intro w hSw; (try dsimp only at hSw); go_simp; try with_reducible rfl)); (try simp only [Act.put, List.setIfInBounds_toArray, List.set_cons_zero, List.set_cons_succ, List.getElem_toArray, List.getElem_cons_zero, List.getElem_cons_succ])); (refine wpAnyH_take (i := 32) (v := ?_) rfl (by kernel_rfl) (by kernel_rfl) (by kernel_rfl) (fun _ _ _ h => h) (Or.inl ⟨by rfl, ?_⟩) hHeld ?_; rotate_left; (focus (intro w hSw; (try dsimp only at hSw); go_simp; try with_reducible rfl)); (try simp only [Act.put, List.setIfInBounds_toArray, List.set_cons_zero, List.set_cons_succ, List.getElem_toArray, List.getElem_cons_zero, List.getElem_cons_succ])); (refine wpAnyH_take (i := 37) (v := ?_) rfl (by kernel_rfl) (by kernel_rfl) (by kernel_rfl) (fun _ _ _ h => h) (Or.inl ⟨by rfl, ?_⟩) hHeld ?_; rotate_left; (focus (intro w hSw; (try dsimp only at hSw); go_simp; try with_reducible rfl)); (try simp only [Act.put, List.setIfInBounds_toArray, List.set_cons_zero, List.set_cons_succ, List.getElem_toArray, List.getElem_cons_zero, List.getElem_cons_succ]))
    (refine wpAnyH_take (i := 2) (v := ?_) rfl (by kernel_rfl) (by kernel_rfl) (by kernel_rfl) (fun _ _ _ h => h) (Or.inl ⟨by rfl, ?_⟩) hHeld ?_; rotate_left; (focus (intro w hSw; (try dsimp only at hSw); go_simp; (have hcc := cell_later' (HBM.out.trans (hSw.mono HBM.out.size)) hbx hex1; go_simp; try with_reducible rfl))); (try simp only [Act.put, List.setIfInBounds_toArray, List.set_cons_zero, List.set_cons_succ, List.getElem_toArray, List.getElem_cons_zero, List.getElem_cons_succ]))
    (refine wpAnyH_take (i := 9) (v := ?_) rfl (by kernel_rfl) (by kernel_rfl) (by kernel_rfl) (fun _ _ _ h => h) (Or.inl ⟨by rfl, ?_⟩) hHeld ?_; rotate_left; (focus (intro w hSw; (try dsimp only at hSw); go_simp; try with_reducible rfl)); (try simp only [Act.put, List.setIfInBounds_toArray, List.set_cons_zero, List.set_cons_succ, List.getElem_toArray, List.getElem_cons_zero, List.getElem_cons_succ])); (refine wpAnyH_take (i := 12) (v := ?_) rfl (by kernel_rfl) (by kernel_rfl) (by kernel_rfl) (fun _ _ _ h => h) (Or.inl ⟨by rfl, ?_⟩) hHeld ?_; rotate_left; (focus (intro w hSw; (try dsimp only at hSw); go_simp; try with_reducible rfl)); (try simp only [Act.put, List.setIfInBounds_toArray, List.set_cons_zero, List.set_cons_succ, List.getElem_toArray, List.getElem_cons_zero, List.getElem_cons_succ])); (refine wpAnyH_take (i := 16) (v := ?_) rfl (by kernel_rfl) (by kernel_rfl) (by kernel_rfl) (fun _ _ _ h => h) (Or.inl ⟨by rfl, ?_⟩) hHeld ?_; rotate_left; (focus (intro w hSw; (try dsimp only at hSw); go_simp; try with_reducible rfl)); (try simp only [Act.put, List.setIfInBounds_toArray, List.set_cons_zero, List.set_cons_succ, List.getElem_toArray, List.getElem_cons_zero, List.getElem_cons_succ])); (refine wpAnyH_take (i := 20) (v := ?_) rfl (by kernel_rfl) (by kernel_rfl) (by kernel_rfl) (fun _ _ _ h => h) (Or.inl ⟨by rfl, ?_⟩) hHeld ?_; rotate_left; (focus (intro w hSw; (try dsimp only at hSw); go_simp; try with_reducible rfl)); (try simp only [Act.put, List.setIfInBounds_toArray, List.set_cons_zero, List.set_cons_succ, List.getElem_toArray, List.getElem_cons_zero, List.getElem_cons_succ]))
    (refine wpAnyH_take (i := 23) (v := ?_) rfl (by kernel_rfl) (by kernel_rfl) (by kernel_rfl) (fun _ _ _ h => h) (Or.inl ⟨by rfl, ?_⟩) hHeld ?_; rotate_left; (focus (intro w hSw; (try dsimp only at hSw); go_simp; (have hcc := cell_later' (HBM.out.trans (hSw.mono HBM.out.size)) hbx hex8; go_simp; try with_reducible rfl))); (try simp only [Act.put, List.setIfInBounds_toArray, List.set_cons_zero, List.set_cons_succ, List.getElem_toArray, List.getElem_cons_zero, List.getElem_cons_succ]))
    (refine wpAnyH_take (i := 26) (v := ?_) rfl (by kernel_rfl) (by kernel_rfl) (by kernel_rfl) (fun _ _ _ h => h) (Or.inl ⟨by rfl, ?_⟩) hHeld ?_; rotate_left; (focus (intro w hSw; (try dsimp only at hSw); go_simp; (have hcc := cell_later' (HBM.out.trans (hSw.mono HBM.out.size)) hbx hex9; go_simp; try with_reducible rfl))); (try simp only [Act.put, List.setIfInBounds_toArray, List.set_cons_zero, List.set_cons_succ, List.getElem_toArray, List.getElem_cons_zero, List.getElem_cons_succ]))
    (refine wpAnyH_take (i := 13) (v := ?_) rfl (by kernel_rfl) (by kernel_rfl) (by kernel_rfl) (fun _ _ _ h => h) (Or.inl ⟨by rfl, ?_⟩) hHeld ?_; rotate_left; (focus (intro w hSw; (try dsimp only at hSw); go_simp; try with_reducible rfl)); (try simp only [Act.put, List.setIfInBounds_toArray, List.set_cons_zero, List.set_cons_succ, List.getElem_toArray, List.getElem_cons_zero, List.getElem_cons_succ])); (refine wpAnyH_take (i := 17) (v := ?_) rfl (by kernel_rfl) (by kernel_rfl) (by kernel_rfl) (fun _ _ _ h => h) (Or.inl ⟨by rfl, ?_⟩) hHeld ?_; rotate_left; (focus (intro w hSw; (try dsimp only at hSw); go_simp; try with_reducible rfl)); (try simp only [Act.put, List.setIfInBounds_toArray, List.set_cons_zero, List.set_cons_succ, List.getElem_toArray, List.getElem_cons_zero, List.getElem_cons_succ]))
    refine wpAnyH_ready (rs := [5, 39]) (by kernel_rfl) (by simp) ?_
    refine AllReadyH.cons rfl (fun K hK => ?_) (AllReadyH.cons rfl (fun K hK => ?_) AllReadyH.nil)
    · go_simp
      refine (HG4.out _ hHeld).mono ?_
      rintro e w_n ⟨rfl, rfl⟩
      simp only []
      have hs : Below (World.heap w0).size w0 w0 := Below.refl _ _
      refine hK.out _ _ (hHeld.trans (hs.mono hHeld.size)) (fun hHeldN => ?_)
      try simp only [Act.put, List.setIfInBounds_toArray, List.set_cons_zero, List.set_cons_succ, List.getElem_toArray, List.getElem_cons_zero, List.getElem_cons_succ]
      (have hHeldO := hHeld; clear hHeld; have hHeld := hHeldN)
      (refine wpAnyH_take (i := 6) (v := ?_) rfl (by kernel_rfl) (by kernel_rfl) (by kernel_rfl) (fun _ _ _ h => h) (Or.inl ⟨by rfl, ?_⟩) hHeld ?_; rotate_left; (focus (intro w hSw; (try dsimp only at hSw); go_simp; try with_reducible rfl)); (try simp only [Act.put, List.setIfInBounds_toArray, List.set_cons_zero, List.set_cons_succ, List.getElem_toArray, List.getElem_cons_zero, List.getElem_cons_succ]))
      exact m5 _ _ _ (by kernel_rfl) ⟨_, _, _, _, _, _, rfl⟩ hHeldN
    · go_simp
      have hs : Below (World.heap w0).size w0 (w0.alloc (.cells #[.int .u8 0, .int .u16 0, .bool false, .bool false, .bool false, .int .i64 0, .int .u8 0, .int .u8 0, .int .u32 0, .int .u32 0, .slice none 0 0] 106)) := (Below.refl _ _).alloc (Nat.le_refl _) _
      have hF : Hid (HdAtG w (World.heap w0).size hz (w0.alloc (.cells #[.int .u8 0, .int .u16 0, .bool false, .bool false, .bool false, .int .i64 0, .int .u8 0, .int .u8 0, .int .u32 0, .int .u32 0, .slice none 0 0] 106))) := ⟨HdAt.new w0 hz, hHeld.size⟩
      refine hK.out _ _ (hHeld.trans (hs.mono hHeld.size)) (fun hHeldN => ?_)
      exact m6 _ _ _ (by kernel_rfl) ⟨_, _, _, _, _, _, _, rfl, hF⟩ hHeldN
end Go.Proofs.Ytdjhgahdiggahaa
