/- The walk of ip.Parse where nothing is wrong. -/
import Derived.Test.YtdjhgahdiggahaaZ05

set_option linter.unusedSimpArgs false
set_option linter.unusedVariables false
namespace Go.Proofs.Ytdjhgahdiggahaa
open Go.RowKit
attribute [local go_sem ↓] Go.wp_at_zero Go.wp_at_succ

theorem own_lt {w : World} {B : Nat} {v : Value} {l : List UInt8} (h : OwnB w B v l) : ∀ g, v.ownBlock = some g → g < w.heap.size := fun g hg => by
  obtain ⟨cur, hc⟩ := own_block h hg
  exact (Array.getElem?_eq_some_iff.1 hc).1
/-- A header's block beyond a world's end. -/
def HdAtG (w : World) (g : Nat) (cs : List Value) (W : World) : Prop := HdAt g cs W ∧ w.heap.size ≤ g
theorem HdAtG.later {w0 : World} {g : Nat} {cs : List Value} {w w' : World} (h : HdAtG w0 g cs w) (hb : Below w.heap.size w w') : HdAtG w0 g cs w' := ⟨h.1.later hb, h.2⟩
/-- What parsing tells of a packet that is not wrong. -/
def ParsedV (wm : World) (l : List UInt8) (e : Ending) (w' : World) : Prop :=
  ∃ (u v : Value) (B : Nat), e = .returned (.tuple #[.agg #[.int .u8 (Sm.at0 l 1 : Nat), .int .u16 (numAt l 4 2 : Nat), .bool (evB (numAt l 6 2)), .bool (dfB (numAt l 6 2)), .bool (mfB (numAt l 6 2)), .int .i64 (numAt l 6 2 % 8192 : Nat), .int .u8 (Sm.at0 l 8 : Nat), .int .u8 (Sm.at0 l 9 : Nat), .int .u32 (numAt l 12 4 : Nat), .int .u32 (numAt l 16 4 : Nat), u], v, .int .i64 0]) ∧
    OwnB w' wm.heap.size u ((l.take (hsz l)).drop 20) ∧ OwnB w' B v ((l.take (numAt l 2 2)).drop (hsz l)) ∧ wm.heap.size ≤ B ∧ (∀ g, u.ownBlock = some g → g < B) ∧ Below wm.heap.size wm w'

theorem flt_zero {l : List UInt8} (h : flt l = 0) : 20 ≤ l.length ∧ 20 ≤ hsz l ∧ hsz l ≤ l.length ∧ hsz l ≤ numAt l 2 2 ∧ numAt l 2 2 ≤ l.length := by
  unfold flt at h
  by_cases a1 : l.length < 20
  · rw [if_pos a1] at h; omega
  · rw [if_neg a1] at h
    by_cases a2 : Sm.at0 l 0 / 16 ≠ 4
    · rw [if_pos a2] at h; omega
    · rw [if_neg a2] at h
      by_cases a3 : hsz l < 20 ∨ l.length < hsz l
      · rw [if_pos a3] at h; omega
      · rw [if_neg a3] at h
        by_cases a4 : numAt l 2 2 < hsz l ∨ l.length < numAt l 2 2
        · rw [if_pos a4] at h; omega
        · omega

set_option maxRecDepth 100000 in
set_option maxHeartbeats 40000000 in
theorem parse_yes (a : Option Addr) (c : Nat) (l : List UInt8) (hl : l.length ≤ 1000000) (wm : World) (hv : Bytes wm (.slice a l.length c) l) (hf : flt l = 0) :
    Calls Try.prog 75 #[.slice a l.length c] wm (ParsedV wm l) := by
  have HV := Lib.hid hv
  obtain ⟨h20, hs20, hsl, hst, htl⟩ := flt_zero hf
  have hA : Below wm.heap.size wm (wm.alloc (.cells #[.int .u8 0, .int .u16 0, .bool false, .bool false, .bool false, .int .i64 0, .int .u8 0, .int .u8 0, .int .u32 0, .int .u32 0, .slice none 0 0] 106)) := (Below.refl _ _).alloc (Nat.le_refl _) _
  have hfa := fault_any _ l hl _ (hv.later hA)
  rw [hf] at hfa
  have HFA := Lib.hid hfa
  have HR0 : Hid (HdAt wm.heap.size hz (wm.alloc (.cells #[.int .u8 0, .int .u16 0, .bool false, .bool false, .bool false, .int .i64 0, .int .u8 0, .int .u8 0, .int .u32 0, .int .u32 0, .slice none 0 0] 106))) := HdAt.new wm hz
  have HSZ := Lib.hid (fun W => sizes_any (.slice a l.length c) l W)
  have hslm := hsz_le l
  have htm := numAt_lt (l := l) (i := 2) (k := 2) (by omega)
  have hfm := numAt_lt (l := l) (i := 6) (k := 2) (by omega)
  obtain ⟨s, hs⟩ : ∃ s, s = hsz l := ⟨_, rfl⟩
  obtain ⟨t, ht⟩ : ∃ t, t = numAt l 2 2 := ⟨_, rfl⟩
  obtain ⟨f, hfe⟩ : ∃ f, f = numAt l 6 2 := ⟨_, rfl⟩
  rw [← hs] at hs20 hsl hst hslm
  rw [← ht] at hst htl htm
  rw [← hfe] at hfm
  have hev := ev_bits hfm
  have hdf := df_bits hfm
  have hmf := mf_bits hfm
  have hof := off_bits hfm
  obtain ⟨ev, hev2⟩ : ∃ b, b = evB f := ⟨_, rfl⟩
  obtain ⟨df, hdf2⟩ : ∃ b, b = dfB f := ⟨_, rfl⟩
  obtain ⟨mf, hmf2⟩ : ∃ b, b = mfB f := ⟨_, rfl⟩
  obtain ⟨o, ho⟩ : ∃ o, o = f % 8192 := ⟨_, rfl⟩
  rw [← hev2] at hev
  rw [← hdf2] at hdf
  rw [← hmf2] at hmf
  rw [← ho] at hof
  have ho2 : o < 8192 := by omega
  have hwo : IntKind.i64.wrap (o : Int) = o := IntWalk.i64_in _ ⟨by omega, by omega⟩
  have hn1 := Sm.at0_lt l 1
  have hn8 := Sm.at0_lt l 8
  have hn9 := Sm.at0_lt l 9
  have hn4 := numAt_lt (l := l) (i := 4) (k := 2) (by omega)
  have hn12 := numAt_lt (l := l) (i := 12) (k := 4) (by omega)
  have hn16 := numAt_lt (l := l) (i := 16) (k := 4) (by omega)
  obtain ⟨n1, e1⟩ : ∃ n, n = Sm.at0 l 1 := ⟨_, rfl⟩
  obtain ⟨n8, e8⟩ : ∃ n, n = Sm.at0 l 8 := ⟨_, rfl⟩
  obtain ⟨n9, e9⟩ : ∃ n, n = Sm.at0 l 9 := ⟨_, rfl⟩
  obtain ⟨n4, e4⟩ : ∃ n, n = numAt l 4 2 := ⟨_, rfl⟩
  obtain ⟨n12, e12⟩ : ∃ n, n = numAt l 12 4 := ⟨_, rfl⟩
  obtain ⟨n16, e16⟩ : ∃ n, n = numAt l 16 4 := ⟨_, rfl⟩
  rw [← e1] at hn1
  rw [← e8] at hn8
  rw [← e9] at hn9
  rw [← e4] at hn4
  rw [← e12] at hn12
  rw [← e16] at hn16
  have w1' : IntKind.u8.wrap (n1 : Int) = n1 := IntWalk.u8_in _ ⟨by omega, by omega⟩
  have w8' : IntKind.u8.wrap (n8 : Int) = n8 := IntWalk.u8_in _ ⟨by omega, by omega⟩
  have w9' : IntKind.u8.wrap (n9 : Int) = n9 := IntWalk.u8_in _ ⟨by omega, by omega⟩
  have w4' : IntKind.u16.wrap (n4 : Int) = n4 := IntWalk.u16_in _ ⟨by omega, by omega⟩
  have w12' : IntKind.u32.wrap (n12 : Int) = n12 := IntWalk.u32_in _ ⟨by omega, by omega⟩
  have w16' : IntKind.u32.wrap (n16 : Int) = n16 := IntWalk.u32_in _ ⟨by omega, by omega⟩
  have HW := Lib.hid (And.intro w1' (And.intro w8' (And.intro w9' (And.intro w4' (And.intro w12' (And.intro w16' (And.intro hev (And.intro hdf (And.intro hmf (And.intro hof hwo))))))))))
  obtain ⟨ao, hso, hbo⟩ := hv.cut_lh 20 (s : Int) 20 s rfl rfl hs20 hsl
  obtain ⟨ap, hsp, hbp⟩ := hv.cut_lh (s : Int) (t : Int) s t rfl rfl hst htl
  obtain ⟨O, hO⟩ : ∃ O, O = (l.take s).drop 20 := ⟨_, rfl⟩
  obtain ⟨Pl, hPl⟩ : ∃ O, O = (l.take t).drop s := ⟨_, rfl⟩
  rw [← hO] at hbo
  rw [← hPl] at hbp
  have HLO : Hid (O.length ≤ 140737488355328) := by show _ ≤ _; rw [hO, List.length_drop, List.length_take]; omega
  have HLP : Hid (Pl.length ≤ 140737488355328) := by show _ ≤ _; rw [hPl, List.length_drop, List.length_take]; omega
  have HBO := Lib.hid hbo
  have HBP := Lib.hid hbp
  have HE : Hid (s = hsz l ∧ t = numAt l 2 2 ∧ n1 = Sm.at0 l 1 ∧ n8 = Sm.at0 l 8 ∧ n9 = Sm.at0 l 9 ∧ n4 = numAt l 4 2 ∧ n12 = numAt l 12 4 ∧ n16 = numAt l 16 4 ∧ O = (l.take s).drop 20 ∧ Pl = (l.take t).drop s ∧ ev = evB f ∧ df = dfB f ∧ mf = mfB f ∧ o = f % 8192 ∧ f = numAt l 6 2) := ⟨hs, ht, e1, e8, e9, e4, e12, e16, hO, hPl, hev2, hdf2, hmf2, ho, hfe⟩
  have HS20 := Lib.hid (And.intro hs20 (And.intro hsl (And.intro hst htl)))
  have k1 : (20 : Int) ≤ s := by omega
  have k2 : (s : Int) ≤ l.length := by omega
  have k3 : (s : Int) ≤ t := by omega
  have k4 : (t : Int) ≤ l.length := by omega
  have hl2 : 20 ≤ l.length := h20
  clear hf hfa hv hs ht e1 e8 e9 e4 e12 e16 hO hPl hbo hbp hev2 hdf2 hmf2 ho hfe hn1 hn8 hn9 hn4 hn12 hn16 hfm w1' w8' w9' w4' w12' w16' hev hdf hmf hof hwo hslm htm ho2
  go_enter Try.func75, Try.ntmps75
  go_wp2_with fail
  refine HFA.out.mono ?_
  rintro e w1 ⟨rfl, hb1⟩
  have HB1 := Lib.hid (hA.trans (hb1.mono hA.size))
  have HR1 : Hid (HdAt wm.heap.size hz w1) := HdAt.later HR0.out hb1
  clear hb1
  go_wp2_with fail
  have hsz := HSZ.out w1 ((show Bytes wm _ l from HV.out).later HB1.out) h20 hl
  rw [← HE.out.1, ← HE.out.2.1] at hsz
  refine hsz.mono ?_
  rintro e w2 ⟨rfl, hb2⟩
  have HB2 := Lib.hid (HB1.out.trans (hb2.mono HB1.out.size))
  have HR2 : Hid (HdAt wm.heap.size hz w2) := HdAt.later HR1.out hb2
  clear hb2 hsz
  go_wp2_with fail
  refine (numbersW_any _ _ _ _).mono ?_
  rintro e w ⟨rfl, hw⟩
  obtain ⟨N, hN⟩ : ∃ N, N = w2.heap.size := ⟨_, rfl⟩
  rw [← hN]
  have hcN : w.cell? ⟨N, 0, none⟩ = some (.slice a l.length c) := by rw [hw, hN]; simp
  have hNl : N < w.heap.size := by rw [hw, hN]; simp
  have hb3 : Below w2.heap.size w2 w := by rw [hw]; exact (Below.refl _ _).alloc (Nat.le_refl _) _
  have HBM := Lib.hid (HB2.out.trans (hb3.mono HB2.out.size))
  have HR3 : Hid (HdAt wm.heap.size hz w) := HdAt.later HR2.out hb3
  have hvw : Bytes w (.slice a l.length c) l := (show Bytes wm _ l from HV.out).later HBM.out
  have hg : ∀ (i k : Nat) (W' : World), 1 ≤ k → k ≤ 8 → i + k ≤ l.length → Below w.heap.size w W' → Calls Try.prog 127 #[.int .i64 (i : Int), .int .i64 (k : Int), .pointer (some ⟨N, 0, none⟩)] W' fun e w' => e = .returned (.int .u64 (numAt l i k : Nat)) ∧ W' = w' := fun i k W' h1 h2 h3 hb => numG_in i k N _ l w W' hb hNl hcN hvw h1 h2 h3 hl
  have HG1 := Lib.hid (fun W' (hb : Below w.heap.size w W') => hg 1 1 W' (by omega) (by omega) (by omega) hb)
  have HG4 := Lib.hid (fun W' (hb : Below w.heap.size w W') => hg 4 2 W' (by omega) (by omega) (by omega) hb)
  have HG6 := Lib.hid (hg 6 2 w (by omega) (by omega) (by omega) (Below.refl _ _))
  have HG8 := Lib.hid (fun W' (hb : Below w.heap.size w W') => hg 8 1 W' (by omega) (by omega) (by omega) hb)
  have HG9 := Lib.hid (fun W' (hb : Below w.heap.size w W') => hg 9 1 W' (by omega) (by omega) (by omega) hb)
  have HG12 := Lib.hid (fun W' (hb : Below w.heap.size w W') => hg 12 4 W' (by omega) (by omega) (by omega) hb)
  have HG16 := Lib.hid (fun W' (hb : Below w.heap.size w W') => hg 16 4 W' (by omega) (by omega) (by omega) hb)
  rw [numAt_1 (by omega), ← HE.out.2.2.1] at HG1
  rw [← HE.out.2.2.2.2.2.1] at HG4
  rw [← HE.out.2.2.2.2.2.2.2.2.2.2.2.2.2.2] at HG6
  rw [numAt_1 (by omega), ← HE.out.2.2.2.1] at HG8
  rw [numAt_1 (by omega), ← HE.out.2.2.2.2.1] at HG9
  rw [← HE.out.2.2.2.2.2.2.1] at HG12
  rw [← HE.out.2.2.2.2.2.2.2.1] at HG16
  have HSO : Hid (Bytes w (.slice ao (s - 20) (c - 20)) O) := (show Bytes wm _ O from HBO.out).later HBM.out
  have HSP : Hid (Bytes w (.slice ap (t - s) (c - s)) Pl) := (show Bytes wm _ Pl from HBP.out).later HBM.out
  clear hw hN hb3 hvw hg hcN hNl
  go_wp2_with fail
  refine HG6.out.mono ?_
  rintro e w9 ⟨rfl, rfl⟩
  go_wp2_with fail
  obtain ⟨w1', w8', w9', w4', w12', w16', hev, hdf, hmf, hof, hwo⟩ := HW.out
  have hso' := hso
  refine wp_region_fin (S := fun w' => Below w.heap.size w w') (fun A w3 => ∃ (x9 : Value) (x12 : Value) (x13 : Value) (x14 : Value) (x15 : Value) (x18 : Value) (x19 : Value) (x20 : Value) (x21 : Value) (x22 : Value) (x23 : Value) (x24 : Value) (x25 : Value) (x26 : Value) (x27 : Value) (x28 : Value) (x29 : Value) (a63 : Option Addr) (n63 : Nat) (c63 : Nat) (g11 : Nat), A = ⟨#[.slice a l.length c, undef, .pointer (some ⟨wm.heap.size, 0, none⟩), .slice none 0 0, .int .i64 0, .int .i64 0, .int .i64 (s : Nat), .int .i64 (t : Nat), .func (.func 127) #[] #[.pointer (some ⟨N, 0, none⟩)], x9, .int .u64 (f : Nat), .pointer (some ⟨g11, 0, none⟩), x12, x13, x14, x15, undef, undef, x18, x19, x20, x21, x22, x23, x24, x25, x26, x27, x28, x29, .func (.func 127) #[] #[.pointer (some ⟨N, 0, none⟩)], .int .u64 (n1 : Nat), .int .u8 (n1 : Nat), .func (.func 127) #[] #[.pointer (some ⟨N, 0, none⟩)], .int .u64 (n4 : Nat), .int .u16 (n4 : Nat), .int .u64 (f : Nat), .int .u64 (bits .and .u64 (f : Int) 32768), .bool ev, .int .u64 (f : Nat), .int .u64 (bits .and .u64 (f : Int) 16384), .bool df, .int .u64 (f : Nat), .int .u64 (bits .and .u64 (f : Int) 8192), .bool mf, .int .u64 (f : Nat), .int .u64 (o : Nat), .int .i64 (o : Nat), .func (.func 127) #[] #[.pointer (some ⟨N, 0, none⟩)], .int .u64 (n8 : Nat), .int .u8 (n8 : Nat), .func (.func 127) #[] #[.pointer (some ⟨N, 0, none⟩)], .int .u64 (n9 : Nat), .int .u8 (n9 : Nat), .func (.func 127) #[] #[.pointer (some ⟨N, 0, none⟩)], .int .u64 (n12 : Nat), .int .u32 (n12 : Nat), .func (.func 127) #[] #[.pointer (some ⟨N, 0, none⟩)], .int .u64 (n16 : Nat), .int .u32 (n16 : Nat), .slice a l.length c, .int .i64 (s : Nat), .slice ao (s - 20) (c - 20), .slice a63 n63 c63, .agg #[.int .u8 (n1 : Nat), .int .u16 (n4 : Nat), .bool ev, .bool df, .bool mf, .int .i64 (o : Nat), .int .u8 (n8 : Nat), .int .u8 (n9 : Nat), .int .u32 (n12 : Nat), .int .u32 (n16 : Nat), .slice a63 n63 c63], undef, undef, undef, undef, undef, undef], []⟩ ∧ Hid (HdAt g11 [.int .u8 (n1 : Nat), .int .u16 (n4 : Nat), .bool ev, .bool df, .bool mf, .int .i64 (o : Nat), .int .u8 (n8 : Nat), .int .u8 (n9 : Nat), .int .u32 (n12 : Nat), .int .u32 (n16 : Nat), .slice a63 n63 c63] w3) ∧ Hid (OwnB w3 wm.heap.size (.slice a63 n63 c63) O) ∧ Hid (Below w.heap.size w w3) ∧ w.heap.size ≤ g11 ∧ Hid (∀ g, (Value.slice a63 n63 c63).ownBlock = some g → g < w3.heap.size)) (by kernel_rfl) (Below.refl _ _).drew ?fin (fun hfin hHeld => ?_)
  case fin =>
    rintro A w3 ⟨x9, x12, x13, x14, x15, x18, x19, x20, x21, x22, x23, x24, x25, x26, x27, x28, x29, a63, n63, c63, g11, rfl, G1, G2, G3, hg11, GL⟩
    clear hso hso' w1' w8' w9' w4' w12' w16' hev hdf hmf hof hwo
    go_wp2_with fail
    have hr3 : HdAt wm.heap.size hz w3 := HdAt.later HR3.out G3.out
    have hbm3 : Below wm.heap.size wm w3 := HBM.out.trans (G3.out.mono HBM.out.size)
    have HR4 := Lib.hid hr3
    have hgne : g11 ≠ wm.heap.size := by have := HdAt.lt HR3.out; omega
    have hsp' := hsp
    refine wp_region_held_drew (S := fun w' => HdAt g11 [.int .u8 (n1 : Nat), .int .u16 (n4 : Nat), .bool ev, .bool df, .bool mf, .int .i64 (o : Nat), .int .u8 (n8 : Nat), .int .u8 (n9 : Nat), .int .u32 (n12 : Nat), .int .u32 (n16 : Nat), .slice a63 n63 c63] w' ∧ Below wm.heap.size wm w') (by kernel_rfl) ⟨G1.out, hbm3.drew⟩ (fun hHeld => ?_)
    obtain ⟨w0, hw0⟩ : ∃ w0, w0 = World.drew w3 := ⟨_, rfl⟩
    rw [← hw0]
    rw [← hw0] at hHeld
    have hd : Below w3.heap.size w3 w0 := by rw [hw0]; exact (Below.refl _ _).drew
    have HD3 := Lib.hid hd
    clear hw0 hd
    refine wpAnyH_take (i := 0) (v := .agg #[.int .u8 (n1 : Nat), .int .u16 (n4 : Nat), .bool ev, .bool df, .bool mf, .int .i64 (o : Nat), .int .u8 (n8 : Nat), .int .u8 (n9 : Nat), .int .u32 (n12 : Nat), .int .u32 (n16 : Nat), .slice a63 n63 c63]) rfl (by kernel_rfl) (by kernel_rfl) (by kernel_rfl) (fun _ _ _ h => h) (yieldsIf_load_mid (by rfl) 106 (.tmp 11) rfl g11 0 rfl [.int .u8 (n1 : Nat), .int .u16 (n4 : Nat), .bool ev, .bool df, .bool mf, .int .i64 (o : Nat), .int .u8 (n8 : Nat), .int .u8 (n9 : Nat), .int .u32 (n12 : Nat), .int .u32 (n16 : Nat), .slice a63 n63 c63] _ (fun w hS => HdAt.range hS.1) Try.underlying106 rfl (by kernel_rfl)) hHeld ?_
    (try simp only [Act.put, List.setIfInBounds_toArray, List.set_cons_zero, List.set_cons_succ, List.getElem_toArray, List.getElem_cons_zero])
    (refine wpAnyH_take (i := 1) (v := ?_) rfl (by kernel_rfl) (by kernel_rfl) (by kernel_rfl) (fun _ _ _ h => h) (Or.inl ⟨by rfl, ?_⟩) hHeld ?_; rotate_left; (focus (intro w hSw; (try dsimp only at hSw); go_simp; try with_reducible rfl)); (try simp only [Act.put, List.setIfInBounds_toArray, List.set_cons_zero, List.set_cons_succ, List.getElem_toArray, List.getElem_cons_zero, List.getElem_cons_succ])); (refine wpAnyH_take (i := 2) (v := ?_) rfl (by kernel_rfl) (by kernel_rfl) (by kernel_rfl) (fun _ _ _ h => h) (Or.inl ⟨by rfl, ?_⟩) hHeld ?_; rotate_left; (focus (intro w hSw; (try dsimp only at hSw); go_simp; try with_reducible rfl)); (try simp only [Act.put, List.setIfInBounds_toArray, List.set_cons_zero, List.set_cons_succ, List.getElem_toArray, List.getElem_cons_zero, List.getElem_cons_succ])); (refine wpAnyH_take (i := 3) (v := ?_) rfl (by kernel_rfl) (by kernel_rfl) (by kernel_rfl) (fun _ _ _ h => h) (Or.inl ⟨by rfl, ?_⟩) hHeld ?_; rotate_left; (focus (intro w hSw; (try dsimp only at hSw); go_simp; try with_reducible rfl)); (try simp only [Act.put, List.setIfInBounds_toArray, List.set_cons_zero, List.set_cons_succ, List.getElem_toArray, List.getElem_cons_zero, List.getElem_cons_succ])); (refine wpAnyH_take (i := 4) (v := ?_) rfl (by kernel_rfl) (by kernel_rfl) (by kernel_rfl) (fun _ _ _ h => h) (Or.inl ⟨by rfl, ?_⟩) hHeld ?_; rotate_left; (focus (intro w hSw; (try dsimp only at hSw); go_simp; try with_reducible rfl)); (try simp only [Act.put, List.setIfInBounds_toArray, List.set_cons_zero, List.set_cons_succ, List.getElem_toArray, List.getElem_cons_zero, List.getElem_cons_succ]))
    refine wpAnyH_ready (rs := [5]) (by kernel_rfl) (by simp) ?_
    refine AllReadyH.cons rfl (fun K hK => ?_) AllReadyH.nil
    go_simp
    refine (clone_any _ Pl _ (((show Bytes w _ Pl from HSP.out).later G3.out).later HD3.out) HLP.out).mono ?_
    rintro e w5 ⟨vv, rfl, ho5, hb5⟩
    obtain ⟨a70, c70, rfl⟩ := ho5.form
    obtain ⟨n70, hn70⟩ : ∃ k, k = Pl.length := ⟨_, rfl⟩
    rw [← hn70] at ho5 ⊢
    have H70 : Hid (OwnB w5 w0.heap.size (.slice a70 n70 c70) Pl) := ho5
    have hk5 : HdAt g11 [.int .u8 (n1 : Nat), .int .u16 (n4 : Nat), .bool ev, .bool df, .bool mf, .int .i64 (o : Nat), .int .u8 (n8 : Nat), .int .u8 (n9 : Nat), .int .u32 (n12 : Nat), .int .u32 (n16 : Nat), .slice a63 n63 c63] w5 ∧ Below wm.heap.size wm w5 := ⟨HdAt.later hHeld.1 hb5, hHeld.2.trans (hb5.mono hHeld.2.size)⟩
    have hr5 : HdAt wm.heap.size hz w5 := HdAt.later (HdAt.later HR4.out HD3.out) hb5
    have hu5 : OwnB w5 wm.heap.size (.slice a63 n63 c63) O := OwnB.later (OwnB.later G2.out HD3.out) hb5
    have HB5 := Lib.hid hb5
    clear ho5 hn70 hb5
    refine hK.out _ _ hk5 (fun hHeldN => ?_)
    (try simp only [Act.put, List.setIfInBounds_toArray, List.set_cons_zero, List.set_cons_succ, List.getElem_toArray, List.getElem_cons_zero, List.getElem_cons_succ])
    (clear hHeld; have hHeld := hHeldN)
    refine wpAnyH_ready (rs := [6]) (by kernel_rfl) (by simp) ?_
    refine AllReadyH.cons rfl (fun K2 hK2 => ?_) AllReadyH.nil
    have hcz : ∀ j x, hz[j]? = some x → w5.cell? ⟨wm.heap.size, j, none⟩ = some x := fun j x hx => HdAt.cell hr5 hx
    have hfz : ∀ j, w5.frozen? ⟨wm.heap.size, j, none⟩ = false := fun j => HdAt.frozen hr5 j
    have c0 := hcz 0 _ rfl
    have c1 := hcz 1 _ rfl
    have c2 := hcz 2 _ rfl
    have c3 := hcz 3 _ rfl
    have c4 := hcz 4 _ rfl
    have c5 := hcz 5 _ rfl
    have c6 := hcz 6 _ rfl
    have c7 := hcz 7 _ rfl
    have c8 := hcz 8 _ rfl
    have c9 := hcz 9 _ rfl
    have c10 := hcz 10 _ rfl
    obtain ⟨s1, s2, s3, s4⟩ := HdAt.set11 (show HdAt wm.heap.size hz w5 from hr5) (.int .u8 (n1 : Nat)) (.int .u16 (n4 : Nat)) (.bool ev) (.bool df) (.bool mf) (.int .i64 (o : Nat)) (.int .u8 (n8 : Nat)) (.int .u8 (n9 : Nat)) (.int .u32 (n12 : Nat)) (.int .u32 (n16 : Nat)) (.slice a63 n63 c63)
    have Q1 := Lib.hid s1
    have Q2 := Lib.hid (s2 _ _ _ H70.out)
    have Q3 := Lib.hid (s2 _ _ _ hu5)
    have Q4 := Lib.hid (hHeld.2.trans (s3 _ (Nat.le_refl _)))
    have Q5 := Lib.hid (s4 _ _ hgne hHeld.1)
    clear hcz s1 s2 s3 s4 hr5 hu5
    go_simp
    clear hfz c0 c1 c2 c3 c4 c5 c6 c7 c8 c9 c10
    obtain ⟨w6, hw6⟩ : ∃ w6, w6 = (((((((((((w5.setCell ⟨wm.heap.size, 0, none⟩ (.int .u8 (n1 : Nat))).setCell ⟨wm.heap.size, 1, none⟩ (.int .u16 (n4 : Nat))).setCell ⟨wm.heap.size, 2, none⟩ (.bool ev)).setCell ⟨wm.heap.size, 3, none⟩ (.bool df)).setCell ⟨wm.heap.size, 4, none⟩ (.bool mf)).setCell ⟨wm.heap.size, 5, none⟩ (.int .i64 (o : Nat))).setCell ⟨wm.heap.size, 6, none⟩ (.int .u8 (n8 : Nat))).setCell ⟨wm.heap.size, 7, none⟩ (.int .u8 (n9 : Nat))).setCell ⟨wm.heap.size, 8, none⟩ (.int .u32 (n12 : Nat))).setCell ⟨wm.heap.size, 9, none⟩ (.int .u32 (n16 : Nat))).setCell ⟨wm.heap.size, 10, none⟩ (.slice a63 n63 c63)) := ⟨_, rfl⟩
    rw [← hw6] at Q1 Q2 Q3 Q4 Q5 ⊢
    clear hw6
    refine hK2.out _ _ ⟨Q5.out, Q4.out⟩ (fun hHeldN2 => ?_)
    (try simp only [Act.put, List.setIfInBounds_toArray, List.set_cons_zero, List.set_cons_succ, List.getElem_toArray, List.getElem_cons_zero, List.getElem_cons_succ])
    (clear hHeld hHeldN; have hHeld := hHeldN2)
    (refine wpAnyH_take (i := 7) (v := ?_) rfl (by kernel_rfl) (by kernel_rfl) (by kernel_rfl) (fun _ _ _ h => h) (Or.inl ⟨by rfl, ?_⟩) hHeld ?_; rotate_left; (focus (intro w hSw; (try dsimp only at hSw); go_simp; try with_reducible rfl)); (try simp only [Act.put, List.setIfInBounds_toArray, List.set_cons_zero, List.set_cons_succ, List.getElem_toArray, List.getElem_cons_zero, List.getElem_cons_succ])); (refine wpAnyH_take (i := 8) (v := ?_) rfl (by kernel_rfl) (by kernel_rfl) (by kernel_rfl) (fun _ _ _ h => h) (Or.inl ⟨by rfl, ?_⟩) hHeld ?_; rotate_left; (focus (intro w hSw; (try dsimp only at hSw); go_simp; try with_reducible rfl)); (try simp only [Act.put, List.setIfInBounds_toArray, List.set_cons_zero, List.set_cons_succ, List.getElem_toArray, List.getElem_cons_zero, List.getElem_cons_succ]))
    refine wpAnyH_done (by kernel_rfl) ?_ _
    go_wp2_with fail
    have d0 : w6.cell? ⟨wm.heap.size, 0, none⟩ = _ := HdAt.cell Q1.out (j := 0) rfl
    have d1 := HdAt.cell Q1.out (j := 1) rfl
    have d2 := HdAt.cell Q1.out (j := 2) rfl
    have d3 := HdAt.cell Q1.out (j := 3) rfl
    have d4 := HdAt.cell Q1.out (j := 4) rfl
    have d5 := HdAt.cell Q1.out (j := 5) rfl
    have d6 := HdAt.cell Q1.out (j := 6) rfl
    have d7 := HdAt.cell Q1.out (j := 7) rfl
    have d8 := HdAt.cell Q1.out (j := 8) rfl
    have d9 := HdAt.cell Q1.out (j := 9) rfl
    have d10 := HdAt.cell Q1.out (j := 10) rfl
    refine bodyPost_ret (v := .tuple #[.agg #[.int .u8 (n1 : Nat), .int .u16 (n4 : Nat), .bool ev, .bool df, .bool mf, .int .i64 (o : Nat), .int .u8 (n8 : Nat), .int .u8 (n9 : Nat), .int .u32 (n12 : Nat), .int .u32 (n16 : Nat), .slice a63 n63 c63], .slice a70 n70 c70, .int .i64 0]) (by simp [results, Try.results75, go_sem, d0, d1, d2, d3, d4, d5, d6, d7, d8, d9, d10]) rfl ?_
    obtain ⟨e0, e1, e2, e3, e4, e5, e6, e7, e8, e9, e10, e11, e12, e13, e14⟩ := HE.out
    rw [e2, e3, e4, e5, e6, e7, e10, e11, e12, e13, e14]
    refine ⟨_, _, w0.heap.size, rfl, ?_, ?_, ?_, fun g hg => ?_, Q4.out⟩
    · rw [← e0, ← e8]; exact Q3.out
    · rw [← e0, ← e1, ← e9]; exact Q2.out
    · exact Nat.le_trans hbm3.size HD3.out.size
    · exact Nat.lt_of_lt_of_le (GL.out g hg) HD3.out.size
  · obtain ⟨w0, hw0⟩ : ∃ w0, w0 = World.drew w := ⟨_, rfl⟩
    rw [← hw0]
    (try dsimp only at hHeld)
    rw [← hw0] at hHeld
    clear hw0
    change wpAnyH _ _ _ _ _ 37 _ _ _
    refine wpAnyH_cut #[true, true, true, true, true, true, true, true, true, true, true, true, true, true, true, true, true, true, true, true, true, true, true, true, true, true, true, true, true, true, true, true, true, true, true, true, false] 1 (fun A w1 => ∃ (x9 : Value) (x12 : Value) (x13 : Value) (x14 : Value) (x15 : Value) (x18 : Value) (x19 : Value) (x20 : Value) (x21 : Value) (x22 : Value) (x23 : Value) (x24 : Value) (x25 : Value) (x26 : Value) (x27 : Value) (x28 : Value) (x29 : Value) (a63 : Option Addr) (n63 : Nat) (c63 : Nat) (g11 : Nat), A = ⟨#[.slice a l.length c, undef, .pointer (some ⟨wm.heap.size, 0, none⟩), .slice none 0 0, .int .i64 0, .int .i64 0, .int .i64 (s : Nat), .int .i64 (t : Nat), .func (.func 127) #[] #[.pointer (some ⟨N, 0, none⟩)], x9, .int .u64 (f : Nat), .pointer (some ⟨g11, 0, none⟩), x12, x13, x14, x15, undef, undef, x18, x19, x20, x21, x22, x23, x24, x25, x26, x27, x28, x29, .func (.func 127) #[] #[.pointer (some ⟨N, 0, none⟩)], .int .u64 (n1 : Nat), .int .u8 (n1 : Nat), .func (.func 127) #[] #[.pointer (some ⟨N, 0, none⟩)], .int .u64 (n4 : Nat), .int .u16 (n4 : Nat), .int .u64 (f : Nat), .int .u64 (bits .and .u64 (f : Int) 32768), .bool ev, .int .u64 (f : Nat), .int .u64 (bits .and .u64 (f : Int) 16384), .bool df, .int .u64 (f : Nat), .int .u64 (bits .and .u64 (f : Int) 8192), .bool mf, .int .u64 (f : Nat), .int .u64 (o : Nat), .int .i64 (o : Nat), .func (.func 127) #[] #[.pointer (some ⟨N, 0, none⟩)], .int .u64 (n8 : Nat), .int .u8 (n8 : Nat), .func (.func 127) #[] #[.pointer (some ⟨N, 0, none⟩)], .int .u64 (n9 : Nat), .int .u8 (n9 : Nat), .func (.func 127) #[] #[.pointer (some ⟨N, 0, none⟩)], .int .u64 (n12 : Nat), .int .u32 (n12 : Nat), .func (.func 127) #[] #[.pointer (some ⟨N, 0, none⟩)], .int .u64 (n16 : Nat), .int .u32 (n16 : Nat), .slice a l.length c, .int .i64 (s : Nat), .slice ao (s - 20) (c - 20), .slice a63 n63 c63, .agg #[.int .u8 (n1 : Nat), .int .u16 (n4 : Nat), .bool ev, .bool df, .bool mf, .int .i64 (o : Nat), .int .u8 (n8 : Nat), .int .u8 (n9 : Nat), .int .u32 (n12 : Nat), .int .u32 (n16 : Nat), .slice a63 n63 c63], undef, undef, undef, undef, undef, undef], []⟩ ∧ Hid (OwnB w1 wm.heap.size (.slice a63 n63 c63) O) ∧ Hid (HdAtG w g11 hz w1)) ?_ (fun m0 => ?_)
    · rintro l A w1 rfl ⟨x9, x12, x13, x14, x15, x18, x19, x20, x21, x22, x23, x24, x25, x26, x27, x28, x29, a63, n63, c63, g11, rfl, F63, F11⟩ hHeld
      refine wpAnyH_ready (rs := [36]) (by kernel_rfl) (by simp) ?_
      refine AllReadyH.cons rfl (fun K hK => ?_) AllReadyH.nil
      have hcz : ∀ j x, hz[j]? = some x → w1.cell? ⟨g11, j, none⟩ = some x := fun j x hx => HdAt.cell F11.out.1 hx
      have hfz : ∀ j, w1.frozen? ⟨g11, j, none⟩ = false := fun j => HdAt.frozen F11.out.1 j
      have c0 := hcz 0 _ rfl
      have c1 := hcz 1 _ rfl
      have c2 := hcz 2 _ rfl
      have c3 := hcz 3 _ rfl
      have c4 := hcz 4 _ rfl
      have c5 := hcz 5 _ rfl
      have c6 := hcz 6 _ rfl
      have c7 := hcz 7 _ rfl
      have c8 := hcz 8 _ rfl
      have c9 := hcz 9 _ rfl
      have c10 := hcz 10 _ rfl
      clear hcz
      obtain ⟨s1, s2, s3, _⟩ := HdAt.set11 (show HdAt g11 hz w1 from F11.out.1) (.int .u8 (n1 : Nat)) (.int .u16 (n4 : Nat)) (.bool ev) (.bool df) (.bool mf) (.int .i64 (o : Nat)) (.int .u8 (n8 : Nat)) (.int .u8 (n9 : Nat)) (.int .u32 (n12 : Nat)) (.int .u32 (n16 : Nat)) (.slice a63 n63 c63)
      have G1 := Lib.hid s1
      have G2 := Lib.hid (s2 _ _ _ F63.out)
      have G3 := Lib.hid (hHeld.trans (s3 _ F11.out.2))
      clear s1 s2 s3
      go_simp
      refine hK.out _ _ G3.out (fun hHeldN => ?_)
      refine wpAnyH_done (by kernel_rfl) ?_ _
      exact hfin _ _ ⟨_, _, _, _, _, _, _, _, _, _, _, _, _, _, _, _, _, _, _, _, _, rfl, G1, G2, G3, F11.out.2, own_lt G2.out⟩
    refine wpAnyH_cut #[true, true, true, true, true, true, true, true, true, true, true, true, true, true, true, true, true, true, true, true, true, true, true, true, true, true, true, true, true, true, true, true, true, true, true, false, false] 2 (fun A w1 => ∃ (x9 : Value) (x12 : Value) (x13 : Value) (x14 : Value) (x15 : Value) (x18 : Value) (x19 : Value) (x20 : Value) (x21 : Value) (x22 : Value) (x23 : Value) (x24 : Value) (x25 : Value) (x26 : Value) (x27 : Value) (x28 : Value) (x29 : Value) (a63 : Option Addr) (n63 : Nat) (c63 : Nat), A = ⟨#[.slice a l.length c, undef, .pointer (some ⟨wm.heap.size, 0, none⟩), .slice none 0 0, .int .i64 0, .int .i64 0, .int .i64 (s : Nat), .int .i64 (t : Nat), .func (.func 127) #[] #[.pointer (some ⟨N, 0, none⟩)], x9, .int .u64 (f : Nat), undef, x12, x13, x14, x15, undef, undef, x18, x19, x20, x21, x22, x23, x24, x25, x26, x27, x28, x29, .func (.func 127) #[] #[.pointer (some ⟨N, 0, none⟩)], .int .u64 (n1 : Nat), .int .u8 (n1 : Nat), .func (.func 127) #[] #[.pointer (some ⟨N, 0, none⟩)], .int .u64 (n4 : Nat), .int .u16 (n4 : Nat), .int .u64 (f : Nat), .int .u64 (bits .and .u64 (f : Int) 32768), .bool ev, .int .u64 (f : Nat), .int .u64 (bits .and .u64 (f : Int) 16384), .bool df, .int .u64 (f : Nat), .int .u64 (bits .and .u64 (f : Int) 8192), .bool mf, .int .u64 (f : Nat), .int .u64 (o : Nat), .int .i64 (o : Nat), .func (.func 127) #[] #[.pointer (some ⟨N, 0, none⟩)], .int .u64 (n8 : Nat), .int .u8 (n8 : Nat), .func (.func 127) #[] #[.pointer (some ⟨N, 0, none⟩)], .int .u64 (n9 : Nat), .int .u8 (n9 : Nat), .func (.func 127) #[] #[.pointer (some ⟨N, 0, none⟩)], .int .u64 (n12 : Nat), .int .u32 (n12 : Nat), .func (.func 127) #[] #[.pointer (some ⟨N, 0, none⟩)], .int .u64 (n16 : Nat), .int .u32 (n16 : Nat), .slice a l.length c, .int .i64 (s : Nat), .slice ao (s - 20) (c - 20), .slice a63 n63 c63, .agg #[.int .u8 (n1 : Nat), .int .u16 (n4 : Nat), .bool ev, .bool df, .bool mf, .int .i64 (o : Nat), .int .u8 (n8 : Nat), .int .u8 (n9 : Nat), .int .u32 (n12 : Nat), .int .u32 (n16 : Nat), .slice a63 n63 c63], undef, undef, undef, undef, undef, undef], []⟩ ∧ Hid (OwnB w1 wm.heap.size (.slice a63 n63 c63) O)) ?_ (fun m1 => ?_)
    · rintro l A w1 rfl ⟨x9, x12, x13, x14, x15, x18, x19, x20, x21, x22, x23, x24, x25, x26, x27, x28, x29, a63, n63, c63, rfl, F63⟩ hHeld
      refine wpAnyH_ready (rs := [35]) (by kernel_rfl) (by simp) ?_
      refine AllReadyH.cons rfl (fun K hK => ?_) AllReadyH.nil
      go_simp
      have hs : Below (World.heap w1).size w1 (w1.alloc (.cells #[.int .u8 0, .int .u16 0, .bool false, .bool false, .bool false, .int .i64 0, .int .u8 0, .int .u8 0, .int .u32 0, .int .u32 0, .slice none 0 0] 106)) := (Below.refl _ _).alloc (Nat.le_refl _) _
      have hF : Hid (HdAtG w (World.heap w1).size hz (w1.alloc (.cells #[.int .u8 0, .int .u16 0, .bool false, .bool false, .bool false, .int .i64 0, .int .u8 0, .int .u8 0, .int .u32 0, .int .u32 0, .slice none 0 0] 106))) := ⟨HdAt.new w1 hz, hHeld.size⟩
      refine hK.out _ _ (hHeld.trans (hs.mono hHeld.size)) (fun hHeldN => ?_)
      exact m0 _ _ _ (by kernel_rfl) ⟨_, _, _, _, _, _, _, _, _, _, _, _, _, _, _, _, _, _, _, _, _, rfl, Lib.hid (F63.out.later hs), hF⟩ hHeldN
    refine wpAnyH_cut #[true, true, true, true, true, true, true, true, true, true, true, true, true, true, true, true, true, true, true, true, true, true, true, true, true, true, true, true, true, true, true, true, true, false, false, true, false] 3 (fun A w1 => ∃ (x9 : Value) (x12 : Value) (x13 : Value) (x14 : Value) (x15 : Value) (x18 : Value) (x19 : Value) (x20 : Value) (x21 : Value) (x22 : Value) (x23 : Value) (x24 : Value) (x25 : Value) (x26 : Value) (x27 : Value) (x28 : Value) (x29 : Value) (g11 : Nat), A = ⟨#[.slice a l.length c, undef, .pointer (some ⟨wm.heap.size, 0, none⟩), .slice none 0 0, .int .i64 0, .int .i64 0, .int .i64 (s : Nat), .int .i64 (t : Nat), .func (.func 127) #[] #[.pointer (some ⟨N, 0, none⟩)], x9, .int .u64 (f : Nat), .pointer (some ⟨g11, 0, none⟩), x12, x13, x14, x15, undef, undef, x18, x19, x20, x21, x22, x23, x24, x25, x26, x27, x28, x29, .func (.func 127) #[] #[.pointer (some ⟨N, 0, none⟩)], .int .u64 (n1 : Nat), .int .u8 (n1 : Nat), .func (.func 127) #[] #[.pointer (some ⟨N, 0, none⟩)], .int .u64 (n4 : Nat), .int .u16 (n4 : Nat), .int .u64 (f : Nat), .int .u64 (bits .and .u64 (f : Int) 32768), .bool ev, .int .u64 (f : Nat), .int .u64 (bits .and .u64 (f : Int) 16384), .bool df, .int .u64 (f : Nat), .int .u64 (bits .and .u64 (f : Int) 8192), .bool mf, .int .u64 (f : Nat), .int .u64 (o : Nat), .int .i64 (o : Nat), .func (.func 127) #[] #[.pointer (some ⟨N, 0, none⟩)], .int .u64 (n8 : Nat), .int .u8 (n8 : Nat), .func (.func 127) #[] #[.pointer (some ⟨N, 0, none⟩)], .int .u64 (n9 : Nat), .int .u8 (n9 : Nat), .func (.func 127) #[] #[.pointer (some ⟨N, 0, none⟩)], .int .u64 (n12 : Nat), .int .u32 (n12 : Nat), .func (.func 127) #[] #[.pointer (some ⟨N, 0, none⟩)], .int .u64 (n16 : Nat), .int .u32 (n16 : Nat), .slice a l.length c, .int .i64 (s : Nat), .slice ao (s - 20) (c - 20), undef, undef, undef, undef, undef, undef, undef, undef], []⟩ ∧ Hid (HdAtG w g11 hz w1)) ?_ (fun m2 => ?_)
    · rintro l A w1 rfl ⟨x9, x12, x13, x14, x15, x18, x19, x20, x21, x22, x23, x24, x25, x26, x27, x28, x29, g11, rfl, F11⟩ hHeld
      refine wpAnyH_ready (rs := [33]) (by kernel_rfl) (by simp) ?_
      refine AllReadyH.cons rfl (fun K hK => ?_) AllReadyH.nil
      go_simp
      refine (clone_any _ O _ ((show Bytes w _ O from HSO.out).later hHeld) HLO.out).mono ?_
      rintro e w_n ⟨vv, rfl, ho, hs⟩
      obtain ⟨a63, c63, rfl⟩ := ho.form
      obtain ⟨n63, hn63⟩ : ∃ k, k = O.length := ⟨_, rfl⟩
      rw [← hn63] at ho ⊢
      have hF : Hid (OwnB w_n wm.heap.size (.slice a63 n63 c63) O) := OwnB.weak (show OwnB w_n _ _ O from ho) (Nat.le_trans HBM.out.size hHeld.size)
      clear ho hn63
      simp only []
      refine hK.out _ _ (hHeld.trans (hs.mono hHeld.size)) (fun hHeldN => ?_)
      try simp only [Act.put, List.setIfInBounds_toArray, List.set_cons_zero, List.set_cons_succ, List.getElem_toArray, List.getElem_cons_zero, List.getElem_cons_succ]
      (have hHeldO := hHeld; clear hHeld; have hHeld := hHeldN)
      (refine wpAnyH_take (i := 34) (v := ?_) rfl (by kernel_rfl) (by kernel_rfl) (by kernel_rfl) (fun _ _ _ h => h) (Or.inl ⟨by rfl, ?_⟩) hHeld ?_; rotate_left; (focus (intro w hSw; (try dsimp only at hSw); go_simp; try with_reducible rfl)); (try simp only [Act.put, List.setIfInBounds_toArray, List.set_cons_zero, List.set_cons_succ, List.getElem_toArray, List.getElem_cons_zero, List.getElem_cons_succ]))
      exact m0 _ _ _ (by kernel_rfl) ⟨_, _, _, _, _, _, _, _, _, _, _, _, _, _, _, _, _, _, _, _, _, rfl, hF, Lib.hid (F11.out.later hs)⟩ hHeldN
    refine wpAnyH_cut #[true, true, true, true, true, true, true, true, true, true, true, true, true, true, true, true, true, true, true, true, true, true, true, true, true, true, true, true, true, true, true, true, true, false, false, false, false] 4 (fun A w1 => ∃ (x9 : Value) (x12 : Value) (x13 : Value) (x14 : Value) (x15 : Value) (x18 : Value) (x19 : Value) (x20 : Value) (x21 : Value) (x22 : Value) (x23 : Value) (x24 : Value) (x25 : Value) (x26 : Value) (x27 : Value) (x28 : Value) (x29 : Value), A = ⟨#[.slice a l.length c, undef, .pointer (some ⟨wm.heap.size, 0, none⟩), .slice none 0 0, .int .i64 0, .int .i64 0, .int .i64 (s : Nat), .int .i64 (t : Nat), .func (.func 127) #[] #[.pointer (some ⟨N, 0, none⟩)], x9, .int .u64 (f : Nat), undef, x12, x13, x14, x15, undef, undef, x18, x19, x20, x21, x22, x23, x24, x25, x26, x27, x28, x29, .func (.func 127) #[] #[.pointer (some ⟨N, 0, none⟩)], .int .u64 (n1 : Nat), .int .u8 (n1 : Nat), .func (.func 127) #[] #[.pointer (some ⟨N, 0, none⟩)], .int .u64 (n4 : Nat), .int .u16 (n4 : Nat), .int .u64 (f : Nat), .int .u64 (bits .and .u64 (f : Int) 32768), .bool ev, .int .u64 (f : Nat), .int .u64 (bits .and .u64 (f : Int) 16384), .bool df, .int .u64 (f : Nat), .int .u64 (bits .and .u64 (f : Int) 8192), .bool mf, .int .u64 (f : Nat), .int .u64 (o : Nat), .int .i64 (o : Nat), .func (.func 127) #[] #[.pointer (some ⟨N, 0, none⟩)], .int .u64 (n8 : Nat), .int .u8 (n8 : Nat), .func (.func 127) #[] #[.pointer (some ⟨N, 0, none⟩)], .int .u64 (n9 : Nat), .int .u8 (n9 : Nat), .func (.func 127) #[] #[.pointer (some ⟨N, 0, none⟩)], .int .u64 (n12 : Nat), .int .u32 (n12 : Nat), .func (.func 127) #[] #[.pointer (some ⟨N, 0, none⟩)], .int .u64 (n16 : Nat), .int .u32 (n16 : Nat), .slice a l.length c, .int .i64 (s : Nat), .slice ao (s - 20) (c - 20), undef, undef, undef, undef, undef, undef, undef, undef], []⟩) ?_ (fun m3 => ?_)
    · rintro l A w1 rfl ⟨x9, x12, x13, x14, x15, x18, x19, x20, x21, x22, x23, x24, x25, x26, x27, x28, x29, rfl⟩ hHeld
      refine wpAnyH_ready (rs := [33, 35]) (by kernel_rfl) (by simp) ?_
      refine AllReadyH.cons rfl (fun K hK => ?_) (AllReadyH.cons rfl (fun K hK => ?_) AllReadyH.nil)
      · go_simp
        refine (clone_any _ O _ ((show Bytes w _ O from HSO.out).later hHeld) HLO.out).mono ?_
        rintro e w_n ⟨vv, rfl, ho, hs⟩
        obtain ⟨a63, c63, rfl⟩ := ho.form
        obtain ⟨n63, hn63⟩ : ∃ k, k = O.length := ⟨_, rfl⟩
        rw [← hn63] at ho ⊢
        have hF : Hid (OwnB w_n wm.heap.size (.slice a63 n63 c63) O) := OwnB.weak (show OwnB w_n _ _ O from ho) (Nat.le_trans HBM.out.size hHeld.size)
        clear ho hn63
        simp only []
        refine hK.out _ _ (hHeld.trans (hs.mono hHeld.size)) (fun hHeldN => ?_)
        try simp only [Act.put, List.setIfInBounds_toArray, List.set_cons_zero, List.set_cons_succ, List.getElem_toArray, List.getElem_cons_zero, List.getElem_cons_succ]
        (have hHeldO := hHeld; clear hHeld; have hHeld := hHeldN)
        (refine wpAnyH_take (i := 34) (v := ?_) rfl (by kernel_rfl) (by kernel_rfl) (by kernel_rfl) (fun _ _ _ h => h) (Or.inl ⟨by rfl, ?_⟩) hHeld ?_; rotate_left; (focus (intro w hSw; (try dsimp only at hSw); go_simp; try with_reducible rfl)); (try simp only [Act.put, List.setIfInBounds_toArray, List.set_cons_zero, List.set_cons_succ, List.getElem_toArray, List.getElem_cons_zero, List.getElem_cons_succ]))
        exact m1 _ _ _ (by kernel_rfl) ⟨_, _, _, _, _, _, _, _, _, _, _, _, _, _, _, _, _, _, _, _, rfl, hF⟩ hHeldN
      · go_simp
        have hs : Below (World.heap w1).size w1 (w1.alloc (.cells #[.int .u8 0, .int .u16 0, .bool false, .bool false, .bool false, .int .i64 0, .int .u8 0, .int .u8 0, .int .u32 0, .int .u32 0, .slice none 0 0] 106)) := (Below.refl _ _).alloc (Nat.le_refl _) _
        have hF : Hid (HdAtG w (World.heap w1).size hz (w1.alloc (.cells #[.int .u8 0, .int .u16 0, .bool false, .bool false, .bool false, .int .i64 0, .int .u8 0, .int .u8 0, .int .u32 0, .int .u32 0, .slice none 0 0] 106))) := ⟨HdAt.new w1 hz, hHeld.size⟩
        refine hK.out _ _ (hHeld.trans (hs.mono hHeld.size)) (fun hHeldN => ?_)
        exact m2 _ _ _ (by kernel_rfl) ⟨_, _, _, _, _, _, _, _, _, _, _, _, _, _, _, _, _, _, rfl, hF⟩ hHeldN
    refine wpAnyH_cut #[true, true, true, true, true, true, true, true, true, true, true, true, true, true, true, true, true, true, true, true, true, true, true, true, true, true, true, true, false, false, true, true, true, false, false, true, false] 5 (fun A w1 => ∃ (x9 : Value) (x12 : Value) (x13 : Value) (x14 : Value) (x15 : Value) (x18 : Value) (x19 : Value) (x20 : Value) (x21 : Value) (x22 : Value) (x23 : Value) (x24 : Value) (x25 : Value) (x26 : Value) (x27 : Value) (x28 : Value) (x29 : Value) (g11 : Nat), A = ⟨#[.slice a l.length c, undef, .pointer (some ⟨wm.heap.size, 0, none⟩), .slice none 0 0, .int .i64 0, .int .i64 0, .int .i64 (s : Nat), .int .i64 (t : Nat), .func (.func 127) #[] #[.pointer (some ⟨N, 0, none⟩)], x9, .int .u64 (f : Nat), .pointer (some ⟨g11, 0, none⟩), x12, x13, x14, x15, undef, undef, x18, x19, x20, x21, x22, x23, x24, x25, x26, x27, x28, x29, .func (.func 127) #[] #[.pointer (some ⟨N, 0, none⟩)], .int .u64 (n1 : Nat), .int .u8 (n1 : Nat), .func (.func 127) #[] #[.pointer (some ⟨N, 0, none⟩)], .int .u64 (n4 : Nat), .int .u16 (n4 : Nat), .int .u64 (f : Nat), .int .u64 (bits .and .u64 (f : Int) 32768), .bool ev, .int .u64 (f : Nat), .int .u64 (bits .and .u64 (f : Int) 16384), .bool df, .int .u64 (f : Nat), .int .u64 (bits .and .u64 (f : Int) 8192), .bool mf, .int .u64 (f : Nat), .int .u64 (o : Nat), .int .i64 (o : Nat), .func (.func 127) #[] #[.pointer (some ⟨N, 0, none⟩)], .int .u64 (n8 : Nat), .int .u8 (n8 : Nat), .func (.func 127) #[] #[.pointer (some ⟨N, 0, none⟩)], .int .u64 (n9 : Nat), .int .u8 (n9 : Nat), .func (.func 127) #[] #[.pointer (some ⟨N, 0, none⟩)], .int .u64 (n12 : Nat), .int .u32 (n12 : Nat), .func (.func 127) #[] #[.pointer (some ⟨N, 0, none⟩)], undef, undef, .slice a l.length c, .int .i64 (s : Nat), .slice ao (s - 20) (c - 20), undef, undef, undef, undef, undef, undef, undef, undef], []⟩ ∧ Hid (HdAtG w g11 hz w1)) ?_ (fun m4 => ?_)
    · rintro l A w1 rfl ⟨x9, x12, x13, x14, x15, x18, x19, x20, x21, x22, x23, x24, x25, x26, x27, x28, x29, g11, rfl, F11⟩ hHeld
      refine wpAnyH_ready (rs := [28]) (by kernel_rfl) (by simp) ?_
      refine AllReadyH.cons rfl (fun K hK => ?_) AllReadyH.nil
      go_simp
      refine (HG16.out _ hHeld).mono ?_
      rintro e w_n ⟨rfl, rfl⟩
      simp only []
      have hs : Below (World.heap w1).size w1 w1 := Below.refl _ _
      refine hK.out _ _ (hHeld.trans (hs.mono hHeld.size)) (fun hHeldN => ?_)
      try simp only [Act.put, List.setIfInBounds_toArray, List.set_cons_zero, List.set_cons_succ, List.getElem_toArray, List.getElem_cons_zero, List.getElem_cons_succ]
      (have hHeldO := hHeld; clear hHeld; have hHeld := hHeldN)
      (refine wpAnyH_take (i := 29) (v := ?_) rfl (by kernel_rfl) (by kernel_rfl) (by kernel_rfl) (fun _ _ _ h => h) (Or.inl ⟨by rfl, ?_⟩) hHeld ?_; rotate_left; (focus (intro w hSw; (try dsimp only at hSw); go_simp; try with_reducible rfl)); (try simp only [Act.put, List.setIfInBounds_toArray, List.set_cons_zero, List.set_cons_succ, List.getElem_toArray, List.getElem_cons_zero, List.getElem_cons_succ]))
      exact m2 _ _ _ (by kernel_rfl) ⟨_, _, _, _, _, _, _, _, _, _, _, _, _, _, _, _, _, _, rfl, Lib.hid (F11.out.later hs)⟩ hHeldN
    refine wpAnyH_cut #[true, true, true, true, true, true, true, true, true, true, true, true, true, true, true, true, true, true, true, true, true, true, true, true, true, true, true, true, false, false, true, true, true, false, false, false, false] 6 (fun A w1 => ∃ (x9 : Value) (x12 : Value) (x13 : Value) (x14 : Value) (x15 : Value) (x18 : Value) (x19 : Value) (x20 : Value) (x21 : Value) (x22 : Value) (x23 : Value) (x24 : Value) (x25 : Value) (x26 : Value) (x27 : Value) (x28 : Value) (x29 : Value), A = ⟨#[.slice a l.length c, undef, .pointer (some ⟨wm.heap.size, 0, none⟩), .slice none 0 0, .int .i64 0, .int .i64 0, .int .i64 (s : Nat), .int .i64 (t : Nat), .func (.func 127) #[] #[.pointer (some ⟨N, 0, none⟩)], x9, .int .u64 (f : Nat), undef, x12, x13, x14, x15, undef, undef, x18, x19, x20, x21, x22, x23, x24, x25, x26, x27, x28, x29, .func (.func 127) #[] #[.pointer (some ⟨N, 0, none⟩)], .int .u64 (n1 : Nat), .int .u8 (n1 : Nat), .func (.func 127) #[] #[.pointer (some ⟨N, 0, none⟩)], .int .u64 (n4 : Nat), .int .u16 (n4 : Nat), .int .u64 (f : Nat), .int .u64 (bits .and .u64 (f : Int) 32768), .bool ev, .int .u64 (f : Nat), .int .u64 (bits .and .u64 (f : Int) 16384), .bool df, .int .u64 (f : Nat), .int .u64 (bits .and .u64 (f : Int) 8192), .bool mf, .int .u64 (f : Nat), .int .u64 (o : Nat), .int .i64 (o : Nat), .func (.func 127) #[] #[.pointer (some ⟨N, 0, none⟩)], .int .u64 (n8 : Nat), .int .u8 (n8 : Nat), .func (.func 127) #[] #[.pointer (some ⟨N, 0, none⟩)], .int .u64 (n9 : Nat), .int .u8 (n9 : Nat), .func (.func 127) #[] #[.pointer (some ⟨N, 0, none⟩)], .int .u64 (n12 : Nat), .int .u32 (n12 : Nat), .func (.func 127) #[] #[.pointer (some ⟨N, 0, none⟩)], undef, undef, .slice a l.length c, .int .i64 (s : Nat), .slice ao (s - 20) (c - 20), undef, undef, undef, undef, undef, undef, undef, undef], []⟩) ?_ (fun m5 => ?_)
    · rintro l A w1 rfl ⟨x9, x12, x13, x14, x15, x18, x19, x20, x21, x22, x23, x24, x25, x26, x27, x28, x29, rfl⟩ hHeld
      refine wpAnyH_ready (rs := [28, 35]) (by kernel_rfl) (by simp) ?_
      refine AllReadyH.cons rfl (fun K hK => ?_) (AllReadyH.cons rfl (fun K hK => ?_) AllReadyH.nil)
      · go_simp
        refine (HG16.out _ hHeld).mono ?_
        rintro e w_n ⟨rfl, rfl⟩
        simp only []
        have hs : Below (World.heap w1).size w1 w1 := Below.refl _ _
        refine hK.out _ _ (hHeld.trans (hs.mono hHeld.size)) (fun hHeldN => ?_)
        try simp only [Act.put, List.setIfInBounds_toArray, List.set_cons_zero, List.set_cons_succ, List.getElem_toArray, List.getElem_cons_zero, List.getElem_cons_succ]
        (have hHeldO := hHeld; clear hHeld; have hHeld := hHeldN)
        (refine wpAnyH_take (i := 29) (v := ?_) rfl (by kernel_rfl) (by kernel_rfl) (by kernel_rfl) (fun _ _ _ h => h) (Or.inl ⟨by rfl, ?_⟩) hHeld ?_; rotate_left; (focus (intro w hSw; (try dsimp only at hSw); go_simp; try with_reducible rfl)); (try simp only [Act.put, List.setIfInBounds_toArray, List.set_cons_zero, List.set_cons_succ, List.getElem_toArray, List.getElem_cons_zero, List.getElem_cons_succ]))
        exact m3 _ _ _ (by kernel_rfl) ⟨_, _, _, _, _, _, _, _, _, _, _, _, _, _, _, _, _, rfl⟩ hHeldN
      · go_simp
        have hs : Below (World.heap w1).size w1 (w1.alloc (.cells #[.int .u8 0, .int .u16 0, .bool false, .bool false, .bool false, .int .i64 0, .int .u8 0, .int .u8 0, .int .u32 0, .int .u32 0, .slice none 0 0] 106)) := (Below.refl _ _).alloc (Nat.le_refl _) _
        have hF : Hid (HdAtG w (World.heap w1).size hz (w1.alloc (.cells #[.int .u8 0, .int .u16 0, .bool false, .bool false, .bool false, .int .i64 0, .int .u8 0, .int .u8 0, .int .u32 0, .int .u32 0, .slice none 0 0] 106))) := ⟨HdAt.new w1 hz, hHeld.size⟩
        refine hK.out _ _ (hHeld.trans (hs.mono hHeld.size)) (fun hHeldN => ?_)
        exact m4 _ _ _ (by kernel_rfl) ⟨_, _, _, _, _, _, _, _, _, _, _, _, _, _, _, _, _, _, rfl, hF⟩ hHeldN
    refine wpAnyH_cut #[true, true, true, true, true, true, true, true, true, true, true, true, true, true, true, true, true, true, true, true, true, true, true, true, true, false, false, true, false, false, true, true, true, false, false, true, false] 7 (fun A w1 => ∃ (x9 : Value) (x12 : Value) (x13 : Value) (x14 : Value) (x15 : Value) (x18 : Value) (x19 : Value) (x20 : Value) (x21 : Value) (x22 : Value) (x23 : Value) (x24 : Value) (x25 : Value) (x26 : Value) (x27 : Value) (x28 : Value) (x29 : Value) (g11 : Nat), A = ⟨#[.slice a l.length c, undef, .pointer (some ⟨wm.heap.size, 0, none⟩), .slice none 0 0, .int .i64 0, .int .i64 0, .int .i64 (s : Nat), .int .i64 (t : Nat), .func (.func 127) #[] #[.pointer (some ⟨N, 0, none⟩)], x9, .int .u64 (f : Nat), .pointer (some ⟨g11, 0, none⟩), x12, x13, x14, x15, undef, undef, x18, x19, x20, x21, x22, x23, x24, x25, x26, x27, x28, x29, .func (.func 127) #[] #[.pointer (some ⟨N, 0, none⟩)], .int .u64 (n1 : Nat), .int .u8 (n1 : Nat), .func (.func 127) #[] #[.pointer (some ⟨N, 0, none⟩)], .int .u64 (n4 : Nat), .int .u16 (n4 : Nat), .int .u64 (f : Nat), .int .u64 (bits .and .u64 (f : Int) 32768), .bool ev, .int .u64 (f : Nat), .int .u64 (bits .and .u64 (f : Int) 16384), .bool df, .int .u64 (f : Nat), .int .u64 (bits .and .u64 (f : Int) 8192), .bool mf, .int .u64 (f : Nat), .int .u64 (o : Nat), .int .i64 (o : Nat), .func (.func 127) #[] #[.pointer (some ⟨N, 0, none⟩)], .int .u64 (n8 : Nat), .int .u8 (n8 : Nat), .func (.func 127) #[] #[.pointer (some ⟨N, 0, none⟩)], .int .u64 (n9 : Nat), .int .u8 (n9 : Nat), .func (.func 127) #[] #[.pointer (some ⟨N, 0, none⟩)], undef, undef, .func (.func 127) #[] #[.pointer (some ⟨N, 0, none⟩)], undef, undef, .slice a l.length c, .int .i64 (s : Nat), .slice ao (s - 20) (c - 20), undef, undef, undef, undef, undef, undef, undef, undef], []⟩ ∧ Hid (HdAtG w g11 hz w1)) ?_ (fun m6 => ?_)
    · rintro l A w1 rfl ⟨x9, x12, x13, x14, x15, x18, x19, x20, x21, x22, x23, x24, x25, x26, x27, x28, x29, g11, rfl, F11⟩ hHeld
      refine wpAnyH_ready (rs := [25]) (by kernel_rfl) (by simp) ?_
      refine AllReadyH.cons rfl (fun K hK => ?_) AllReadyH.nil
      go_simp
      refine (HG12.out _ hHeld).mono ?_
      rintro e w_n ⟨rfl, rfl⟩
      simp only []
      have hs : Below (World.heap w1).size w1 w1 := Below.refl _ _
      refine hK.out _ _ (hHeld.trans (hs.mono hHeld.size)) (fun hHeldN => ?_)
      try simp only [Act.put, List.setIfInBounds_toArray, List.set_cons_zero, List.set_cons_succ, List.getElem_toArray, List.getElem_cons_zero, List.getElem_cons_succ]
      (have hHeldO := hHeld; clear hHeld; have hHeld := hHeldN)
      (refine wpAnyH_take (i := 26) (v := ?_) rfl (by kernel_rfl) (by kernel_rfl) (by kernel_rfl) (fun _ _ _ h => h) (Or.inl ⟨by rfl, ?_⟩) hHeld ?_; rotate_left; (focus (intro w hSw; (try dsimp only at hSw); go_simp; try with_reducible rfl)); (try simp only [Act.put, List.setIfInBounds_toArray, List.set_cons_zero, List.set_cons_succ, List.getElem_toArray, List.getElem_cons_zero, List.getElem_cons_succ]))
      exact m4 _ _ _ (by kernel_rfl) ⟨_, _, _, _, _, _, _, _, _, _, _, _, _, _, _, _, _, _, rfl, Lib.hid (F11.out.later hs)⟩ hHeldN
    refine wpAnyH_cut #[true, true, true, true, true, true, true, true, true, true, true, true, true, true, true, true, true, true, true, true, true, true, true, true, true, false, false, true, false, false, true, true, true, false, false, false, false] 8 (fun A w1 => ∃ (x9 : Value) (x12 : Value) (x13 : Value) (x14 : Value) (x15 : Value) (x18 : Value) (x19 : Value) (x20 : Value) (x21 : Value) (x22 : Value) (x23 : Value) (x24 : Value) (x25 : Value) (x26 : Value) (x27 : Value) (x28 : Value) (x29 : Value), A = ⟨#[.slice a l.length c, undef, .pointer (some ⟨wm.heap.size, 0, none⟩), .slice none 0 0, .int .i64 0, .int .i64 0, .int .i64 (s : Nat), .int .i64 (t : Nat), .func (.func 127) #[] #[.pointer (some ⟨N, 0, none⟩)], x9, .int .u64 (f : Nat), undef, x12, x13, x14, x15, undef, undef, x18, x19, x20, x21, x22, x23, x24, x25, x26, x27, x28, x29, .func (.func 127) #[] #[.pointer (some ⟨N, 0, none⟩)], .int .u64 (n1 : Nat), .int .u8 (n1 : Nat), .func (.func 127) #[] #[.pointer (some ⟨N, 0, none⟩)], .int .u64 (n4 : Nat), .int .u16 (n4 : Nat), .int .u64 (f : Nat), .int .u64 (bits .and .u64 (f : Int) 32768), .bool ev, .int .u64 (f : Nat), .int .u64 (bits .and .u64 (f : Int) 16384), .bool df, .int .u64 (f : Nat), .int .u64 (bits .and .u64 (f : Int) 8192), .bool mf, .int .u64 (f : Nat), .int .u64 (o : Nat), .int .i64 (o : Nat), .func (.func 127) #[] #[.pointer (some ⟨N, 0, none⟩)], .int .u64 (n8 : Nat), .int .u8 (n8 : Nat), .func (.func 127) #[] #[.pointer (some ⟨N, 0, none⟩)], .int .u64 (n9 : Nat), .int .u8 (n9 : Nat), .func (.func 127) #[] #[.pointer (some ⟨N, 0, none⟩)], undef, undef, .func (.func 127) #[] #[.pointer (some ⟨N, 0, none⟩)], undef, undef, .slice a l.length c, .int .i64 (s : Nat), .slice ao (s - 20) (c - 20), undef, undef, undef, undef, undef, undef, undef, undef], []⟩) ?_ (fun m7 => ?_)
    · rintro l A w1 rfl ⟨x9, x12, x13, x14, x15, x18, x19, x20, x21, x22, x23, x24, x25, x26, x27, x28, x29, rfl⟩ hHeld
      refine wpAnyH_ready (rs := [25, 35]) (by kernel_rfl) (by simp) ?_
      refine AllReadyH.cons rfl (fun K hK => ?_) (AllReadyH.cons rfl (fun K hK => ?_) AllReadyH.nil)
      · go_simp
        refine (HG12.out _ hHeld).mono ?_
        rintro e w_n ⟨rfl, rfl⟩
        simp only []
        have hs : Below (World.heap w1).size w1 w1 := Below.refl _ _
        refine hK.out _ _ (hHeld.trans (hs.mono hHeld.size)) (fun hHeldN => ?_)
        try simp only [Act.put, List.setIfInBounds_toArray, List.set_cons_zero, List.set_cons_succ, List.getElem_toArray, List.getElem_cons_zero, List.getElem_cons_succ]
        (have hHeldO := hHeld; clear hHeld; have hHeld := hHeldN)
        (refine wpAnyH_take (i := 26) (v := ?_) rfl (by kernel_rfl) (by kernel_rfl) (by kernel_rfl) (fun _ _ _ h => h) (Or.inl ⟨by rfl, ?_⟩) hHeld ?_; rotate_left; (focus (intro w hSw; (try dsimp only at hSw); go_simp; try with_reducible rfl)); (try simp only [Act.put, List.setIfInBounds_toArray, List.set_cons_zero, List.set_cons_succ, List.getElem_toArray, List.getElem_cons_zero, List.getElem_cons_succ]))
        exact m5 _ _ _ (by kernel_rfl) ⟨_, _, _, _, _, _, _, _, _, _, _, _, _, _, _, _, _, rfl⟩ hHeldN
      · go_simp
        have hs : Below (World.heap w1).size w1 (w1.alloc (.cells #[.int .u8 0, .int .u16 0, .bool false, .bool false, .bool false, .int .i64 0, .int .u8 0, .int .u8 0, .int .u32 0, .int .u32 0, .slice none 0 0] 106)) := (Below.refl _ _).alloc (Nat.le_refl _) _
        have hF : Hid (HdAtG w (World.heap w1).size hz (w1.alloc (.cells #[.int .u8 0, .int .u16 0, .bool false, .bool false, .bool false, .int .i64 0, .int .u8 0, .int .u8 0, .int .u32 0, .int .u32 0, .slice none 0 0] 106))) := ⟨HdAt.new w1 hz, hHeld.size⟩
        refine hK.out _ _ (hHeld.trans (hs.mono hHeld.size)) (fun hHeldN => ?_)
        exact m6 _ _ _ (by kernel_rfl) ⟨_, _, _, _, _, _, _, _, _, _, _, _, _, _, _, _, _, _, rfl, hF⟩ hHeldN
    refine wpAnyH_cut #[true, true, true, true, true, true, true, true, true, true, true, true, true, true, true, true, true, true, true, true, true, true, false, false, true, false, false, true, false, false, true, true, true, false, false, true, false] 9 (fun A w1 => ∃ (x9 : Value) (x12 : Value) (x13 : Value) (x14 : Value) (x15 : Value) (x18 : Value) (x19 : Value) (x20 : Value) (x21 : Value) (x22 : Value) (x23 : Value) (x24 : Value) (x25 : Value) (x26 : Value) (x27 : Value) (x28 : Value) (x29 : Value) (g11 : Nat), A = ⟨#[.slice a l.length c, undef, .pointer (some ⟨wm.heap.size, 0, none⟩), .slice none 0 0, .int .i64 0, .int .i64 0, .int .i64 (s : Nat), .int .i64 (t : Nat), .func (.func 127) #[] #[.pointer (some ⟨N, 0, none⟩)], x9, .int .u64 (f : Nat), .pointer (some ⟨g11, 0, none⟩), x12, x13, x14, x15, undef, undef, x18, x19, x20, x21, x22, x23, x24, x25, x26, x27, x28, x29, .func (.func 127) #[] #[.pointer (some ⟨N, 0, none⟩)], .int .u64 (n1 : Nat), .int .u8 (n1 : Nat), .func (.func 127) #[] #[.pointer (some ⟨N, 0, none⟩)], .int .u64 (n4 : Nat), .int .u16 (n4 : Nat), .int .u64 (f : Nat), .int .u64 (bits .and .u64 (f : Int) 32768), .bool ev, .int .u64 (f : Nat), .int .u64 (bits .and .u64 (f : Int) 16384), .bool df, .int .u64 (f : Nat), .int .u64 (bits .and .u64 (f : Int) 8192), .bool mf, .int .u64 (f : Nat), .int .u64 (o : Nat), .int .i64 (o : Nat), .func (.func 127) #[] #[.pointer (some ⟨N, 0, none⟩)], .int .u64 (n8 : Nat), .int .u8 (n8 : Nat), .func (.func 127) #[] #[.pointer (some ⟨N, 0, none⟩)], undef, undef, .func (.func 127) #[] #[.pointer (some ⟨N, 0, none⟩)], undef, undef, .func (.func 127) #[] #[.pointer (some ⟨N, 0, none⟩)], undef, undef, .slice a l.length c, .int .i64 (s : Nat), .slice ao (s - 20) (c - 20), undef, undef, undef, undef, undef, undef, undef, undef], []⟩ ∧ Hid (HdAtG w g11 hz w1)) ?_ (fun m8 => ?_)
    · rintro l A w1 rfl ⟨x9, x12, x13, x14, x15, x18, x19, x20, x21, x22, x23, x24, x25, x26, x27, x28, x29, g11, rfl, F11⟩ hHeld
      refine wpAnyH_ready (rs := [22]) (by kernel_rfl) (by simp) ?_
      refine AllReadyH.cons rfl (fun K hK => ?_) AllReadyH.nil
      go_simp
      refine (HG9.out _ hHeld).mono ?_
      rintro e w_n ⟨rfl, rfl⟩
      simp only []
      have hs : Below (World.heap w1).size w1 w1 := Below.refl _ _
      refine hK.out _ _ (hHeld.trans (hs.mono hHeld.size)) (fun hHeldN => ?_)
      try simp only [Act.put, List.setIfInBounds_toArray, List.set_cons_zero, List.set_cons_succ, List.getElem_toArray, List.getElem_cons_zero, List.getElem_cons_succ]
      (have hHeldO := hHeld; clear hHeld; have hHeld := hHeldN)
      (refine wpAnyH_take (i := 23) (v := ?_) rfl (by kernel_rfl) (by kernel_rfl) (by kernel_rfl) (fun _ _ _ h => h) (Or.inl ⟨by rfl, ?_⟩) hHeld ?_; rotate_left; (focus (intro w hSw; (try dsimp only at hSw); go_simp; try with_reducible rfl)); (try simp only [Act.put, List.setIfInBounds_toArray, List.set_cons_zero, List.set_cons_succ, List.getElem_toArray, List.getElem_cons_zero, List.getElem_cons_succ]))
      exact m6 _ _ _ (by kernel_rfl) ⟨_, _, _, _, _, _, _, _, _, _, _, _, _, _, _, _, _, _, rfl, Lib.hid (F11.out.later hs)⟩ hHeldN
    refine wpAnyH_cut #[true, true, true, true, true, true, true, true, true, true, true, true, true, true, true, true, true, true, true, true, true, true, false, false, true, false, false, true, false, false, true, true, true, false, false, false, false] 10 (fun A w1 => ∃ (x9 : Value) (x12 : Value) (x13 : Value) (x14 : Value) (x15 : Value) (x18 : Value) (x19 : Value) (x20 : Value) (x21 : Value) (x22 : Value) (x23 : Value) (x24 : Value) (x25 : Value) (x26 : Value) (x27 : Value) (x28 : Value) (x29 : Value), A = ⟨#[.slice a l.length c, undef, .pointer (some ⟨wm.heap.size, 0, none⟩), .slice none 0 0, .int .i64 0, .int .i64 0, .int .i64 (s : Nat), .int .i64 (t : Nat), .func (.func 127) #[] #[.pointer (some ⟨N, 0, none⟩)], x9, .int .u64 (f : Nat), undef, x12, x13, x14, x15, undef, undef, x18, x19, x20, x21, x22, x23, x24, x25, x26, x27, x28, x29, .func (.func 127) #[] #[.pointer (some ⟨N, 0, none⟩)], .int .u64 (n1 : Nat), .int .u8 (n1 : Nat), .func (.func 127) #[] #[.pointer (some ⟨N, 0, none⟩)], .int .u64 (n4 : Nat), .int .u16 (n4 : Nat), .int .u64 (f : Nat), .int .u64 (bits .and .u64 (f : Int) 32768), .bool ev, .int .u64 (f : Nat), .int .u64 (bits .and .u64 (f : Int) 16384), .bool df, .int .u64 (f : Nat), .int .u64 (bits .and .u64 (f : Int) 8192), .bool mf, .int .u64 (f : Nat), .int .u64 (o : Nat), .int .i64 (o : Nat), .func (.func 127) #[] #[.pointer (some ⟨N, 0, none⟩)], .int .u64 (n8 : Nat), .int .u8 (n8 : Nat), .func (.func 127) #[] #[.pointer (some ⟨N, 0, none⟩)], undef, undef, .func (.func 127) #[] #[.pointer (some ⟨N, 0, none⟩)], undef, undef, .func (.func 127) #[] #[.pointer (some ⟨N, 0, none⟩)], undef, undef, .slice a l.length c, .int .i64 (s : Nat), .slice ao (s - 20) (c - 20), undef, undef, undef, undef, undef, undef, undef, undef], []⟩) ?_ (fun m9 => ?_)
    · rintro l A w1 rfl ⟨x9, x12, x13, x14, x15, x18, x19, x20, x21, x22, x23, x24, x25, x26, x27, x28, x29, rfl⟩ hHeld
      refine wpAnyH_ready (rs := [22, 35]) (by kernel_rfl) (by simp) ?_
      refine AllReadyH.cons rfl (fun K hK => ?_) (AllReadyH.cons rfl (fun K hK => ?_) AllReadyH.nil)
      · go_simp
        refine (HG9.out _ hHeld).mono ?_
        rintro e w_n ⟨rfl, rfl⟩
        simp only []
        have hs : Below (World.heap w1).size w1 w1 := Below.refl _ _
        refine hK.out _ _ (hHeld.trans (hs.mono hHeld.size)) (fun hHeldN => ?_)
        try simp only [Act.put, List.setIfInBounds_toArray, List.set_cons_zero, List.set_cons_succ, List.getElem_toArray, List.getElem_cons_zero, List.getElem_cons_succ]
        (have hHeldO := hHeld; clear hHeld; have hHeld := hHeldN)
        (refine wpAnyH_take (i := 23) (v := ?_) rfl (by kernel_rfl) (by kernel_rfl) (by kernel_rfl) (fun _ _ _ h => h) (Or.inl ⟨by rfl, ?_⟩) hHeld ?_; rotate_left; (focus (intro w hSw; (try dsimp only at hSw); go_simp; try with_reducible rfl)); (try simp only [Act.put, List.setIfInBounds_toArray, List.set_cons_zero, List.set_cons_succ, List.getElem_toArray, List.getElem_cons_zero, List.getElem_cons_succ]))
        exact m7 _ _ _ (by kernel_rfl) ⟨_, _, _, _, _, _, _, _, _, _, _, _, _, _, _, _, _, rfl⟩ hHeldN
      · go_simp
        have hs : Below (World.heap w1).size w1 (w1.alloc (.cells #[.int .u8 0, .int .u16 0, .bool false, .bool false, .bool false, .int .i64 0, .int .u8 0, .int .u8 0, .int .u32 0, .int .u32 0, .slice none 0 0] 106)) := (Below.refl _ _).alloc (Nat.le_refl _) _
        have hF : Hid (HdAtG w (World.heap w1).size hz (w1.alloc (.cells #[.int .u8 0, .int .u16 0, .bool false, .bool false, .bool false, .int .i64 0, .int .u8 0, .int .u8 0, .int .u32 0, .int .u32 0, .slice none 0 0] 106))) := ⟨HdAt.new w1 hz, hHeld.size⟩
        refine hK.out _ _ (hHeld.trans (hs.mono hHeld.size)) (fun hHeldN => ?_)
        exact m8 _ _ _ (by kernel_rfl) ⟨_, _, _, _, _, _, _, _, _, _, _, _, _, _, _, _, _, _, rfl, hF⟩ hHeldN
    refine wpAnyH_cut #[true, true, true, true, true, true, true, true, true, true, true, true, true, true, true, true, true, true, true, false, false, true, false, false, true, false, false, true, false, false, true, true, true, false, false, true, false] 11 (fun A w1 => ∃ (x9 : Value) (x12 : Value) (x13 : Value) (x14 : Value) (x15 : Value) (x18 : Value) (x19 : Value) (x20 : Value) (x21 : Value) (x22 : Value) (x23 : Value) (x24 : Value) (x25 : Value) (x26 : Value) (x27 : Value) (x28 : Value) (x29 : Value) (g11 : Nat), A = ⟨#[.slice a l.length c, undef, .pointer (some ⟨wm.heap.size, 0, none⟩), .slice none 0 0, .int .i64 0, .int .i64 0, .int .i64 (s : Nat), .int .i64 (t : Nat), .func (.func 127) #[] #[.pointer (some ⟨N, 0, none⟩)], x9, .int .u64 (f : Nat), .pointer (some ⟨g11, 0, none⟩), x12, x13, x14, x15, undef, undef, x18, x19, x20, x21, x22, x23, x24, x25, x26, x27, x28, x29, .func (.func 127) #[] #[.pointer (some ⟨N, 0, none⟩)], .int .u64 (n1 : Nat), .int .u8 (n1 : Nat), .func (.func 127) #[] #[.pointer (some ⟨N, 0, none⟩)], .int .u64 (n4 : Nat), .int .u16 (n4 : Nat), .int .u64 (f : Nat), .int .u64 (bits .and .u64 (f : Int) 32768), .bool ev, .int .u64 (f : Nat), .int .u64 (bits .and .u64 (f : Int) 16384), .bool df, .int .u64 (f : Nat), .int .u64 (bits .and .u64 (f : Int) 8192), .bool mf, .int .u64 (f : Nat), .int .u64 (o : Nat), .int .i64 (o : Nat), .func (.func 127) #[] #[.pointer (some ⟨N, 0, none⟩)], undef, undef, .func (.func 127) #[] #[.pointer (some ⟨N, 0, none⟩)], undef, undef, .func (.func 127) #[] #[.pointer (some ⟨N, 0, none⟩)], undef, undef, .func (.func 127) #[] #[.pointer (some ⟨N, 0, none⟩)], undef, undef, .slice a l.length c, .int .i64 (s : Nat), .slice ao (s - 20) (c - 20), undef, undef, undef, undef, undef, undef, undef, undef], []⟩ ∧ Hid (HdAtG w g11 hz w1)) ?_ (fun m10 => ?_)
    · rintro l A w1 rfl ⟨x9, x12, x13, x14, x15, x18, x19, x20, x21, x22, x23, x24, x25, x26, x27, x28, x29, g11, rfl, F11⟩ hHeld
      refine wpAnyH_ready (rs := [19]) (by kernel_rfl) (by simp) ?_
      refine AllReadyH.cons rfl (fun K hK => ?_) AllReadyH.nil
      go_simp
      refine (HG8.out _ hHeld).mono ?_
      rintro e w_n ⟨rfl, rfl⟩
      simp only []
      have hs : Below (World.heap w1).size w1 w1 := Below.refl _ _
      refine hK.out _ _ (hHeld.trans (hs.mono hHeld.size)) (fun hHeldN => ?_)
      try simp only [Act.put, List.setIfInBounds_toArray, List.set_cons_zero, List.set_cons_succ, List.getElem_toArray, List.getElem_cons_zero, List.getElem_cons_succ]
      (have hHeldO := hHeld; clear hHeld; have hHeld := hHeldN)
      (refine wpAnyH_take (i := 20) (v := ?_) rfl (by kernel_rfl) (by kernel_rfl) (by kernel_rfl) (fun _ _ _ h => h) (Or.inl ⟨by rfl, ?_⟩) hHeld ?_; rotate_left; (focus (intro w hSw; (try dsimp only at hSw); go_simp; try with_reducible rfl)); (try simp only [Act.put, List.setIfInBounds_toArray, List.set_cons_zero, List.set_cons_succ, List.getElem_toArray, List.getElem_cons_zero, List.getElem_cons_succ]))
      exact m8 _ _ _ (by kernel_rfl) ⟨_, _, _, _, _, _, _, _, _, _, _, _, _, _, _, _, _, _, rfl, Lib.hid (F11.out.later hs)⟩ hHeldN
    refine wpAnyH_cut #[true, true, true, true, true, true, true, true, true, true, true, true, true, true, true, true, true, true, true, false, false, true, false, false, true, false, false, true, false, false, true, true, true, false, false, false, false] 12 (fun A w1 => ∃ (x9 : Value) (x12 : Value) (x13 : Value) (x14 : Value) (x15 : Value) (x18 : Value) (x19 : Value) (x20 : Value) (x21 : Value) (x22 : Value) (x23 : Value) (x24 : Value) (x25 : Value) (x26 : Value) (x27 : Value) (x28 : Value) (x29 : Value), A = ⟨#[.slice a l.length c, undef, .pointer (some ⟨wm.heap.size, 0, none⟩), .slice none 0 0, .int .i64 0, .int .i64 0, .int .i64 (s : Nat), .int .i64 (t : Nat), .func (.func 127) #[] #[.pointer (some ⟨N, 0, none⟩)], x9, .int .u64 (f : Nat), undef, x12, x13, x14, x15, undef, undef, x18, x19, x20, x21, x22, x23, x24, x25, x26, x27, x28, x29, .func (.func 127) #[] #[.pointer (some ⟨N, 0, none⟩)], .int .u64 (n1 : Nat), .int .u8 (n1 : Nat), .func (.func 127) #[] #[.pointer (some ⟨N, 0, none⟩)], .int .u64 (n4 : Nat), .int .u16 (n4 : Nat), .int .u64 (f : Nat), .int .u64 (bits .and .u64 (f : Int) 32768), .bool ev, .int .u64 (f : Nat), .int .u64 (bits .and .u64 (f : Int) 16384), .bool df, .int .u64 (f : Nat), .int .u64 (bits .and .u64 (f : Int) 8192), .bool mf, .int .u64 (f : Nat), .int .u64 (o : Nat), .int .i64 (o : Nat), .func (.func 127) #[] #[.pointer (some ⟨N, 0, none⟩)], undef, undef, .func (.func 127) #[] #[.pointer (some ⟨N, 0, none⟩)], undef, undef, .func (.func 127) #[] #[.pointer (some ⟨N, 0, none⟩)], undef, undef, .func (.func 127) #[] #[.pointer (some ⟨N, 0, none⟩)], undef, undef, .slice a l.length c, .int .i64 (s : Nat), .slice ao (s - 20) (c - 20), undef, undef, undef, undef, undef, undef, undef, undef], []⟩) ?_ (fun m11 => ?_)
    · rintro l A w1 rfl ⟨x9, x12, x13, x14, x15, x18, x19, x20, x21, x22, x23, x24, x25, x26, x27, x28, x29, rfl⟩ hHeld
      refine wpAnyH_ready (rs := [19, 35]) (by kernel_rfl) (by simp) ?_
      refine AllReadyH.cons rfl (fun K hK => ?_) (AllReadyH.cons rfl (fun K hK => ?_) AllReadyH.nil)
      · go_simp
        refine (HG8.out _ hHeld).mono ?_
        rintro e w_n ⟨rfl, rfl⟩
        simp only []
        have hs : Below (World.heap w1).size w1 w1 := Below.refl _ _
        refine hK.out _ _ (hHeld.trans (hs.mono hHeld.size)) (fun hHeldN => ?_)
        try simp only [Act.put, List.setIfInBounds_toArray, List.set_cons_zero, List.set_cons_succ, List.getElem_toArray, List.getElem_cons_zero, List.getElem_cons_succ]
        (have hHeldO := hHeld; clear hHeld; have hHeld := hHeldN)
        (refine wpAnyH_take (i := 20) (v := ?_) rfl (by kernel_rfl) (by kernel_rfl) (by kernel_rfl) (fun _ _ _ h => h) (Or.inl ⟨by rfl, ?_⟩) hHeld ?_; rotate_left; (focus (intro w hSw; (try dsimp only at hSw); go_simp; try with_reducible rfl)); (try simp only [Act.put, List.setIfInBounds_toArray, List.set_cons_zero, List.set_cons_succ, List.getElem_toArray, List.getElem_cons_zero, List.getElem_cons_succ]))
        exact m9 _ _ _ (by kernel_rfl) ⟨_, _, _, _, _, _, _, _, _, _, _, _, _, _, _, _, _, rfl⟩ hHeldN
      · go_simp
        have hs : Below (World.heap w1).size w1 (w1.alloc (.cells #[.int .u8 0, .int .u16 0, .bool false, .bool false, .bool false, .int .i64 0, .int .u8 0, .int .u8 0, .int .u32 0, .int .u32 0, .slice none 0 0] 106)) := (Below.refl _ _).alloc (Nat.le_refl _) _
        have hF : Hid (HdAtG w (World.heap w1).size hz (w1.alloc (.cells #[.int .u8 0, .int .u16 0, .bool false, .bool false, .bool false, .int .i64 0, .int .u8 0, .int .u8 0, .int .u32 0, .int .u32 0, .slice none 0 0] 106))) := ⟨HdAt.new w1 hz, hHeld.size⟩
        refine hK.out _ _ (hHeld.trans (hs.mono hHeld.size)) (fun hHeldN => ?_)
        exact m10 _ _ _ (by kernel_rfl) ⟨_, _, _, _, _, _, _, _, _, _, _, _, _, _, _, _, _, _, rfl, hF⟩ hHeldN
    refine wpAnyH_cut #[true, true, true, true, false, false, true, true, true, true, true, true, true, true, true, true, true, true, true, false, false, true, false, false, true, false, false, true, false, false, true, true, true, false, false, true, false] 13 (fun A w1 => ∃ (x9 : Value) (x12 : Value) (x13 : Value) (x14 : Value) (x15 : Value) (x18 : Value) (x19 : Value) (x20 : Value) (x21 : Value) (x22 : Value) (x23 : Value) (x24 : Value) (x25 : Value) (x26 : Value) (x27 : Value) (x28 : Value) (x29 : Value) (g11 : Nat), A = ⟨#[.slice a l.length c, undef, .pointer (some ⟨wm.heap.size, 0, none⟩), .slice none 0 0, .int .i64 0, .int .i64 0, .int .i64 (s : Nat), .int .i64 (t : Nat), .func (.func 127) #[] #[.pointer (some ⟨N, 0, none⟩)], x9, .int .u64 (f : Nat), .pointer (some ⟨g11, 0, none⟩), x12, x13, x14, x15, undef, undef, x18, x19, x20, x21, x22, x23, x24, x25, x26, x27, x28, x29, .func (.func 127) #[] #[.pointer (some ⟨N, 0, none⟩)], .int .u64 (n1 : Nat), .int .u8 (n1 : Nat), .func (.func 127) #[] #[.pointer (some ⟨N, 0, none⟩)], undef, undef, .int .u64 (f : Nat), .int .u64 (bits .and .u64 (f : Int) 32768), .bool ev, .int .u64 (f : Nat), .int .u64 (bits .and .u64 (f : Int) 16384), .bool df, .int .u64 (f : Nat), .int .u64 (bits .and .u64 (f : Int) 8192), .bool mf, .int .u64 (f : Nat), .int .u64 (o : Nat), .int .i64 (o : Nat), .func (.func 127) #[] #[.pointer (some ⟨N, 0, none⟩)], undef, undef, .func (.func 127) #[] #[.pointer (some ⟨N, 0, none⟩)], undef, undef, .func (.func 127) #[] #[.pointer (some ⟨N, 0, none⟩)], undef, undef, .func (.func 127) #[] #[.pointer (some ⟨N, 0, none⟩)], undef, undef, .slice a l.length c, .int .i64 (s : Nat), .slice ao (s - 20) (c - 20), undef, undef, undef, undef, undef, undef, undef, undef], []⟩ ∧ Hid (HdAtG w g11 hz w1)) ?_ (fun m12 => ?_)
    · rintro l A w1 rfl ⟨x9, x12, x13, x14, x15, x18, x19, x20, x21, x22, x23, x24, x25, x26, x27, x28, x29, g11, rfl, F11⟩ hHeld
      refine wpAnyH_ready (rs := [4]) (by kernel_rfl) (by simp) ?_
      refine AllReadyH.cons rfl (fun K hK => ?_) AllReadyH.nil
      go_simp
      refine (HG4.out _ hHeld).mono ?_
      rintro e w_n ⟨rfl, rfl⟩
      simp only []
      have hs : Below (World.heap w1).size w1 w1 := Below.refl _ _
      refine hK.out _ _ (hHeld.trans (hs.mono hHeld.size)) (fun hHeldN => ?_)
      try simp only [Act.put, List.setIfInBounds_toArray, List.set_cons_zero, List.set_cons_succ, List.getElem_toArray, List.getElem_cons_zero, List.getElem_cons_succ]
      (have hHeldO := hHeld; clear hHeld; have hHeld := hHeldN)
      (refine wpAnyH_take (i := 5) (v := ?_) rfl (by kernel_rfl) (by kernel_rfl) (by kernel_rfl) (fun _ _ _ h => h) (Or.inl ⟨by rfl, ?_⟩) hHeld ?_; rotate_left; (focus (intro w hSw; (try dsimp only at hSw); go_simp; try with_reducible rfl)); (try simp only [Act.put, List.setIfInBounds_toArray, List.set_cons_zero, List.set_cons_succ, List.getElem_toArray, List.getElem_cons_zero, List.getElem_cons_succ]))
      exact m10 _ _ _ (by kernel_rfl) ⟨_, _, _, _, _, _, _, _, _, _, _, _, _, _, _, _, _, _, rfl, Lib.hid (F11.out.later hs)⟩ hHeldN
    refine wpAnyH_cut #[true, true, true, true, false, false, true, true, true, true, true, true, true, true, true, true, true, true, true, false, false, true, false, false, true, false, false, true, false, false, true, true, true, false, false, false, false] 14 (fun A w1 => ∃ (x9 : Value) (x12 : Value) (x13 : Value) (x14 : Value) (x15 : Value) (x18 : Value) (x19 : Value) (x20 : Value) (x21 : Value) (x22 : Value) (x23 : Value) (x24 : Value) (x25 : Value) (x26 : Value) (x27 : Value) (x28 : Value) (x29 : Value), A = ⟨#[.slice a l.length c, undef, .pointer (some ⟨wm.heap.size, 0, none⟩), .slice none 0 0, .int .i64 0, .int .i64 0, .int .i64 (s : Nat), .int .i64 (t : Nat), .func (.func 127) #[] #[.pointer (some ⟨N, 0, none⟩)], x9, .int .u64 (f : Nat), undef, x12, x13, x14, x15, undef, undef, x18, x19, x20, x21, x22, x23, x24, x25, x26, x27, x28, x29, .func (.func 127) #[] #[.pointer (some ⟨N, 0, none⟩)], .int .u64 (n1 : Nat), .int .u8 (n1 : Nat), .func (.func 127) #[] #[.pointer (some ⟨N, 0, none⟩)], undef, undef, .int .u64 (f : Nat), .int .u64 (bits .and .u64 (f : Int) 32768), .bool ev, .int .u64 (f : Nat), .int .u64 (bits .and .u64 (f : Int) 16384), .bool df, .int .u64 (f : Nat), .int .u64 (bits .and .u64 (f : Int) 8192), .bool mf, .int .u64 (f : Nat), .int .u64 (o : Nat), .int .i64 (o : Nat), .func (.func 127) #[] #[.pointer (some ⟨N, 0, none⟩)], undef, undef, .func (.func 127) #[] #[.pointer (some ⟨N, 0, none⟩)], undef, undef, .func (.func 127) #[] #[.pointer (some ⟨N, 0, none⟩)], undef, undef, .func (.func 127) #[] #[.pointer (some ⟨N, 0, none⟩)], undef, undef, .slice a l.length c, .int .i64 (s : Nat), .slice ao (s - 20) (c - 20), undef, undef, undef, undef, undef, undef, undef, undef], []⟩) ?_ (fun m13 => ?_)
    · rintro l A w1 rfl ⟨x9, x12, x13, x14, x15, x18, x19, x20, x21, x22, x23, x24, x25, x26, x27, x28, x29, rfl⟩ hHeld
      refine wpAnyH_ready (rs := [4, 35]) (by kernel_rfl) (by simp) ?_
      refine AllReadyH.cons rfl (fun K hK => ?_) (AllReadyH.cons rfl (fun K hK => ?_) AllReadyH.nil)
      · go_simp
        refine (HG4.out _ hHeld).mono ?_
        rintro e w_n ⟨rfl, rfl⟩
        simp only []
        have hs : Below (World.heap w1).size w1 w1 := Below.refl _ _
        refine hK.out _ _ (hHeld.trans (hs.mono hHeld.size)) (fun hHeldN => ?_)
        try simp only [Act.put, List.setIfInBounds_toArray, List.set_cons_zero, List.set_cons_succ, List.getElem_toArray, List.getElem_cons_zero, List.getElem_cons_succ]
        (have hHeldO := hHeld; clear hHeld; have hHeld := hHeldN)
        (refine wpAnyH_take (i := 5) (v := ?_) rfl (by kernel_rfl) (by kernel_rfl) (by kernel_rfl) (fun _ _ _ h => h) (Or.inl ⟨by rfl, ?_⟩) hHeld ?_; rotate_left; (focus (intro w hSw; (try dsimp only at hSw); go_simp; try with_reducible rfl)); (try simp only [Act.put, List.setIfInBounds_toArray, List.set_cons_zero, List.set_cons_succ, List.getElem_toArray, List.getElem_cons_zero, List.getElem_cons_succ]))
        exact m11 _ _ _ (by kernel_rfl) ⟨_, _, _, _, _, _, _, _, _, _, _, _, _, _, _, _, _, rfl⟩ hHeldN
      · go_simp
        have hs : Below (World.heap w1).size w1 (w1.alloc (.cells #[.int .u8 0, .int .u16 0, .bool false, .bool false, .bool false, .int .i64 0, .int .u8 0, .int .u8 0, .int .u32 0, .int .u32 0, .slice none 0 0] 106)) := (Below.refl _ _).alloc (Nat.le_refl _) _
        have hF : Hid (HdAtG w (World.heap w1).size hz (w1.alloc (.cells #[.int .u8 0, .int .u16 0, .bool false, .bool false, .bool false, .int .i64 0, .int .u8 0, .int .u8 0, .int .u32 0, .int .u32 0, .slice none 0 0] 106))) := ⟨HdAt.new w1 hz, hHeld.size⟩
        refine hK.out _ _ (hHeld.trans (hs.mono hHeld.size)) (fun hHeldN => ?_)
        exact m12 _ _ _ (by kernel_rfl) ⟨_, _, _, _, _, _, _, _, _, _, _, _, _, _, _, _, _, _, rfl, hF⟩ hHeldN
    refine wpAnyH_cut #[true, false, false, true, false, false, true, true, true, true, true, true, true, true, true, true, true, true, true, false, false, true, false, false, true, false, false, true, false, false, true, true, true, false, false, true, false] 15 (fun A w1 => ∃ (x9 : Value) (x12 : Value) (x13 : Value) (x14 : Value) (x15 : Value) (x18 : Value) (x19 : Value) (x20 : Value) (x21 : Value) (x22 : Value) (x23 : Value) (x24 : Value) (x25 : Value) (x26 : Value) (x27 : Value) (x28 : Value) (x29 : Value) (g11 : Nat), A = ⟨#[.slice a l.length c, undef, .pointer (some ⟨wm.heap.size, 0, none⟩), .slice none 0 0, .int .i64 0, .int .i64 0, .int .i64 (s : Nat), .int .i64 (t : Nat), .func (.func 127) #[] #[.pointer (some ⟨N, 0, none⟩)], x9, .int .u64 (f : Nat), .pointer (some ⟨g11, 0, none⟩), x12, x13, x14, x15, undef, undef, x18, x19, x20, x21, x22, x23, x24, x25, x26, x27, x28, x29, .func (.func 127) #[] #[.pointer (some ⟨N, 0, none⟩)], undef, undef, .func (.func 127) #[] #[.pointer (some ⟨N, 0, none⟩)], undef, undef, .int .u64 (f : Nat), .int .u64 (bits .and .u64 (f : Int) 32768), .bool ev, .int .u64 (f : Nat), .int .u64 (bits .and .u64 (f : Int) 16384), .bool df, .int .u64 (f : Nat), .int .u64 (bits .and .u64 (f : Int) 8192), .bool mf, .int .u64 (f : Nat), .int .u64 (o : Nat), .int .i64 (o : Nat), .func (.func 127) #[] #[.pointer (some ⟨N, 0, none⟩)], undef, undef, .func (.func 127) #[] #[.pointer (some ⟨N, 0, none⟩)], undef, undef, .func (.func 127) #[] #[.pointer (some ⟨N, 0, none⟩)], undef, undef, .func (.func 127) #[] #[.pointer (some ⟨N, 0, none⟩)], undef, undef, .slice a l.length c, .int .i64 (s : Nat), .slice ao (s - 20) (c - 20), undef, undef, undef, undef, undef, undef, undef, undef], []⟩ ∧ Hid (HdAtG w g11 hz w1)) ?_ (fun m14 => ?_)
    · rintro l A w1 rfl ⟨x9, x12, x13, x14, x15, x18, x19, x20, x21, x22, x23, x24, x25, x26, x27, x28, x29, g11, rfl, F11⟩ hHeld
      refine wpAnyH_ready (rs := [1]) (by kernel_rfl) (by simp) ?_
      refine AllReadyH.cons rfl (fun K hK => ?_) AllReadyH.nil
      go_simp
      refine (HG1.out _ hHeld).mono ?_
      rintro e w_n ⟨rfl, rfl⟩
      simp only []
      have hs : Below (World.heap w1).size w1 w1 := Below.refl _ _
      refine hK.out _ _ (hHeld.trans (hs.mono hHeld.size)) (fun hHeldN => ?_)
      try simp only [Act.put, List.setIfInBounds_toArray, List.set_cons_zero, List.set_cons_succ, List.getElem_toArray, List.getElem_cons_zero, List.getElem_cons_succ]
      (have hHeldO := hHeld; clear hHeld; have hHeld := hHeldN)
      (refine wpAnyH_take (i := 2) (v := ?_) rfl (by kernel_rfl) (by kernel_rfl) (by kernel_rfl) (fun _ _ _ h => h) (Or.inl ⟨by rfl, ?_⟩) hHeld ?_; rotate_left; (focus (intro w hSw; (try dsimp only at hSw); go_simp; try with_reducible rfl)); (try simp only [Act.put, List.setIfInBounds_toArray, List.set_cons_zero, List.set_cons_succ, List.getElem_toArray, List.getElem_cons_zero, List.getElem_cons_succ]))
      exact m12 _ _ _ (by kernel_rfl) ⟨_, _, _, _, _, _, _, _, _, _, _, _, _, _, _, _, _, _, rfl, Lib.hid (F11.out.later hs)⟩ hHeldN
    (refine wpAnyH_take (i := 0) (v := ?_) rfl (by kernel_rfl) (by kernel_rfl) (by kernel_rfl) (fun _ _ _ h => h) (Or.inl ⟨by rfl, ?_⟩) hHeld ?_; rotate_left; (focus (intro w hSw; (try dsimp only at hSw); go_simp; try with_reducible rfl)); (try simp only [Act.put, List.setIfInBounds_toArray, List.set_cons_zero, List.set_cons_succ, List.getElem_toArray, List.getElem_cons_zero])); (refine wpAnyH_take (i := 3) (v := ?_) rfl (by kernel_rfl) (by kernel_rfl) (by kernel_rfl) (fun _ _ _ h => h) (Or.inl ⟨by rfl, ?_⟩) hHeld ?_; rotate_left; (focus (intro w hSw; (try dsimp only at hSw); go_simp; try with_reducible rfl)); (try simp only [Act.put, List.setIfInBounds_toArray, List.set_cons_zero, List.set_cons_succ, List.getElem_toArray, List.getElem_cons_zero, List.getElem_cons_succ])); (refine wpAnyH_take (i := 6) (v := ?_) rfl (by kernel_rfl) (by kernel_rfl) (by kernel_rfl) (fun _ _ _ h => h) (Or.inl ⟨by rfl, ?_⟩) hHeld ?_; rotate_left; (focus (intro w hSw; (try dsimp only at hSw); go_simp; try with_reducible rfl)); (try simp only [Act.put, List.setIfInBounds_toArray, List.set_cons_zero, List.set_cons_succ, List.getElem_toArray, List.getElem_cons_zero, List.getElem_cons_succ])); (refine wpAnyH_take (i := 9) (v := ?_) rfl (by kernel_rfl) (by kernel_rfl) (by kernel_rfl) (fun _ _ _ h => h) (Or.inl ⟨by rfl, ?_⟩) hHeld ?_; rotate_left; (focus (intro w hSw; (try dsimp only at hSw); go_simp; try with_reducible rfl)); (try simp only [Act.put, List.setIfInBounds_toArray, List.set_cons_zero, List.set_cons_succ, List.getElem_toArray, List.getElem_cons_zero, List.getElem_cons_succ])); (refine wpAnyH_take (i := 12) (v := ?_) rfl (by kernel_rfl) (by kernel_rfl) (by kernel_rfl) (fun _ _ _ h => h) (Or.inl ⟨by rfl, ?_⟩) hHeld ?_; rotate_left; (focus (intro w hSw; (try dsimp only at hSw); go_simp; try with_reducible rfl)); (try simp only [Act.put, List.setIfInBounds_toArray, List.set_cons_zero, List.set_cons_succ, List.getElem_toArray, List.getElem_cons_zero, List.getElem_cons_succ])); (refine wpAnyH_take (i := 15) (v := ?_) rfl (by kernel_rfl) (by kernel_rfl) (by kernel_rfl) (fun _ _ _ h => h) (Or.inl ⟨by rfl, ?_⟩) hHeld ?_; rotate_left; (focus (intro w hSw; (try dsimp only at hSw); go_simp; try with_reducible rfl)); (try simp only [Act.put, List.setIfInBounds_toArray, List.set_cons_zero, List.set_cons_succ, List.getElem_toArray, List.getElem_cons_zero, List.getElem_cons_succ])); (refine wpAnyH_take (i := 18) (v := ?_) rfl (by kernel_rfl) (by kernel_rfl) (by kernel_rfl) (fun _ _ _ h => h) (Or.inl ⟨by rfl, ?_⟩) hHeld ?_; rotate_left; (focus (intro w hSw; (try dsimp only at hSw); go_simp; try with_reducible rfl)); (try simp only [Act.put, List.setIfInBounds_toArray, List.set_cons_zero, List.set_cons_succ, List.getElem_toArray, List.getElem_cons_zero, List.getElem_cons_succ])); (refine wpAnyH_take (i := 21) (v := ?_) rfl (by kernel_rfl) (by kernel_rfl) (by kernel_rfl) (fun _ _ _ h => h) (Or.inl ⟨by rfl, ?_⟩) hHeld ?_; rotate_left; (focus (intro w hSw; (try dsimp only at hSw); go_simp; try with_reducible rfl)); (try simp only [Act.put, List.setIfInBounds_toArray, List.set_cons_zero, List.set_cons_succ, List.getElem_toArray, List.getElem_cons_zero, List.getElem_cons_succ])); (refine wpAnyH_take (i := 24) (v := ?_) rfl (by kernel_rfl) (by kernel_rfl) (by kernel_rfl) (fun _ _ _ h => h) (Or.inl ⟨by rfl, ?_⟩) hHeld ?_; rotate_left; (focus (intro w hSw; (try dsimp only at hSw); go_simp; try with_reducible rfl)); (try simp only [Act.put, List.setIfInBounds_toArray, List.set_cons_zero, List.set_cons_succ, List.getElem_toArray, List.getElem_cons_zero, List.getElem_cons_succ])); (refine wpAnyH_take (i := 27) (v := ?_) rfl (by kernel_rfl) (by kernel_rfl) (by kernel_rfl) (fun _ _ _ h => h) (Or.inl ⟨by rfl, ?_⟩) hHeld ?_; rotate_left; (focus (intro w hSw; (try dsimp only at hSw); go_simp; try with_reducible rfl)); (try simp only [Act.put, List.setIfInBounds_toArray, List.set_cons_zero, List.set_cons_succ, List.getElem_toArray, List.getElem_cons_zero, List.getElem_cons_succ])); (refine wpAnyH_take (i := 30) (v := ?_) rfl (by kernel_rfl) (by kernel_rfl) (by kernel_rfl) (fun _ _ _ h => h) (Or.inl ⟨by rfl, ?_⟩) hHeld ?_; rotate_left; (focus (intro w hSw; (try dsimp only at hSw); go_simp; try with_reducible rfl)); (try simp only [Act.put, List.setIfInBounds_toArray, List.set_cons_zero, List.set_cons_succ, List.getElem_toArray, List.getElem_cons_zero, List.getElem_cons_succ])); (refine wpAnyH_take (i := 31) (v := ?_) rfl (by kernel_rfl) (by kernel_rfl) (by kernel_rfl) (fun _ _ _ h => h) (Or.inl ⟨by rfl, ?_⟩) hHeld ?_; rotate_left; (focus (intro w hSw; (try dsimp only at hSw); go_simp; try with_reducible rfl)); (try simp only [Act.put, List.setIfInBounds_toArray, List.set_cons_zero, List.set_cons_succ, List.getElem_toArray, List.getElem_cons_zero, List.getElem_cons_succ])); (refine wpAnyH_take (i := 7) (v := ?_) rfl (by kernel_rfl) (by kernel_rfl) (by kernel_rfl) (fun _ _ _ h => h) (Or.inl ⟨by rfl, ?_⟩) hHeld ?_; rotate_left; (focus (intro w hSw; (try dsimp only at hSw); go_simp; try with_reducible rfl)); (try simp only [Act.put, List.setIfInBounds_toArray, List.set_cons_zero, List.set_cons_succ, List.getElem_toArray, List.getElem_cons_zero, List.getElem_cons_succ])); (refine wpAnyH_take (i := 10) (v := ?_) rfl (by kernel_rfl) (by kernel_rfl) (by kernel_rfl) (fun _ _ _ h => h) (Or.inl ⟨by rfl, ?_⟩) hHeld ?_; rotate_left; (focus (intro w hSw; (try dsimp only at hSw); go_simp; try with_reducible rfl)); (try simp only [Act.put, List.setIfInBounds_toArray, List.set_cons_zero, List.set_cons_succ, List.getElem_toArray, List.getElem_cons_zero, List.getElem_cons_succ])); (refine wpAnyH_take (i := 13) (v := ?_) rfl (by kernel_rfl) (by kernel_rfl) (by kernel_rfl) (fun _ _ _ h => h) (Or.inl ⟨by rfl, ?_⟩) hHeld ?_; rotate_left; (focus (intro w hSw; (try dsimp only at hSw); go_simp; try with_reducible rfl)); (try simp only [Act.put, List.setIfInBounds_toArray, List.set_cons_zero, List.set_cons_succ, List.getElem_toArray, List.getElem_cons_zero, List.getElem_cons_succ])); (refine wpAnyH_take (i := 16) (v := ?_) rfl (by kernel_rfl) (by kernel_rfl) (by kernel_rfl) (fun _ _ _ h => h) (Or.inl ⟨by rfl, ?_⟩) hHeld ?_; rotate_left; (focus (intro w hSw; (try dsimp only at hSw); go_simp; try with_reducible rfl)); (try simp only [Act.put, List.setIfInBounds_toArray, List.set_cons_zero, List.set_cons_succ, List.getElem_toArray, List.getElem_cons_zero, List.getElem_cons_succ])); (refine wpAnyH_take (i := 32) (v := ?_) rfl (by kernel_rfl) (by kernel_rfl) (by kernel_rfl) (fun _ _ _ h => h) (Or.inl ⟨by rfl, ?_⟩) hHeld ?_; rotate_left; (focus (intro w hSw; (try dsimp only at hSw); go_simp; try with_reducible rfl)); (try simp only [Act.put, List.setIfInBounds_toArray, List.set_cons_zero, List.set_cons_succ, List.getElem_toArray, List.getElem_cons_zero, List.getElem_cons_succ])); (refine wpAnyH_take (i := 8) (v := ?_) rfl (by kernel_rfl) (by kernel_rfl) (by kernel_rfl) (fun _ _ _ h => h) (Or.inl ⟨by rfl, ?_⟩) hHeld ?_; rotate_left; (focus (intro w hSw; (try dsimp only at hSw); go_simp; try with_reducible rfl)); (try simp only [Act.put, List.setIfInBounds_toArray, List.set_cons_zero, List.set_cons_succ, List.getElem_toArray, List.getElem_cons_zero, List.getElem_cons_succ])); (refine wpAnyH_take (i := 11) (v := ?_) rfl (by kernel_rfl) (by kernel_rfl) (by kernel_rfl) (fun _ _ _ h => h) (Or.inl ⟨by rfl, ?_⟩) hHeld ?_; rotate_left; (focus (intro w hSw; (try dsimp only at hSw); go_simp; try with_reducible rfl)); (try simp only [Act.put, List.setIfInBounds_toArray, List.set_cons_zero, List.set_cons_succ, List.getElem_toArray, List.getElem_cons_zero, List.getElem_cons_succ])); (refine wpAnyH_take (i := 14) (v := ?_) rfl (by kernel_rfl) (by kernel_rfl) (by kernel_rfl) (fun _ _ _ h => h) (Or.inl ⟨by rfl, ?_⟩) hHeld ?_; rotate_left; (focus (intro w hSw; (try dsimp only at hSw); go_simp; try with_reducible rfl)); (try simp only [Act.put, List.setIfInBounds_toArray, List.set_cons_zero, List.set_cons_succ, List.getElem_toArray, List.getElem_cons_zero, List.getElem_cons_succ])); (refine wpAnyH_take (i := 17) (v := ?_) rfl (by kernel_rfl) (by kernel_rfl) (by kernel_rfl) (fun _ _ _ h => h) (Or.inl ⟨by rfl, ?_⟩) hHeld ?_; rotate_left; (focus (intro w hSw; (try dsimp only at hSw); go_simp; try with_reducible rfl)); (try simp only [Act.put, List.setIfInBounds_toArray, List.set_cons_zero, List.set_cons_succ, List.getElem_toArray, List.getElem_cons_zero, List.getElem_cons_succ]))
    refine wpAnyH_ready (rs := [1, 35]) (by kernel_rfl) (by simp) ?_
    refine AllReadyH.cons rfl (fun K hK => ?_) (AllReadyH.cons rfl (fun K hK => ?_) AllReadyH.nil)
    · go_simp
      refine (HG1.out _ hHeld).mono ?_
      rintro e w_n ⟨rfl, rfl⟩
      simp only []
      have hs : Below (World.heap w0).size w0 w0 := Below.refl _ _
      refine hK.out _ _ (hHeld.trans (hs.mono hHeld.size)) (fun hHeldN => ?_)
      try simp only [Act.put, List.setIfInBounds_toArray, List.set_cons_zero, List.set_cons_succ, List.getElem_toArray, List.getElem_cons_zero, List.getElem_cons_succ]
      (have hHeldO := hHeld; clear hHeld; have hHeld := hHeldN)
      (refine wpAnyH_take (i := 2) (v := ?_) rfl (by kernel_rfl) (by kernel_rfl) (by kernel_rfl) (fun _ _ _ h => h) (Or.inl ⟨by rfl, ?_⟩) hHeld ?_; rotate_left; (focus (intro w hSw; (try dsimp only at hSw); go_simp; try with_reducible rfl)); (try simp only [Act.put, List.setIfInBounds_toArray, List.set_cons_zero, List.set_cons_succ, List.getElem_toArray, List.getElem_cons_zero, List.getElem_cons_succ]))
      exact m13 _ _ _ (by kernel_rfl) ⟨_, _, _, _, _, _, _, _, _, _, _, _, _, _, _, _, _, rfl⟩ hHeldN
    · go_simp
      have hs : Below (World.heap w0).size w0 (w0.alloc (.cells #[.int .u8 0, .int .u16 0, .bool false, .bool false, .bool false, .int .i64 0, .int .u8 0, .int .u8 0, .int .u32 0, .int .u32 0, .slice none 0 0] 106)) := (Below.refl _ _).alloc (Nat.le_refl _) _
      have hF : Hid (HdAtG w (World.heap w0).size hz (w0.alloc (.cells #[.int .u8 0, .int .u16 0, .bool false, .bool false, .bool false, .int .i64 0, .int .u8 0, .int .u8 0, .int .u32 0, .int .u32 0, .slice none 0 0] 106))) := ⟨HdAt.new w0 hz, hHeld.size⟩
      refine hK.out _ _ (hHeld.trans (hs.mono hHeld.size)) (fun hHeldN => ?_)
      exact m14 _ _ _ (by kernel_rfl) ⟨_, _, _, _, _, _, _, _, _, _, _, _, _, _, _, _, _, _, rfl, hF⟩ hHeldN
end Go.Proofs.Ytdjhgahdiggahaa
