/- The walk of ref03.Parse where something is wrong. -/
import Derived.Test.YtccfebaifgnodaaIh
import Derived.Test.YtccfebaifgnodaaPr
import Derived.Test.YtccfebaifgnodaaRp0
import Derived.Test.YtccfebaifgnodaaRq0
namespace Go.Proofs.Ytccfebaifgnodaa
open Go.RowKit
attribute [local go_sem ↓] Go.wp_at_zero Go.wp_at_succ

set_option maxRecDepth 100000 in
set_option maxHeartbeats 4000000 in
theorem parseR_f5 (a : Option Addr) (c : Nat) (l : List UInt8) (hl : l.length ≤ 1000000) (wm : World) (hv : Bytes wm (.slice a l.length c) l) (h20 : 20 ≤ l.length) (h4 : Sm.at0 l 0 / 16 = 4) (h : 20 ≤ hsz l ∧ hsz l ≤ l.length) (h7 : hsz l ≤ numAt l 2 2 ∧ numAt l 2 2 ≤ l.length) (h8 : Sm.tot (l.take (hsz l)) ≠ 65535) :
    Calls Try.prog 11 #[.slice a l.length c] wm (NoR wm l) := by
  have HV := Lib.hid hv
  have hA : Below wm.heap.size wm ((wm.alloc (.cells #[.int .u8 0, .int .u16 0, .bool false, .bool false, .bool false, .int .i64 0, .int .u8 0, .int .u8 0, .int .u32 0, .int .u32 0, .slice none 0 0] 28)).alloc (.cells #[.int .u8 0, .int .u16 0, .bool false, .bool false, .bool false, .int .i64 0, .int .u8 0, .int .u8 0, .int .u32 0, .int .u32 0, .slice none 0 0] 28)) := by go_grown
  have hR0 : HdAt wm.heap.size hz ((wm.alloc (.cells #[.int .u8 0, .int .u16 0, .bool false, .bool false, .bool false, .int .i64 0, .int .u8 0, .int .u8 0, .int .u32 0, .int .u32 0, .slice none 0 0] 28)).alloc (.cells #[.int .u8 0, .int .u16 0, .bool false, .bool false, .bool false, .int .i64 0, .int .u8 0, .int .u8 0, .int .u32 0, .int .u32 0, .slice none 0 0] 28)) := HdAt.later (HdAt.new wm hz) ((Below.refl _ _).alloc (Nat.le_refl _) _)
  have hS0 : HdAt (wm.heap.size + 1) hz ((wm.alloc (.cells #[.int .u8 0, .int .u16 0, .bool false, .bool false, .bool false, .int .i64 0, .int .u8 0, .int .u8 0, .int .u32 0, .int .u32 0, .slice none 0 0] 28)).alloc (.cells #[.int .u8 0, .int .u16 0, .bool false, .bool false, .bool false, .int .i64 0, .int .u8 0, .int .u8 0, .int .u32 0, .int .u32 0, .slice none 0 0] 28)) := by
    have := HdAt.new (wm.alloc (.cells #[.int .u8 0, .int .u16 0, .bool false, .bool false, .bool false, .int .i64 0, .int .u8 0, .int .u8 0, .int .u32 0, .int .u32 0, .slice none 0 0] 28)) hz
    rw [World.size_alloc] at this
    exact this
  have HA := Lib.hid hA
  have HR0 := Lib.hid hR0
  have HS0 := Lib.hid hS0
  have HF := Lib.hid (flt5 h20 h4 h h7 h8)
  obtain ⟨b, ox, rfl, hbx, hex⟩ := hv.at1 (i := 0) (by omega)
  obtain ⟨x, hx⟩ : ∃ x, x = Sm.at0 l 0 := ⟨_, rfl⟩
  have hx256 : x < 256 := by rw [hx]; exact Sm.at0_lt _ _
  rw [← hx] at hex
  have hex0 : wm.cell? ⟨b, ox, none⟩ = some (.int .u8 (x : Nat)) := hex
  have hexA := cell_later hA hex0
  have g1 : (20 : Int) ≤ l.length := by omega
  have g2 : 20 ≤ l.length := h20
  rw [← hx] at h4
  have g3 : ((x : Int) / 16 != 4) = false := by simp; omega
  obtain ⟨s, hs⟩ : ∃ s, s = hsz l := ⟨_, rfl⟩
  have hsx : s = x % 16 * 4 := by rw [hs, hx]; rfl
  have g4 : 4 * ((x : Int) % 16) = s := by omega
  rw [← hs] at h
  have HS := Lib.hid hs
  have htm := numAt_lt (l := l) (i := 2) (k := 2) (by omega)
  obtain ⟨a2, hs2, hg2⟩ := getR_at hv 2 2 (by omega) (by omega)
  have hs2' : ∀ w, (Instr.slice 22 (.slice (some ⟨b, ox, none⟩) l.length c) (some (.int .i64 2)) (some (.int .i64 4)) none).run Try.prog w = .ok (.slice a2 2 (c - 2)) w := hs2
  obtain ⟨t, ht⟩ : ∃ t, t = numAt l 2 2 := ⟨_, rfl⟩
  rw [← ht] at hg2 htm
  have HG2 := Lib.hid hg2
  have HT := Lib.hid ht
  have hwt : IntKind.i64.wrap (t : Int) = t := IntWalk.i64_in _ ⟨by omega, by omega⟩
  have g5 : (20 : Int) ≤ s := by omega
  have g6 : (s : Int) ≤ l.length := by omega
  rw [← ht, ← hs] at h7
  rw [← hs] at h8
  have g7 : (s : Int) ≤ t := by omega
  have g8 : (t : Int) ≤ l.length := by omega
  obtain ⟨hsh, hbh⟩ := Bytes.cut_hk .i64 hv (s : Int) s rfl h.2
  obtain ⟨q, hq⟩ : ∃ q, q = Sm.tot (l.take s) := ⟨_, rfl⟩
  have HTO : Hid (∀ W, Below wm.heap.size wm W → Calls Try.prog 34 #[.slice (some ⟨b, ox, none⟩) s c] W fun e w' => e = .returned (.int .u16 (q : Nat)) ∧ Below W.heap.size W w') := fun W hb => by
    have := totalR_any _ (l.take s) W (hbh.later hb) (by have := hsz_le l; rw [List.length_take]; omega)
    rw [← hq] at this
    exact this
  rw [← hq] at h8
  have g9 : ((q : Int) != 65535) = true := by rw [bne_iff_ne]; omega
  clear hv hA hR0 hS0 hx hex hex0 hx256 hs hsx h4 hs2 hg2 htm ht h h7 h8 hq hbh
  go_enter Try.func11, Try.ntmps11
  go_wp2_with fail
  refine (HG2.out _ HA.out).mono ?_
  rintro e w3 ⟨rfl, rfl⟩
  go_wp2_with fail
  refine (HTO.out _ HA.out).mono ?_
  rintro e w4 ⟨rfl, hb4⟩
  have HB4 := Lib.hid (HA.out.trans (hb4.mono HA.out.size))
  have HR4 : Hid (HdAt wm.heap.size hz w4) := HdAt.later HR0.out hb4
  have HS4 : Hid (HdAt (wm.heap.size + 1) hz w4) := HdAt.later HS0.out hb4
  clear hb4
  obtain ⟨s1, s2, s3, _⟩ := HdAt.set11 (show HdAt wm.heap.size hz w4 from HR4.out) (.int .u8 0) (.int .u16 0) (.bool false) (.bool false) (.bool false) (.int .i64 0) (.int .u8 0) (.int .u8 0) (.int .u32 0) (.int .u32 0) (.slice none 0 0)
  have Q1 := Lib.hid s1
  have Q4 := Lib.hid ((show Below wm.heap.size wm w4 from HB4.out).trans (s3 _ (Nat.le_refl _)))
  have hcz : ∀ j x, hz[j]? = some x → (w4).cell? ⟨wm.heap.size, j, none⟩ = some x := fun j x hx => HdAt.cell (show HdAt wm.heap.size hz w4 from HR4.out) hx
  have hcy : ∀ j x, hz[j]? = some x → (w4).cell? ⟨wm.heap.size + 1, j, none⟩ = some x := fun j x hx => HdAt.cell (show HdAt (wm.heap.size + 1) hz w4 from HS4.out) hx
  have hfz : ∀ j, (w4).frozen? ⟨wm.heap.size, j, none⟩ = false := fun j => HdAt.frozen (show HdAt wm.heap.size hz w4 from HR4.out) j
  have k0 := hcz 0 _ rfl
  have k1 := hcz 1 _ rfl
  have k2 := hcz 2 _ rfl
  have k3 := hcz 3 _ rfl
  have k4 := hcz 4 _ rfl
  have k5 := hcz 5 _ rfl
  have k6 := hcz 6 _ rfl
  have k7 := hcz 7 _ rfl
  have k8 := hcz 8 _ rfl
  have k9 := hcz 9 _ rfl
  have k10 := hcz 10 _ rfl
  have y0 := hcy 0 _ rfl
  have y1 := hcy 1 _ rfl
  have y2 := hcy 2 _ rfl
  have y3 := hcy 3 _ rfl
  have y4 := hcy 4 _ rfl
  have y5 := hcy 5 _ rfl
  have y6 := hcy 6 _ rfl
  have y7 := hcy 7 _ rfl
  have y8 := hcy 8 _ rfl
  have y9 := hcy 9 _ rfl
  have y10 := hcy 10 _ rfl
  clear hcz hcy s1 s2 s3
  go_wp2_with fail
  have d0 := HdAt.cell Q1.out (j := 0) rfl
  have d1 := HdAt.cell Q1.out (j := 1) rfl
  have d2 := HdAt.cell Q1.out (j := 2) rfl
  have d3 := HdAt.cell Q1.out (j := 3) rfl
  have d4 := HdAt.cell Q1.out (j := 4) rfl
  have d5 := HdAt.cell Q1.out (j := 5) rfl
  have d6 := HdAt.cell Q1.out (j := 6) rfl
  have d7 := HdAt.cell Q1.out (j := 7) rfl
  have d8 := HdAt.cell Q1.out (j := 8) rfl
  have d9 := HdAt.cell Q1.out (j := 9) rfl
  have d10 := HdAt.cell Q1.out (j := 10) rfl
  exact bodyPost_ret (v := .tuple #[.agg #[.int .u8 0, .int .u16 0, .bool false, .bool false, .bool false, .int .i64 0, .int .u8 0, .int .u8 0, .int .u32 0, .int .u32 0, .slice none 0 0], .slice none 0 0, .int .i64 5]) (by simp [results, Try.results11, go_sem, d0, d1, d2, d3, d4, d5, d6, d7, d8, d9, d10]) rfl ⟨by rw [HF.out]; rfl, Q4.out⟩
set_option maxRecDepth 100000 in
set_option maxHeartbeats 4000000 in
theorem parseR_f6 (a : Option Addr) (c : Nat) (l : List UInt8) (hl : l.length ≤ 1000000) (wm : World) (hv : Bytes wm (.slice a l.length c) l) (h20 : 20 ≤ l.length) (h4 : Sm.at0 l 0 / 16 = 4) (h : 20 ≤ hsz l ∧ hsz l ≤ l.length) (h7 : hsz l ≤ numAt l 2 2 ∧ numAt l 2 2 ≤ l.length) (h8 : Sm.tot (l.take (hsz l)) = 65535) (h9 : Om.ok ((l.take (hsz l)).drop 20) = false) :
    Calls Try.prog 11 #[.slice a l.length c] wm (NoR wm l) := by
  have HV := Lib.hid hv
  have hA : Below wm.heap.size wm ((wm.alloc (.cells #[.int .u8 0, .int .u16 0, .bool false, .bool false, .bool false, .int .i64 0, .int .u8 0, .int .u8 0, .int .u32 0, .int .u32 0, .slice none 0 0] 28)).alloc (.cells #[.int .u8 0, .int .u16 0, .bool false, .bool false, .bool false, .int .i64 0, .int .u8 0, .int .u8 0, .int .u32 0, .int .u32 0, .slice none 0 0] 28)) := by go_grown
  have hR0 : HdAt wm.heap.size hz ((wm.alloc (.cells #[.int .u8 0, .int .u16 0, .bool false, .bool false, .bool false, .int .i64 0, .int .u8 0, .int .u8 0, .int .u32 0, .int .u32 0, .slice none 0 0] 28)).alloc (.cells #[.int .u8 0, .int .u16 0, .bool false, .bool false, .bool false, .int .i64 0, .int .u8 0, .int .u8 0, .int .u32 0, .int .u32 0, .slice none 0 0] 28)) := HdAt.later (HdAt.new wm hz) ((Below.refl _ _).alloc (Nat.le_refl _) _)
  have hS0 : HdAt (wm.heap.size + 1) hz ((wm.alloc (.cells #[.int .u8 0, .int .u16 0, .bool false, .bool false, .bool false, .int .i64 0, .int .u8 0, .int .u8 0, .int .u32 0, .int .u32 0, .slice none 0 0] 28)).alloc (.cells #[.int .u8 0, .int .u16 0, .bool false, .bool false, .bool false, .int .i64 0, .int .u8 0, .int .u8 0, .int .u32 0, .int .u32 0, .slice none 0 0] 28)) := by
    have := HdAt.new (wm.alloc (.cells #[.int .u8 0, .int .u16 0, .bool false, .bool false, .bool false, .int .i64 0, .int .u8 0, .int .u8 0, .int .u32 0, .int .u32 0, .slice none 0 0] 28)) hz
    rw [World.size_alloc] at this
    exact this
  have HA := Lib.hid hA
  have HR0 := Lib.hid hR0
  have HS0 := Lib.hid hS0
  have HF := Lib.hid (flt6 h20 h4 h h7 h8 h9)
  obtain ⟨b, ox, rfl, hbx, hex⟩ := hv.at1 (i := 0) (by omega)
  obtain ⟨x, hx⟩ : ∃ x, x = Sm.at0 l 0 := ⟨_, rfl⟩
  have hx256 : x < 256 := by rw [hx]; exact Sm.at0_lt _ _
  rw [← hx] at hex
  have hex0 : wm.cell? ⟨b, ox, none⟩ = some (.int .u8 (x : Nat)) := hex
  have hexA := cell_later hA hex0
  have g1 : (20 : Int) ≤ l.length := by omega
  have g2 : 20 ≤ l.length := h20
  rw [← hx] at h4
  have g3 : ((x : Int) / 16 != 4) = false := by simp; omega
  obtain ⟨s, hs⟩ : ∃ s, s = hsz l := ⟨_, rfl⟩
  have hsx : s = x % 16 * 4 := by rw [hs, hx]; rfl
  have g4 : 4 * ((x : Int) % 16) = s := by omega
  rw [← hs] at h
  have HS := Lib.hid hs
  have htm := numAt_lt (l := l) (i := 2) (k := 2) (by omega)
  obtain ⟨a2, hs2, hg2⟩ := getR_at hv 2 2 (by omega) (by omega)
  have hs2' : ∀ w, (Instr.slice 22 (.slice (some ⟨b, ox, none⟩) l.length c) (some (.int .i64 2)) (some (.int .i64 4)) none).run Try.prog w = .ok (.slice a2 2 (c - 2)) w := hs2
  obtain ⟨t, ht⟩ : ∃ t, t = numAt l 2 2 := ⟨_, rfl⟩
  rw [← ht] at hg2 htm
  have HG2 := Lib.hid hg2
  have HT := Lib.hid ht
  have hwt : IntKind.i64.wrap (t : Int) = t := IntWalk.i64_in _ ⟨by omega, by omega⟩
  have g5 : (20 : Int) ≤ s := by omega
  have g6 : (s : Int) ≤ l.length := by omega
  rw [← ht, ← hs] at h7
  rw [← hs] at h8
  have g7 : (s : Int) ≤ t := by omega
  have g8 : (t : Int) ≤ l.length := by omega
  obtain ⟨hsh, hbh⟩ := Bytes.cut_hk .i64 hv (s : Int) s rfl h.2
  obtain ⟨q, hq⟩ : ∃ q, q = Sm.tot (l.take s) := ⟨_, rfl⟩
  have HTO : Hid (∀ W, Below wm.heap.size wm W → Calls Try.prog 34 #[.slice (some ⟨b, ox, none⟩) s c] W fun e w' => e = .returned (.int .u16 (q : Nat)) ∧ Below W.heap.size W w') := fun W hb => by
    have := totalR_any _ (l.take s) W (hbh.later hb) (by have := hsz_le l; rw [List.length_take]; omega)
    rw [← hq] at this
    exact this
  rw [← hq] at h8
  have g9 : ((q : Int) != 65535) = false := by rw [h8]; rfl
  obtain ⟨ao, hso, hbo⟩ := hv.cut_lh 20 (s : Int) 20 s rfl rfl h.1 h.2
  obtain ⟨sn, hsn⟩ : ∃ n, n = s - 20 := ⟨_, rfl⟩
  obtain ⟨sc, hsc⟩ : ∃ n, n = c - 20 := ⟨_, rfl⟩
  rw [← hsn, ← hsc] at hbo hso
  rw [← hs] at h9
  have HPA : Hid (∀ W, Below wm.heap.size wm W → Calls Try.prog 40 #[.slice ao sn sc] W fun e w' => ∃ a c n, e = .returned (.tuple #[.slice a n c, .bool false]) ∧ Below W.heap.size W w') := fun W hb =>
    (partsR_any _ ((l.take s).drop 20) (by have := hsz_le l; rw [List.length_drop, List.length_take]; omega) W (hbo.later hb)).mono fun e w' ⟨a, c, A, he, _, _, _, _, hB⟩ => by rw [h9] at he; exact ⟨a, c, _, he, hB⟩
  clear hv hA hR0 hS0 hx hex hex0 hx256 hs hsx h4 hs2 hg2 htm ht h h7 h8 h9 hq hbh hbo hsn hsc
  go_enter Try.func11, Try.ntmps11
  go_wp2_with fail
  refine (HG2.out _ HA.out).mono ?_
  rintro e w3 ⟨rfl, rfl⟩
  go_wp2_with fail
  refine (HTO.out _ HA.out).mono ?_
  rintro e w4 ⟨rfl, hb4⟩
  have HB4 := Lib.hid (HA.out.trans (hb4.mono HA.out.size))
  have HR4 : Hid (HdAt wm.heap.size hz w4) := HdAt.later HR0.out hb4
  have HS4 : Hid (HdAt (wm.heap.size + 1) hz w4) := HdAt.later HS0.out hb4
  clear hb4
  go_wp2_with fail
  refine (HPA.out _ HB4.out).mono ?_
  rintro e w5 ⟨pa, pc, pn, rfl, hb5⟩
  have HB5 := Lib.hid (HB4.out.trans (hb5.mono HB4.out.size))
  have HR5 : Hid (HdAt wm.heap.size hz w5) := HdAt.later HR4.out hb5
  have HS5 : Hid (HdAt (wm.heap.size + 1) hz w5) := HdAt.later HS4.out hb5
  clear hb5
  obtain ⟨s1, s2, s3, _⟩ := HdAt.set11 (show HdAt wm.heap.size hz w5 from HR5.out) (.int .u8 0) (.int .u16 0) (.bool false) (.bool false) (.bool false) (.int .i64 0) (.int .u8 0) (.int .u8 0) (.int .u32 0) (.int .u32 0) (.slice none 0 0)
  have Q1 := Lib.hid s1
  have Q4 := Lib.hid ((show Below wm.heap.size wm w5 from HB5.out).trans (s3 _ (Nat.le_refl _)))
  have hcz : ∀ j x, hz[j]? = some x → (w5).cell? ⟨wm.heap.size, j, none⟩ = some x := fun j x hx => HdAt.cell (show HdAt wm.heap.size hz w5 from HR5.out) hx
  have hcy : ∀ j x, hz[j]? = some x → (w5).cell? ⟨wm.heap.size + 1, j, none⟩ = some x := fun j x hx => HdAt.cell (show HdAt (wm.heap.size + 1) hz w5 from HS5.out) hx
  have hfz : ∀ j, (w5).frozen? ⟨wm.heap.size, j, none⟩ = false := fun j => HdAt.frozen (show HdAt wm.heap.size hz w5 from HR5.out) j
  have k0 := hcz 0 _ rfl
  have k1 := hcz 1 _ rfl
  have k2 := hcz 2 _ rfl
  have k3 := hcz 3 _ rfl
  have k4 := hcz 4 _ rfl
  have k5 := hcz 5 _ rfl
  have k6 := hcz 6 _ rfl
  have k7 := hcz 7 _ rfl
  have k8 := hcz 8 _ rfl
  have k9 := hcz 9 _ rfl
  have k10 := hcz 10 _ rfl
  have y0 := hcy 0 _ rfl
  have y1 := hcy 1 _ rfl
  have y2 := hcy 2 _ rfl
  have y3 := hcy 3 _ rfl
  have y4 := hcy 4 _ rfl
  have y5 := hcy 5 _ rfl
  have y6 := hcy 6 _ rfl
  have y7 := hcy 7 _ rfl
  have y8 := hcy 8 _ rfl
  have y9 := hcy 9 _ rfl
  have y10 := hcy 10 _ rfl
  clear hcz hcy s1 s2 s3
  go_wp2_with fail
  have d0 := HdAt.cell Q1.out (j := 0) rfl
  have d1 := HdAt.cell Q1.out (j := 1) rfl
  have d2 := HdAt.cell Q1.out (j := 2) rfl
  have d3 := HdAt.cell Q1.out (j := 3) rfl
  have d4 := HdAt.cell Q1.out (j := 4) rfl
  have d5 := HdAt.cell Q1.out (j := 5) rfl
  have d6 := HdAt.cell Q1.out (j := 6) rfl
  have d7 := HdAt.cell Q1.out (j := 7) rfl
  have d8 := HdAt.cell Q1.out (j := 8) rfl
  have d9 := HdAt.cell Q1.out (j := 9) rfl
  have d10 := HdAt.cell Q1.out (j := 10) rfl
  exact bodyPost_ret (v := .tuple #[.agg #[.int .u8 0, .int .u16 0, .bool false, .bool false, .bool false, .int .i64 0, .int .u8 0, .int .u8 0, .int .u32 0, .int .u32 0, .slice none 0 0], .slice none 0 0, .int .i64 6]) (by simp [results, Try.results11, go_sem, d0, d1, d2, d3, d4, d5, d6, d7, d8, d9, d10]) rfl ⟨by rw [HF.out]; rfl, Q4.out⟩
end Go.Proofs.Ytccfebaifgnodaa
