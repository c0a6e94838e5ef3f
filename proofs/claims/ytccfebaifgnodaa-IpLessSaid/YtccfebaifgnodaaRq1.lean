/- The walk of ref03.Parse where something is wrong. -/
import Derived.Test.YtccfebaifgnodaaIh
import Derived.Test.YtccfebaifgnodaaPr
import Derived.Test.YtccfebaifgnodaaRp0
import Derived.Test.YtccfebaifgnodaaRq0
namespace Go.Proofs.Ytccfebaifgnodaa
open Go.RowKit
attribute [local go_sem ↓] Go.wp_at_zero Go.wp_at_succ

set_option maxRecDepth 100000 in
set_option maxHeartbeats 4000000 in
theorem parseR_f1 (a : Option Addr) (c : Nat) (l : List UInt8) (hl : l.length ≤ 1000000) (wm : World) (hv : Bytes wm (.slice a l.length c) l) (h : l.length < 20) :
    Calls Try.prog 11 #[.slice a l.length c] wm (NoR wm l) := by
  have HV := Lib.hid hv
  have hA : Below wm.heap.size wm ((wm.alloc (.cells #[.int .u8 0, .int .u16 0, .bool false, .bool false, .bool false, .int .i64 0, .int .u8 0, .int .u8 0, .int .u32 0, .int .u32 0, .slice none 0 0] 28)).alloc (.cells #[.int .u8 0, .int .u16 0, .bool false, .bool false, .bool false, .int .i64 0, .int .u8 0, .int .u8 0, .int .u32 0, .int .u32 0, .slice none 0 0] 28)) := by go_grown
  have hR0 : HdAt wm.heap.size hz ((wm.alloc (.cells #[.int .u8 0, .int .u16 0, .bool false, .bool false, .bool false, .int .i64 0, .int .u8 0, .int .u8 0, .int .u32 0, .int .u32 0, .slice none 0 0] 28)).alloc (.cells #[.int .u8 0, .int .u16 0, .bool false, .bool false, .bool false, .int .i64 0, .int .u8 0, .int .u8 0, .int .u32 0, .int .u32 0, .slice none 0 0] 28)) := HdAt.later (HdAt.new wm hz) ((Below.refl _ _).alloc (Nat.le_refl _) _)
  have hS0 : HdAt (wm.heap.size + 1) hz ((wm.alloc (.cells #[.int .u8 0, .int .u16 0, .bool false, .bool false, .bool false, .int .i64 0, .int .u8 0, .int .u8 0, .int .u32 0, .int .u32 0, .slice none 0 0] 28)).alloc (.cells #[.int .u8 0, .int .u16 0, .bool false, .bool false, .bool false, .int .i64 0, .int .u8 0, .int .u8 0, .int .u32 0, .int .u32 0, .slice none 0 0] 28)) := by
    have := HdAt.new (wm.alloc (.cells #[.int .u8 0, .int .u16 0, .bool false, .bool false, .bool false, .int .i64 0, .int .u8 0, .int .u8 0, .int .u32 0, .int .u32 0, .slice none 0 0] 28)) hz
    rw [World.size_alloc] at this
    exact this
  have HA := Lib.hid hA
  have HR0 := Lib.hid hR0
  have HS0 := Lib.hid hS0
  have HF := Lib.hid (flt1 h)
  have g1 : (l.length : Int) < 20 := by omega
  clear hv hA hR0 hS0 h
  go_enter Try.func11, Try.ntmps11
  go_wp2_with fail
  exact bodyPost_ret (v := .tuple #[.agg #[.int .u8 0, .int .u16 0, .bool false, .bool false, .bool false, .int .i64 0, .int .u8 0, .int .u8 0, .int .u32 0, .int .u32 0, .slice none 0 0], .slice none 0 0, .int .i64 1]) (by simp [results, Try.results11, go_sem]) rfl ⟨by rw [HF.out]; rfl, by go_grown⟩
set_option maxRecDepth 100000 in
set_option maxHeartbeats 4000000 in
theorem parseR_f2 (a : Option Addr) (c : Nat) (l : List UInt8) (hl : l.length ≤ 1000000) (wm : World) (hv : Bytes wm (.slice a l.length c) l) (h20 : 20 ≤ l.length) (h : Sm.at0 l 0 / 16 ≠ 4) :
    Calls Try.prog 11 #[.slice a l.length c] wm (NoR wm l) := by
  have HV := Lib.hid hv
  have hA : Below wm.heap.size wm ((wm.alloc (.cells #[.int .u8 0, .int .u16 0, .bool false, .bool false, .bool false, .int .i64 0, .int .u8 0, .int .u8 0, .int .u32 0, .int .u32 0, .slice none 0 0] 28)).alloc (.cells #[.int .u8 0, .int .u16 0, .bool false, .bool false, .bool false, .int .i64 0, .int .u8 0, .int .u8 0, .int .u32 0, .int .u32 0, .slice none 0 0] 28)) := by go_grown
  have hR0 : HdAt wm.heap.size hz ((wm.alloc (.cells #[.int .u8 0, .int .u16 0, .bool false, .bool false, .bool false, .int .i64 0, .int .u8 0, .int .u8 0, .int .u32 0, .int .u32 0, .slice none 0 0] 28)).alloc (.cells #[.int .u8 0, .int .u16 0, .bool false, .bool false, .bool false, .int .i64 0, .int .u8 0, .int .u8 0, .int .u32 0, .int .u32 0, .slice none 0 0] 28)) := HdAt.later (HdAt.new wm hz) ((Below.refl _ _).alloc (Nat.le_refl _) _)
  have hS0 : HdAt (wm.heap.size + 1) hz ((wm.alloc (.cells #[.int .u8 0, .int .u16 0, .bool false, .bool false, .bool false, .int .i64 0, .int .u8 0, .int .u8 0, .int .u32 0, .int .u32 0, .slice none 0 0] 28)).alloc (.cells #[.int .u8 0, .int .u16 0, .bool false, .bool false, .bool false, .int .i64 0, .int .u8 0, .int .u8 0, .int .u32 0, .int .u32 0, .slice none 0 0] 28)) := by
    have := HdAt.new (wm.alloc (.cells #[.int .u8 0, .int .u16 0, .bool false, .bool false, .bool false, .int .i64 0, .int .u8 0, .int .u8 0, .int .u32 0, .int .u32 0, .slice none 0 0] 28)) hz
    rw [World.size_alloc] at this
    exact this
  have HA := Lib.hid hA
  have HR0 := Lib.hid hR0
  have HS0 := Lib.hid hS0
  have HF := Lib.hid (flt2 h20 h)
  obtain ⟨b, ox, rfl, hbx, hex⟩ := hv.at1 (i := 0) (by omega)
  obtain ⟨x, hx⟩ : ∃ x, x = Sm.at0 l 0 := ⟨_, rfl⟩
  have hx256 : x < 256 := by rw [hx]; exact Sm.at0_lt _ _
  rw [← hx] at hex
  have hex0 : wm.cell? ⟨b, ox, none⟩ = some (.int .u8 (x : Nat)) := hex
  have hexA := cell_later hA hex0
  have g1 : (20 : Int) ≤ l.length := by omega
  have g2 : 20 ≤ l.length := h20
  rw [← hx] at h
  have g3 : ((x : Int) / 16 != 4) = true := by rw [bne_iff_ne]; omega
  clear hv hA hR0 hS0 h hx hex hex0
  go_enter Try.func11, Try.ntmps11
  go_wp2_with fail
  exact bodyPost_ret (v := .tuple #[.agg #[.int .u8 0, .int .u16 0, .bool false, .bool false, .bool false, .int .i64 0, .int .u8 0, .int .u8 0, .int .u32 0, .int .u32 0, .slice none 0 0], .slice none 0 0, .int .i64 2]) (by simp [results, Try.results11, go_sem]) rfl ⟨by rw [HF.out]; rfl, by go_grown⟩
set_option maxRecDepth 100000 in
set_option maxHeartbeats 4000000 in
theorem parseR_f3 (a : Option Addr) (c : Nat) (l : List UInt8) (hl : l.length ≤ 1000000) (wm : World) (hv : Bytes wm (.slice a l.length c) l) (h20 : 20 ≤ l.length) (h4 : Sm.at0 l 0 / 16 = 4) (h : hsz l < 20 ∨ l.length < hsz l) :
    Calls Try.prog 11 #[.slice a l.length c] wm (NoR wm l) := by
  have HV := Lib.hid hv
  have hA : Below wm.heap.size wm ((wm.alloc (.cells #[.int .u8 0, .int .u16 0, .bool false, .bool false, .bool false, .int .i64 0, .int .u8 0, .int .u8 0, .int .u32 0, .int .u32 0, .slice none 0 0] 28)).alloc (.cells #[.int .u8 0, .int .u16 0, .bool false, .bool false, .bool false, .int .i64 0, .int .u8 0, .int .u8 0, .int .u32 0, .int .u32 0, .slice none 0 0] 28)) := by go_grown
  have hR0 : HdAt wm.heap.size hz ((wm.alloc (.cells #[.int .u8 0, .int .u16 0, .bool false, .bool false, .bool false, .int .i64 0, .int .u8 0, .int .u8 0, .int .u32 0, .int .u32 0, .slice none 0 0] 28)).alloc (.cells #[.int .u8 0, .int .u16 0, .bool false, .bool false, .bool false, .int .i64 0, .int .u8 0, .int .u8 0, .int .u32 0, .int .u32 0, .slice none 0 0] 28)) := HdAt.later (HdAt.new wm hz) ((Below.refl _ _).alloc (Nat.le_refl _) _)
  have hS0 : HdAt (wm.heap.size + 1) hz ((wm.alloc (.cells #[.int .u8 0, .int .u16 0, .bool false, .bool false, .bool false, .int .i64 0, .int .u8 0, .int .u8 0, .int .u32 0, .int .u32 0, .slice none 0 0] 28)).alloc (.cells #[.int .u8 0, .int .u16 0, .bool false, .bool false, .bool false, .int .i64 0, .int .u8 0, .int .u8 0, .int .u32 0, .int .u32 0, .slice none 0 0] 28)) := by
    have := HdAt.new (wm.alloc (.cells #[.int .u8 0, .int .u16 0, .bool false, .bool false, .bool false, .int .i64 0, .int .u8 0, .int .u8 0, .int .u32 0, .int .u32 0, .slice none 0 0] 28)) hz
    rw [World.size_alloc] at this
    exact this
  have HA := Lib.hid hA
  have HR0 := Lib.hid hR0
  have HS0 := Lib.hid hS0
  have HF := Lib.hid (flt3 h20 h4 h)
  obtain ⟨b, ox, rfl, hbx, hex⟩ := hv.at1 (i := 0) (by omega)
  obtain ⟨x, hx⟩ : ∃ x, x = Sm.at0 l 0 := ⟨_, rfl⟩
  have hx256 : x < 256 := by rw [hx]; exact Sm.at0_lt _ _
  rw [← hx] at hex
  have hex0 : wm.cell? ⟨b, ox, none⟩ = some (.int .u8 (x : Nat)) := hex
  have hexA := cell_later hA hex0
  have g1 : (20 : Int) ≤ l.length := by omega
  have g2 : 20 ≤ l.length := h20
  rw [← hx] at h4
  have g3 : ((x : Int) / 16 != 4) = false := by simp; omega
  obtain ⟨s, hs⟩ : ∃ s, s = hsz l := ⟨_, rfl⟩
  have hsx : s = x % 16 * 4 := by rw [hs, hx]; rfl
  have g4 : 4 * ((x : Int) % 16) = s := by omega
  rw [← hs] at h
  have HS := Lib.hid hs
  clear hv hA hR0 hS0 hx hex hex0 hs hsx h4
  by_cases h5 : s < 20
  · have g5 : (s : Int) < 20 := by omega
    clear h h5
    go_enter Try.func11, Try.ntmps11
    go_wp2_with fail
    exact bodyPost_ret (v := .tuple #[.agg #[.int .u8 0, .int .u16 0, .bool false, .bool false, .bool false, .int .i64 0, .int .u8 0, .int .u8 0, .int .u32 0, .int .u32 0, .slice none 0 0], .slice none 0 0, .int .i64 3]) (by simp [results, Try.results11, go_sem]) rfl ⟨by rw [HF.out]; rfl, by go_grown⟩
  · have g5 : (20 : Int) ≤ s := by omega
    have g6 : (l.length : Int) < s := by omega
    clear h h5
    go_enter Try.func11, Try.ntmps11
    go_wp2_with fail
    exact bodyPost_ret (v := .tuple #[.agg #[.int .u8 0, .int .u16 0, .bool false, .bool false, .bool false, .int .i64 0, .int .u8 0, .int .u8 0, .int .u32 0, .int .u32 0, .slice none 0 0], .slice none 0 0, .int .i64 3]) (by simp [results, Try.results11, go_sem]) rfl ⟨by rw [HF.out]; rfl, by go_grown⟩
set_option maxRecDepth 100000 in
set_option maxHeartbeats 4000000 in
theorem parseR_f4 (a : Option Addr) (c : Nat) (l : List UInt8) (hl : l.length ≤ 1000000) (wm : World) (hv : Bytes wm (.slice a l.length c) l) (h20 : 20 ≤ l.length) (h4 : Sm.at0 l 0 / 16 = 4) (h : 20 ≤ hsz l ∧ hsz l ≤ l.length) (h7 : numAt l 2 2 < hsz l ∨ l.length < numAt l 2 2) :
    Calls Try.prog 11 #[.slice a l.length c] wm (NoR wm l) := by
  have HV := Lib.hid hv
  have hA : Below wm.heap.size wm ((wm.alloc (.cells #[.int .u8 0, .int .u16 0, .bool false, .bool false, .bool false, .int .i64 0, .int .u8 0, .int .u8 0, .int .u32 0, .int .u32 0, .slice none 0 0] 28)).alloc (.cells #[.int .u8 0, .int .u16 0, .bool false, .bool false, .bool false, .int .i64 0, .int .u8 0, .int .u8 0, .int .u32 0, .int .u32 0, .slice none 0 0] 28)) := by go_grown
  have hR0 : HdAt wm.heap.size hz ((wm.alloc (.cells #[.int .u8 0, .int .u16 0, .bool false, .bool false, .bool false, .int .i64 0, .int .u8 0, .int .u8 0, .int .u32 0, .int .u32 0, .slice none 0 0] 28)).alloc (.cells #[.int .u8 0, .int .u16 0, .bool false, .bool false, .bool false, .int .i64 0, .int .u8 0, .int .u8 0, .int .u32 0, .int .u32 0, .slice none 0 0] 28)) := HdAt.later (HdAt.new wm hz) ((Below.refl _ _).alloc (Nat.le_refl _) _)
  have hS0 : HdAt (wm.heap.size + 1) hz ((wm.alloc (.cells #[.int .u8 0, .int .u16 0, .bool false, .bool false, .bool false, .int .i64 0, .int .u8 0, .int .u8 0, .int .u32 0, .int .u32 0, .slice none 0 0] 28)).alloc (.cells #[.int .u8 0, .int .u16 0, .bool false, .bool false, .bool false, .int .i64 0, .int .u8 0, .int .u8 0, .int .u32 0, .int .u32 0, .slice none 0 0] 28)) := by
    have := HdAt.new (wm.alloc (.cells #[.int .u8 0, .int .u16 0, .bool false, .bool false, .bool false, .int .i64 0, .int .u8 0, .int .u8 0, .int .u32 0, .int .u32 0, .slice none 0 0] 28)) hz
    rw [World.size_alloc] at this
    exact this
  have HA := Lib.hid hA
  have HR0 := Lib.hid hR0
  have HS0 := Lib.hid hS0
  have HF := Lib.hid (flt4 h20 h4 h h7)
  obtain ⟨b, ox, rfl, hbx, hex⟩ := hv.at1 (i := 0) (by omega)
  obtain ⟨x, hx⟩ : ∃ x, x = Sm.at0 l 0 := ⟨_, rfl⟩
  have hx256 : x < 256 := by rw [hx]; exact Sm.at0_lt _ _
  rw [← hx] at hex
  have hex0 : wm.cell? ⟨b, ox, none⟩ = some (.int .u8 (x : Nat)) := hex
  have hexA := cell_later hA hex0
  have g1 : (20 : Int) ≤ l.length := by omega
  have g2 : 20 ≤ l.length := h20
  rw [← hx] at h4
  have g3 : ((x : Int) / 16 != 4) = false := by simp; omega
  obtain ⟨s, hs⟩ : ∃ s, s = hsz l := ⟨_, rfl⟩
  have hsx : s = x % 16 * 4 := by rw [hs, hx]; rfl
  have g4 : 4 * ((x : Int) % 16) = s := by omega
  rw [← hs] at h
  have HS := Lib.hid hs
  have htm := numAt_lt (l := l) (i := 2) (k := 2) (by omega)
  obtain ⟨a2, hs2, hg2⟩ := getR_at hv 2 2 (by omega) (by omega)
  have hs2' : ∀ w, (Instr.slice 22 (.slice (some ⟨b, ox, none⟩) l.length c) (some (.int .i64 2)) (some (.int .i64 4)) none).run Try.prog w = .ok (.slice a2 2 (c - 2)) w := hs2
  obtain ⟨t, ht⟩ : ∃ t, t = numAt l 2 2 := ⟨_, rfl⟩
  rw [← ht] at hg2 htm
  have HG2 := Lib.hid hg2
  have HT := Lib.hid ht
  have hwt : IntKind.i64.wrap (t : Int) = t := IntWalk.i64_in _ ⟨by omega, by omega⟩
  have g5 : (20 : Int) ≤ s := by omega
  have g6 : (s : Int) ≤ l.length := by omega
  rw [← ht, ← hs] at h7
  clear hv hA hR0 hS0 hx hex hex0 hs hsx h4 hs2 hg2 htm ht
  by_cases h5 : t < s
  · have g7 : (t : Int) < s := by omega
    clear h h5 h7
    go_enter Try.func11, Try.ntmps11
    go_wp2_with fail
    refine (HG2.out _ HA.out).mono ?_
    rintro e w3 ⟨rfl, rfl⟩
    go_wp2_with fail
    exact bodyPost_ret (v := .tuple #[.agg #[.int .u8 0, .int .u16 0, .bool false, .bool false, .bool false, .int .i64 0, .int .u8 0, .int .u8 0, .int .u32 0, .int .u32 0, .slice none 0 0], .slice none 0 0, .int .i64 4]) (by simp [results, Try.results11, go_sem]) rfl ⟨by rw [HF.out]; rfl, by go_grown⟩
  · have g7 : (s : Int) ≤ t := by omega
    have g8 : (l.length : Int) < t := by omega
    clear h h5 h7
    go_enter Try.func11, Try.ntmps11
    go_wp2_with fail
    refine (HG2.out _ HA.out).mono ?_
    rintro e w3 ⟨rfl, rfl⟩
    go_wp2_with fail
    exact bodyPost_ret (v := .tuple #[.agg #[.int .u8 0, .int .u16 0, .bool false, .bool false, .bool false, .int .i64 0, .int .u8 0, .int .u8 0, .int .u32 0, .int .u32 0, .slice none 0 0], .slice none 0 0, .int .i64 4]) (by simp [results, Try.results11, go_sem]) rfl ⟨by rw [HF.out]; rfl, by go_grown⟩
end Go.Proofs.Ytccfebaifgnodaa
