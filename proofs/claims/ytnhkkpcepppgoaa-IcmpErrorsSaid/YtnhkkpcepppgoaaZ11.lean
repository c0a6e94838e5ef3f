/- The walks of ref03.May, Fits; of Fragment and Multicast, the program's and the reference's.
   Parsing, by the program and by the reference, in one contract each, whether something is wrong or not.
   The walk of ip.Parse where something is wrong.
   The walk of ref03.Parse where something is wrong.
   The walk of ref03.Parse where something is wrong.
   The walk of ref03.Parse where something is wrong.
   What the reference tells of a packet that is wrong. -/
import Derived.Test.YtnhkkpcepppgoaaZ02
import Derived.Test.YtnhkkpcepppgoaaZ03
import Derived.Test.YtnhkkpcepppgoaaZ05
import Derived.Test.YtnhkkpcepppgoaaZ07
import Derived.Test.YtnhkkpcepppgoaaZ09
import Derived.Test.YtnhkkpcepppgoaaZ10

set_option linter.unusedSimpArgs false
set_option linter.unusedVariables false
namespace Go.Proofs.Ytnhkkpcepppgoaa
open Go.RowKit
/-- What the reference tells of a packet that is wrong. -/
def NoR (wm : World) (l : List UInt8) (e : Ending) (w' : World) : Prop := e = .returned (.tuple #[.agg #[.int .u8 0, .int .u16 0, .bool false, .bool false, .bool false, .int .i64 0, .int .u8 0, .int .u8 0, .int .u32 0, .int .u32 0, .slice none 0 0], .slice none 0 0, .int .i64 (flt l : Nat)]) ∧ Below wm.heap.size wm w'
end Go.Proofs.Ytnhkkpcepppgoaa

namespace Go.Proofs.Ytnhkkpcepppgoaa
open Go.RowKit
attribute [local go_sem ↓] Go.wp_at_zero Go.wp_at_succ

set_option maxRecDepth 100000 in
set_option maxHeartbeats 4000000 in
theorem parseR_f1 (a : Option Addr) (c : Nat) (l : List UInt8) (hl : l.length ≤ 1000000) (wm : World) (hv : Bytes wm (.slice a l.length c) l) (h : l.length < 20) :
    Calls Try.prog 12 #[.slice a l.length c] wm (NoR wm l) := by
  have HV := Lib.hid hv
  have hA : Below wm.heap.size wm ((wm.alloc (.cells #[.int .u8 0, .int .u16 0, .bool false, .bool false, .bool false, .int .i64 0, .int .u8 0, .int .u8 0, .int .u32 0, .int .u32 0, .slice none 0 0] 28)).alloc (.cells #[.int .u8 0, .int .u16 0, .bool false, .bool false, .bool false, .int .i64 0, .int .u8 0, .int .u8 0, .int .u32 0, .int .u32 0, .slice none 0 0] 28)) := by go_grown
  have hR0 : HdAt wm.heap.size hz ((wm.alloc (.cells #[.int .u8 0, .int .u16 0, .bool false, .bool false, .bool false, .int .i64 0, .int .u8 0, .int .u8 0, .int .u32 0, .int .u32 0, .slice none 0 0] 28)).alloc (.cells #[.int .u8 0, .int .u16 0, .bool false, .bool false, .bool false, .int .i64 0, .int .u8 0, .int .u8 0, .int .u32 0, .int .u32 0, .slice none 0 0] 28)) := HdAt.later (HdAt.new wm hz) ((Below.refl _ _).alloc (Nat.le_refl _) _)
  have hS0 : HdAt (wm.heap.size + 1) hz ((wm.alloc (.cells #[.int .u8 0, .int .u16 0, .bool false, .bool false, .bool false, .int .i64 0, .int .u8 0, .int .u8 0, .int .u32 0, .int .u32 0, .slice none 0 0] 28)).alloc (.cells #[.int .u8 0, .int .u16 0, .bool false, .bool false, .bool false, .int .i64 0, .int .u8 0, .int .u8 0, .int .u32 0, .int .u32 0, .slice none 0 0] 28)) := by
    have := HdAt.new (wm.alloc (.cells #[.int .u8 0, .int .u16 0, .bool false, .bool false, .bool false, .int .i64 0, .int .u8 0, .int .u8 0, .int .u32 0, .int .u32 0, .slice none 0 0] 28)) hz
    rw [World.size_alloc] at this
    exact this
  have HA := Lib.hid hA
  have HR0 := Lib.hid hR0
  have HS0 := Lib.hid hS0
  have HF := Lib.hid (flt1 h)
  have g1 : (l.length : Int) < 20 := by omega
  clear hv hA hR0 hS0 h
  go_enter Try.func12, Try.ntmps12
  go_wp2_with fail
  exact bodyPost_ret (v := .tuple #[.agg #[.int .u8 0, .int .u16 0, .bool false, .bool false, .bool false, .int .i64 0, .int .u8 0, .int .u8 0, .int .u32 0, .int .u32 0, .slice none 0 0], .slice none 0 0, .int .i64 1]) (by simp [results, Try.results12, go_sem]) rfl ⟨by rw [HF.out]; rfl, by go_grown⟩
set_option maxRecDepth 100000 in
set_option maxHeartbeats 4000000 in
theorem parseR_f2 (a : Option Addr) (c : Nat) (l : List UInt8) (hl : l.length ≤ 1000000) (wm : World) (hv : Bytes wm (.slice a l.length c) l) (h20 : 20 ≤ l.length) (h : Sm.at0 l 0 / 16 ≠ 4) :
    Calls Try.prog 12 #[.slice a l.length c] wm (NoR wm l) := by
  have HV := Lib.hid hv
  have hA : Below wm.heap.size wm ((wm.alloc (.cells #[.int .u8 0, .int .u16 0, .bool false, .bool false, .bool false, .int .i64 0, .int .u8 0, .int .u8 0, .int .u32 0, .int .u32 0, .slice none 0 0] 28)).alloc (.cells #[.int .u8 0, .int .u16 0, .bool false, .bool false, .bool false, .int .i64 0, .int .u8 0, .int .u8 0, .int .u32 0, .int .u32 0, .slice none 0 0] 28)) := by go_grown
  have hR0 : HdAt wm.heap.size hz ((wm.alloc (.cells #[.int .u8 0, .int .u16 0, .bool false, .bool false, .bool false, .int .i64 0, .int .u8 0, .int .u8 0, .int .u32 0, .int .u32 0, .slice none 0 0] 28)).alloc (.cells #[.int .u8 0, .int .u16 0, .bool false, .bool false, .bool false, .int .i64 0, .int .u8 0, .int .u8 0, .int .u32 0, .int .u32 0, .slice none 0 0] 28)) := HdAt.later (HdAt.new wm hz) ((Below.refl _ _).alloc (Nat.le_refl _) _)
  have hS0 : HdAt (wm.heap.size + 1) hz ((wm.alloc (.cells #[.int .u8 0, .int .u16 0, .bool false, .bool false, .bool false, .int .i64 0, .int .u8 0, .int .u8 0, .int .u32 0, .int .u32 0, .slice none 0 0] 28)).alloc (.cells #[.int .u8 0, .int .u16 0, .bool false, .bool false, .bool false, .int .i64 0, .int .u8 0, .int .u8 0, .int .u32 0, .int .u32 0, .slice none 0 0] 28)) := by
    have := HdAt.new (wm.alloc (.cells #[.int .u8 0, .int .u16 0, .bool false, .bool false, .bool false, .int .i64 0, .int .u8 0, .int .u8 0, .int .u32 0, .int .u32 0, .slice none 0 0] 28)) hz
    rw [World.size_alloc] at this
    exact this
  have HA := Lib.hid hA
  have HR0 := Lib.hid hR0
  have HS0 := Lib.hid hS0
  have HF := Lib.hid (flt2 h20 h)
  obtain ⟨b, ox, rfl, hbx, hex⟩ := hv.at1 (i := 0) (by omega)
  obtain ⟨x, hx⟩ : ∃ x, x = Sm.at0 l 0 := ⟨_, rfl⟩
  have hx256 : x < 256 := by rw [hx]; exact Sm.at0_lt _ _
  rw [← hx] at hex
  have hex0 : wm.cell? ⟨b, ox, none⟩ = some (.int .u8 (x : Nat)) := hex
  have hexA := cell_later hA hex0
  have g1 : (20 : Int) ≤ l.length := by omega
  have g2 : 20 ≤ l.length := h20
  rw [← hx] at h
  have g3 : ((x : Int) / 16 != 4) = true := by rw [bne_iff_ne]; omega
  clear hv hA hR0 hS0 h hx hex hex0
  go_enter Try.func12, Try.ntmps12
  go_wp2_with fail
  exact bodyPost_ret (v := .tuple #[.agg #[.int .u8 0, .int .u16 0, .bool false, .bool false, .bool false, .int .i64 0, .int .u8 0, .int .u8 0, .int .u32 0, .int .u32 0, .slice none 0 0], .slice none 0 0, .int .i64 2]) (by simp [results, Try.results12, go_sem]) rfl ⟨by rw [HF.out]; rfl, by go_grown⟩
set_option maxRecDepth 100000 in
set_option maxHeartbeats 4000000 in
theorem parseR_f3 (a : Option Addr) (c : Nat) (l : List UInt8) (hl : l.length ≤ 1000000) (wm : World) (hv : Bytes wm (.slice a l.length c) l) (h20 : 20 ≤ l.length) (h4 : Sm.at0 l 0 / 16 = 4) (h : hsz l < 20 ∨ l.length < hsz l) :
    Calls Try.prog 12 #[.slice a l.length c] wm (NoR wm l) := by
  have HV := Lib.hid hv
  have hA : Below wm.heap.size wm ((wm.alloc (.cells #[.int .u8 0, .int .u16 0, .bool false, .bool false, .bool false, .int .i64 0, .int .u8 0, .int .u8 0, .int .u32 0, .int .u32 0, .slice none 0 0] 28)).alloc (.cells #[.int .u8 0, .int .u16 0, .bool false, .bool false, .bool false, .int .i64 0, .int .u8 0, .int .u8 0, .int .u32 0, .int .u32 0, .slice none 0 0] 28)) := by go_grown
  have hR0 : HdAt wm.heap.size hz ((wm.alloc (.cells #[.int .u8 0, .int .u16 0, .bool false, .bool false, .bool false, .int .i64 0, .int .u8 0, .int .u8 0, .int .u32 0, .int .u32 0, .slice none 0 0] 28)).alloc (.cells #[.int .u8 0, .int .u16 0, .bool false, .bool false, .bool false, .int .i64 0, .int .u8 0, .int .u8 0, .int .u32 0, .int .u32 0, .slice none 0 0] 28)) := HdAt.later (HdAt.new wm hz) ((Below.refl _ _).alloc (Nat.le_refl _) _)
  have hS0 : HdAt (wm.heap.size + 1) hz ((wm.alloc (.cells #[.int .u8 0, .int .u16 0, .bool false, .bool false, .bool false, .int .i64 0, .int .u8 0, .int .u8 0, .int .u32 0, .int .u32 0, .slice none 0 0] 28)).alloc (.cells #[.int .u8 0, .int .u16 0, .bool false, .bool false, .bool false, .int .i64 0, .int .u8 0, .int .u8 0, .int .u32 0, .int .u32 0, .slice none 0 0] 28)) := by
    have := HdAt.new (wm.alloc (.cells #[.int .u8 0, .int .u16 0, .bool false, .bool false, .bool false, .int .i64 0, .int .u8 0, .int .u8 0, .int .u32 0, .int .u32 0, .slice none 0 0] 28)) hz
    rw [World.size_alloc] at this
    exact this
  have HA := Lib.hid hA
  have HR0 := Lib.hid hR0
  have HS0 := Lib.hid hS0
  have HF := Lib.hid (flt3 h20 h4 h)
  obtain ⟨b, ox, rfl, hbx, hex⟩ := hv.at1 (i := 0) (by omega)
  obtain ⟨x, hx⟩ : ∃ x, x = Sm.at0 l 0 := ⟨_, rfl⟩
  have hx256 : x < 256 := by rw [hx]; exact Sm.at0_lt _ _
  rw [← hx] at hex
  have hex0 : wm.cell? ⟨b, ox, none⟩ = some (.int .u8 (x : Nat)) := hex
  have hexA := cell_later hA hex0
  have g1 : (20 : Int) ≤ l.length := by omega
  have g2 : 20 ≤ l.length := h20
  rw [← hx] at h4
  have g3 : ((x : Int) / 16 != 4) = false := by simp; omega
  obtain ⟨s, hs⟩ : ∃ s, s = hsz l := ⟨_, rfl⟩
  have hsx : s = x % 16 * 4 := by rw [hs, hx]; rfl
  have g4 : 4 * ((x : Int) % 16) = s := by omega
  rw [← hs] at h
  have HS := Lib.hid hs
  clear hv hA hR0 hS0 hx hex hex0 hs hsx h4
  by_cases h5 : s < 20
  · have g5 : (s : Int) < 20 := by omega
    clear h h5
    go_enter Try.func12, Try.ntmps12
    go_wp2_with fail
    exact bodyPost_ret (v := .tuple #[.agg #[.int .u8 0, .int .u16 0, .bool false, .bool false, .bool false, .int .i64 0, .int .u8 0, .int .u8 0, .int .u32 0, .int .u32 0, .slice none 0 0], .slice none 0 0, .int .i64 3]) (by simp [results, Try.results12, go_sem]) rfl ⟨by rw [HF.out]; rfl, by go_grown⟩
  · have g5 : (20 : Int) ≤ s := by omega
    have g6 : (l.length : Int) < s := by omega
    clear h h5
    go_enter Try.func12, Try.ntmps12
    go_wp2_with fail
    exact bodyPost_ret (v := .tuple #[.agg #[.int .u8 0, .int .u16 0, .bool false, .bool false, .bool false, .int .i64 0, .int .u8 0, .int .u8 0, .int .u32 0, .int .u32 0, .slice none 0 0], .slice none 0 0, .int .i64 3]) (by simp [results, Try.results12, go_sem]) rfl ⟨by rw [HF.out]; rfl, by go_grown⟩
set_option maxRecDepth 100000 in
set_option maxHeartbeats 4000000 in
theorem parseR_f4 (a : Option Addr) (c : Nat) (l : List UInt8) (hl : l.length ≤ 1000000) (wm : World) (hv : Bytes wm (.slice a l.length c) l) (h20 : 20 ≤ l.length) (h4 : Sm.at0 l 0 / 16 = 4) (h : 20 ≤ hsz l ∧ hsz l ≤ l.length) (h7 : numAt l 2 2 < hsz l ∨ l.length < numAt l 2 2) :
    Calls Try.prog 12 #[.slice a l.length c] wm (NoR wm l) := by
  have HV := Lib.hid hv
  have hA : Below wm.heap.size wm ((wm.alloc (.cells #[.int .u8 0, .int .u16 0, .bool false, .bool false, .bool false, .int .i64 0, .int .u8 0, .int .u8 0, .int .u32 0, .int .u32 0, .slice none 0 0] 28)).alloc (.cells #[.int .u8 0, .int .u16 0, .bool false, .bool false, .bool false, .int .i64 0, .int .u8 0, .int .u8 0, .int .u32 0, .int .u32 0, .slice none 0 0] 28)) := by go_grown
  have hR0 : HdAt wm.heap.size hz ((wm.alloc (.cells #[.int .u8 0, .int .u16 0, .bool false, .bool false, .bool false, .int .i64 0, .int .u8 0, .int .u8 0, .int .u32 0, .int .u32 0, .slice none 0 0] 28)).alloc (.cells #[.int .u8 0, .int .u16 0, .bool false, .bool false, .bool false, .int .i64 0, .int .u8 0, .int .u8 0, .int .u32 0, .int .u32 0, .slice none 0 0] 28)) := HdAt.later (HdAt.new wm hz) ((Below.refl _ _).alloc (Nat.le_refl _) _)
  have hS0 : HdAt (wm.heap.size + 1) hz ((wm.alloc (.cells #[.int .u8 0, .int .u16 0, .bool false, .bool false, .bool false, .int .i64 0, .int .u8 0, .int .u8 0, .int .u32 0, .int .u32 0, .slice none 0 0] 28)).alloc (.cells #[.int .u8 0, .int .u16 0, .bool false, .bool false, .bool false, .int .i64 0, .int .u8 0, .int .u8 0, .int .u32 0, .int .u32 0, .slice none 0 0] 28)) := by
    have := HdAt.new (wm.alloc (.cells #[.int .u8 0, .int .u16 0, .bool false, .bool false, .bool false, .int .i64 0, .int .u8 0, .int .u8 0, .int .u32 0, .int .u32 0, .slice none 0 0] 28)) hz
    rw [World.size_alloc] at this
    exact this
  have HA := Lib.hid hA
  have HR0 := Lib.hid hR0
  have HS0 := Lib.hid hS0
  have HF := Lib.hid (flt4 h20 h4 h h7)
  obtain ⟨b, ox, rfl, hbx, hex⟩ := hv.at1 (i := 0) (by omega)
  obtain ⟨x, hx⟩ : ∃ x, x = Sm.at0 l 0 := ⟨_, rfl⟩
  have hx256 : x < 256 := by rw [hx]; exact Sm.at0_lt _ _
  rw [← hx] at hex
  have hex0 : wm.cell? ⟨b, ox, none⟩ = some (.int .u8 (x : Nat)) := hex
  have hexA := cell_later hA hex0
  have g1 : (20 : Int) ≤ l.length := by omega
  have g2 : 20 ≤ l.length := h20
  rw [← hx] at h4
  have g3 : ((x : Int) / 16 != 4) = false := by simp; omega
  obtain ⟨s, hs⟩ : ∃ s, s = hsz l := ⟨_, rfl⟩
  have hsx : s = x % 16 * 4 := by rw [hs, hx]; rfl
  have g4 : 4 * ((x : Int) % 16) = s := by omega
  rw [← hs] at h
  have HS := Lib.hid hs
  have htm := numAt_lt (l := l) (i := 2) (k := 2) (by omega)
  obtain ⟨a2, hs2, hg2⟩ := getR_at hv 2 2 (by omega) (by omega)
  have hs2' : ∀ w, (Instr.slice 22 (.slice (some ⟨b, ox, none⟩) l.length c) (some (.int .i64 2)) (some (.int .i64 4)) none).run Try.prog w = .ok (.slice a2 2 (c - 2)) w := hs2
  obtain ⟨t, ht⟩ : ∃ t, t = numAt l 2 2 := ⟨_, rfl⟩
  rw [← ht] at hg2 htm
  have HG2 := Lib.hid hg2
  have HT := Lib.hid ht
  have hwt : IntKind.i64.wrap (t : Int) = t := IntWalk.i64_in _ ⟨by omega, by omega⟩
  have g5 : (20 : Int) ≤ s := by omega
  have g6 : (s : Int) ≤ l.length := by omega
  rw [← ht, ← hs] at h7
  clear hv hA hR0 hS0 hx hex hex0 hs hsx h4 hs2 hg2 htm ht
  by_cases h5 : t < s
  · have g7 : (t : Int) < s := by omega
    clear h h5 h7
    go_enter Try.func12, Try.ntmps12
    go_wp2_with fail
    refine (HG2.out _ HA.out).mono ?_
    rintro e w3 ⟨rfl, rfl⟩
    go_wp2_with fail
    exact bodyPost_ret (v := .tuple #[.agg #[.int .u8 0, .int .u16 0, .bool false, .bool false, .bool false, .int .i64 0, .int .u8 0, .int .u8 0, .int .u32 0, .int .u32 0, .slice none 0 0], .slice none 0 0, .int .i64 4]) (by simp [results, Try.results12, go_sem]) rfl ⟨by rw [HF.out]; rfl, by go_grown⟩
  · have g7 : (s : Int) ≤ t := by omega
    have g8 : (l.length : Int) < t := by omega
    clear h h5 h7
    go_enter Try.func12, Try.ntmps12
    go_wp2_with fail
    refine (HG2.out _ HA.out).mono ?_
    rintro e w3 ⟨rfl, rfl⟩
    go_wp2_with fail
    exact bodyPost_ret (v := .tuple #[.agg #[.int .u8 0, .int .u16 0, .bool false, .bool false, .bool false, .int .i64 0, .int .u8 0, .int .u8 0, .int .u32 0, .int .u32 0, .slice none 0 0], .slice none 0 0, .int .i64 4]) (by simp [results, Try.results12, go_sem]) rfl ⟨by rw [HF.out]; rfl, by go_grown⟩
end Go.Proofs.Ytnhkkpcepppgoaa

namespace Go.Proofs.Ytnhkkpcepppgoaa
open Go.RowKit
attribute [local go_sem ↓] Go.wp_at_zero Go.wp_at_succ

set_option maxRecDepth 100000 in
set_option maxHeartbeats 4000000 in
theorem parseR_f5 (a : Option Addr) (c : Nat) (l : List UInt8) (hl : l.length ≤ 1000000) (wm : World) (hv : Bytes wm (.slice a l.length c) l) (h20 : 20 ≤ l.length) (h4 : Sm.at0 l 0 / 16 = 4) (h : 20 ≤ hsz l ∧ hsz l ≤ l.length) (h7 : hsz l ≤ numAt l 2 2 ∧ numAt l 2 2 ≤ l.length) (h8 : Sm.tot (l.take (hsz l)) ≠ 65535) :
    Calls Try.prog 12 #[.slice a l.length c] wm (NoR wm l) := by
  have HV := Lib.hid hv
  have hA : Below wm.heap.size wm ((wm.alloc (.cells #[.int .u8 0, .int .u16 0, .bool false, .bool false, .bool false, .int .i64 0, .int .u8 0, .int .u8 0, .int .u32 0, .int .u32 0, .slice none 0 0] 28)).alloc (.cells #[.int .u8 0, .int .u16 0, .bool false, .bool false, .bool false, .int .i64 0, .int .u8 0, .int .u8 0, .int .u32 0, .int .u32 0, .slice none 0 0] 28)) := by go_grown
  have hR0 : HdAt wm.heap.size hz ((wm.alloc (.cells #[.int .u8 0, .int .u16 0, .bool false, .bool false, .bool false, .int .i64 0, .int .u8 0, .int .u8 0, .int .u32 0, .int .u32 0, .slice none 0 0] 28)).alloc (.cells #[.int .u8 0, .int .u16 0, .bool false, .bool false, .bool false, .int .i64 0, .int .u8 0, .int .u8 0, .int .u32 0, .int .u32 0, .slice none 0 0] 28)) := HdAt.later (HdAt.new wm hz) ((Below.refl _ _).alloc (Nat.le_refl _) _)
  have hS0 : HdAt (wm.heap.size + 1) hz ((wm.alloc (.cells #[.int .u8 0, .int .u16 0, .bool false, .bool false, .bool false, .int .i64 0, .int .u8 0, .int .u8 0, .int .u32 0, .int .u32 0, .slice none 0 0] 28)).alloc (.cells #[.int .u8 0, .int .u16 0, .bool false, .bool false, .bool false, .int .i64 0, .int .u8 0, .int .u8 0, .int .u32 0, .int .u32 0, .slice none 0 0] 28)) := by
    have := HdAt.new (wm.alloc (.cells #[.int .u8 0, .int .u16 0, .bool false, .bool false, .bool false, .int .i64 0, .int .u8 0, .int .u8 0, .int .u32 0, .int .u32 0, .slice none 0 0] 28)) hz
    rw [World.size_alloc] at this
    exact this
  have HA := Lib.hid hA
  have HR0 := Lib.hid hR0
  have HS0 := Lib.hid hS0
  have HF := Lib.hid (flt5 h20 h4 h h7 h8)
  obtain ⟨b, ox, rfl, hbx, hex⟩ := hv.at1 (i := 0) (by omega)
  obtain ⟨x, hx⟩ : ∃ x, x = Sm.at0 l 0 := ⟨_, rfl⟩
  have hx256 : x < 256 := by rw [hx]; exact Sm.at0_lt _ _
  rw [← hx] at hex
  have hex0 : wm.cell? ⟨b, ox, none⟩ = some (.int .u8 (x : Nat)) := hex
  have hexA := cell_later hA hex0
  have g1 : (20 : Int) ≤ l.length := by omega
  have g2 : 20 ≤ l.length := h20
  rw [← hx] at h4
  have g3 : ((x : Int) / 16 != 4) = false := by simp; omega
  obtain ⟨s, hs⟩ : ∃ s, s = hsz l := ⟨_, rfl⟩
  have hsx : s = x % 16 * 4 := by rw [hs, hx]; rfl
  have g4 : 4 * ((x : Int) % 16) = s := by omega
  rw [← hs] at h
  have HS := Lib.hid hs
  have htm := numAt_lt (l := l) (i := 2) (k := 2) (by omega)
  obtain ⟨a2, hs2, hg2⟩ := getR_at hv 2 2 (by omega) (by omega)
  have hs2' : ∀ w, (Instr.slice 22 (.slice (some ⟨b, ox, none⟩) l.length c) (some (.int .i64 2)) (some (.int .i64 4)) none).run Try.prog w = .ok (.slice a2 2 (c - 2)) w := hs2
  obtain ⟨t, ht⟩ : ∃ t, t = numAt l 2 2 := ⟨_, rfl⟩
  rw [← ht] at hg2 htm
  have HG2 := Lib.hid hg2
  have HT := Lib.hid ht
  have hwt : IntKind.i64.wrap (t : Int) = t := IntWalk.i64_in _ ⟨by omega, by omega⟩
  have g5 : (20 : Int) ≤ s := by omega
  have g6 : (s : Int) ≤ l.length := by omega
  rw [← ht, ← hs] at h7
  rw [← hs] at h8
  have g7 : (s : Int) ≤ t := by omega
  have g8 : (t : Int) ≤ l.length := by omega
  obtain ⟨hsh, hbh⟩ := Bytes.cut_hk .i64 hv (s : Int) s rfl h.2
  obtain ⟨q, hq⟩ : ∃ q, q = Sm.tot (l.take s) := ⟨_, rfl⟩
  have HTO : Hid (∀ W, Below wm.heap.size wm W → Calls Try.prog 56 #[.slice (some ⟨b, ox, none⟩) s c] W fun e w' => e = .returned (.int .u16 (q : Nat)) ∧ Below W.heap.size W w') := fun W hb => by
    have := totalR_any _ (l.take s) W (hbh.later hb) (by have := hsz_le l; rw [List.length_take]; omega)
    rw [← hq] at this
    exact this
  rw [← hq] at h8
  have g9 : ((q : Int) != 65535) = true := by rw [bne_iff_ne]; omega
  clear hv hA hR0 hS0 hx hex hex0 hx256 hs hsx h4 hs2 hg2 htm ht h h7 h8 hq hbh
  go_enter Try.func12, Try.ntmps12
  go_wp2_with fail
  refine (HG2.out _ HA.out).mono ?_
  rintro e w3 ⟨rfl, rfl⟩
  go_wp2_with fail
  refine (HTO.out _ HA.out).mono ?_
  rintro e w4 ⟨rfl, hb4⟩
  have HB4 := Lib.hid (HA.out.trans (hb4.mono HA.out.size))
  have HR4 : Hid (HdAt wm.heap.size hz w4) := HdAt.later HR0.out hb4
  have HS4 : Hid (HdAt (wm.heap.size + 1) hz w4) := HdAt.later HS0.out hb4
  clear hb4
  obtain ⟨s1, s2, s3, _⟩ := HdAt.set11 (show HdAt wm.heap.size hz w4 from HR4.out) (.int .u8 0) (.int .u16 0) (.bool false) (.bool false) (.bool false) (.int .i64 0) (.int .u8 0) (.int .u8 0) (.int .u32 0) (.int .u32 0) (.slice none 0 0)
  have Q1 := Lib.hid s1
  have Q4 := Lib.hid ((show Below wm.heap.size wm w4 from HB4.out).trans (s3 _ (Nat.le_refl _)))
  have hcz : ∀ j x, hz[j]? = some x → (w4).cell? ⟨wm.heap.size, j, none⟩ = some x := fun j x hx => HdAt.cell (show HdAt wm.heap.size hz w4 from HR4.out) hx
  have hcy : ∀ j x, hz[j]? = some x → (w4).cell? ⟨wm.heap.size + 1, j, none⟩ = some x := fun j x hx => HdAt.cell (show HdAt (wm.heap.size + 1) hz w4 from HS4.out) hx
  have hfz : ∀ j, (w4).frozen? ⟨wm.heap.size, j, none⟩ = false := fun j => HdAt.frozen (show HdAt wm.heap.size hz w4 from HR4.out) j
  have k0 := hcz 0 _ rfl
  have k1 := hcz 1 _ rfl
  have k2 := hcz 2 _ rfl
  have k3 := hcz 3 _ rfl
  have k4 := hcz 4 _ rfl
  have k5 := hcz 5 _ rfl
  have k6 := hcz 6 _ rfl
  have k7 := hcz 7 _ rfl
  have k8 := hcz 8 _ rfl
  have k9 := hcz 9 _ rfl
  have k10 := hcz 10 _ rfl
  have y0 := hcy 0 _ rfl
  have y1 := hcy 1 _ rfl
  have y2 := hcy 2 _ rfl
  have y3 := hcy 3 _ rfl
  have y4 := hcy 4 _ rfl
  have y5 := hcy 5 _ rfl
  have y6 := hcy 6 _ rfl
  have y7 := hcy 7 _ rfl
  have y8 := hcy 8 _ rfl
  have y9 := hcy 9 _ rfl
  have y10 := hcy 10 _ rfl
  clear hcz hcy s1 s2 s3
  go_wp2_with fail
  have d0 := HdAt.cell Q1.out (j := 0) rfl
  have d1 := HdAt.cell Q1.out (j := 1) rfl
  have d2 := HdAt.cell Q1.out (j := 2) rfl
  have d3 := HdAt.cell Q1.out (j := 3) rfl
  have d4 := HdAt.cell Q1.out (j := 4) rfl
  have d5 := HdAt.cell Q1.out (j := 5) rfl
  have d6 := HdAt.cell Q1.out (j := 6) rfl
  have d7 := HdAt.cell Q1.out (j := 7) rfl
  have d8 := HdAt.cell Q1.out (j := 8) rfl
  have d9 := HdAt.cell Q1.out (j := 9) rfl
  have d10 := HdAt.cell Q1.out (j := 10) rfl
  exact bodyPost_ret (v := .tuple #[.agg #[.int .u8 0, .int .u16 0, .bool false, .bool false, .bool false, .int .i64 0, .int .u8 0, .int .u8 0, .int .u32 0, .int .u32 0, .slice none 0 0], .slice none 0 0, .int .i64 5]) (by simp [results, Try.results12, go_sem, d0, d1, d2, d3, d4, d5, d6, d7, d8, d9, d10]) rfl ⟨by rw [HF.out]; rfl, Q4.out⟩
set_option maxRecDepth 100000 in
set_option maxHeartbeats 4000000 in
theorem parseR_f6 (a : Option Addr) (c : Nat) (l : List UInt8) (hl : l.length ≤ 1000000) (wm : World) (hv : Bytes wm (.slice a l.length c) l) (h20 : 20 ≤ l.length) (h4 : Sm.at0 l 0 / 16 = 4) (h : 20 ≤ hsz l ∧ hsz l ≤ l.length) (h7 : hsz l ≤ numAt l 2 2 ∧ numAt l 2 2 ≤ l.length) (h8 : Sm.tot (l.take (hsz l)) = 65535) (h9 : Om.ok ((l.take (hsz l)).drop 20) = false) :
    Calls Try.prog 12 #[.slice a l.length c] wm (NoR wm l) := by
  have HV := Lib.hid hv
  have hA : Below wm.heap.size wm ((wm.alloc (.cells #[.int .u8 0, .int .u16 0, .bool false, .bool false, .bool false, .int .i64 0, .int .u8 0, .int .u8 0, .int .u32 0, .int .u32 0, .slice none 0 0] 28)).alloc (.cells #[.int .u8 0, .int .u16 0, .bool false, .bool false, .bool false, .int .i64 0, .int .u8 0, .int .u8 0, .int .u32 0, .int .u32 0, .slice none 0 0] 28)) := by go_grown
  have hR0 : HdAt wm.heap.size hz ((wm.alloc (.cells #[.int .u8 0, .int .u16 0, .bool false, .bool false, .bool false, .int .i64 0, .int .u8 0, .int .u8 0, .int .u32 0, .int .u32 0, .slice none 0 0] 28)).alloc (.cells #[.int .u8 0, .int .u16 0, .bool false, .bool false, .bool false, .int .i64 0, .int .u8 0, .int .u8 0, .int .u32 0, .int .u32 0, .slice none 0 0] 28)) := HdAt.later (HdAt.new wm hz) ((Below.refl _ _).alloc (Nat.le_refl _) _)
  have hS0 : HdAt (wm.heap.size + 1) hz ((wm.alloc (.cells #[.int .u8 0, .int .u16 0, .bool false, .bool false, .bool false, .int .i64 0, .int .u8 0, .int .u8 0, .int .u32 0, .int .u32 0, .slice none 0 0] 28)).alloc (.cells #[.int .u8 0, .int .u16 0, .bool false, .bool false, .bool false, .int .i64 0, .int .u8 0, .int .u8 0, .int .u32 0, .int .u32 0, .slice none 0 0] 28)) := by
    have := HdAt.new (wm.alloc (.cells #[.int .u8 0, .int .u16 0, .bool false, .bool false, .bool false, .int .i64 0, .int .u8 0, .int .u8 0, .int .u32 0, .int .u32 0, .slice none 0 0] 28)) hz
    rw [World.size_alloc] at this
    exact this
  have HA := Lib.hid hA
  have HR0 := Lib.hid hR0
  have HS0 := Lib.hid hS0
  have HF := Lib.hid (flt6 h20 h4 h h7 h8 h9)
  obtain ⟨b, ox, rfl, hbx, hex⟩ := hv.at1 (i := 0) (by omega)
  obtain ⟨x, hx⟩ : ∃ x, x = Sm.at0 l 0 := ⟨_, rfl⟩
  have hx256 : x < 256 := by rw [hx]; exact Sm.at0_lt _ _
  rw [← hx] at hex
  have hex0 : wm.cell? ⟨b, ox, none⟩ = some (.int .u8 (x : Nat)) := hex
  have hexA := cell_later hA hex0
  have g1 : (20 : Int) ≤ l.length := by omega
  have g2 : 20 ≤ l.length := h20
  rw [← hx] at h4
  have g3 : ((x : Int) / 16 != 4) = false := by simp; omega
  obtain ⟨s, hs⟩ : ∃ s, s = hsz l := ⟨_, rfl⟩
  have hsx : s = x % 16 * 4 := by rw [hs, hx]; rfl
  have g4 : 4 * ((x : Int) % 16) = s := by omega
  rw [← hs] at h
  have HS := Lib.hid hs
  have htm := numAt_lt (l := l) (i := 2) (k := 2) (by omega)
  obtain ⟨a2, hs2, hg2⟩ := getR_at hv 2 2 (by omega) (by omega)
  have hs2' : ∀ w, (Instr.slice 22 (.slice (some ⟨b, ox, none⟩) l.length c) (some (.int .i64 2)) (some (.int .i64 4)) none).run Try.prog w = .ok (.slice a2 2 (c - 2)) w := hs2
  obtain ⟨t, ht⟩ : ∃ t, t = numAt l 2 2 := ⟨_, rfl⟩
  rw [← ht] at hg2 htm
  have HG2 := Lib.hid hg2
  have HT := Lib.hid ht
  have hwt : IntKind.i64.wrap (t : Int) = t := IntWalk.i64_in _ ⟨by omega, by omega⟩
  have g5 : (20 : Int) ≤ s := by omega
  have g6 : (s : Int) ≤ l.length := by omega
  rw [← ht, ← hs] at h7
  rw [← hs] at h8
  have g7 : (s : Int) ≤ t := by omega
  have g8 : (t : Int) ≤ l.length := by omega
  obtain ⟨hsh, hbh⟩ := Bytes.cut_hk .i64 hv (s : Int) s rfl h.2
  obtain ⟨q, hq⟩ : ∃ q, q = Sm.tot (l.take s) := ⟨_, rfl⟩
  have HTO : Hid (∀ W, Below wm.heap.size wm W → Calls Try.prog 56 #[.slice (some ⟨b, ox, none⟩) s c] W fun e w' => e = .returned (.int .u16 (q : Nat)) ∧ Below W.heap.size W w') := fun W hb => by
    have := totalR_any _ (l.take s) W (hbh.later hb) (by have := hsz_le l; rw [List.length_take]; omega)
    rw [← hq] at this
    exact this
  rw [← hq] at h8
  have g9 : ((q : Int) != 65535) = false := by rw [h8]; rfl
  obtain ⟨ao, hso, hbo⟩ := hv.cut_lh 20 (s : Int) 20 s rfl rfl h.1 h.2
  obtain ⟨sn, hsn⟩ : ∃ n, n = s - 20 := ⟨_, rfl⟩
  obtain ⟨sc, hsc⟩ : ∃ n, n = c - 20 := ⟨_, rfl⟩
  rw [← hsn, ← hsc] at hbo hso
  rw [← hs] at h9
  have HPA : Hid (∀ W, Below wm.heap.size wm W → Calls Try.prog 57 #[.slice ao sn sc] W fun e w' => ∃ a c n, e = .returned (.tuple #[.slice a n c, .bool false]) ∧ Below W.heap.size W w') := fun W hb =>
    (partsR_any _ ((l.take s).drop 20) (by have := hsz_le l; rw [List.length_drop, List.length_take]; omega) W (hbo.later hb)).mono fun e w' ⟨a, c, A, he, _, _, _, _, hB⟩ => by rw [h9] at he; exact ⟨a, c, _, he, hB⟩
  clear hv hA hR0 hS0 hx hex hex0 hx256 hs hsx h4 hs2 hg2 htm ht h h7 h8 h9 hq hbh hbo hsn hsc
  go_enter Try.func12, Try.ntmps12
  go_wp2_with fail
  refine (HG2.out _ HA.out).mono ?_
  rintro e w3 ⟨rfl, rfl⟩
  go_wp2_with fail
  refine (HTO.out _ HA.out).mono ?_
  rintro e w4 ⟨rfl, hb4⟩
  have HB4 := Lib.hid (HA.out.trans (hb4.mono HA.out.size))
  have HR4 : Hid (HdAt wm.heap.size hz w4) := HdAt.later HR0.out hb4
  have HS4 : Hid (HdAt (wm.heap.size + 1) hz w4) := HdAt.later HS0.out hb4
  clear hb4
  go_wp2_with fail
  refine (HPA.out _ HB4.out).mono ?_
  rintro e w5 ⟨pa, pc, pn, rfl, hb5⟩
  have HB5 := Lib.hid (HB4.out.trans (hb5.mono HB4.out.size))
  have HR5 : Hid (HdAt wm.heap.size hz w5) := HdAt.later HR4.out hb5
  have HS5 : Hid (HdAt (wm.heap.size + 1) hz w5) := HdAt.later HS4.out hb5
  clear hb5
  obtain ⟨s1, s2, s3, _⟩ := HdAt.set11 (show HdAt wm.heap.size hz w5 from HR5.out) (.int .u8 0) (.int .u16 0) (.bool false) (.bool false) (.bool false) (.int .i64 0) (.int .u8 0) (.int .u8 0) (.int .u32 0) (.int .u32 0) (.slice none 0 0)
  have Q1 := Lib.hid s1
  have Q4 := Lib.hid ((show Below wm.heap.size wm w5 from HB5.out).trans (s3 _ (Nat.le_refl _)))
  have hcz : ∀ j x, hz[j]? = some x → (w5).cell? ⟨wm.heap.size, j, none⟩ = some x := fun j x hx => HdAt.cell (show HdAt wm.heap.size hz w5 from HR5.out) hx
  have hcy : ∀ j x, hz[j]? = some x → (w5).cell? ⟨wm.heap.size + 1, j, none⟩ = some x := fun j x hx => HdAt.cell (show HdAt (wm.heap.size + 1) hz w5 from HS5.out) hx
  have hfz : ∀ j, (w5).frozen? ⟨wm.heap.size, j, none⟩ = false := fun j => HdAt.frozen (show HdAt wm.heap.size hz w5 from HR5.out) j
  have k0 := hcz 0 _ rfl
  have k1 := hcz 1 _ rfl
  have k2 := hcz 2 _ rfl
  have k3 := hcz 3 _ rfl
  have k4 := hcz 4 _ rfl
  have k5 := hcz 5 _ rfl
  have k6 := hcz 6 _ rfl
  have k7 := hcz 7 _ rfl
  have k8 := hcz 8 _ rfl
  have k9 := hcz 9 _ rfl
  have k10 := hcz 10 _ rfl
  have y0 := hcy 0 _ rfl
  have y1 := hcy 1 _ rfl
  have y2 := hcy 2 _ rfl
  have y3 := hcy 3 _ rfl
  have y4 := hcy 4 _ rfl
  have y5 := hcy 5 _ rfl
  have y6 := hcy 6 _ rfl
  have y7 := hcy 7 _ rfl
  have y8 := hcy 8 _ rfl
  have y9 := hcy 9 _ rfl
  have y10 := hcy 10 _ rfl
  clear hcz hcy s1 s2 s3
  go_wp2_with fail
  have d0 := HdAt.cell Q1.out (j := 0) rfl
  have d1 := HdAt.cell Q1.out (j := 1) rfl
  have d2 := HdAt.cell Q1.out (j := 2) rfl
  have d3 := HdAt.cell Q1.out (j := 3) rfl
  have d4 := HdAt.cell Q1.out (j := 4) rfl
  have d5 := HdAt.cell Q1.out (j := 5) rfl
  have d6 := HdAt.cell Q1.out (j := 6) rfl
  have d7 := HdAt.cell Q1.out (j := 7) rfl
  have d8 := HdAt.cell Q1.out (j := 8) rfl
  have d9 := HdAt.cell Q1.out (j := 9) rfl
  have d10 := HdAt.cell Q1.out (j := 10) rfl
  exact bodyPost_ret (v := .tuple #[.agg #[.int .u8 0, .int .u16 0, .bool false, .bool false, .bool false, .int .i64 0, .int .u8 0, .int .u8 0, .int .u32 0, .int .u32 0, .slice none 0 0], .slice none 0 0, .int .i64 6]) (by simp [results, Try.results12, go_sem, d0, d1, d2, d3, d4, d5, d6, d7, d8, d9, d10]) rfl ⟨by rw [HF.out]; rfl, Q4.out⟩
end Go.Proofs.Ytnhkkpcepppgoaa

namespace Go.Proofs.Ytnhkkpcepppgoaa
open Go.RowKit
attribute [local go_sem ↓] Go.wp_at_zero Go.wp_at_succ

theorem parseR_no (v : Value) (l : List UInt8) (hl : l.length ≤ 1000000) (wm : World) (hv : Bytes wm v l) (hf : flt l ≠ 0) : Calls Try.prog 12 #[v] wm (NoR wm l) := by
  obtain ⟨a, c, rfl⟩ := hv.form
  rcases Nat.lt_or_ge l.length 20 with h20 | h20
  · exact parseR_f1 a c l hl wm hv h20
  · by_cases h4 : Sm.at0 l 0 / 16 = 4
    · by_cases h : 20 ≤ hsz l ∧ hsz l ≤ l.length
      · by_cases h7 : hsz l ≤ numAt l 2 2 ∧ numAt l 2 2 ≤ l.length
        · by_cases h8 : Sm.tot (l.take (hsz l)) = 65535
          · cases h9 : Om.ok ((l.take (hsz l)).drop 20) with
            | true => exact absurd (flt0 h20 h4 h h7 h8 h9) hf
            | false => exact parseR_f6 a c l hl wm hv h20 h4 h h7 h8 h9
          · exact parseR_f5 a c l hl wm hv h20 h4 h h7 h8
        · exact parseR_f4 a c l hl wm hv h20 h4 h (by omega)
      · exact parseR_f3 a c l hl wm hv h20 h4 (by omega)
    · exact parseR_f2 a c l hl wm hv h20 h4
end Go.Proofs.Ytnhkkpcepppgoaa

namespace Go.Proofs.Ytnhkkpcepppgoaa
open Go.RowKit
attribute [local go_sem ↓] Go.wp_at_zero Go.wp_at_succ

set_option maxRecDepth 100000 in
set_option maxHeartbeats 4000000 in
theorem parse_no (v : Value) (l : List UInt8) (hl : l.length ≤ 1000000) (wm : World) (hv : Bytes wm v l) (hf : flt l ≠ 0) :
    Calls Try.prog 11 #[v] wm fun e w' => e = .returned (.tuple #[.agg #[.int .u8 0, .int .u16 0, .bool false, .bool false, .bool false, .int .i64 0, .int .u8 0, .int .u8 0, .int .u32 0, .int .u32 0, .slice none 0 0], .slice none 0 0, .int .i64 (flt l : Nat)]) ∧ Below wm.heap.size wm w' := by
  have HV := Lib.hid hv
  obtain ⟨f, hfe⟩ : ∃ f, f = flt l := ⟨_, rfl⟩
  have hfl := fault_any v l hl
  rw [← hfe] at hf ⊢
  have HF := Lib.hid hfe
  have hA : Below wm.heap.size wm (wm.alloc (.cells #[.int .u8 0, .int .u16 0, .bool false, .bool false, .bool false, .int .i64 0, .int .u8 0, .int .u8 0, .int .u32 0, .int .u32 0, .slice none 0 0] 28)) := (Below.refl _ _).alloc (Nat.le_refl _) _
  have hfa := hfl _ (hv.later hA)
  rw [← hfe] at hfa
  have HFA := Lib.hid hfa
  have g1 : ((f : Int) != 0) = true := by rw [bne_iff_ne]; omega
  clear hfl hfe hv hf hfa
  go_enter Try.func11, Try.ntmps11
  go_wp2_with fail
  refine HFA.out.mono ?_
  rintro e w1 ⟨rfl, hb1⟩
  have hc : ∀ j x, [Value.int .u8 0, .int .u16 0, .bool false, .bool false, .bool false, .int .i64 0, .int .u8 0, .int .u8 0, .int .u32 0, .int .u32 0, .slice none 0 0][j]? = some x → w1.cell? ⟨wm.heap.size, j, none⟩ = some x := fun j x hx => cell_later hb1 (by simp; exact hx)
  have hfz : ∀ j, w1.frozen? ⟨wm.heap.size, j, none⟩ = false := fun j => by rw [hb1.frozen (p := ⟨wm.heap.size, j, none⟩) (by simp)]; simp
  have k0 := hc 0 _ rfl
  have k1 := hc 1 _ rfl
  have k2 := hc 2 _ rfl
  have k3 := hc 3 _ rfl
  have k4 := hc 4 _ rfl
  have k5 := hc 5 _ rfl
  have k6 := hc 6 _ rfl
  have k7 := hc 7 _ rfl
  have k8 := hc 8 _ rfl
  have k9 := hc 9 _ rfl
  have k10 := hc 10 _ rfl
  have hr1 : HdAt wm.heap.size hz w1 := HdAt.later (HdAt.new wm hz) hb1
  obtain ⟨s1, s2, s3, _⟩ := HdAt.set11 (show HdAt wm.heap.size hz w1 from hr1) (.int .u8 0) (.int .u16 0) (.bool false) (.bool false) (.bool false) (.int .i64 0) (.int .u8 0) (.int .u8 0) (.int .u32 0) (.int .u32 0) (.slice none 0 0)
  have Q1 := Lib.hid s1
  have Q4 := Lib.hid ((hA.trans (hb1.mono hA.size)).trans (s3 _ (Nat.le_refl _)))
  clear hc s1 s2 s3 hr1 hA hb1
  go_wp2_with fail
  have d0 := HdAt.cell Q1.out (j := 0) rfl
  have d1 := HdAt.cell Q1.out (j := 1) rfl
  have d2 := HdAt.cell Q1.out (j := 2) rfl
  have d3 := HdAt.cell Q1.out (j := 3) rfl
  have d4 := HdAt.cell Q1.out (j := 4) rfl
  have d5 := HdAt.cell Q1.out (j := 5) rfl
  have d6 := HdAt.cell Q1.out (j := 6) rfl
  have d7 := HdAt.cell Q1.out (j := 7) rfl
  have d8 := HdAt.cell Q1.out (j := 8) rfl
  have d9 := HdAt.cell Q1.out (j := 9) rfl
  have d10 := HdAt.cell Q1.out (j := 10) rfl
  exact bodyPost_ret (v := .tuple #[.agg #[.int .u8 0, .int .u16 0, .bool false, .bool false, .bool false, .int .i64 0, .int .u8 0, .int .u8 0, .int .u32 0, .int .u32 0, .slice none 0 0], .slice none 0 0, .int .i64 (f : Nat)]) (by simp [results, Try.results11, go_sem, d0, d1, d2, d3, d4, d5, d6, d7, d8, d9, d10]) rfl ⟨rfl, Q4.out⟩
end Go.Proofs.Ytnhkkpcepppgoaa

namespace Go.Proofs.Ytnhkkpcepppgoaa
open Go.RowKit

/-- The header, the options and the payload that bytes tell: noughts, if they are wrong. -/
def hdP (l : List UInt8) : Hd := if flt l = 0 then ⟨Sm.at0 l 1, numAt l 4 2, evB (numAt l 6 2), dfB (numAt l 6 2), mfB (numAt l 6 2), ((numAt l 6 2 % 8192 : Nat) : Int), Sm.at0 l 8, Sm.at0 l 9, numAt l 12 4, numAt l 16 4⟩ else ⟨0, 0, false, false, false, 0, 0, 0, 0, 0⟩
def opP (l : List UInt8) : List UInt8 := if flt l = 0 then (l.take (hsz l)).drop 20 else []
def plP (l : List UInt8) : List UInt8 := if flt l = 0 then (l.take (numAt l 2 2)).drop (hsz l) else []
def PrsW (wm : World) (l : List UInt8) (e : Ending) (w' : World) : Prop :=
  ∃ (u v : Value) (B : Nat), e = .returned (.tuple #[.agg #[.int .u8 ((hdP l).tos : Nat), .int .u16 ((hdP l).id : Nat), .bool (hdP l).ev, .bool (hdP l).df, .bool (hdP l).mf, .int .i64 (hdP l).off, .int .u8 ((hdP l).ttl : Nat), .int .u8 ((hdP l).pr : Nat), .int .u32 ((hdP l).src : Nat), .int .u32 ((hdP l).dst : Nat), u], v, .int .i64 (flt l : Nat)]) ∧
    OwnB w' wm.heap.size u (opP l) ∧ OwnB w' B v (plP l) ∧ wm.heap.size ≤ B ∧ (∀ g, u.ownBlock = some g → g < B) ∧ Below wm.heap.size wm w'
def PrsR (wm : World) (l : List UInt8) (e : Ending) (w' : World) : Prop :=
  ∃ (u v : Value), e = .returned (.tuple #[.agg #[.int .u8 ((hdP l).tos : Nat), .int .u16 ((hdP l).id : Nat), .bool (hdP l).ev, .bool (hdP l).df, .bool (hdP l).mf, .int .i64 (hdP l).off, .int .u8 ((hdP l).ttl : Nat), .int .u8 ((hdP l).pr : Nat), .int .u32 ((hdP l).src : Nat), .int .u32 ((hdP l).dst : Nat), u], v, .int .i64 (flt l : Nat)]) ∧
    Bytes w' u (opP l) ∧ Bytes w' v (plP l) ∧ Below wm.heap.size wm w'

theorem hdP_yes {l : List UInt8} (h : flt l = 0) : hdP l = ⟨Sm.at0 l 1, numAt l 4 2, evB (numAt l 6 2), dfB (numAt l 6 2), mfB (numAt l 6 2), ((numAt l 6 2 % 8192 : Nat) : Int), Sm.at0 l 8, Sm.at0 l 9, numAt l 12 4, numAt l 16 4⟩ := if_pos h
theorem hdP_no {l : List UInt8} (h : flt l ≠ 0) : hdP l = ⟨0, 0, false, false, false, 0, 0, 0, 0, 0⟩ := if_neg h
theorem opP_yes {l : List UInt8} (h : flt l = 0) : opP l = (l.take (hsz l)).drop 20 := if_pos h
theorem opP_no {l : List UInt8} (h : flt l ≠ 0) : opP l = [] := if_neg h
theorem plP_yes {l : List UInt8} (h : flt l = 0) : plP l = (l.take (numAt l 2 2)).drop (hsz l) := if_pos h
theorem plP_no {l : List UInt8} (h : flt l ≠ 0) : plP l = [] := if_neg h

theorem prsW_any (v : Value) (l : List UInt8) (hl : l.length ≤ 1000000) (wm : World) (hv : Bytes wm v l) : Calls Try.prog 11 #[v] wm (PrsW wm l) := by
  by_cases hf : flt l = 0
  · obtain ⟨a, c, rfl⟩ := hv.form
    refine (parse_yes a c l hl wm hv hf).mono ?_
    rintro e w' ⟨u, v, B, rfl, h1, h2, h3, h4, h5⟩
    refine ⟨u, v, B, ?_, ?_, ?_, h3, h4, h5⟩
    · rw [hdP_yes hf, hf]; rfl
    · rw [opP_yes hf]; exact h1
    · rw [plP_yes hf]; exact h2
  · refine (parse_no v l hl wm hv hf).mono ?_
    rintro e w' ⟨rfl, h5⟩
    refine ⟨.slice none 0 0, .slice none 0 0, wm.heap.size, ?_, ?_, ?_, Nat.le_refl _, fun g hg => by simp [Value.ownBlock] at hg, h5⟩
    · rw [hdP_no hf]; rfl
    · rw [opP_no hf]; exact OwnB.nil _ _
    · rw [plP_no hf]; exact OwnB.nil _ _
theorem prsR_any (v : Value) (l : List UInt8) (hl : l.length ≤ 1000000) (wm : World) (hv : Bytes wm v l) : Calls Try.prog 12 #[v] wm (PrsR wm l) := by
  by_cases hf : flt l = 0
  · obtain ⟨h20, _⟩ := flt_zero hf
    obtain ⟨b, o, c, rfl⟩ : ∃ b o c, v = .slice (some ⟨b, o, none⟩) l.length c := by
      rcases hv with ⟨rfl, _⟩ | ⟨b, o, c, rfl, _⟩
      · simp at h20
      · exact ⟨b, o, c, rfl⟩
    refine (parseR_yes b o c l hl wm hv hf).mono ?_
    rintro e w' ⟨u, v, rfl, h1, h2, h5⟩
    refine ⟨u, v, ?_, ?_, ?_, h5⟩
    · rw [hdP_yes hf, hf]; rfl
    · rw [opP_yes hf]; exact h1
    · rw [plP_yes hf]; exact h2
  · refine (parseR_no v l hl wm hv hf).mono ?_
    rintro e w' ⟨rfl, h5⟩
    refine ⟨.slice none 0 0, .slice none 0 0, ?_, ?_, ?_, h5⟩
    · rw [hdP_no hf]; rfl
    · rw [opP_no hf]; exact Bytes.nil _ _ _
    · rw [plP_no hf]; exact Bytes.nil _ _ _
end Go.Proofs.Ytnhkkpcepppgoaa

namespace Go.Proofs.Ytnhkkpcepppgoaa
open Go.RowKit
attribute [local go_sem ↓] Go.wp_at_zero Go.wp_at_succ

theorem may_not_ok {off : Int} {O : List UInt8} (h : Om.ok O = false) : mayB off O = false := by
  unfold mayB; rw [h]; simp
set_option maxHeartbeats 4000000 in
set_option maxRecDepth 100000 in
theorem mayR_any (h : Hd) (a : Option Addr) (c : Nat) (O : List UInt8) (w : World) (hv : Bytes w (.slice a O.length c) O) (hO : O.length ≤ 1000) :
    Calls Try.prog 14 #[.agg #[.int .u8 (h.tos : Nat), .int .u16 (h.id : Nat), .bool h.ev, .bool h.df, .bool h.mf, .int .i64 h.off, .int .u8 (h.ttl : Nat), .int .u8 (h.pr : Nat), .int .u32 (h.src : Nat), .int .u32 (h.dst : Nat), .slice a O.length c]] w fun e w' => e = .returned (.bool (mayB h.off O)) ∧ Below w.heap.size w w' := by
  have hA : Below w.heap.size w (w.alloc (.cells #[.int .u8 (h.tos : Nat), .int .u16 (h.id : Nat), .bool h.ev, .bool h.df, .bool h.mf, .int .i64 h.off, .int .u8 (h.ttl : Nat), .int .u8 (h.pr : Nat), .int .u32 (h.src : Nat), .int .u32 (h.dst : Nat), .slice a O.length c] 28)) := (Below.refl _ _).alloc (Nat.le_refl _) _
  have hc10 : (w.alloc (.cells #[.int .u8 (h.tos : Nat), .int .u16 (h.id : Nat), .bool h.ev, .bool h.df, .bool h.mf, .int .i64 h.off, .int .u8 (h.ttl : Nat), .int .u8 (h.pr : Nat), .int .u32 (h.src : Nat), .int .u32 (h.dst : Nat), .slice a O.length c] 28)).cell? ⟨w.heap.size, 10, none⟩ = some (.slice a O.length c) := by simp
  have hc5 : (w.alloc (.cells #[.int .u8 (h.tos : Nat), .int .u16 (h.id : Nat), .bool h.ev, .bool h.df, .bool h.mf, .int .i64 h.off, .int .u8 (h.ttl : Nat), .int .u8 (h.pr : Nat), .int .u32 (h.src : Nat), .int .u32 (h.dst : Nat), .slice a O.length c] 28)).cell? ⟨w.heap.size, 5, none⟩ = some (.int .i64 h.off) := by simp
  have hpt := partsR_any _ O hO _ (hv.later hA)
  have hg2 : (O.length : Int) ≤ 1000 := by omega
  obtain ⟨ok, hok⟩ : ∃ b, b = Om.ok O := ⟨_, rfl⟩
  rw [← hok] at hpt
  cases ok with
  | false =>
    have hk := may_not_ok (off := h.off) hok.symm
    have HOK : Hid (false = false) := rfl
    clear hok
    have HK := Lib.hid hk
    have HPT := Lib.hid hpt
    have HA := Lib.hid hA
    have HC10 := Lib.hid hc10
    have HC5 := Lib.hid hc5
    clear hv hA hk hpt hc10 hc5 hO
    go_enter Try.func14, Try.ntmps14
    go_wp2_with fail
    refine HPT.out.mono ?_
    rintro e w1 ⟨a1, c1, A, rfl, _, _, _, _, hb1⟩
    have HB := Lib.hid (HA.out.trans (hb1.mono HA.out.size))
    clear hb1
    go_wp2_with fail
    go_ret
    exact ⟨ret_b (by first | exact HK.out.symm | (rw [HK.out]; simp; omega)), HB.out⟩
  | true =>
    by_cases h1 : O.length ≤ 40
    · have g1 : (O.length : Int) ≤ 40 := by omega
      by_cases h2 : O.length % 4 = 0
      · have g4 : ((O.length : Int) % 4 == 0) = true := by rw [beq_iff_eq]; omega
        by_cases h3 : 0 ≤ h.off
        · by_cases h4 : h.off < 8192
          · have hk := (may_of (O := O) h3 (by omega) h1 h2).trans hok.symm
            clear hok h2
            have HK := Lib.hid hk
            have HPT := Lib.hid hpt
            have HA := Lib.hid hA
            have HC10 := Lib.hid hc10
            have HC5 := Lib.hid hc5
            clear hv hA hk hpt hc10 hc5 hO
            go_enter Try.func14, Try.ntmps14
            go_wp2_with fail
            refine HPT.out.mono ?_
            rintro e w1 ⟨a1, c1, A, rfl, _, _, _, _, hb1⟩
            have k10 := cell_later hb1 HC10.out
            have k5 := cell_later hb1 HC5.out
            have HB := Lib.hid (HA.out.trans (hb1.mono HA.out.size))
            clear hb1
            go_wp2_with fail
            go_ret
            exact ⟨ret_b (by first | exact HK.out.symm | (rw [HK.out]; simp; omega)), HB.out⟩
          · have hk := may_no (off := h.off) (O := O) (by omega)
            have g6 : 8192 ≤ h.off := by omega
            clear hok h2
            have HK := Lib.hid hk
            have HPT := Lib.hid hpt
            have HA := Lib.hid hA
            have HC10 := Lib.hid hc10
            have HC5 := Lib.hid hc5
            clear hv hA hk hpt hc10 hc5 hO
            go_enter Try.func14, Try.ntmps14
            go_wp2_with fail
            refine HPT.out.mono ?_
            rintro e w1 ⟨a1, c1, A, rfl, _, _, _, _, hb1⟩
            have k10 := cell_later hb1 HC10.out
            have k5 := cell_later hb1 HC5.out
            have HB := Lib.hid (HA.out.trans (hb1.mono HA.out.size))
            clear hb1
            go_wp2_with fail
            go_ret
            exact ⟨ret_b (by first | exact HK.out.symm | (rw [HK.out]; simp; omega)), HB.out⟩
        · have hk := may_no (off := h.off) (O := O) (by omega)
          have g5 : h.off < 0 := by omega
          clear hok h2
          have HK := Lib.hid hk
          have HPT := Lib.hid hpt
          have HA := Lib.hid hA
          have HC10 := Lib.hid hc10
          have HC5 := Lib.hid hc5
          clear hv hA hk hpt hc10 hc5 hO
          go_enter Try.func14, Try.ntmps14
          go_wp2_with fail
          refine HPT.out.mono ?_
          rintro e w1 ⟨a1, c1, A, rfl, _, _, _, _, hb1⟩
          have k10 := cell_later hb1 HC10.out
          have k5 := cell_later hb1 HC5.out
          have HB := Lib.hid (HA.out.trans (hb1.mono HA.out.size))
          clear hb1
          go_wp2_with fail
          go_ret
          exact ⟨ret_b (by first | exact HK.out.symm | (rw [HK.out]; simp; omega)), HB.out⟩
      · have hk := may_no (off := h.off) (O := O) (by omega)
        have g4 : ((O.length : Int) % 4 == 0) = false := by rw [beq_eq_false_iff_ne]; omega
        clear hok h2
        have HK := Lib.hid hk
        have HPT := Lib.hid hpt
        have HA := Lib.hid hA
        have HC10 := Lib.hid hc10
        have HC5 := Lib.hid hc5
        clear hv hA hk hpt hc10 hc5 hO
        go_enter Try.func14, Try.ntmps14
        go_wp2_with fail
        refine HPT.out.mono ?_
        rintro e w1 ⟨a1, c1, A, rfl, _, _, _, _, hb1⟩
        have k10 := cell_later hb1 HC10.out
        have k5 := cell_later hb1 HC5.out
        have HB := Lib.hid (HA.out.trans (hb1.mono HA.out.size))
        clear hb1
        go_wp2_with fail
        go_ret
        exact ⟨ret_b (by first | exact HK.out.symm | (rw [HK.out]; simp; omega)), HB.out⟩
    · have hk := may_no (off := h.off) (O := O) (by omega)
      have g1 : (40 : Int) < O.length := by omega
      clear hok
      have HK := Lib.hid hk
      have HPT := Lib.hid hpt
      have HA := Lib.hid hA
      have HC10 := Lib.hid hc10
      have HC5 := Lib.hid hc5
      clear hv hA hk hpt hc10 hc5 hO
      go_enter Try.func14, Try.ntmps14
      go_wp2_with fail
      refine HPT.out.mono ?_
      rintro e w1 ⟨a1, c1, A, rfl, _, _, _, _, hb1⟩
      have k10 := cell_later hb1 HC10.out
      have k5 := cell_later hb1 HC5.out
      have HB := Lib.hid (HA.out.trans (hb1.mono HA.out.size))
      clear hb1
      go_wp2_with fail
      go_ret
      exact ⟨ret_b (by first | exact HK.out.symm | (rw [HK.out]; simp; omega)), HB.out⟩

/-- May a packet be of that header and payload? -/
def fitB (off : Int) (O : List UInt8) (n : Nat) : Bool := mayB off O && decide (n ≤ 65535 - 20 - O.length)
set_option maxHeartbeats 4000000 in
set_option maxRecDepth 100000 in
theorem fitsR_any (h : Hd) (a : Option Addr) (c : Nat) (O : List UInt8) (pa : Option Addr) (pc n : Nat) (w : World) (hv : Bytes w (.slice a O.length c) O) (hO : O.length ≤ 1000) (hn : n ≤ 1000000) :
    Calls Try.prog 23 #[.agg #[.int .u8 (h.tos : Nat), .int .u16 (h.id : Nat), .bool h.ev, .bool h.df, .bool h.mf, .int .i64 h.off, .int .u8 (h.ttl : Nat), .int .u8 (h.pr : Nat), .int .u32 (h.src : Nat), .int .u32 (h.dst : Nat), .slice a O.length c], .slice pa n pc] w fun e w' => e = .returned (.bool (fitB h.off O n)) ∧ Below w.heap.size w w' := by
  have hA : Below w.heap.size w (w.alloc (.cells #[.int .u8 (h.tos : Nat), .int .u16 (h.id : Nat), .bool h.ev, .bool h.df, .bool h.mf, .int .i64 h.off, .int .u8 (h.ttl : Nat), .int .u8 (h.pr : Nat), .int .u32 (h.src : Nat), .int .u32 (h.dst : Nat), .slice a O.length c] 28)) := (Below.refl _ _).alloc (Nat.le_refl _) _
  have hc10 : (w.alloc (.cells #[.int .u8 (h.tos : Nat), .int .u16 (h.id : Nat), .bool h.ev, .bool h.df, .bool h.mf, .int .i64 h.off, .int .u8 (h.ttl : Nat), .int .u8 (h.pr : Nat), .int .u32 (h.src : Nat), .int .u32 (h.dst : Nat), .slice a O.length c] 28)).cell? ⟨w.heap.size, 10, none⟩ = some (.slice a O.length c) := by simp
  have hm := mayR_any h a c O _ (hv.later hA) hO
  have hk : fitB h.off O n = (mayB h.off O && decide (n ≤ 65535 - 20 - O.length)) := rfl
  obtain ⟨b, hb⟩ : ∃ b, b = mayB h.off O := ⟨_, rfl⟩
  rw [← hb] at hm hk
  have g2 : (O.length : Int) ≤ 1000 := by omega
  have g3 : (n : Int) ≤ 1000000 := by omega
  have HM := Lib.hid hm
  have HA := Lib.hid hA
  have HC10 := Lib.hid hc10
  have HK := Lib.hid hk
  have HO := Lib.hid hO
  clear hm hA hc10 hv hb hk hO hn
  go_enter Try.func23, Try.ntmps23
  go_wp2_with fail
  refine HM.out.mono ?_
  rintro e w1 ⟨rfl, hb1⟩
  have k10 := cell_later hb1 HC10.out
  have HB := Lib.hid (HA.out.trans (hb1.mono HA.out.size))
  clear hb1
  cases b with
  | false =>
    go_wp2_with fail
    go_ret
    exact ⟨ret_b HK.out.symm, HB.out⟩
  | true =>
    go_wp2_with fail
    go_ret
    refine ⟨ret_b ?_, HB.out⟩
    rw [HK.out]
    have := HO.out
    rw [Bool.eq_iff_iff]; simp; omega

/-- Is it a piece; is it a multicast address? -/
def fragB (h : Hd) : Bool := h.mf || decide (0 < h.off)
def multB (n : Nat) : Bool := decide (3758096384 ≤ n)
set_option maxHeartbeats 2000000 in
set_option maxRecDepth 100000 in
theorem fragW_any (h : Hd) (u : Value) (w : World) (hu : ∃ a n c, u = .slice a n c) : Calls Try.prog 17 #[.agg #[.int .u8 (h.tos : Nat), .int .u16 (h.id : Nat), .bool h.ev, .bool h.df, .bool h.mf, .int .i64 h.off, .int .u8 (h.ttl : Nat), .int .u8 (h.pr : Nat), .int .u32 (h.src : Nat), .int .u32 (h.dst : Nat), u]] w fun e w' => e = .returned (.bool (fragB h)) ∧ Below w.heap.size w w' := by
  obtain ⟨a, n, c, rfl⟩ := hu
  have hk : fragB h = (h.mf || decide (0 < h.off)) := rfl
  have HK := Lib.hid hk
  clear hk
  go_enter Try.func17, Try.ntmps17
  obtain ⟨m, hm⟩ : ∃ m, m = h.mf := ⟨_, rfl⟩
  rw [← hm] at HK ⊢
  clear hm
  cases m with
  | true =>
    go_wp2_with fail
    go_ret
    exact ⟨ret_b HK.out.symm, by go_grown⟩
  | false =>
    go_wp2_with fail
    go_ret
    exact ⟨ret_b (by rw [HK.out]; simp), by go_grown⟩
set_option maxHeartbeats 2000000 in
set_option maxRecDepth 100000 in
theorem fragR_any (h : Hd) (u : Value) (w : World) (hu : ∃ a n c, u = .slice a n c) : Calls Try.prog 18 #[.agg #[.int .u8 (h.tos : Nat), .int .u16 (h.id : Nat), .bool h.ev, .bool h.df, .bool h.mf, .int .i64 h.off, .int .u8 (h.ttl : Nat), .int .u8 (h.pr : Nat), .int .u32 (h.src : Nat), .int .u32 (h.dst : Nat), u]] w fun e w' => e = .returned (.bool (fragB h)) ∧ Below w.heap.size w w' := by
  obtain ⟨a, n, c, rfl⟩ := hu
  have hk : fragB h = (h.mf || decide (0 < h.off)) := rfl
  have HK := Lib.hid hk
  clear hk
  go_enter Try.func18, Try.ntmps18
  obtain ⟨m, hm⟩ : ∃ m, m = h.mf := ⟨_, rfl⟩
  rw [← hm] at HK ⊢
  clear hm
  cases m with
  | true =>
    go_wp2_with fail
    go_ret
    exact ⟨ret_b HK.out.symm, by go_grown⟩
  | false =>
    go_wp2_with fail
    go_ret
    exact ⟨ret_b (by rw [HK.out]; simp), by go_grown⟩
set_option maxHeartbeats 2000000 in
theorem multW_any (n : Nat) (w : World) (hn : n < 4294967296) : Calls Try.prog 19 #[.int .u32 (n : Nat)] w fun e w' => e = .returned (.bool (multB n)) ∧ w = w' := by
  go_enter Try.func19, Try.ntmps19
  go_wp2_with fail
  go_ret
  refine ⟨ret_b ?_, rfl⟩
  unfold multB
  rw [Bool.eq_iff_iff]; simp; omega
set_option maxHeartbeats 2000000 in
theorem multR_any (n : Nat) (w : World) (hn : n < 4294967296) : Calls Try.prog 20 #[.int .u32 (n : Nat)] w fun e w' => e = .returned (.bool (multB n)) ∧ w = w' := by
  go_enter Try.func20, Try.ntmps20
  go_wp2_with fail
  go_ret
  refine ⟨ret_b ?_, rfl⟩
  unfold multB
  rw [Bool.eq_iff_iff]; simp; omega
end Go.Proofs.Ytnhkkpcepppgoaa
