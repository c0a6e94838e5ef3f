/- The walk of ip.Less.
   The walk of ip's closure that writes a number.
   The walk of ref03.Same where both are the same.
   Parsing, by the program and by the reference, in one contract each, whether something is wrong or not.
   The walks of ip.May, ip.Size, ip.flags.
   The walk of ip.Parse where something is wrong.
   The walk of ref03.Parse where something is wrong.
   The walk of ref03.Parse where something is wrong.
   The walk of ref03.Parse where something is wrong.
   What the reference tells of a packet that is wrong. -/
import Derived.Laws.CopyOwn
import Derived.Test.YtnhkkpcepppgoaaZ02
import Derived.Test.YtnhkkpcepppgoaaZ03
import Derived.Test.YtnhkkpcepppgoaaZ04
import Derived.Test.YtnhkkpcepppgoaaZ06
import Derived.Test.YtnhkkpcepppgoaaZ07

namespace Go.Proofs.Ytnhkkpcepppgoaa
open Go.RowKit
/-- What the reference tells of a packet that is wrong. -/
def NoR (wm : World) (l : List UInt8) (e : Ending) (w' : World) : Prop := e = .returned (.tuple #[.agg #[.int .u8 0, .int .u16 0, .bool false, .bool false, .bool false, .int .i64 0, .int .u8 0, .int .u8 0, .int .u32 0, .int .u32 0, .slice none 0 0], .slice none 0 0, .int .i64 (flt l : Nat)]) ∧ Below wm.heap.size wm w'
end Go.Proofs.Ytnhkkpcepppgoaa

namespace Go.Proofs.Ytnhkkpcepppgoaa
open Go.RowKit
attribute [local go_sem ↓] Go.wp_at_zero Go.wp_at_succ

set_option maxRecDepth 100000 in
set_option maxHeartbeats 4000000 in
theorem parseR_f1 (a : Option Addr) (c : Nat) (l : List UInt8) (hl : l.length ≤ 1000000) (wm : World) (hv : Bytes wm (.slice a l.length c) l) (h : l.length < 20) :
    Calls Try.prog 12 #[.slice a l.length c] wm (NoR wm l) := by
  have HV := Lib.hid hv
  have hA : Below wm.heap.size wm ((wm.alloc (.cells #[.int .u8 0, .int .u16 0, .bool false, .bool false, .bool false, .int .i64 0, .int .u8 0, .int .u8 0, .int .u32 0, .int .u32 0, .slice none 0 0] 28)).alloc (.cells #[.int .u8 0, .int .u16 0, .bool false, .bool false, .bool false, .int .i64 0, .int .u8 0, .int .u8 0, .int .u32 0, .int .u32 0, .slice none 0 0] 28)) := by go_grown
  have hR0 : HdAt wm.heap.size hz ((wm.alloc (.cells #[.int .u8 0, .int .u16 0, .bool false, .bool false, .bool false, .int .i64 0, .int .u8 0, .int .u8 0, .int .u32 0, .int .u32 0, .slice none 0 0] 28)).alloc (.cells #[.int .u8 0, .int .u16 0, .bool false, .bool false, .bool false, .int .i64 0, .int .u8 0, .int .u8 0, .int .u32 0, .int .u32 0, .slice none 0 0] 28)) := HdAt.later (HdAt.new wm hz) ((Below.refl _ _).alloc (Nat.le_refl _) _)
  have hS0 : HdAt (wm.heap.size + 1) hz ((wm.alloc (.cells #[.int .u8 0, .int .u16 0, .bool false, .bool false, .bool false, .int .i64 0, .int .u8 0, .int .u8 0, .int .u32 0, .int .u32 0, .slice none 0 0] 28)).alloc (.cells #[.int .u8 0, .int .u16 0, .bool false, .bool false, .bool false, .int .i64 0, .int .u8 0, .int .u8 0, .int .u32 0, .int .u32 0, .slice none 0 0] 28)) := by
    have := HdAt.new (wm.alloc (.cells #[.int .u8 0, .int .u16 0, .bool false, .bool false, .bool false, .int .i64 0, .int .u8 0, .int .u8 0, .int .u32 0, .int .u32 0, .slice none 0 0] 28)) hz
    rw [World.size_alloc] at this
    exact this
  have HA := Lib.hid hA
  have HR0 := Lib.hid hR0
  have HS0 := Lib.hid hS0
  have HF := Lib.hid (flt1 h)
  have g1 : (l.length : Int) < 20 := by omega
  clear hv hA hR0 hS0 h
  go_enter Try.func12, Try.ntmps12
  go_wp2_with fail
  exact bodyPost_ret (v := .tuple #[.agg #[.int .u8 0, .int .u16 0, .bool false, .bool false, .bool false, .int .i64 0, .int .u8 0, .int .u8 0, .int .u32 0, .int .u32 0, .slice none 0 0], .slice none 0 0, .int .i64 1]) (by simp [results, Try.results12, go_sem]) rfl ⟨by rw [HF.out]; rfl, by go_grown⟩
set_option maxRecDepth 100000 in
set_option maxHeartbeats 4000000 in
theorem parseR_f2 (a : Option Addr) (c : Nat) (l : List UInt8) (hl : l.length ≤ 1000000) (wm : World) (hv : Bytes wm (.slice a l.length c) l) (h20 : 20 ≤ l.length) (h : Sm.at0 l 0 / 16 ≠ 4) :
    Calls Try.prog 12 #[.slice a l.length c] wm (NoR wm l) := by
  have HV := Lib.hid hv
  have hA : Below wm.heap.size wm ((wm.alloc (.cells #[.int .u8 0, .int .u16 0, .bool false, .bool false, .bool false, .int .i64 0, .int .u8 0, .int .u8 0, .int .u32 0, .int .u32 0, .slice none 0 0] 28)).alloc (.cells #[.int .u8 0, .int .u16 0, .bool false, .bool false, .bool false, .int .i64 0, .int .u8 0, .int .u8 0, .int .u32 0, .int .u32 0, .slice none 0 0] 28)) := by go_grown
  have hR0 : HdAt wm.heap.size hz ((wm.alloc (.cells #[.int .u8 0, .int .u16 0, .bool false, .bool false, .bool false, .int .i64 0, .int .u8 0, .int .u8 0, .int .u32 0, .int .u32 0, .slice none 0 0] 28)).alloc (.cells #[.int .u8 0, .int .u16 0, .bool false, .bool false, .bool false, .int .i64 0, .int .u8 0, .int .u8 0, .int .u32 0, .int .u32 0, .slice none 0 0] 28)) := HdAt.later (HdAt.new wm hz) ((Below.refl _ _).alloc (Nat.le_refl _) _)
  have hS0 : HdAt (wm.heap.size + 1) hz ((wm.alloc (.cells #[.int .u8 0, .int .u16 0, .bool false, .bool false, .bool false, .int .i64 0, .int .u8 0, .int .u8 0, .int .u32 0, .int .u32 0, .slice none 0 0] 28)).alloc (.cells #[.int .u8 0, .int .u16 0, .bool false, .bool false, .bool false, .int .i64 0, .int .u8 0, .int .u8 0, .int .u32 0, .int .u32 0, .slice none 0 0] 28)) := by
    have := HdAt.new (wm.alloc (.cells #[.int .u8 0, .int .u16 0, .bool false, .bool false, .bool false, .int .i64 0, .int .u8 0, .int .u8 0, .int .u32 0, .int .u32 0, .slice none 0 0] 28)) hz
    rw [World.size_alloc] at this
    exact this
  have HA := Lib.hid hA
  have HR0 := Lib.hid hR0
  have HS0 := Lib.hid hS0
  have HF := Lib.hid (flt2 h20 h)
  obtain ⟨b, ox, rfl, hbx, hex⟩ := hv.at1 (i := 0) (by omega)
  obtain ⟨x, hx⟩ : ∃ x, x = Sm.at0 l 0 := ⟨_, rfl⟩
  have hx256 : x < 256 := by rw [hx]; exact Sm.at0_lt _ _
  rw [← hx] at hex
  have hex0 : wm.cell? ⟨b, ox, none⟩ = some (.int .u8 (x : Nat)) := hex
  have hexA := cell_later hA hex0
  have g1 : (20 : Int) ≤ l.length := by omega
  have g2 : 20 ≤ l.length := h20
  rw [← hx] at h
  have g3 : ((x : Int) / 16 != 4) = true := by rw [bne_iff_ne]; omega
  clear hv hA hR0 hS0 h hx hex hex0
  go_enter Try.func12, Try.ntmps12
  go_wp2_with fail
  exact bodyPost_ret (v := .tuple #[.agg #[.int .u8 0, .int .u16 0, .bool false, .bool false, .bool false, .int .i64 0, .int .u8 0, .int .u8 0, .int .u32 0, .int .u32 0, .slice none 0 0], .slice none 0 0, .int .i64 2]) (by simp [results, Try.results12, go_sem]) rfl ⟨by rw [HF.out]; rfl, by go_grown⟩
set_option maxRecDepth 100000 in
set_option maxHeartbeats 4000000 in
theorem parseR_f3 (a : Option Addr) (c : Nat) (l : List UInt8) (hl : l.length ≤ 1000000) (wm : World) (hv : Bytes wm (.slice a l.length c) l) (h20 : 20 ≤ l.length) (h4 : Sm.at0 l 0 / 16 = 4) (h : hsz l < 20 ∨ l.length < hsz l) :
    Calls Try.prog 12 #[.slice a l.length c] wm (NoR wm l) := by
  have HV := Lib.hid hv
  have hA : Below wm.heap.size wm ((wm.alloc (.cells #[.int .u8 0, .int .u16 0, .bool false, .bool false, .bool false, .int .i64 0, .int .u8 0, .int .u8 0, .int .u32 0, .int .u32 0, .slice none 0 0] 28)).alloc (.cells #[.int .u8 0, .int .u16 0, .bool false, .bool false, .bool false, .int .i64 0, .int .u8 0, .int .u8 0, .int .u32 0, .int .u32 0, .slice none 0 0] 28)) := by go_grown
  have hR0 : HdAt wm.heap.size hz ((wm.alloc (.cells #[.int .u8 0, .int .u16 0, .bool false, .bool false, .bool false, .int .i64 0, .int .u8 0, .int .u8 0, .int .u32 0, .int .u32 0, .slice none 0 0] 28)).alloc (.cells #[.int .u8 0, .int .u16 0, .bool false, .bool false, .bool false, .int .i64 0, .int .u8 0, .int .u8 0, .int .u32 0, .int .u32 0, .slice none 0 0] 28)) := HdAt.later (HdAt.new wm hz) ((Below.refl _ _).alloc (Nat.le_refl _) _)
  have hS0 : HdAt (wm.heap.size + 1) hz ((wm.alloc (.cells #[.int .u8 0, .int .u16 0, .bool false, .bool false, .bool false, .int .i64 0, .int .u8 0, .int .u8 0, .int .u32 0, .int .u32 0, .slice none 0 0] 28)).alloc (.cells #[.int .u8 0, .int .u16 0, .bool false, .bool false, .bool false, .int .i64 0, .int .u8 0, .int .u8 0, .int .u32 0, .int .u32 0, .slice none 0 0] 28)) := by
    have := HdAt.new (wm.alloc (.cells #[.int .u8 0, .int .u16 0, .bool false, .bool false, .bool false, .int .i64 0, .int .u8 0, .int .u8 0, .int .u32 0, .int .u32 0, .slice none 0 0] 28)) hz
    rw [World.size_alloc] at this
    exact this
  have HA := Lib.hid hA
  have HR0 := Lib.hid hR0
  have HS0 := Lib.hid hS0
  have HF := Lib.hid (flt3 h20 h4 h)
  obtain ⟨b, ox, rfl, hbx, hex⟩ := hv.at1 (i := 0) (by omega)
  obtain ⟨x, hx⟩ : ∃ x, x = Sm.at0 l 0 := ⟨_, rfl⟩
  have hx256 : x < 256 := by rw [hx]; exact Sm.at0_lt _ _
  rw [← hx] at hex
  have hex0 : wm.cell? ⟨b, ox, none⟩ = some (.int .u8 (x : Nat)) := hex
  have hexA := cell_later hA hex0
  have g1 : (20 : Int) ≤ l.length := by omega
  have g2 : 20 ≤ l.length := h20
  rw [← hx] at h4
  have g3 : ((x : Int) / 16 != 4) = false := by simp; omega
  obtain ⟨s, hs⟩ : ∃ s, s = hsz l := ⟨_, rfl⟩
  have hsx : s = x % 16 * 4 := by rw [hs, hx]; rfl
  have g4 : 4 * ((x : Int) % 16) = s := by omega
  rw [← hs] at h
  have HS := Lib.hid hs
  clear hv hA hR0 hS0 hx hex hex0 hs hsx h4
  by_cases h5 : s < 20
  · have g5 : (s : Int) < 20 := by omega
    clear h h5
    go_enter Try.func12, Try.ntmps12
    go_wp2_with fail
    exact bodyPost_ret (v := .tuple #[.agg #[.int .u8 0, .int .u16 0, .bool false, .bool false, .bool false, .int .i64 0, .int .u8 0, .int .u8 0, .int .u32 0, .int .u32 0, .slice none 0 0], .slice none 0 0, .int .i64 3]) (by simp [results, Try.results12, go_sem]) rfl ⟨by rw [HF.out]; rfl, by go_grown⟩
  · have g5 : (20 : Int) ≤ s := by omega
    have g6 : (l.length : Int) < s := by omega
    clear h h5
    go_enter Try.func12, Try.ntmps12
    go_wp2_with fail
    exact bodyPost_ret (v := .tuple #[.agg #[.int .u8 0, .int .u16 0, .bool false, .bool false, .bool false, .int .i64 0, .int .u8 0, .int .u8 0, .int .u32 0, .int .u32 0, .slice none 0 0], .slice none 0 0, .int .i64 3]) (by simp [results, Try.results12, go_sem]) rfl ⟨by rw [HF.out]; rfl, by go_grown⟩
set_option maxRecDepth 100000 in
set_option maxHeartbeats 4000000 in
theorem parseR_f4 (a : Option Addr) (c : Nat) (l : List UInt8) (hl : l.length ≤ 1000000) (wm : World) (hv : Bytes wm (.slice a l.length c) l) (h20 : 20 ≤ l.length) (h4 : Sm.at0 l 0 / 16 = 4) (h : 20 ≤ hsz l ∧ hsz l ≤ l.length) (h7 : numAt l 2 2 < hsz l ∨ l.length < numAt l 2 2) :
    Calls Try.prog 12 #[.slice a l.length c] wm (NoR wm l) := by
  have HV := Lib.hid hv
  have hA : Below wm.heap.size wm ((wm.alloc (.cells #[.int .u8 0, .int .u16 0, .bool false, .bool false, .bool false, .int .i64 0, .int .u8 0, .int .u8 0, .int .u32 0, .int .u32 0, .slice none 0 0] 28)).alloc (.cells #[.int .u8 0, .int .u16 0, .bool false, .bool false, .bool false, .int .i64 0, .int .u8 0, .int .u8 0, .int .u32 0, .int .u32 0, .slice none 0 0] 28)) := by go_grown
  have hR0 : HdAt wm.heap.size hz ((wm.alloc (.cells #[.int .u8 0, .int .u16 0, .bool false, .bool false, .bool false, .int .i64 0, .int .u8 0, .int .u8 0, .int .u32 0, .int .u32 0, .slice none 0 0] 28)).alloc (.cells #[.int .u8 0, .int .u16 0, .bool false, .bool false, .bool false, .int .i64 0, .int .u8 0, .int .u8 0, .int .u32 0, .int .u32 0, .slice none 0 0] 28)) := HdAt.later (HdAt.new wm hz) ((Below.refl _ _).alloc (Nat.le_refl _) _)
  have hS0 : HdAt (wm.heap.size + 1) hz ((wm.alloc (.cells #[.int .u8 0, .int .u16 0, .bool false, .bool false, .bool false, .int .i64 0, .int .u8 0, .int .u8 0, .int .u32 0, .int .u32 0, .slice none 0 0] 28)).alloc (.cells #[.int .u8 0, .int .u16 0, .bool false, .bool false, .bool false, .int .i64 0, .int .u8 0, .int .u8 0, .int .u32 0, .int .u32 0, .slice none 0 0] 28)) := by
    have := HdAt.new (wm.alloc (.cells #[.int .u8 0, .int .u16 0, .bool false, .bool false, .bool false, .int .i64 0, .int .u8 0, .int .u8 0, .int .u32 0, .int .u32 0, .slice none 0 0] 28)) hz
    rw [World.size_alloc] at this
    exact this
  have HA := Lib.hid hA
  have HR0 := Lib.hid hR0
  have HS0 := Lib.hid hS0
  have HF := Lib.hid (flt4 h20 h4 h h7)
  obtain ⟨b, ox, rfl, hbx, hex⟩ := hv.at1 (i := 0) (by omega)
  obtain ⟨x, hx⟩ : ∃ x, x = Sm.at0 l 0 := ⟨_, rfl⟩
  have hx256 : x < 256 := by rw [hx]; exact Sm.at0_lt _ _
  rw [← hx] at hex
  have hex0 : wm.cell? ⟨b, ox, none⟩ = some (.int .u8 (x : Nat)) := hex
  have hexA := cell_later hA hex0
  have g1 : (20 : Int) ≤ l.length := by omega
  have g2 : 20 ≤ l.length := h20
  rw [← hx] at h4
  have g3 : ((x : Int) / 16 != 4) = false := by simp; omega
  obtain ⟨s, hs⟩ : ∃ s, s = hsz l := ⟨_, rfl⟩
  have hsx : s = x % 16 * 4 := by rw [hs, hx]; rfl
  have g4 : 4 * ((x : Int) % 16) = s := by omega
  rw [← hs] at h
  have HS := Lib.hid hs
  have htm := numAt_lt (l := l) (i := 2) (k := 2) (by omega)
  obtain ⟨a2, hs2, hg2⟩ := getR_at hv 2 2 (by omega) (by omega)
  have hs2' : ∀ w, (Instr.slice 22 (.slice (some ⟨b, ox, none⟩) l.length c) (some (.int .i64 2)) (some (.int .i64 4)) none).run Try.prog w = .ok (.slice a2 2 (c - 2)) w := hs2
  obtain ⟨t, ht⟩ : ∃ t, t = numAt l 2 2 := ⟨_, rfl⟩
  rw [← ht] at hg2 htm
  have HG2 := Lib.hid hg2
  have HT := Lib.hid ht
  have hwt : IntKind.i64.wrap (t : Int) = t := IntWalk.i64_in _ ⟨by omega, by omega⟩
  have g5 : (20 : Int) ≤ s := by omega
  have g6 : (s : Int) ≤ l.length := by omega
  rw [← ht, ← hs] at h7
  clear hv hA hR0 hS0 hx hex hex0 hs hsx h4 hs2 hg2 htm ht
  by_cases h5 : t < s
  · have g7 : (t : Int) < s := by omega
    clear h h5 h7
    go_enter Try.func12, Try.ntmps12
    go_wp2_with fail
    refine (HG2.out _ HA.out).mono ?_
    rintro e w3 ⟨rfl, rfl⟩
    go_wp2_with fail
    exact bodyPost_ret (v := .tuple #[.agg #[.int .u8 0, .int .u16 0, .bool false, .bool false, .bool false, .int .i64 0, .int .u8 0, .int .u8 0, .int .u32 0, .int .u32 0, .slice none 0 0], .slice none 0 0, .int .i64 4]) (by simp [results, Try.results12, go_sem]) rfl ⟨by rw [HF.out]; rfl, by go_grown⟩
  · have g7 : (s : Int) ≤ t := by omega
    have g8 : (l.length : Int) < t := by omega
    clear h h5 h7
    go_enter Try.func12, Try.ntmps12
    go_wp2_with fail
    refine (HG2.out _ HA.out).mono ?_
    rintro e w3 ⟨rfl, rfl⟩
    go_wp2_with fail
    exact bodyPost_ret (v := .tuple #[.agg #[.int .u8 0, .int .u16 0, .bool false, .bool false, .bool false, .int .i64 0, .int .u8 0, .int .u8 0, .int .u32 0, .int .u32 0, .slice none 0 0], .slice none 0 0, .int .i64 4]) (by simp [results, Try.results12, go_sem]) rfl ⟨by rw [HF.out]; rfl, by go_grown⟩
end Go.Proofs.Ytnhkkpcepppgoaa

namespace Go.Proofs.Ytnhkkpcepppgoaa
open Go.RowKit
attribute [local go_sem ↓] Go.wp_at_zero Go.wp_at_succ

set_option maxRecDepth 100000 in
set_option maxHeartbeats 4000000 in
theorem parseR_f5 (a : Option Addr) (c : Nat) (l : List UInt8) (hl : l.length ≤ 1000000) (wm : World) (hv : Bytes wm (.slice a l.length c) l) (h20 : 20 ≤ l.length) (h4 : Sm.at0 l 0 / 16 = 4) (h : 20 ≤ hsz l ∧ hsz l ≤ l.length) (h7 : hsz l ≤ numAt l 2 2 ∧ numAt l 2 2 ≤ l.length) (h8 : Sm.tot (l.take (hsz l)) ≠ 65535) :
    Calls Try.prog 12 #[.slice a l.length c] wm (NoR wm l) := by
  have HV := Lib.hid hv
  have hA : Below wm.heap.size wm ((wm.alloc (.cells #[.int .u8 0, .int .u16 0, .bool false, .bool false, .bool false, .int .i64 0, .int .u8 0, .int .u8 0, .int .u32 0, .int .u32 0, .slice none 0 0] 28)).alloc (.cells #[.int .u8 0, .int .u16 0, .bool false, .bool false, .bool false, .int .i64 0, .int .u8 0, .int .u8 0, .int .u32 0, .int .u32 0, .slice none 0 0] 28)) := by go_grown
  have hR0 : HdAt wm.heap.size hz ((wm.alloc (.cells #[.int .u8 0, .int .u16 0, .bool false, .bool false, .bool false, .int .i64 0, .int .u8 0, .int .u8 0, .int .u32 0, .int .u32 0, .slice none 0 0] 28)).alloc (.cells #[.int .u8 0, .int .u16 0, .bool false, .bool false, .bool false, .int .i64 0, .int .u8 0, .int .u8 0, .int .u32 0, .int .u32 0, .slice none 0 0] 28)) := HdAt.later (HdAt.new wm hz) ((Below.refl _ _).alloc (Nat.le_refl _) _)
  have hS0 : HdAt (wm.heap.size + 1) hz ((wm.alloc (.cells #[.int .u8 0, .int .u16 0, .bool false, .bool false, .bool false, .int .i64 0, .int .u8 0, .int .u8 0, .int .u32 0, .int .u32 0, .slice none 0 0] 28)).alloc (.cells #[.int .u8 0, .int .u16 0, .bool false, .bool false, .bool false, .int .i64 0, .int .u8 0, .int .u8 0, .int .u32 0, .int .u32 0, .slice none 0 0] 28)) := by
    have := HdAt.new (wm.alloc (.cells #[.int .u8 0, .int .u16 0, .bool false, .bool false, .bool false, .int .i64 0, .int .u8 0, .int .u8 0, .int .u32 0, .int .u32 0, .slice none 0 0] 28)) hz
    rw [World.size_alloc] at this
    exact this
  have HA := Lib.hid hA
  have HR0 := Lib.hid hR0
  have HS0 := Lib.hid hS0
  have HF := Lib.hid (flt5 h20 h4 h h7 h8)
  obtain ⟨b, ox, rfl, hbx, hex⟩ := hv.at1 (i := 0) (by omega)
  obtain ⟨x, hx⟩ : ∃ x, x = Sm.at0 l 0 := ⟨_, rfl⟩
  have hx256 : x < 256 := by rw [hx]; exact Sm.at0_lt _ _
  rw [← hx] at hex
  have hex0 : wm.cell? ⟨b, ox, none⟩ = some (.int .u8 (x : Nat)) := hex
  have hexA := cell_later hA hex0
  have g1 : (20 : Int) ≤ l.length := by omega
  have g2 : 20 ≤ l.length := h20
  rw [← hx] at h4
  have g3 : ((x : Int) / 16 != 4) = false := by simp; omega
  obtain ⟨s, hs⟩ : ∃ s, s = hsz l := ⟨_, rfl⟩
  have hsx : s = x % 16 * 4 := by rw [hs, hx]; rfl
  have g4 : 4 * ((x : Int) % 16) = s := by omega
  rw [← hs] at h
  have HS := Lib.hid hs
  have htm := numAt_lt (l := l) (i := 2) (k := 2) (by omega)
  obtain ⟨a2, hs2, hg2⟩ := getR_at hv 2 2 (by omega) (by omega)
  have hs2' : ∀ w, (Instr.slice 22 (.slice (some ⟨b, ox, none⟩) l.length c) (some (.int .i64 2)) (some (.int .i64 4)) none).run Try.prog w = .ok (.slice a2 2 (c - 2)) w := hs2
  obtain ⟨t, ht⟩ : ∃ t, t = numAt l 2 2 := ⟨_, rfl⟩
  rw [← ht] at hg2 htm
  have HG2 := Lib.hid hg2
  have HT := Lib.hid ht
  have hwt : IntKind.i64.wrap (t : Int) = t := IntWalk.i64_in _ ⟨by omega, by omega⟩
  have g5 : (20 : Int) ≤ s := by omega
  have g6 : (s : Int) ≤ l.length := by omega
  rw [← ht, ← hs] at h7
  rw [← hs] at h8
  have g7 : (s : Int) ≤ t := by omega
  have g8 : (t : Int) ≤ l.length := by omega
  obtain ⟨hsh, hbh⟩ := Bytes.cut_hk .i64 hv (s : Int) s rfl h.2
  obtain ⟨q, hq⟩ : ∃ q, q = Sm.tot (l.take s) := ⟨_, rfl⟩
  have HTO : Hid (∀ W, Below wm.heap.size wm W → Calls Try.prog 56 #[.slice (some ⟨b, ox, none⟩) s c] W fun e w' => e = .returned (.int .u16 (q : Nat)) ∧ Below W.heap.size W w') := fun W hb => by
    have := totalR_any _ (l.take s) W (hbh.later hb) (by have := hsz_le l; rw [List.length_take]; omega)
    rw [← hq] at this
    exact this
  rw [← hq] at h8
  have g9 : ((q : Int) != 65535) = true := by rw [bne_iff_ne]; omega
  clear hv hA hR0 hS0 hx hex hex0 hx256 hs hsx h4 hs2 hg2 htm ht h h7 h8 hq hbh
  go_enter Try.func12, Try.ntmps12
  go_wp2_with fail
  refine (HG2.out _ HA.out).mono ?_
  rintro e w3 ⟨rfl, rfl⟩
  go_wp2_with fail
  refine (HTO.out _ HA.out).mono ?_
  rintro e w4 ⟨rfl, hb4⟩
  have HB4 := Lib.hid (HA.out.trans (hb4.mono HA.out.size))
  have HR4 : Hid (HdAt wm.heap.size hz w4) := HdAt.later HR0.out hb4
  have HS4 : Hid (HdAt (wm.heap.size + 1) hz w4) := HdAt.later HS0.out hb4
  clear hb4
  obtain ⟨s1, s2, s3, _⟩ := HdAt.set11 (show HdAt wm.heap.size hz w4 from HR4.out) (.int .u8 0) (.int .u16 0) (.bool false) (.bool false) (.bool false) (.int .i64 0) (.int .u8 0) (.int .u8 0) (.int .u32 0) (.int .u32 0) (.slice none 0 0)
  have Q1 := Lib.hid s1
  have Q4 := Lib.hid ((show Below wm.heap.size wm w4 from HB4.out).trans (s3 _ (Nat.le_refl _)))
  have hcz : ∀ j x, hz[j]? = some x → (w4).cell? ⟨wm.heap.size, j, none⟩ = some x := fun j x hx => HdAt.cell (show HdAt wm.heap.size hz w4 from HR4.out) hx
  have hcy : ∀ j x, hz[j]? = some x → (w4).cell? ⟨wm.heap.size + 1, j, none⟩ = some x := fun j x hx => HdAt.cell (show HdAt (wm.heap.size + 1) hz w4 from HS4.out) hx
  have hfz : ∀ j, (w4).frozen? ⟨wm.heap.size, j, none⟩ = false := fun j => HdAt.frozen (show HdAt wm.heap.size hz w4 from HR4.out) j
  have k0 := hcz 0 _ rfl
  have k1 := hcz 1 _ rfl
  have k2 := hcz 2 _ rfl
  have k3 := hcz 3 _ rfl
  have k4 := hcz 4 _ rfl
  have k5 := hcz 5 _ rfl
  have k6 := hcz 6 _ rfl
  have k7 := hcz 7 _ rfl
  have k8 := hcz 8 _ rfl
  have k9 := hcz 9 _ rfl
  have k10 := hcz 10 _ rfl
  have y0 := hcy 0 _ rfl
  have y1 := hcy 1 _ rfl
  have y2 := hcy 2 _ rfl
  have y3 := hcy 3 _ rfl
  have y4 := hcy 4 _ rfl
  have y5 := hcy 5 _ rfl
  have y6 := hcy 6 _ rfl
  have y7 := hcy 7 _ rfl
  have y8 := hcy 8 _ rfl
  have y9 := hcy 9 _ rfl
  have y10 := hcy 10 _ rfl
  clear hcz hcy s1 s2 s3
  go_wp2_with fail
  have d0 := HdAt.cell Q1.out (j := 0) rfl
  have d1 := HdAt.cell Q1.out (j := 1) rfl
  have d2 := HdAt.cell Q1.out (j := 2) rfl
  have d3 := HdAt.cell Q1.out (j := 3) rfl
  have d4 := HdAt.cell Q1.out (j := 4) rfl
  have d5 := HdAt.cell Q1.out (j := 5) rfl
  have d6 := HdAt.cell Q1.out (j := 6) rfl
  have d7 := HdAt.cell Q1.out (j := 7) rfl
  have d8 := HdAt.cell Q1.out (j := 8) rfl
  have d9 := HdAt.cell Q1.out (j := 9) rfl
  have d10 := HdAt.cell Q1.out (j := 10) rfl
  exact bodyPost_ret (v := .tuple #[.agg #[.int .u8 0, .int .u16 0, .bool false, .bool false, .bool false, .int .i64 0, .int .u8 0, .int .u8 0, .int .u32 0, .int .u32 0, .slice none 0 0], .slice none 0 0, .int .i64 5]) (by simp [results, Try.results12, go_sem, d0, d1, d2, d3, d4, d5, d6, d7, d8, d9, d10]) rfl ⟨by rw [HF.out]; rfl, Q4.out⟩
set_option maxRecDepth 100000 in
set_option maxHeartbeats 4000000 in
theorem parseR_f6 (a : Option Addr) (c : Nat) (l : List UInt8) (hl : l.length ≤ 1000000) (wm : World) (hv : Bytes wm (.slice a l.length c) l) (h20 : 20 ≤ l.length) (h4 : Sm.at0 l 0 / 16 = 4) (h : 20 ≤ hsz l ∧ hsz l ≤ l.length) (h7 : hsz l ≤ numAt l 2 2 ∧ numAt l 2 2 ≤ l.length) (h8 : Sm.tot (l.take (hsz l)) = 65535) (h9 : Om.ok ((l.take (hsz l)).drop 20) = false) :
    Calls Try.prog 12 #[.slice a l.length c] wm (NoR wm l) := by
  have HV := Lib.hid hv
  have hA : Below wm.heap.size wm ((wm.alloc (.cells #[.int .u8 0, .int .u16 0, .bool false, .bool false, .bool false, .int .i64 0, .int .u8 0, .int .u8 0, .int .u32 0, .int .u32 0, .slice none 0 0] 28)).alloc (.cells #[.int .u8 0, .int .u16 0, .bool false, .bool false, .bool false, .int .i64 0, .int .u8 0, .int .u8 0, .int .u32 0, .int .u32 0, .slice none 0 0] 28)) := by go_grown
  have hR0 : HdAt wm.heap.size hz ((wm.alloc (.cells #[.int .u8 0, .int .u16 0, .bool false, .bool false, .bool false, .int .i64 0, .int .u8 0, .int .u8 0, .int .u32 0, .int .u32 0, .slice none 0 0] 28)).alloc (.cells #[.int .u8 0, .int .u16 0, .bool false, .bool false, .bool false, .int .i64 0, .int .u8 0, .int .u8 0, .int .u32 0, .int .u32 0, .slice none 0 0] 28)) := HdAt.later (HdAt.new wm hz) ((Below.refl _ _).alloc (Nat.le_refl _) _)
  have hS0 : HdAt (wm.heap.size + 1) hz ((wm.alloc (.cells #[.int .u8 0, .int .u16 0, .bool false, .bool false, .bool false, .int .i64 0, .int .u8 0, .int .u8 0, .int .u32 0, .int .u32 0, .slice none 0 0] 28)).alloc (.cells #[.int .u8 0, .int .u16 0, .bool false, .bool false, .bool false, .int .i64 0, .int .u8 0, .int .u8 0, .int .u32 0, .int .u32 0, .slice none 0 0] 28)) := by
    have := HdAt.new (wm.alloc (.cells #[.int .u8 0, .int .u16 0, .bool false, .bool false, .bool false, .int .i64 0, .int .u8 0, .int .u8 0, .int .u32 0, .int .u32 0, .slice none 0 0] 28)) hz
    rw [World.size_alloc] at this
    exact this
  have HA := Lib.hid hA
  have HR0 := Lib.hid hR0
  have HS0 := Lib.hid hS0
  have HF := Lib.hid (flt6 h20 h4 h h7 h8 h9)
  obtain ⟨b, ox, rfl, hbx, hex⟩ := hv.at1 (i := 0) (by omega)
  obtain ⟨x, hx⟩ : ∃ x, x = Sm.at0 l 0 := ⟨_, rfl⟩
  have hx256 : x < 256 := by rw [hx]; exact Sm.at0_lt _ _
  rw [← hx] at hex
  have hex0 : wm.cell? ⟨b, ox, none⟩ = some (.int .u8 (x : Nat)) := hex
  have hexA := cell_later hA hex0
  have g1 : (20 : Int) ≤ l.length := by omega
  have g2 : 20 ≤ l.length := h20
  rw [← hx] at h4
  have g3 : ((x : Int) / 16 != 4) = false := by simp; omega
  obtain ⟨s, hs⟩ : ∃ s, s = hsz l := ⟨_, rfl⟩
  have hsx : s = x % 16 * 4 := by rw [hs, hx]; rfl
  have g4 : 4 * ((x : Int) % 16) = s := by omega
  rw [← hs] at h
  have HS := Lib.hid hs
  have htm := numAt_lt (l := l) (i := 2) (k := 2) (by omega)
  obtain ⟨a2, hs2, hg2⟩ := getR_at hv 2 2 (by omega) (by omega)
  have hs2' : ∀ w, (Instr.slice 22 (.slice (some ⟨b, ox, none⟩) l.length c) (some (.int .i64 2)) (some (.int .i64 4)) none).run Try.prog w = .ok (.slice a2 2 (c - 2)) w := hs2
  obtain ⟨t, ht⟩ : ∃ t, t = numAt l 2 2 := ⟨_, rfl⟩
  rw [← ht] at hg2 htm
  have HG2 := Lib.hid hg2
  have HT := Lib.hid ht
  have hwt : IntKind.i64.wrap (t : Int) = t := IntWalk.i64_in _ ⟨by omega, by omega⟩
  have g5 : (20 : Int) ≤ s := by omega
  have g6 : (s : Int) ≤ l.length := by omega
  rw [← ht, ← hs] at h7
  rw [← hs] at h8
  have g7 : (s : Int) ≤ t := by omega
  have g8 : (t : Int) ≤ l.length := by omega
  obtain ⟨hsh, hbh⟩ := Bytes.cut_hk .i64 hv (s : Int) s rfl h.2
  obtain ⟨q, hq⟩ : ∃ q, q = Sm.tot (l.take s) := ⟨_, rfl⟩
  have HTO : Hid (∀ W, Below wm.heap.size wm W → Calls Try.prog 56 #[.slice (some ⟨b, ox, none⟩) s c] W fun e w' => e = .returned (.int .u16 (q : Nat)) ∧ Below W.heap.size W w') := fun W hb => by
    have := totalR_any _ (l.take s) W (hbh.later hb) (by have := hsz_le l; rw [List.length_take]; omega)
    rw [← hq] at this
    exact this
  rw [← hq] at h8
  have g9 : ((q : Int) != 65535) = false := by rw [h8]; rfl
  obtain ⟨ao, hso, hbo⟩ := hv.cut_lh 20 (s : Int) 20 s rfl rfl h.1 h.2
  obtain ⟨sn, hsn⟩ : ∃ n, n = s - 20 := ⟨_, rfl⟩
  obtain ⟨sc, hsc⟩ : ∃ n, n = c - 20 := ⟨_, rfl⟩
  rw [← hsn, ← hsc] at hbo hso
  rw [← hs] at h9
  have HPA : Hid (∀ W, Below wm.heap.size wm W → Calls Try.prog 57 #[.slice ao sn sc] W fun e w' => ∃ a c n, e = .returned (.tuple #[.slice a n c, .bool false]) ∧ Below W.heap.size W w') := fun W hb =>
    (partsR_any _ ((l.take s).drop 20) (by have := hsz_le l; rw [List.length_drop, List.length_take]; omega) W (hbo.later hb)).mono fun e w' ⟨a, c, A, he, _, _, _, _, hB⟩ => by rw [h9] at he; exact ⟨a, c, _, he, hB⟩
  clear hv hA hR0 hS0 hx hex hex0 hx256 hs hsx h4 hs2 hg2 htm ht h h7 h8 h9 hq hbh hbo hsn hsc
  go_enter Try.func12, Try.ntmps12
  go_wp2_with fail
  refine (HG2.out _ HA.out).mono ?_
  rintro e w3 ⟨rfl, rfl⟩
  go_wp2_with fail
  refine (HTO.out _ HA.out).mono ?_
  rintro e w4 ⟨rfl, hb4⟩
  have HB4 := Lib.hid (HA.out.trans (hb4.mono HA.out.size))
  have HR4 : Hid (HdAt wm.heap.size hz w4) := HdAt.later HR0.out hb4
  have HS4 : Hid (HdAt (wm.heap.size + 1) hz w4) := HdAt.later HS0.out hb4
  clear hb4
  go_wp2_with fail
  refine (HPA.out _ HB4.out).mono ?_
  rintro e w5 ⟨pa, pc, pn, rfl, hb5⟩
  have HB5 := Lib.hid (HB4.out.trans (hb5.mono HB4.out.size))
  have HR5 : Hid (HdAt wm.heap.size hz w5) := HdAt.later HR4.out hb5
  have HS5 : Hid (HdAt (wm.heap.size + 1) hz w5) := HdAt.later HS4.out hb5
  clear hb5
  obtain ⟨s1, s2, s3, _⟩ := HdAt.set11 (show HdAt wm.heap.size hz w5 from HR5.out) (.int .u8 0) (.int .u16 0) (.bool false) (.bool false) (.bool false) (.int .i64 0) (.int .u8 0) (.int .u8 0) (.int .u32 0) (.int .u32 0) (.slice none 0 0)
  have Q1 := Lib.hid s1
  have Q4 := Lib.hid ((show Below wm.heap.size wm w5 from HB5.out).trans (s3 _ (Nat.le_refl _)))
  have hcz : ∀ j x, hz[j]? = some x → (w5).cell? ⟨wm.heap.size, j, none⟩ = some x := fun j x hx => HdAt.cell (show HdAt wm.heap.size hz w5 from HR5.out) hx
  have hcy : ∀ j x, hz[j]? = some x → (w5).cell? ⟨wm.heap.size + 1, j, none⟩ = some x := fun j x hx => HdAt.cell (show HdAt (wm.heap.size + 1) hz w5 from HS5.out) hx
  have hfz : ∀ j, (w5).frozen? ⟨wm.heap.size, j, none⟩ = false := fun j => HdAt.frozen (show HdAt wm.heap.size hz w5 from HR5.out) j
  have k0 := hcz 0 _ rfl
  have k1 := hcz 1 _ rfl
  have k2 := hcz 2 _ rfl
  have k3 := hcz 3 _ rfl
  have k4 := hcz 4 _ rfl
  have k5 := hcz 5 _ rfl
  have k6 := hcz 6 _ rfl
  have k7 := hcz 7 _ rfl
  have k8 := hcz 8 _ rfl
  have k9 := hcz 9 _ rfl
  have k10 := hcz 10 _ rfl
  have y0 := hcy 0 _ rfl
  have y1 := hcy 1 _ rfl
  have y2 := hcy 2 _ rfl
  have y3 := hcy 3 _ rfl
  have y4 := hcy 4 _ rfl
  have y5 := hcy 5 _ rfl
  have y6 := hcy 6 _ rfl
  have y7 := hcy 7 _ rfl
  have y8 := hcy 8 _ rfl
  have y9 := hcy 9 _ rfl
  have y10 := hcy 10 _ rfl
  clear hcz hcy s1 s2 s3
  go_wp2_with fail
  have d0 := HdAt.cell Q1.out (j := 0) rfl
  have d1 := HdAt.cell Q1.out (j := 1) rfl
  have d2 := HdAt.cell Q1.out (j := 2) rfl
  have d3 := HdAt.cell Q1.out (j := 3) rfl
  have d4 := HdAt.cell Q1.out (j := 4) rfl
  have d5 := HdAt.cell Q1.out (j := 5) rfl
  have d6 := HdAt.cell Q1.out (j := 6) rfl
  have d7 := HdAt.cell Q1.out (j := 7) rfl
  have d8 := HdAt.cell Q1.out (j := 8) rfl
  have d9 := HdAt.cell Q1.out (j := 9) rfl
  have d10 := HdAt.cell Q1.out (j := 10) rfl
  exact bodyPost_ret (v := .tuple #[.agg #[.int .u8 0, .int .u16 0, .bool false, .bool false, .bool false, .int .i64 0, .int .u8 0, .int .u8 0, .int .u32 0, .int .u32 0, .slice none 0 0], .slice none 0 0, .int .i64 6]) (by simp [results, Try.results12, go_sem, d0, d1, d2, d3, d4, d5, d6, d7, d8, d9, d10]) rfl ⟨by rw [HF.out]; rfl, Q4.out⟩
end Go.Proofs.Ytnhkkpcepppgoaa

namespace Go.Proofs.Ytnhkkpcepppgoaa
open Go.RowKit
attribute [local go_sem ↓] Go.wp_at_zero Go.wp_at_succ

theorem parseR_no (v : Value) (l : List UInt8) (hl : l.length ≤ 1000000) (wm : World) (hv : Bytes wm v l) (hf : flt l ≠ 0) : Calls Try.prog 12 #[v] wm (NoR wm l) := by
  obtain ⟨a, c, rfl⟩ := hv.form
  rcases Nat.lt_or_ge l.length 20 with h20 | h20
  · exact parseR_f1 a c l hl wm hv h20
  · by_cases h4 : Sm.at0 l 0 / 16 = 4
    · by_cases h : 20 ≤ hsz l ∧ hsz l ≤ l.length
      · by_cases h7 : hsz l ≤ numAt l 2 2 ∧ numAt l 2 2 ≤ l.length
        · by_cases h8 : Sm.tot (l.take (hsz l)) = 65535
          · cases h9 : Om.ok ((l.take (hsz l)).drop 20) with
            | true => exact absurd (flt0 h20 h4 h h7 h8 h9) hf
            | false => exact parseR_f6 a c l hl wm hv h20 h4 h h7 h8 h9
          · exact parseR_f5 a c l hl wm hv h20 h4 h h7 h8
        · exact parseR_f4 a c l hl wm hv h20 h4 h (by omega)
      · exact parseR_f3 a c l hl wm hv h20 h4 (by omega)
    · exact parseR_f2 a c l hl wm hv h20 h4
end Go.Proofs.Ytnhkkpcepppgoaa

namespace Go.Proofs.Ytnhkkpcepppgoaa
open Go.RowKit
attribute [local go_sem ↓] Go.wp_at_zero Go.wp_at_succ

set_option maxRecDepth 100000 in
set_option maxHeartbeats 4000000 in
theorem parse_no (v : Value) (l : List UInt8) (hl : l.length ≤ 1000000) (wm : World) (hv : Bytes wm v l) (hf : flt l ≠ 0) :
    Calls Try.prog 11 #[v] wm fun e w' => e = .returned (.tuple #[.agg #[.int .u8 0, .int .u16 0, .bool false, .bool false, .bool false, .int .i64 0, .int .u8 0, .int .u8 0, .int .u32 0, .int .u32 0, .slice none 0 0], .slice none 0 0, .int .i64 (flt l : Nat)]) ∧ Below wm.heap.size wm w' := by
  have HV := Lib.hid hv
  obtain ⟨f, hfe⟩ : ∃ f, f = flt l := ⟨_, rfl⟩
  have hfl := fault_any v l hl
  rw [← hfe] at hf ⊢
  have HF := Lib.hid hfe
  have hA : Below wm.heap.size wm (wm.alloc (.cells #[.int .u8 0, .int .u16 0, .bool false, .bool false, .bool false, .int .i64 0, .int .u8 0, .int .u8 0, .int .u32 0, .int .u32 0, .slice none 0 0] 28)) := (Below.refl _ _).alloc (Nat.le_refl _) _
  have hfa := hfl _ (hv.later hA)
  rw [← hfe] at hfa
  have HFA := Lib.hid hfa
  have g1 : ((f : Int) != 0) = true := by rw [bne_iff_ne]; omega
  clear hfl hfe hv hf hfa
  go_enter Try.func11, Try.ntmps11
  go_wp2_with fail
  refine HFA.out.mono ?_
  rintro e w1 ⟨rfl, hb1⟩
  have hc : ∀ j x, [Value.int .u8 0, .int .u16 0, .bool false, .bool false, .bool false, .int .i64 0, .int .u8 0, .int .u8 0, .int .u32 0, .int .u32 0, .slice none 0 0][j]? = some x → w1.cell? ⟨wm.heap.size, j, none⟩ = some x := fun j x hx => cell_later hb1 (by simp; exact hx)
  have hfz : ∀ j, w1.frozen? ⟨wm.heap.size, j, none⟩ = false := fun j => by rw [hb1.frozen (p := ⟨wm.heap.size, j, none⟩) (by simp)]; simp
  have k0 := hc 0 _ rfl
  have k1 := hc 1 _ rfl
  have k2 := hc 2 _ rfl
  have k3 := hc 3 _ rfl
  have k4 := hc 4 _ rfl
  have k5 := hc 5 _ rfl
  have k6 := hc 6 _ rfl
  have k7 := hc 7 _ rfl
  have k8 := hc 8 _ rfl
  have k9 := hc 9 _ rfl
  have k10 := hc 10 _ rfl
  have hr1 : HdAt wm.heap.size hz w1 := HdAt.later (HdAt.new wm hz) hb1
  obtain ⟨s1, s2, s3, _⟩ := HdAt.set11 (show HdAt wm.heap.size hz w1 from hr1) (.int .u8 0) (.int .u16 0) (.bool false) (.bool false) (.bool false) (.int .i64 0) (.int .u8 0) (.int .u8 0) (.int .u32 0) (.int .u32 0) (.slice none 0 0)
  have Q1 := Lib.hid s1
  have Q4 := Lib.hid ((hA.trans (hb1.mono hA.size)).trans (s3 _ (Nat.le_refl _)))
  clear hc s1 s2 s3 hr1 hA hb1
  go_wp2_with fail
  have d0 := HdAt.cell Q1.out (j := 0) rfl
  have d1 := HdAt.cell Q1.out (j := 1) rfl
  have d2 := HdAt.cell Q1.out (j := 2) rfl
  have d3 := HdAt.cell Q1.out (j := 3) rfl
  have d4 := HdAt.cell Q1.out (j := 4) rfl
  have d5 := HdAt.cell Q1.out (j := 5) rfl
  have d6 := HdAt.cell Q1.out (j := 6) rfl
  have d7 := HdAt.cell Q1.out (j := 7) rfl
  have d8 := HdAt.cell Q1.out (j := 8) rfl
  have d9 := HdAt.cell Q1.out (j := 9) rfl
  have d10 := HdAt.cell Q1.out (j := 10) rfl
  exact bodyPost_ret (v := .tuple #[.agg #[.int .u8 0, .int .u16 0, .bool false, .bool false, .bool false, .int .i64 0, .int .u8 0, .int .u8 0, .int .u32 0, .int .u32 0, .slice none 0 0], .slice none 0 0, .int .i64 (f : Nat)]) (by simp [results, Try.results11, go_sem, d0, d1, d2, d3, d4, d5, d6, d7, d8, d9, d10]) rfl ⟨rfl, Q4.out⟩
end Go.Proofs.Ytnhkkpcepppgoaa

namespace Go.Proofs.Ytnhkkpcepppgoaa
open Go.RowKit
attribute [local go_sem ↓] Go.wp_at_zero Go.wp_at_succ

/-- A header's fields, but its options. -/
structure Hd where
  (tos id : Nat) (ev df mf : Bool) (off : Int) (ttl pr src dst : Nat)
structure Hd.Ok (h : Hd) : Prop where
  (tos : h.tos < 256) (id : h.id < 65536) (ttl : h.ttl < 256) (pr : h.pr < 256) (src : h.src < 4294967296) (dst : h.dst < 4294967296)
/-- May such a header be? -/
def mayB (off : Int) (O : List UInt8) : Bool := decide (0 ≤ off) && (decide (off ≤ 8191) && (decide (O.length ≤ 40) && (decide (O.length % 4 = 0) && Om.ok O)))
def sizeN (off : Int) (O : List UInt8) : Nat := if mayB off O then 20 + O.length else 0
/-- The word of flags and offset. -/
def flagsN (h : Hd) : Nat := h.ev.toNat * 32768 + h.df.toNat * 16384 + h.mf.toNat * 8192 + h.off.toNat

theorem may_of {off : Int} {O : List UInt8} (h1 : 0 ≤ off) (h2 : off ≤ 8191) (h3 : O.length ≤ 40) (h4 : O.length % 4 = 0) : mayB off O = Om.ok O := by
  unfold mayB; simp [h1, h2, h3, h4]
theorem may_no {off : Int} {O : List UInt8} (h : ¬ (0 ≤ off ∧ off ≤ 8191 ∧ O.length ≤ 40 ∧ O.length % 4 = 0)) : mayB off O = false := by
  cases hm : mayB off O with
  | false => rfl
  | true =>
    unfold mayB at hm
    simp only [Bool.and_eq_true, decide_eq_true_eq] at hm
    exact absurd ⟨hm.1, hm.2.1, hm.2.2.1, hm.2.2.2.1⟩ h

set_option maxHeartbeats 4000000 in
set_option maxRecDepth 100000 in
theorem mayW3_any (h : Hd) (a : Option Addr) (c : Nat) (O : List UInt8) (w : World) (hv : Bytes w (.slice a O.length c) O) (hO : O.length ≤ 9223372036854775807) :
    Calls Try.prog 15 #[.agg #[.int .u8 (h.tos : Nat), .int .u16 (h.id : Nat), .bool h.ev, .bool h.df, .bool h.mf, .int .i64 h.off, .int .u8 (h.ttl : Nat), .int .u8 (h.pr : Nat), .int .u32 (h.src : Nat), .int .u32 (h.dst : Nat), .slice a O.length c]] w fun e w' => e = .returned (.bool (mayB h.off O)) ∧ Below w.heap.size w w' := by
  have hA : Below w.heap.size w (w.alloc (.cells #[.int .u8 (h.tos : Nat), .int .u16 (h.id : Nat), .bool h.ev, .bool h.df, .bool h.mf, .int .i64 h.off, .int .u8 (h.ttl : Nat), .int .u8 (h.pr : Nat), .int .u32 (h.src : Nat), .int .u32 (h.dst : Nat), .slice a O.length c] 28)) := (Below.refl _ _).alloc (Nat.le_refl _) _
  have hg2 : (O.length : Int) ≤ 9223372036854775807 := by omega
  by_cases h1 : 0 ≤ h.off
  · by_cases h2 : h.off ≤ 8191
    · rcases Nat.lt_or_ge 40 O.length with h3 | h3
      · have HM := Lib.hid (may_no (off := h.off) (O := O) (by omega))
        have g3 : (40 : Int) < O.length := by omega
        have HA := Lib.hid hA
        clear hv hA
        go_enter Try.func15, Try.ntmps15
        go_wp2_with fail
        go_ret
        exact ⟨ret_b HM.out.symm, HA.out⟩
      · have g3 : (O.length : Int) ≤ 40 := by omega
        by_cases h4 : O.length % 4 = 0
        · have HM := Lib.hid (may_of (O := O) h1 h2 h3 h4)
          have g4 : ((O.length : Int) % 4 == 0) = true := by rw [beq_iff_eq]; omega
          have HMO := Lib.hid (mayOptions_any _ O (by omega) _ (hv.later hA))
          have HA := Lib.hid hA
          clear hv hA h4
          go_enter Try.func15, Try.ntmps15
          go_wp2_with fail
          refine HMO.out.mono ?_
          rintro e w1 ⟨rfl, hb1⟩
          go_wp2_with fail
          go_ret
          exact ⟨ret_b HM.out.symm, HA.out.trans (hb1.mono HA.out.size)⟩
        · have HM := Lib.hid (may_no (off := h.off) (O := O) (by omega))
          have g4 : ((O.length : Int) % 4 == 0) = false := by rw [beq_eq_false_iff_ne]; omega
          have HA := Lib.hid hA
          clear hv hA h4
          go_enter Try.func15, Try.ntmps15
          go_wp2_with fail
          go_ret
          exact ⟨ret_b HM.out.symm, HA.out⟩
    · have HM := Lib.hid (may_no (off := h.off) (O := O) (by omega))
      have HA := Lib.hid hA
      clear hv hA
      go_enter Try.func15, Try.ntmps15
      go_wp2_with fail
      go_ret
      exact ⟨ret_b HM.out.symm, HA.out⟩
  · have HM := Lib.hid (may_no (off := h.off) (O := O) (by omega))
    have HA := Lib.hid hA
    clear hv hA
    go_enter Try.func15, Try.ntmps15
    go_wp2_with fail
    go_ret
    exact ⟨ret_b HM.out.symm, HA.out⟩

theorem mayB_len {off : Int} {O : List UInt8} (h : mayB off O = true) : O.length ≤ 40 ∧ O.length % 4 = 0 ∧ 0 ≤ off ∧ off ≤ 8191 ∧ Om.ok O = true := by
  unfold mayB at h
  simp only [Bool.and_eq_true, decide_eq_true_eq] at h
  exact ⟨h.2.2.1, h.2.2.2.1, h.1, h.2.1, h.2.2.2.2⟩
set_option maxHeartbeats 4000000 in
set_option maxRecDepth 100000 in
theorem size_any (h : Hd) (a : Option Addr) (c : Nat) (O : List UInt8) (w : World) (hv : Bytes w (.slice a O.length c) O) (hO : O.length ≤ 9223372036854775807) :
    Calls Try.prog 16 #[.agg #[.int .u8 (h.tos : Nat), .int .u16 (h.id : Nat), .bool h.ev, .bool h.df, .bool h.mf, .int .i64 h.off, .int .u8 (h.ttl : Nat), .int .u8 (h.pr : Nat), .int .u32 (h.src : Nat), .int .u32 (h.dst : Nat), .slice a O.length c]] w fun e w' => e = .returned (.int .i64 (sizeN h.off O : Nat)) ∧ Below w.heap.size w w' := by
  have hA : Below w.heap.size w (w.alloc (.cells #[.int .u8 (h.tos : Nat), .int .u16 (h.id : Nat), .bool h.ev, .bool h.df, .bool h.mf, .int .i64 h.off, .int .u8 (h.ttl : Nat), .int .u8 (h.pr : Nat), .int .u32 (h.src : Nat), .int .u32 (h.dst : Nat), .slice a O.length c] 28)) := (Below.refl _ _).alloc (Nat.le_refl _) _
  have hmay := mayW3_any h a c O _ (hv.later hA) hO
  have hcell : (w.alloc (.cells #[.int .u8 (h.tos : Nat), .int .u16 (h.id : Nat), .bool h.ev, .bool h.df, .bool h.mf, .int .i64 h.off, .int .u8 (h.ttl : Nat), .int .u8 (h.pr : Nat), .int .u32 (h.src : Nat), .int .u32 (h.dst : Nat), .slice a O.length c] 28)).cell? ⟨w.heap.size, 10, none⟩ = some (.slice a O.length c) := by simp
  have HC := Lib.hid hcell
  have HMAY := Lib.hid hmay
  have HA := Lib.hid hA
  clear hv hA hmay hcell
  cases hm : mayB h.off O with
  | false =>
    have HS : Hid (sizeN h.off O = 0) := by show _ = _; unfold sizeN; rw [hm]; rfl
    have HM := Lib.hid hm
    clear hm
    go_enter Try.func16, Try.ntmps16
    go_wp2_with fail
    refine HMAY.out.mono ?_
    rintro e w1 ⟨rfl, hb1⟩
    rw [HM.out]
    go_wp2_with fail
    go_ret
    exact ⟨ret_i (by rw [HS.out]; rfl), HA.out.trans (hb1.mono HA.out.size)⟩
  | true =>
    have hl := mayB_len hm
    have HS : Hid (sizeN h.off O = 20 + O.length) := by show _ = _; unfold sizeN; rw [hm]; rfl
    have HM := Lib.hid hm
    have g : (O.length : Int) ≤ 40 := by omega
    clear hm hl
    go_enter Try.func16, Try.ntmps16
    go_wp2_with fail
    refine HMAY.out.mono ?_
    rintro e w1 ⟨rfl, hb1⟩
    rw [HM.out]
    have hc := cell_later hb1 HC.out
    go_wp2_with fail
    go_ret
    exact ⟨ret_i (by rw [HS.out]; omega), HA.out.trans (hb1.mono HA.out.size)⟩
end Go.Proofs.Ytnhkkpcepppgoaa

namespace Go.Proofs.Ytnhkkpcepppgoaa
open Go.RowKit

/-- The header, the options and the payload that bytes tell: noughts, if they are wrong. -/
def hdP (l : List UInt8) : Hd := if flt l = 0 then ⟨Sm.at0 l 1, numAt l 4 2, evB (numAt l 6 2), dfB (numAt l 6 2), mfB (numAt l 6 2), ((numAt l 6 2 % 8192 : Nat) : Int), Sm.at0 l 8, Sm.at0 l 9, numAt l 12 4, numAt l 16 4⟩ else ⟨0, 0, false, false, false, 0, 0, 0, 0, 0⟩
def opP (l : List UInt8) : List UInt8 := if flt l = 0 then (l.take (hsz l)).drop 20 else []
def plP (l : List UInt8) : List UInt8 := if flt l = 0 then (l.take (numAt l 2 2)).drop (hsz l) else []
def PrsW (wm : World) (l : List UInt8) (e : Ending) (w' : World) : Prop :=
  ∃ (u v : Value) (B : Nat), e = .returned (.tuple #[.agg #[.int .u8 ((hdP l).tos : Nat), .int .u16 ((hdP l).id : Nat), .bool (hdP l).ev, .bool (hdP l).df, .bool (hdP l).mf, .int .i64 (hdP l).off, .int .u8 ((hdP l).ttl : Nat), .int .u8 ((hdP l).pr : Nat), .int .u32 ((hdP l).src : Nat), .int .u32 ((hdP l).dst : Nat), u], v, .int .i64 (flt l : Nat)]) ∧
    OwnB w' wm.heap.size u (opP l) ∧ OwnB w' B v (plP l) ∧ wm.heap.size ≤ B ∧ (∀ g, u.ownBlock = some g → g < B) ∧ Below wm.heap.size wm w'
def PrsR (wm : World) (l : List UInt8) (e : Ending) (w' : World) : Prop :=
  ∃ (u v : Value), e = .returned (.tuple #[.agg #[.int .u8 ((hdP l).tos : Nat), .int .u16 ((hdP l).id : Nat), .bool (hdP l).ev, .bool (hdP l).df, .bool (hdP l).mf, .int .i64 (hdP l).off, .int .u8 ((hdP l).ttl : Nat), .int .u8 ((hdP l).pr : Nat), .int .u32 ((hdP l).src : Nat), .int .u32 ((hdP l).dst : Nat), u], v, .int .i64 (flt l : Nat)]) ∧
    Bytes w' u (opP l) ∧ Bytes w' v (plP l) ∧ Below wm.heap.size wm w'

theorem hdP_yes {l : List UInt8} (h : flt l = 0) : hdP l = ⟨Sm.at0 l 1, numAt l 4 2, evB (numAt l 6 2), dfB (numAt l 6 2), mfB (numAt l 6 2), ((numAt l 6 2 % 8192 : Nat) : Int), Sm.at0 l 8, Sm.at0 l 9, numAt l 12 4, numAt l 16 4⟩ := if_pos h
theorem hdP_no {l : List UInt8} (h : flt l ≠ 0) : hdP l = ⟨0, 0, false, false, false, 0, 0, 0, 0, 0⟩ := if_neg h
theorem opP_yes {l : List UInt8} (h : flt l = 0) : opP l = (l.take (hsz l)).drop 20 := if_pos h
theorem opP_no {l : List UInt8} (h : flt l ≠ 0) : opP l = [] := if_neg h
theorem plP_yes {l : List UInt8} (h : flt l = 0) : plP l = (l.take (numAt l 2 2)).drop (hsz l) := if_pos h
theorem plP_no {l : List UInt8} (h : flt l ≠ 0) : plP l = [] := if_neg h

theorem prsW_any (v : Value) (l : List UInt8) (hl : l.length ≤ 1000000) (wm : World) (hv : Bytes wm v l) : Calls Try.prog 11 #[v] wm (PrsW wm l) := by
  by_cases hf : flt l = 0
  · obtain ⟨a, c, rfl⟩ := hv.form
    refine (parse_yes a c l hl wm hv hf).mono ?_
    rintro e w' ⟨u, v, B, rfl, h1, h2, h3, h4, h5⟩
    refine ⟨u, v, B, ?_, ?_, ?_, h3, h4, h5⟩
    · rw [hdP_yes hf, hf]; rfl
    · rw [opP_yes hf]; exact h1
    · rw [plP_yes hf]; exact h2
  · refine (parse_no v l hl wm hv hf).mono ?_
    rintro e w' ⟨rfl, h5⟩
    refine ⟨.slice none 0 0, .slice none 0 0, wm.heap.size, ?_, ?_, ?_, Nat.le_refl _, fun g hg => by simp [Value.ownBlock] at hg, h5⟩
    · rw [hdP_no hf]; rfl
    · rw [opP_no hf]; exact OwnB.nil _ _
    · rw [plP_no hf]; exact OwnB.nil _ _
theorem prsR_any (v : Value) (l : List UInt8) (hl : l.length ≤ 1000000) (wm : World) (hv : Bytes wm v l) : Calls Try.prog 12 #[v] wm (PrsR wm l) := by
  by_cases hf : flt l = 0
  · obtain ⟨h20, _⟩ := flt_zero hf
    obtain ⟨b, o, c, rfl⟩ : ∃ b o c, v = .slice (some ⟨b, o, none⟩) l.length c := by
      rcases hv with ⟨rfl, _⟩ | ⟨b, o, c, rfl, _⟩
      · simp at h20
      · exact ⟨b, o, c, rfl⟩
    refine (parseR_yes b o c l hl wm hv hf).mono ?_
    rintro e w' ⟨u, v, rfl, h1, h2, h5⟩
    refine ⟨u, v, ?_, ?_, ?_, h5⟩
    · rw [hdP_yes hf, hf]; rfl
    · rw [opP_yes hf]; exact h1
    · rw [plP_yes hf]; exact h2
  · refine (parseR_no v l hl wm hv hf).mono ?_
    rintro e w' ⟨rfl, h5⟩
    refine ⟨.slice none 0 0, .slice none 0 0, ?_, ?_, ?_, h5⟩
    · rw [hdP_no hf]; rfl
    · rw [opP_no hf]; exact Bytes.nil _ _ _
    · rw [plP_no hf]; exact Bytes.nil _ _ _
end Go.Proofs.Ytnhkkpcepppgoaa

namespace Go.Proofs.Ytnhkkpcepppgoaa
open Go.RowKit
attribute [local go_sem ↓] Go.wp_at_zero Go.wp_at_succ
set_option maxHeartbeats 8000000 in
set_option maxRecDepth 100000 in
theorem sameH_any (h : Hd) (a a' : Option Addr) (c c' : Nat) (O : List UInt8) (w : World) (hu : Bytes w (.slice a O.length c) O) (hv : Bytes w (.slice a' O.length c') O) :
    Calls Try.prog 13 #[.agg #[.int .u8 (h.tos : Nat), .int .u16 (h.id : Nat), .bool h.ev, .bool h.df, .bool h.mf, .int .i64 h.off, .int .u8 (h.ttl : Nat), .int .u8 (h.pr : Nat), .int .u32 (h.src : Nat), .int .u32 (h.dst : Nat), .slice a O.length c], .agg #[.int .u8 (h.tos : Nat), .int .u16 (h.id : Nat), .bool h.ev, .bool h.df, .bool h.mf, .int .i64 h.off, .int .u8 (h.ttl : Nat), .int .u8 (h.pr : Nat), .int .u32 (h.src : Nat), .int .u32 (h.dst : Nat), .slice a' O.length c']] w fun e w' => e = .returned (.bool true) ∧ Below w.heap.size w w' := by
  obtain ⟨n, hn⟩ : ∃ n, n = O.length := ⟨_, rfl⟩
  rw [← hn] at hu hv ⊢
  have hbb : ∀ x : Int, (x == x) = true := by simp
  have hb : Below w.heap.size w ((w.alloc (.cells #[.int .u8 (h.tos : Nat), .int .u16 (h.id : Nat), .bool h.ev, .bool h.df, .bool h.mf, .int .i64 h.off, .int .u8 (h.ttl : Nat), .int .u8 (h.pr : Nat), .int .u32 (h.src : Nat), .int .u32 (h.dst : Nat), .slice a n c] 28)).alloc (.cells #[.int .u8 (h.tos : Nat), .int .u16 (h.id : Nat), .bool h.ev, .bool h.df, .bool h.mf, .int .i64 h.off, .int .u8 (h.ttl : Nat), .int .u8 (h.pr : Nat), .int .u32 (h.src : Nat), .int .u32 (h.dst : Nat), .slice a' n c'] 28)) := by go_grown
  have hcv := (hu.later hb).str (P := Try.prog) (src := 22) (dst := 9) Try.underlying22 Try.underlying5 Try.underlying9
  have hcv' := (hv.later hb).str (P := Try.prog) (src := 22) (dst := 9) Try.underlying22 Try.underlying5 Try.underlying9
  have HB := Lib.hid hb
  clear hu hv hn hb
  go_enter Try.func13, Try.ntmps13
  go_wp2_with fail
  go_ret
  exact ⟨rfl, HB.out⟩
end Go.Proofs.Ytnhkkpcepppgoaa

namespace Go.Proofs.Ytnhkkpcepppgoaa
open Go.RowKit
attribute [local go_sem ↓] Go.wp_at_zero Go.wp_at_succ

/-- Bytes with others laid over them from a place on. -/
def spl (l : List UInt8) (i : Nat) (x : List UInt8) : List UInt8 := l.take i ++ (x ++ l.drop (i + x.length))
theorem spl_length {l : List UInt8} {i : Nat} {x : List UInt8} (h : i + x.length ≤ l.length) : (spl l i x).length = l.length := by unfold spl; simp; omega
theorem splice_bv {cur : List Value} {l x : List UInt8} {i : Nat} (h : cur.take l.length = bv l) (hi : i + x.length ≤ l.length) (hc : l.length ≤ cur.length) : (splice cur i (bv x)).take (spl l i x).length = bv (spl l i x) := by
  rw [spl_length hi]
  unfold splice spl
  have hb : (bv x).length = x.length := by simp [bv]
  rw [bv_append, bv_append, hb]
  have e1 : cur.take i = bv (l.take i) := by
    have := congrArg (List.take i) h
    rw [List.take_take, Nat.min_eq_left (by omega)] at this
    rw [this]; simp only [bv, ← List.map_take]
  have e2 : (cur.drop (i + x.length)).take (l.length - (i + x.length)) = bv (l.drop (i + x.length)) := by
    have := congrArg (List.drop (i + x.length)) h
    rw [List.drop_take] at this
    rw [this]; simp [bv, List.map_drop]
  have l1 : (bv (l.take i)).length = i := by simp [bv]; omega
  rw [e1, List.take_append, l1, List.take_of_length_le (l := bv (l.take i)) (by omega), List.take_append, hb, List.take_of_length_le (l := bv x) (by omega), ← e2]
  congr 3
  omega
theorem OwnB.splice {w w' : World} {base g cap : Nat} {l x : List UInt8} {i : Nat} {cur : Array Value} (h : OwnB w base (.slice (some ⟨g, 0, none⟩) l.length cap) l) (hg : w.heap[g]? = some (.cells cur 5 (0, 0)))
    (hw : w'.heap[g]? = some (.cells (Go.splice cur.toList i (bv x)).toArray 5 (0, 0))) (hi : i + x.length ≤ l.length) : OwnB w' base (.slice (some ⟨g, 0, none⟩) (spl l i x).length cap) (spl l i x) := by
  obtain ⟨hl, h0 | ⟨g', cap', cur', e, hb, hgg, hn, hm, hc, ht⟩⟩ := h
  · cases h0.1
  · simp only [Value.slice.injEq, Option.some.injEq, Addr.mk.injEq, and_true] at e
    obtain ⟨rfl, _, rfl⟩ := e
    rw [hg] at hgg
    simp only [Option.some.injEq, Obj.cells.injEq, and_true] at hgg
    subst hgg
    have hcl : cur.toList.length = cap := by simpa using hc
    refine ⟨by simp [bv], .inr ⟨g, cap, _, rfl, hb, hw, ?_, hm, ?_, ?_⟩⟩
    · rw [spl_length hi]; exact hn
    · rw [List.size_toArray, length_splice _ _ _ (by simp [bv]; omega)]; omega
    · rw [Nat.mul_one] at ht ⊢
      exact splice_bv ht hi (by omega)
theorem OwnB.row {w : World} {base : Nat} {v : Value} {l : List UInt8} (h : OwnB w base v l) (hl : 0 < l.length) : ∃ g cap cur, v = .slice (some ⟨g, 0, none⟩) l.length cap ∧ base ≤ g ∧ w.heap[g]? = some (.cells cur 5 (0, 0)) ∧ l.length ≤ cap ∧ cur.size = cap := by
  obtain ⟨_, h0 | ⟨g, cap, cur, rfl, hb, hg, hn, hm, hc, ht⟩⟩ := h
  · omega
  · exact ⟨g, cap, cur, rfl, hb, hg, hn, by simpa using hc⟩
/-- b[i:] of what lies at a block's front. -/
theorem cut_front (g n c i : Nat) (hi : i ≤ n) (hc : i < c) (w : World) : (Instr.slice 22 (.slice (some ⟨g, 0, none⟩) n c) (some (.int .i64 (i : Int))) none none).run Try.prog w = .ok (.slice (some ⟨g, i, none⟩) (n - i) (c - i)) w := by
  rw [run_slice_l w _ _ _ _ cells1 _ _ (by omega) (by omega), size1]
  show Result.ok (Go.sliced _ _ _ _ 1) w = _
  unfold Go.sliced
  rw [if_neg (by omega)]
  simp [Addr.add]
  omega

/-- A copy over a block known whole: the rest of memory stays. -/
theorem wpList_copy_put {w : World} {ops : Array Oper} {rest : List Oper} {o : Oper} {a : Act} {Q : Exit → Act → World → Prop} (hgd : o.guard = none) (d s : Operand)
    (ho : o.op = .call { callee := .builtin .copy, args := #[d, s], argTypes := #[22, 22] })
    (g off dLen dCap : Nat) (ad : Addr) (sLen sCap : Nat) (hd : a.eval d = .slice (some ⟨g, off, none⟩) dLen dCap) (hs : a.eval s = .slice (some ad) sLen sCap)
    (cur : Array Value) (hg : w.heap[g]? = some (.cells cur 5 (0, 0))) (cs : List Value) (hn : cs.length = Nat.min sLen dLen)
    (hsrc : ∀ j v, cs[j]? = some v → w.cell? (ad.add j) = some v) (hfit : off + cs.length ≤ cur.size) (h1 : ∀ v ∈ cs, v.oneCell' = true)
    (h : ∀ w', Hid (w'.heap[g]? = some (.cells (Go.splice cur.toList off cs).toArray 5 (0, 0))) → Hid (∀ k, k ≠ g → w'.heap[k]? = w.heap[k]?) → Hid (∀ B, B ≤ g → Below B w w') → wpList Try.prog ops Q rest (a.put o.dst (goInt cs.length)) w') :
    wpList Try.prog ops Q (o :: rest) a w :=
  wpList_copy_own hgd d s 22 22 ho 5 Try.underlying22 (by kernel_rfl) g off dLen dCap ad sLen sCap hd hs cur 5 hg cs hn hsrc hfit h1
    (h _ (show _ = _ from setRow_heap w g _ _ _ _ hg) (fun k hk => setRow_other w g k _ hk) (fun B hB => below_setRow (Below.refl B w) hB _))
/-- What a store of a number into bytes leaves. -/
def PutR (w : World) (base g cap : Nat) (l' : List UInt8) (n : Nat) (e : Ending) (w' : World) : Prop :=
  (∃ v, e = .returned v) ∧ OwnB w' base (.slice (some ⟨g, 0, none⟩) n cap) l' ∧ Below base w w' ∧ ∀ b, b < w.heap.size → b ≠ g → w'.heap[b]? = w.heap[b]?

set_option maxHeartbeats 4000000 in
set_option maxRecDepth 100000 in
theorem putC_any (at_ size n B g cap base : Nat) (l : List UInt8) (w : World) (hc : w.cell? ⟨B, 0, none⟩ = some (.slice (some ⟨g, 0, none⟩) l.length cap)) (ho : OwnB w base (.slice (some ⟨g, 0, none⟩) l.length cap) l)
    (h1 : 1 ≤ size) (h8 : size ≤ 8) (hn : n < 256 ^ size) (hat : at_ + size ≤ l.length) (hl : l.length ≤ 1000000) (hbase : base ≤ w.heap.size) (hBg : B ≠ g) :
    Calls Try.prog 79 #[.int .i64 (at_ : Int), .int .i64 (size : Int), .int .u64 (n : Nat), .pointer (some ⟨B, 0, none⟩)] w (PutR w base g cap (spl l at_ (putL n size)) l.length) := by
  obtain ⟨g', cap', cur, e1, hbg, hg, hnc, hcs⟩ := ho.row (by omega)
  simp only [Value.slice.injEq, Option.some.injEq, Addr.mk.injEq, and_true] at e1
  obtain ⟨rfl, _, rfl⟩ := e1
  have hgl : g < w.heap.size := by
    rcases Nat.lt_or_ge g w.heap.size with h | h
    · exact h
    · rw [Array.getElem?_eq_none h] at hg; cases hg
  have HP := Lib.hid (putW_yes n size w h1 h8 hn)
  have hcut := cut_front g l.length cap at_ (by omega) (by omega)
  have hxl : (putL n size).length = size := putL_length n size
  obtain ⟨X, hX⟩ : ∃ X, X = bv (putL n size) := ⟨_, rfl⟩
  have hXl : X.length = size := by rw [hX]; simp [bv, hxl]
  have hX1 : ∀ v ∈ X, v.oneCell' = true := by rw [hX]; exact bv_one _
  have H1 : Hid (0 < size) := by show 0 < size; omega
  have HX := Lib.hid hX
  have HXL := Lib.hid hXl
  have HX1 := Lib.hid hX1
  have HG := Lib.hid hg
  have HO := Lib.hid ho
  have HH := Lib.hid (And.intro hat (And.intro hl (And.intro hbase (And.intro hbg (And.intro hnc (And.intro hcs (And.intro hgl hxl)))))))
  have k1 : (at_ : Int) ≤ l.length := by omega
  clear hX hXl hX1 hxl ho hg hn h1 h8 hat hl hbase hbg hnc hcs hgl
  go_enter Try.func79, Try.ntmps79
  go_wp2_with fail
  refine HP.out.mono ?_
  rintro e w1 ⟨v1, rfl, hby, hb1⟩
  obtain ⟨a1, c1, rfl⟩ := hby.form
  obtain ⟨N1, hN1⟩ : ∃ k, k = (putL n size).length := ⟨_, rfl⟩
  have hby2 := hby
  rw [← hN1] at hby ⊢
  have hc1 := cell_later hb1 hc
  have hc' := hcut w1
  have HB1 := Lib.hid hb1
  have HBY := Lib.hid hby2
  have HN1 := Lib.hid hN1
  have hb1b : Below base w w1 := hb1.mono HH.out.2.2.1
  have HB1b := Lib.hid hb1b
  have hg1 : w1.heap[g]? = some (.cells cur 5 (0, 0)) := (hb1.block g HH.out.2.2.2.2.2.2.1).trans HG.out
  have HG1 := Lib.hid hg1
  clear hcut hb1 hb1b hby hby2 hN1 hc hg1
  obtain ⟨b1, o1, rfl, _⟩ := (show Bytes w1 (.slice a1 (putL n size).length c1) (putL n size) from HBY.out).at (i := 0) (by rw [HH.out.2.2.2.2.2.2.2]; exact H1.out)
  go_wp2_with (with_reducible refine wpList_copy_put rfl (.tmp 17) (.tmp 18) rfl g at_ (l.length - at_) (cap - at_) ⟨b1, o1, none⟩ N1 c1 rfl rfl cur HG1.out X ?_ ?_ ?_ HX1.out ?_)
  · rw [HXL.out, HN1.out, HH.out.2.2.2.2.2.2.2]
    have := HH.out.1
    exact (Nat.min_eq_left (by omega)).symm
  · rw [HX.out]; exact Bytes.news HBY.out
  · rw [HXL.out]; have := HH.out; omega
  · intro w2 hr hk hbl
    go_wp2_with fail
    go_end0
    refine ⟨⟨_, rfl⟩, ?_, HB1b.out.trans (hbl.out _ HH.out.2.2.2.1), fun b hb hne => (hk.out b hne).trans (HB1.out.block b hb)⟩
    have hx : at_ + (putL n size).length ≤ l.length := by rw [HH.out.2.2.2.2.2.2.2]; exact HH.out.1
    have ho1 : OwnB w1 base (.slice (some ⟨g, 0, none⟩) l.length cap) l := OwnB.later HO.out HB1.out
    have h2 := OwnB.splice (w' := w2) ho1 HG1.out (by rw [← HX.out]; exact hr.out) hx
    rw [spl_length hx] at h2
    exact h2
end Go.Proofs.Ytnhkkpcepppgoaa

namespace Go.Proofs.Ytnhkkpcepppgoaa
open Go.RowKit
attribute [local go_sem ↓] Go.wp_at_zero Go.wp_at_succ

/-- Bytes with the ninth one less. -/
def decL (l : List UInt8) : List UInt8 := l.set 8 (UInt8.ofNat (Sm.at0 l 8 - 1))
/-- The checksum that is changed by that. -/
def lessC (l : List UInt8) : Nat := Sm.changed (numAt l 10 2) (numAt l 8 2) (numAt (decL l) 8 2)
def lessL (l : List UInt8) : List UInt8 := spl (decL l) 10 (putL (lessC l) 2)
theorem flt_20 {l : List UInt8} (h : flt l = 0) : 20 ≤ l.length := by
  rcases Nat.lt_or_ge l.length 20 with h1 | h1
  · rw [flt1 h1] at h; cases h
  · exact h1

/-- An answer of bytes that are owned, and an error's number. -/
def AnsO (w : World) (l : List UInt8) (n : Int) (e : Ending) (w' : World) : Prop := ∃ v, e = .returned (.tuple #[v, .int .i64 n]) ∧ OwnB w' w.heap.size v l ∧ Below w.heap.size w w'

theorem bv_set (l : List UInt8) (i x : Nat) (hx : x < 256) : (bv l).set i (.int .u8 (x : Nat)) = bv (l.set i (UInt8.ofNat x)) := by
  unfold bv
  rw [List.map_set, UInt8.toNat_ofNat', Nat.mod_eq_of_lt (by simpa using hx)]
theorem OwnB.set {w : World} {B g cap : Nat} {l : List UInt8} (h : OwnB w B (.slice (some ⟨g, 0, none⟩) l.length cap) l) (i x : Nat) (hx : x < 256) (hi : i < l.length) :
    OwnB (w.setCell ⟨g, i, none⟩ (.int .u8 (x : Nat))) B (.slice (some ⟨g, 0, none⟩) l.length cap) (l.set i (UInt8.ofNat x)) := by
  have := (World.ownsRow.stored h i (.int .u8 (x : Nat))).1
  rw [bv_set l i x hx] at this
  show World.ownsRow _ _ _ _ _ _ _
  rw [List.length_set]; exact this
theorem OwnB.cellAt {w : World} {B g cap : Nat} {l : List UInt8} (h : OwnB w B (.slice (some ⟨g, 0, none⟩) l.length cap) l) {i : Nat} (hi : i < l.length) : w.cell? ⟨g, i, none⟩ = some (.int .u8 (Sm.at0 l i : Nat)) ∧ w.frozen? ⟨g, i, none⟩ = false := by
  obtain ⟨b, o, e1, _, hc⟩ := (OwnB.bytes h).at1 hi
  simp only [Option.some.injEq, Addr.mk.injEq, and_true] at e1
  obtain ⟨rfl, rfl⟩ := e1
  rw [Nat.zero_add] at hc
  exact ⟨hc, World.ownsRow.frozenAt h i⟩

end Go.Proofs.Ytnhkkpcepppgoaa
