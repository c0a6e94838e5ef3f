/- A flow's hash: the program's walk.
   A block of cells in memory, whatever its type.
   The walks of ref03.May, Fits; of Fragment and Multicast, the program's and the reference's.
   Parsing, by the program and by the reference, in one contract each, whether something is wrong or not.
   The walks of ip.May, ip.Size, ip.flags.
   The walk of ip.Parse where something is wrong.
   The walk of ref03.Parse where something is wrong.
   The walk of ref03.Parse where something is wrong.
   The walk of ref03.Parse where something is wrong.
   What the reference tells of a packet that is wrong. -/
import Derived.Deep.MidRow
import Derived.RangeFuncRecord
import Derived.Test.YtdjhgahdiggahaaZ01
import Derived.Test.YtdjhgahdiggahaaZ02
import Derived.Test.YtdjhgahdiggahaaZ03
import Derived.Test.YtdjhgahdiggahaaZ05
import Derived.Test.YtdjhgahdiggahaaZ06
import Derived.Test.YtdjhgahdiggahaaZ07
import Derived.Test.YtdjhgahdiggahaaZ08

set_option linter.unusedSimpArgs false
set_option linter.unusedVariables false
namespace Go.Proofs.Ytdjhgahdiggahaa
open Go.RowKit
/-- What the reference tells of a packet that is wrong. -/
def NoR (wm : World) (l : List UInt8) (e : Ending) (w' : World) : Prop := e = .returned (.tuple #[.agg #[.int .u8 0, .int .u16 0, .bool false, .bool false, .bool false, .int .i64 0, .int .u8 0, .int .u8 0, .int .u32 0, .int .u32 0, .slice none 0 0], .slice none 0 0, .int .i64 (flt l : Nat)]) ∧ Below wm.heap.size wm w'
end Go.Proofs.Ytdjhgahdiggahaa

namespace Go.Proofs.Ytdjhgahdiggahaa
open Go.RowKit
attribute [local go_sem ↓] Go.wp_at_zero Go.wp_at_succ

set_option maxRecDepth 100000 in
set_option maxHeartbeats 4000000 in
theorem parseR_f1 (a : Option Addr) (c : Nat) (l : List UInt8) (hl : l.length ≤ 1000000) (wm : World) (hv : Bytes wm (.slice a l.length c) l) (h : l.length < 20) :
    Calls Try.prog 79 #[.slice a l.length c] wm (NoR wm l) := by
  have HV := Lib.hid hv
  have hA : Below wm.heap.size wm ((wm.alloc (.cells #[.int .u8 0, .int .u16 0, .bool false, .bool false, .bool false, .int .i64 0, .int .u8 0, .int .u8 0, .int .u32 0, .int .u32 0, .slice none 0 0] 106)).alloc (.cells #[.int .u8 0, .int .u16 0, .bool false, .bool false, .bool false, .int .i64 0, .int .u8 0, .int .u8 0, .int .u32 0, .int .u32 0, .slice none 0 0] 106)) := by go_grown
  have hR0 : HdAt wm.heap.size hz ((wm.alloc (.cells #[.int .u8 0, .int .u16 0, .bool false, .bool false, .bool false, .int .i64 0, .int .u8 0, .int .u8 0, .int .u32 0, .int .u32 0, .slice none 0 0] 106)).alloc (.cells #[.int .u8 0, .int .u16 0, .bool false, .bool false, .bool false, .int .i64 0, .int .u8 0, .int .u8 0, .int .u32 0, .int .u32 0, .slice none 0 0] 106)) := HdAt.later (HdAt.new wm hz) ((Below.refl _ _).alloc (Nat.le_refl _) _)
  have hS0 : HdAt (wm.heap.size + 1) hz ((wm.alloc (.cells #[.int .u8 0, .int .u16 0, .bool false, .bool false, .bool false, .int .i64 0, .int .u8 0, .int .u8 0, .int .u32 0, .int .u32 0, .slice none 0 0] 106)).alloc (.cells #[.int .u8 0, .int .u16 0, .bool false, .bool false, .bool false, .int .i64 0, .int .u8 0, .int .u8 0, .int .u32 0, .int .u32 0, .slice none 0 0] 106)) := by
    have := HdAt.new (wm.alloc (.cells #[.int .u8 0, .int .u16 0, .bool false, .bool false, .bool false, .int .i64 0, .int .u8 0, .int .u8 0, .int .u32 0, .int .u32 0, .slice none 0 0] 106)) hz
    rw [World.size_alloc] at this
    exact this
  have HA := Lib.hid hA
  have HR0 := Lib.hid hR0
  have HS0 := Lib.hid hS0
  have HF := Lib.hid (flt1 h)
  have g1 : (l.length : Int) < 20 := by omega
  clear hv hA hR0 hS0 h
  go_enter Try.func79, Try.ntmps79
  go_wp2_with fail
  exact bodyPost_ret (v := .tuple #[.agg #[.int .u8 0, .int .u16 0, .bool false, .bool false, .bool false, .int .i64 0, .int .u8 0, .int .u8 0, .int .u32 0, .int .u32 0, .slice none 0 0], .slice none 0 0, .int .i64 1]) (by simp [results, Try.results79, go_sem]) rfl ⟨by rw [HF.out]; rfl, by go_grown⟩
set_option maxRecDepth 100000 in
set_option maxHeartbeats 4000000 in
theorem parseR_f2 (a : Option Addr) (c : Nat) (l : List UInt8) (hl : l.length ≤ 1000000) (wm : World) (hv : Bytes wm (.slice a l.length c) l) (h20 : 20 ≤ l.length) (h : Sm.at0 l 0 / 16 ≠ 4) :
    Calls Try.prog 79 #[.slice a l.length c] wm (NoR wm l) := by
  have HV := Lib.hid hv
  have hA : Below wm.heap.size wm ((wm.alloc (.cells #[.int .u8 0, .int .u16 0, .bool false, .bool false, .bool false, .int .i64 0, .int .u8 0, .int .u8 0, .int .u32 0, .int .u32 0, .slice none 0 0] 106)).alloc (.cells #[.int .u8 0, .int .u16 0, .bool false, .bool false, .bool false, .int .i64 0, .int .u8 0, .int .u8 0, .int .u32 0, .int .u32 0, .slice none 0 0] 106)) := by go_grown
  have hR0 : HdAt wm.heap.size hz ((wm.alloc (.cells #[.int .u8 0, .int .u16 0, .bool false, .bool false, .bool false, .int .i64 0, .int .u8 0, .int .u8 0, .int .u32 0, .int .u32 0, .slice none 0 0] 106)).alloc (.cells #[.int .u8 0, .int .u16 0, .bool false, .bool false, .bool false, .int .i64 0, .int .u8 0, .int .u8 0, .int .u32 0, .int .u32 0, .slice none 0 0] 106)) := HdAt.later (HdAt.new wm hz) ((Below.refl _ _).alloc (Nat.le_refl _) _)
  have hS0 : HdAt (wm.heap.size + 1) hz ((wm.alloc (.cells #[.int .u8 0, .int .u16 0, .bool false, .bool false, .bool false, .int .i64 0, .int .u8 0, .int .u8 0, .int .u32 0, .int .u32 0, .slice none 0 0] 106)).alloc (.cells #[.int .u8 0, .int .u16 0, .bool false, .bool false, .bool false, .int .i64 0, .int .u8 0, .int .u8 0, .int .u32 0, .int .u32 0, .slice none 0 0] 106)) := by
    have := HdAt.new (wm.alloc (.cells #[.int .u8 0, .int .u16 0, .bool false, .bool false, .bool false, .int .i64 0, .int .u8 0, .int .u8 0, .int .u32 0, .int .u32 0, .slice none 0 0] 106)) hz
    rw [World.size_alloc] at this
    exact this
  have HA := Lib.hid hA
  have HR0 := Lib.hid hR0
  have HS0 := Lib.hid hS0
  have HF := Lib.hid (flt2 h20 h)
  obtain ⟨b, ox, rfl, hbx, hex⟩ := hv.at1 (i := 0) (by omega)
  obtain ⟨x, hx⟩ : ∃ x, x = Sm.at0 l 0 := ⟨_, rfl⟩
  have hx256 : x < 256 := by rw [hx]; exact Sm.at0_lt _ _
  rw [← hx] at hex
  have hex0 : wm.cell? ⟨b, ox, none⟩ = some (.int .u8 (x : Nat)) := hex
  have hexA := cell_later hA hex0
  have g1 : (20 : Int) ≤ l.length := by omega
  have g2 : 20 ≤ l.length := h20
  rw [← hx] at h
  have g3 : ((x : Int) / 16 != 4) = true := by rw [bne_iff_ne]; omega
  clear hv hA hR0 hS0 h hx hex hex0
  go_enter Try.func79, Try.ntmps79
  go_wp2_with fail
  exact bodyPost_ret (v := .tuple #[.agg #[.int .u8 0, .int .u16 0, .bool false, .bool false, .bool false, .int .i64 0, .int .u8 0, .int .u8 0, .int .u32 0, .int .u32 0, .slice none 0 0], .slice none 0 0, .int .i64 2]) (by simp [results, Try.results79, go_sem]) rfl ⟨by rw [HF.out]; rfl, by go_grown⟩
set_option maxRecDepth 100000 in
set_option maxHeartbeats 4000000 in
theorem parseR_f3 (a : Option Addr) (c : Nat) (l : List UInt8) (hl : l.length ≤ 1000000) (wm : World) (hv : Bytes wm (.slice a l.length c) l) (h20 : 20 ≤ l.length) (h4 : Sm.at0 l 0 / 16 = 4) (h : hsz l < 20 ∨ l.length < hsz l) :
    Calls Try.prog 79 #[.slice a l.length c] wm (NoR wm l) := by
  have HV := Lib.hid hv
  have hA : Below wm.heap.size wm ((wm.alloc (.cells #[.int .u8 0, .int .u16 0, .bool false, .bool false, .bool false, .int .i64 0, .int .u8 0, .int .u8 0, .int .u32 0, .int .u32 0, .slice none 0 0] 106)).alloc (.cells #[.int .u8 0, .int .u16 0, .bool false, .bool false, .bool false, .int .i64 0, .int .u8 0, .int .u8 0, .int .u32 0, .int .u32 0, .slice none 0 0] 106)) := by go_grown
  have hR0 : HdAt wm.heap.size hz ((wm.alloc (.cells #[.int .u8 0, .int .u16 0, .bool false, .bool false, .bool false, .int .i64 0, .int .u8 0, .int .u8 0, .int .u32 0, .int .u32 0, .slice none 0 0] 106)).alloc (.cells #[.int .u8 0, .int .u16 0, .bool false, .bool false, .bool false, .int .i64 0, .int .u8 0, .int .u8 0, .int .u32 0, .int .u32 0, .slice none 0 0] 106)) := HdAt.later (HdAt.new wm hz) ((Below.refl _ _).alloc (Nat.le_refl _) _)
  have hS0 : HdAt (wm.heap.size + 1) hz ((wm.alloc (.cells #[.int .u8 0, .int .u16 0, .bool false, .bool false, .bool false, .int .i64 0, .int .u8 0, .int .u8 0, .int .u32 0, .int .u32 0, .slice none 0 0] 106)).alloc (.cells #[.int .u8 0, .int .u16 0, .bool false, .bool false, .bool false, .int .i64 0, .int .u8 0, .int .u8 0, .int .u32 0, .int .u32 0, .slice none 0 0] 106)) := by
    have := HdAt.new (wm.alloc (.cells #[.int .u8 0, .int .u16 0, .bool false, .bool false, .bool false, .int .i64 0, .int .u8 0, .int .u8 0, .int .u32 0, .int .u32 0, .slice none 0 0] 106)) hz
    rw [World.size_alloc] at this
    exact this
  have HA := Lib.hid hA
  have HR0 := Lib.hid hR0
  have HS0 := Lib.hid hS0
  have HF := Lib.hid (flt3 h20 h4 h)
  obtain ⟨b, ox, rfl, hbx, hex⟩ := hv.at1 (i := 0) (by omega)
  obtain ⟨x, hx⟩ : ∃ x, x = Sm.at0 l 0 := ⟨_, rfl⟩
  have hx256 : x < 256 := by rw [hx]; exact Sm.at0_lt _ _
  rw [← hx] at hex
  have hex0 : wm.cell? ⟨b, ox, none⟩ = some (.int .u8 (x : Nat)) := hex
  have hexA := cell_later hA hex0
  have g1 : (20 : Int) ≤ l.length := by omega
  have g2 : 20 ≤ l.length := h20
  rw [← hx] at h4
  have g3 : ((x : Int) / 16 != 4) = false := by simp; omega
  obtain ⟨s, hs⟩ : ∃ s, s = hsz l := ⟨_, rfl⟩
  have hsx : s = x % 16 * 4 := by rw [hs, hx]; rfl
  have g4 : 4 * ((x : Int) % 16) = s := by omega
  rw [← hs] at h
  have HS := Lib.hid hs
  clear hv hA hR0 hS0 hx hex hex0 hs hsx h4
  by_cases h5 : s < 20
  · have g5 : (s : Int) < 20 := by omega
    clear h h5
    go_enter Try.func79, Try.ntmps79
    go_wp2_with fail
    exact bodyPost_ret (v := .tuple #[.agg #[.int .u8 0, .int .u16 0, .bool false, .bool false, .bool false, .int .i64 0, .int .u8 0, .int .u8 0, .int .u32 0, .int .u32 0, .slice none 0 0], .slice none 0 0, .int .i64 3]) (by simp [results, Try.results79, go_sem]) rfl ⟨by rw [HF.out]; rfl, by go_grown⟩
  · have g5 : (20 : Int) ≤ s := by omega
    have g6 : (l.length : Int) < s := by omega
    clear h h5
    go_enter Try.func79, Try.ntmps79
    go_wp2_with fail
    exact bodyPost_ret (v := .tuple #[.agg #[.int .u8 0, .int .u16 0, .bool false, .bool false, .bool false, .int .i64 0, .int .u8 0, .int .u8 0, .int .u32 0, .int .u32 0, .slice none 0 0], .slice none 0 0, .int .i64 3]) (by simp [results, Try.results79, go_sem]) rfl ⟨by rw [HF.out]; rfl, by go_grown⟩
set_option maxRecDepth 100000 in
set_option maxHeartbeats 4000000 in
theorem parseR_f4 (a : Option Addr) (c : Nat) (l : List UInt8) (hl : l.length ≤ 1000000) (wm : World) (hv : Bytes wm (.slice a l.length c) l) (h20 : 20 ≤ l.length) (h4 : Sm.at0 l 0 / 16 = 4) (h : 20 ≤ hsz l ∧ hsz l ≤ l.length) (h7 : numAt l 2 2 < hsz l ∨ l.length < numAt l 2 2) :
    Calls Try.prog 79 #[.slice a l.length c] wm (NoR wm l) := by
  have HV := Lib.hid hv
  have hA : Below wm.heap.size wm ((wm.alloc (.cells #[.int .u8 0, .int .u16 0, .bool false, .bool false, .bool false, .int .i64 0, .int .u8 0, .int .u8 0, .int .u32 0, .int .u32 0, .slice none 0 0] 106)).alloc (.cells #[.int .u8 0, .int .u16 0, .bool false, .bool false, .bool false, .int .i64 0, .int .u8 0, .int .u8 0, .int .u32 0, .int .u32 0, .slice none 0 0] 106)) := by go_grown
  have hR0 : HdAt wm.heap.size hz ((wm.alloc (.cells #[.int .u8 0, .int .u16 0, .bool false, .bool false, .bool false, .int .i64 0, .int .u8 0, .int .u8 0, .int .u32 0, .int .u32 0, .slice none 0 0] 106)).alloc (.cells #[.int .u8 0, .int .u16 0, .bool false, .bool false, .bool false, .int .i64 0, .int .u8 0, .int .u8 0, .int .u32 0, .int .u32 0, .slice none 0 0] 106)) := HdAt.later (HdAt.new wm hz) ((Below.refl _ _).alloc (Nat.le_refl _) _)
  have hS0 : HdAt (wm.heap.size + 1) hz ((wm.alloc (.cells #[.int .u8 0, .int .u16 0, .bool false, .bool false, .bool false, .int .i64 0, .int .u8 0, .int .u8 0, .int .u32 0, .int .u32 0, .slice none 0 0] 106)).alloc (.cells #[.int .u8 0, .int .u16 0, .bool false, .bool false, .bool false, .int .i64 0, .int .u8 0, .int .u8 0, .int .u32 0, .int .u32 0, .slice none 0 0] 106)) := by
    have := HdAt.new (wm.alloc (.cells #[.int .u8 0, .int .u16 0, .bool false, .bool false, .bool false, .int .i64 0, .int .u8 0, .int .u8 0, .int .u32 0, .int .u32 0, .slice none 0 0] 106)) hz
    rw [World.size_alloc] at this
    exact this
  have HA := Lib.hid hA
  have HR0 := Lib.hid hR0
  have HS0 := Lib.hid hS0
  have HF := Lib.hid (flt4 h20 h4 h h7)
  obtain ⟨b, ox, rfl, hbx, hex⟩ := hv.at1 (i := 0) (by omega)
  obtain ⟨x, hx⟩ : ∃ x, x = Sm.at0 l 0 := ⟨_, rfl⟩
  have hx256 : x < 256 := by rw [hx]; exact Sm.at0_lt _ _
  rw [← hx] at hex
  have hex0 : wm.cell? ⟨b, ox, none⟩ = some (.int .u8 (x : Nat)) := hex
  have hexA := cell_later hA hex0
  have g1 : (20 : Int) ≤ l.length := by omega
  have g2 : 20 ≤ l.length := h20
  rw [← hx] at h4
  have g3 : ((x : Int) / 16 != 4) = false := by simp; omega
  obtain ⟨s, hs⟩ : ∃ s, s = hsz l := ⟨_, rfl⟩
  have hsx : s = x % 16 * 4 := by rw [hs, hx]; rfl
  have g4 : 4 * ((x : Int) % 16) = s := by omega
  rw [← hs] at h
  have HS := Lib.hid hs
  have htm := numAt_lt (l := l) (i := 2) (k := 2) (by omega)
  obtain ⟨a2, hs2, hg2⟩ := getR_at hv 2 2 (by omega) (by omega)
  have hs2' : ∀ w, (Instr.slice 97 (.slice (some ⟨b, ox, none⟩) l.length c) (some (.int .i64 2)) (some (.int .i64 4)) none).run Try.prog w = .ok (.slice a2 2 (c - 2)) w := hs2
  obtain ⟨t, ht⟩ : ∃ t, t = numAt l 2 2 := ⟨_, rfl⟩
  rw [← ht] at hg2 htm
  have HG2 := Lib.hid hg2
  have HT := Lib.hid ht
  have hwt : IntKind.i64.wrap (t : Int) = t := IntWalk.i64_in _ ⟨by omega, by omega⟩
  have g5 : (20 : Int) ≤ s := by omega
  have g6 : (s : Int) ≤ l.length := by omega
  rw [← ht, ← hs] at h7
  clear hv hA hR0 hS0 hx hex hex0 hs hsx h4 hs2 hg2 htm ht
  by_cases h5 : t < s
  · have g7 : (t : Int) < s := by omega
    clear h h5 h7
    go_enter Try.func79, Try.ntmps79
    go_wp2_with fail
    refine (HG2.out _ HA.out).mono ?_
    rintro e w3 ⟨rfl, rfl⟩
    go_wp2_with fail
    exact bodyPost_ret (v := .tuple #[.agg #[.int .u8 0, .int .u16 0, .bool false, .bool false, .bool false, .int .i64 0, .int .u8 0, .int .u8 0, .int .u32 0, .int .u32 0, .slice none 0 0], .slice none 0 0, .int .i64 4]) (by simp [results, Try.results79, go_sem]) rfl ⟨by rw [HF.out]; rfl, by go_grown⟩
  · have g7 : (s : Int) ≤ t := by omega
    have g8 : (l.length : Int) < t := by omega
    clear h h5 h7
    go_enter Try.func79, Try.ntmps79
    go_wp2_with fail
    refine (HG2.out _ HA.out).mono ?_
    rintro e w3 ⟨rfl, rfl⟩
    go_wp2_with fail
    exact bodyPost_ret (v := .tuple #[.agg #[.int .u8 0, .int .u16 0, .bool false, .bool false, .bool false, .int .i64 0, .int .u8 0, .int .u8 0, .int .u32 0, .int .u32 0, .slice none 0 0], .slice none 0 0, .int .i64 4]) (by simp [results, Try.results79, go_sem]) rfl ⟨by rw [HF.out]; rfl, by go_grown⟩
end Go.Proofs.Ytdjhgahdiggahaa

namespace Go.Proofs.Ytdjhgahdiggahaa
open Go.RowKit
attribute [local go_sem ↓] Go.wp_at_zero Go.wp_at_succ

set_option maxRecDepth 100000 in
set_option maxHeartbeats 4000000 in
theorem parseR_f5 (a : Option Addr) (c : Nat) (l : List UInt8) (hl : l.length ≤ 1000000) (wm : World) (hv : Bytes wm (.slice a l.length c) l) (h20 : 20 ≤ l.length) (h4 : Sm.at0 l 0 / 16 = 4) (h : 20 ≤ hsz l ∧ hsz l ≤ l.length) (h7 : hsz l ≤ numAt l 2 2 ∧ numAt l 2 2 ≤ l.length) (h8 : Sm.tot (l.take (hsz l)) ≠ 65535) :
    Calls Try.prog 79 #[.slice a l.length c] wm (NoR wm l) := by
  have HV := Lib.hid hv
  have hA : Below wm.heap.size wm ((wm.alloc (.cells #[.int .u8 0, .int .u16 0, .bool false, .bool false, .bool false, .int .i64 0, .int .u8 0, .int .u8 0, .int .u32 0, .int .u32 0, .slice none 0 0] 106)).alloc (.cells #[.int .u8 0, .int .u16 0, .bool false, .bool false, .bool false, .int .i64 0, .int .u8 0, .int .u8 0, .int .u32 0, .int .u32 0, .slice none 0 0] 106)) := by go_grown
  have hR0 : HdAt wm.heap.size hz ((wm.alloc (.cells #[.int .u8 0, .int .u16 0, .bool false, .bool false, .bool false, .int .i64 0, .int .u8 0, .int .u8 0, .int .u32 0, .int .u32 0, .slice none 0 0] 106)).alloc (.cells #[.int .u8 0, .int .u16 0, .bool false, .bool false, .bool false, .int .i64 0, .int .u8 0, .int .u8 0, .int .u32 0, .int .u32 0, .slice none 0 0] 106)) := HdAt.later (HdAt.new wm hz) ((Below.refl _ _).alloc (Nat.le_refl _) _)
  have hS0 : HdAt (wm.heap.size + 1) hz ((wm.alloc (.cells #[.int .u8 0, .int .u16 0, .bool false, .bool false, .bool false, .int .i64 0, .int .u8 0, .int .u8 0, .int .u32 0, .int .u32 0, .slice none 0 0] 106)).alloc (.cells #[.int .u8 0, .int .u16 0, .bool false, .bool false, .bool false, .int .i64 0, .int .u8 0, .int .u8 0, .int .u32 0, .int .u32 0, .slice none 0 0] 106)) := by
    have := HdAt.new (wm.alloc (.cells #[.int .u8 0, .int .u16 0, .bool false, .bool false, .bool false, .int .i64 0, .int .u8 0, .int .u8 0, .int .u32 0, .int .u32 0, .slice none 0 0] 106)) hz
    rw [World.size_alloc] at this
    exact this
  have HA := Lib.hid hA
  have HR0 := Lib.hid hR0
  have HS0 := Lib.hid hS0
  have HF := Lib.hid (flt5 h20 h4 h h7 h8)
  obtain ⟨b, ox, rfl, hbx, hex⟩ := hv.at1 (i := 0) (by omega)
  obtain ⟨x, hx⟩ : ∃ x, x = Sm.at0 l 0 := ⟨_, rfl⟩
  have hx256 : x < 256 := by rw [hx]; exact Sm.at0_lt _ _
  rw [← hx] at hex
  have hex0 : wm.cell? ⟨b, ox, none⟩ = some (.int .u8 (x : Nat)) := hex
  have hexA := cell_later hA hex0
  have g1 : (20 : Int) ≤ l.length := by omega
  have g2 : 20 ≤ l.length := h20
  rw [← hx] at h4
  have g3 : ((x : Int) / 16 != 4) = false := by simp; omega
  obtain ⟨s, hs⟩ : ∃ s, s = hsz l := ⟨_, rfl⟩
  have hsx : s = x % 16 * 4 := by rw [hs, hx]; rfl
  have g4 : 4 * ((x : Int) % 16) = s := by omega
  rw [← hs] at h
  have HS := Lib.hid hs
  have htm := numAt_lt (l := l) (i := 2) (k := 2) (by omega)
  obtain ⟨a2, hs2, hg2⟩ := getR_at hv 2 2 (by omega) (by omega)
  have hs2' : ∀ w, (Instr.slice 97 (.slice (some ⟨b, ox, none⟩) l.length c) (some (.int .i64 2)) (some (.int .i64 4)) none).run Try.prog w = .ok (.slice a2 2 (c - 2)) w := hs2
  obtain ⟨t, ht⟩ : ∃ t, t = numAt l 2 2 := ⟨_, rfl⟩
  rw [← ht] at hg2 htm
  have HG2 := Lib.hid hg2
  have HT := Lib.hid ht
  have hwt : IntKind.i64.wrap (t : Int) = t := IntWalk.i64_in _ ⟨by omega, by omega⟩
  have g5 : (20 : Int) ≤ s := by omega
  have g6 : (s : Int) ≤ l.length := by omega
  rw [← ht, ← hs] at h7
  rw [← hs] at h8
  have g7 : (s : Int) ≤ t := by omega
  have g8 : (t : Int) ≤ l.length := by omega
  obtain ⟨hsh, hbh⟩ := Bytes.cut_hk .i64 hv (s : Int) s rfl h.2
  obtain ⟨q, hq⟩ : ∃ q, q = Sm.tot (l.take s) := ⟨_, rfl⟩
  have HTO : Hid (∀ W, Below wm.heap.size wm W → Calls Try.prog 114 #[.slice (some ⟨b, ox, none⟩) s c] W fun e w' => e = .returned (.int .u16 (q : Nat)) ∧ Below W.heap.size W w') := fun W hb => by
    have := totalR_any _ (l.take s) W (hbh.later hb) (by have := hsz_le l; rw [List.length_take]; omega)
    rw [← hq] at this
    exact this
  rw [← hq] at h8
  have g9 : ((q : Int) != 65535) = true := by rw [bne_iff_ne]; omega
  clear hv hA hR0 hS0 hx hex hex0 hx256 hs hsx h4 hs2 hg2 htm ht h h7 h8 hq hbh
  go_enter Try.func79, Try.ntmps79
  go_wp2_with fail
  refine (HG2.out _ HA.out).mono ?_
  rintro e w3 ⟨rfl, rfl⟩
  go_wp2_with fail
  refine (HTO.out _ HA.out).mono ?_
  rintro e w4 ⟨rfl, hb4⟩
  have HB4 := Lib.hid (HA.out.trans (hb4.mono HA.out.size))
  have HR4 : Hid (HdAt wm.heap.size hz w4) := HdAt.later HR0.out hb4
  have HS4 : Hid (HdAt (wm.heap.size + 1) hz w4) := HdAt.later HS0.out hb4
  clear hb4
  obtain ⟨s1, s2, s3, _⟩ := HdAt.set11 (show HdAt wm.heap.size hz w4 from HR4.out) (.int .u8 0) (.int .u16 0) (.bool false) (.bool false) (.bool false) (.int .i64 0) (.int .u8 0) (.int .u8 0) (.int .u32 0) (.int .u32 0) (.slice none 0 0)
  have Q1 := Lib.hid s1
  have Q4 := Lib.hid ((show Below wm.heap.size wm w4 from HB4.out).trans (s3 _ (Nat.le_refl _)))
  have hcz : ∀ j x, hz[j]? = some x → (w4).cell? ⟨wm.heap.size, j, none⟩ = some x := fun j x hx => HdAt.cell (show HdAt wm.heap.size hz w4 from HR4.out) hx
  have hcy : ∀ j x, hz[j]? = some x → (w4).cell? ⟨wm.heap.size + 1, j, none⟩ = some x := fun j x hx => HdAt.cell (show HdAt (wm.heap.size + 1) hz w4 from HS4.out) hx
  have hfz : ∀ j, (w4).frozen? ⟨wm.heap.size, j, none⟩ = false := fun j => HdAt.frozen (show HdAt wm.heap.size hz w4 from HR4.out) j
  have k0 := hcz 0 _ rfl
  have k1 := hcz 1 _ rfl
  have k2 := hcz 2 _ rfl
  have k3 := hcz 3 _ rfl
  have k4 := hcz 4 _ rfl
  have k5 := hcz 5 _ rfl
  have k6 := hcz 6 _ rfl
  have k7 := hcz 7 _ rfl
  have k8 := hcz 8 _ rfl
  have k9 := hcz 9 _ rfl
  have k10 := hcz 10 _ rfl
  have y0 := hcy 0 _ rfl
  have y1 := hcy 1 _ rfl
  have y2 := hcy 2 _ rfl
  have y3 := hcy 3 _ rfl
  have y4 := hcy 4 _ rfl
  have y5 := hcy 5 _ rfl
  have y6 := hcy 6 _ rfl
  have y7 := hcy 7 _ rfl
  have y8 := hcy 8 _ rfl
  have y9 := hcy 9 _ rfl
  have y10 := hcy 10 _ rfl
  clear hcz hcy s1 s2 s3
  go_wp2_with fail
  have d0 := HdAt.cell Q1.out (j := 0) rfl
  have d1 := HdAt.cell Q1.out (j := 1) rfl
  have d2 := HdAt.cell Q1.out (j := 2) rfl
  have d3 := HdAt.cell Q1.out (j := 3) rfl
  have d4 := HdAt.cell Q1.out (j := 4) rfl
  have d5 := HdAt.cell Q1.out (j := 5) rfl
  have d6 := HdAt.cell Q1.out (j := 6) rfl
  have d7 := HdAt.cell Q1.out (j := 7) rfl
  have d8 := HdAt.cell Q1.out (j := 8) rfl
  have d9 := HdAt.cell Q1.out (j := 9) rfl
  have d10 := HdAt.cell Q1.out (j := 10) rfl
  exact bodyPost_ret (v := .tuple #[.agg #[.int .u8 0, .int .u16 0, .bool false, .bool false, .bool false, .int .i64 0, .int .u8 0, .int .u8 0, .int .u32 0, .int .u32 0, .slice none 0 0], .slice none 0 0, .int .i64 5]) (by simp [results, Try.results79, go_sem, d0, d1, d2, d3, d4, d5, d6, d7, d8, d9, d10]) rfl ⟨by rw [HF.out]; rfl, Q4.out⟩
set_option maxRecDepth 100000 in
set_option maxHeartbeats 4000000 in
theorem parseR_f6 (a : Option Addr) (c : Nat) (l : List UInt8) (hl : l.length ≤ 1000000) (wm : World) (hv : Bytes wm (.slice a l.length c) l) (h20 : 20 ≤ l.length) (h4 : Sm.at0 l 0 / 16 = 4) (h : 20 ≤ hsz l ∧ hsz l ≤ l.length) (h7 : hsz l ≤ numAt l 2 2 ∧ numAt l 2 2 ≤ l.length) (h8 : Sm.tot (l.take (hsz l)) = 65535) (h9 : Om.ok ((l.take (hsz l)).drop 20) = false) :
    Calls Try.prog 79 #[.slice a l.length c] wm (NoR wm l) := by
  have HV := Lib.hid hv
  have hA : Below wm.heap.size wm ((wm.alloc (.cells #[.int .u8 0, .int .u16 0, .bool false, .bool false, .bool false, .int .i64 0, .int .u8 0, .int .u8 0, .int .u32 0, .int .u32 0, .slice none 0 0] 106)).alloc (.cells #[.int .u8 0, .int .u16 0, .bool false, .bool false, .bool false, .int .i64 0, .int .u8 0, .int .u8 0, .int .u32 0, .int .u32 0, .slice none 0 0] 106)) := by go_grown
  have hR0 : HdAt wm.heap.size hz ((wm.alloc (.cells #[.int .u8 0, .int .u16 0, .bool false, .bool false, .bool false, .int .i64 0, .int .u8 0, .int .u8 0, .int .u32 0, .int .u32 0, .slice none 0 0] 106)).alloc (.cells #[.int .u8 0, .int .u16 0, .bool false, .bool false, .bool false, .int .i64 0, .int .u8 0, .int .u8 0, .int .u32 0, .int .u32 0, .slice none 0 0] 106)) := HdAt.later (HdAt.new wm hz) ((Below.refl _ _).alloc (Nat.le_refl _) _)
  have hS0 : HdAt (wm.heap.size + 1) hz ((wm.alloc (.cells #[.int .u8 0, .int .u16 0, .bool false, .bool false, .bool false, .int .i64 0, .int .u8 0, .int .u8 0, .int .u32 0, .int .u32 0, .slice none 0 0] 106)).alloc (.cells #[.int .u8 0, .int .u16 0, .bool false, .bool false, .bool false, .int .i64 0, .int .u8 0, .int .u8 0, .int .u32 0, .int .u32 0, .slice none 0 0] 106)) := by
    have := HdAt.new (wm.alloc (.cells #[.int .u8 0, .int .u16 0, .bool false, .bool false, .bool false, .int .i64 0, .int .u8 0, .int .u8 0, .int .u32 0, .int .u32 0, .slice none 0 0] 106)) hz
    rw [World.size_alloc] at this
    exact this
  have HA := Lib.hid hA
  have HR0 := Lib.hid hR0
  have HS0 := Lib.hid hS0
  have HF := Lib.hid (flt6 h20 h4 h h7 h8 h9)
  obtain ⟨b, ox, rfl, hbx, hex⟩ := hv.at1 (i := 0) (by omega)
  obtain ⟨x, hx⟩ : ∃ x, x = Sm.at0 l 0 := ⟨_, rfl⟩
  have hx256 : x < 256 := by rw [hx]; exact Sm.at0_lt _ _
  rw [← hx] at hex
  have hex0 : wm.cell? ⟨b, ox, none⟩ = some (.int .u8 (x : Nat)) := hex
  have hexA := cell_later hA hex0
  have g1 : (20 : Int) ≤ l.length := by omega
  have g2 : 20 ≤ l.length := h20
  rw [← hx] at h4
  have g3 : ((x : Int) / 16 != 4) = false := by simp; omega
  obtain ⟨s, hs⟩ : ∃ s, s = hsz l := ⟨_, rfl⟩
  have hsx : s = x % 16 * 4 := by rw [hs, hx]; rfl
  have g4 : 4 * ((x : Int) % 16) = s := by omega
  rw [← hs] at h
  have HS := Lib.hid hs
  have htm := numAt_lt (l := l) (i := 2) (k := 2) (by omega)
  obtain ⟨a2, hs2, hg2⟩ := getR_at hv 2 2 (by omega) (by omega)
  have hs2' : ∀ w, (Instr.slice 97 (.slice (some ⟨b, ox, none⟩) l.length c) (some (.int .i64 2)) (some (.int .i64 4)) none).run Try.prog w = .ok (.slice a2 2 (c - 2)) w := hs2
  obtain ⟨t, ht⟩ : ∃ t, t = numAt l 2 2 := ⟨_, rfl⟩
  rw [← ht] at hg2 htm
  have HG2 := Lib.hid hg2
  have HT := Lib.hid ht
  have hwt : IntKind.i64.wrap (t : Int) = t := IntWalk.i64_in _ ⟨by omega, by omega⟩
  have g5 : (20 : Int) ≤ s := by omega
  have g6 : (s : Int) ≤ l.length := by omega
  rw [← ht, ← hs] at h7
  rw [← hs] at h8
  have g7 : (s : Int) ≤ t := by omega
  have g8 : (t : Int) ≤ l.length := by omega
  obtain ⟨hsh, hbh⟩ := Bytes.cut_hk .i64 hv (s : Int) s rfl h.2
  obtain ⟨q, hq⟩ : ∃ q, q = Sm.tot (l.take s) := ⟨_, rfl⟩
  have HTO : Hid (∀ W, Below wm.heap.size wm W → Calls Try.prog 114 #[.slice (some ⟨b, ox, none⟩) s c] W fun e w' => e = .returned (.int .u16 (q : Nat)) ∧ Below W.heap.size W w') := fun W hb => by
    have := totalR_any _ (l.take s) W (hbh.later hb) (by have := hsz_le l; rw [List.length_take]; omega)
    rw [← hq] at this
    exact this
  rw [← hq] at h8
  have g9 : ((q : Int) != 65535) = false := by rw [h8]; rfl
  obtain ⟨ao, hso, hbo⟩ := hv.cut_lh 20 (s : Int) 20 s rfl rfl h.1 h.2
  obtain ⟨sn, hsn⟩ : ∃ n, n = s - 20 := ⟨_, rfl⟩
  obtain ⟨sc, hsc⟩ : ∃ n, n = c - 20 := ⟨_, rfl⟩
  rw [← hsn, ← hsc] at hbo hso
  rw [← hs] at h9
  have HPA : Hid (∀ W, Below wm.heap.size wm W → Calls Try.prog 82 #[.slice ao sn sc] W fun e w' => ∃ a c n, e = .returned (.tuple #[.slice a n c, .bool false]) ∧ Below W.heap.size W w') := fun W hb =>
    (partsR_any _ ((l.take s).drop 20) (by have := hsz_le l; rw [List.length_drop, List.length_take]; omega) W (hbo.later hb)).mono fun e w' ⟨a, c, A, he, _, _, _, _, hB⟩ => by rw [h9] at he; exact ⟨a, c, _, he, hB⟩
  clear hv hA hR0 hS0 hx hex hex0 hx256 hs hsx h4 hs2 hg2 htm ht h h7 h8 h9 hq hbh hbo hsn hsc
  go_enter Try.func79, Try.ntmps79
  go_wp2_with fail
  refine (HG2.out _ HA.out).mono ?_
  rintro e w3 ⟨rfl, rfl⟩
  go_wp2_with fail
  refine (HTO.out _ HA.out).mono ?_
  rintro e w4 ⟨rfl, hb4⟩
  have HB4 := Lib.hid (HA.out.trans (hb4.mono HA.out.size))
  have HR4 : Hid (HdAt wm.heap.size hz w4) := HdAt.later HR0.out hb4
  have HS4 : Hid (HdAt (wm.heap.size + 1) hz w4) := HdAt.later HS0.out hb4
  clear hb4
  go_wp2_with fail
  refine (HPA.out _ HB4.out).mono ?_
  rintro e w5 ⟨pa, pc, pn, rfl, hb5⟩
  have HB5 := Lib.hid (HB4.out.trans (hb5.mono HB4.out.size))
  have HR5 : Hid (HdAt wm.heap.size hz w5) := HdAt.later HR4.out hb5
  have HS5 : Hid (HdAt (wm.heap.size + 1) hz w5) := HdAt.later HS4.out hb5
  clear hb5
  obtain ⟨s1, s2, s3, _⟩ := HdAt.set11 (show HdAt wm.heap.size hz w5 from HR5.out) (.int .u8 0) (.int .u16 0) (.bool false) (.bool false) (.bool false) (.int .i64 0) (.int .u8 0) (.int .u8 0) (.int .u32 0) (.int .u32 0) (.slice none 0 0)
  have Q1 := Lib.hid s1
  have Q4 := Lib.hid ((show Below wm.heap.size wm w5 from HB5.out).trans (s3 _ (Nat.le_refl _)))
  have hcz : ∀ j x, hz[j]? = some x → (w5).cell? ⟨wm.heap.size, j, none⟩ = some x := fun j x hx => HdAt.cell (show HdAt wm.heap.size hz w5 from HR5.out) hx
  have hcy : ∀ j x, hz[j]? = some x → (w5).cell? ⟨wm.heap.size + 1, j, none⟩ = some x := fun j x hx => HdAt.cell (show HdAt (wm.heap.size + 1) hz w5 from HS5.out) hx
  have hfz : ∀ j, (w5).frozen? ⟨wm.heap.size, j, none⟩ = false := fun j => HdAt.frozen (show HdAt wm.heap.size hz w5 from HR5.out) j
  have k0 := hcz 0 _ rfl
  have k1 := hcz 1 _ rfl
  have k2 := hcz 2 _ rfl
  have k3 := hcz 3 _ rfl
  have k4 := hcz 4 _ rfl
  have k5 := hcz 5 _ rfl
  have k6 := hcz 6 _ rfl
  have k7 := hcz 7 _ rfl
  have k8 := hcz 8 _ rfl
  have k9 := hcz 9 _ rfl
  have k10 := hcz 10 _ rfl
  have y0 := hcy 0 _ rfl
  have y1 := hcy 1 _ rfl
  have y2 := hcy 2 _ rfl
  have y3 := hcy 3 _ rfl
  have y4 := hcy 4 _ rfl
  have y5 := hcy 5 _ rfl
  have y6 := hcy 6 _ rfl
  have y7 := hcy 7 _ rfl
  have y8 := hcy 8 _ rfl
  have y9 := hcy 9 _ rfl
  have y10 := hcy 10 _ rfl
  clear hcz hcy s1 s2 s3
  go_wp2_with fail
  have d0 := HdAt.cell Q1.out (j := 0) rfl
  have d1 := HdAt.cell Q1.out (j := 1) rfl
  have d2 := HdAt.cell Q1.out (j := 2) rfl
  have d3 := HdAt.cell Q1.out (j := 3) rfl
  have d4 := HdAt.cell Q1.out (j := 4) rfl
  have d5 := HdAt.cell Q1.out (j := 5) rfl
  have d6 := HdAt.cell Q1.out (j := 6) rfl
  have d7 := HdAt.cell Q1.out (j := 7) rfl
  have d8 := HdAt.cell Q1.out (j := 8) rfl
  have d9 := HdAt.cell Q1.out (j := 9) rfl
  have d10 := HdAt.cell Q1.out (j := 10) rfl
  exact bodyPost_ret (v := .tuple #[.agg #[.int .u8 0, .int .u16 0, .bool false, .bool false, .bool false, .int .i64 0, .int .u8 0, .int .u8 0, .int .u32 0, .int .u32 0, .slice none 0 0], .slice none 0 0, .int .i64 6]) (by simp [results, Try.results79, go_sem, d0, d1, d2, d3, d4, d5, d6, d7, d8, d9, d10]) rfl ⟨by rw [HF.out]; rfl, Q4.out⟩
end Go.Proofs.Ytdjhgahdiggahaa

namespace Go.Proofs.Ytdjhgahdiggahaa
open Go.RowKit
attribute [local go_sem ↓] Go.wp_at_zero Go.wp_at_succ

theorem parseR_no (v : Value) (l : List UInt8) (hl : l.length ≤ 1000000) (wm : World) (hv : Bytes wm v l) (hf : flt l ≠ 0) : Calls Try.prog 79 #[v] wm (NoR wm l) := by
  obtain ⟨a, c, rfl⟩ := hv.form
  rcases Nat.lt_or_ge l.length 20 with h20 | h20
  · exact parseR_f1 a c l hl wm hv h20
  · by_cases h4 : Sm.at0 l 0 / 16 = 4
    · by_cases h : 20 ≤ hsz l ∧ hsz l ≤ l.length
      · by_cases h7 : hsz l ≤ numAt l 2 2 ∧ numAt l 2 2 ≤ l.length
        · by_cases h8 : Sm.tot (l.take (hsz l)) = 65535
          · cases h9 : Om.ok ((l.take (hsz l)).drop 20) with
            | true => exact absurd (flt0 h20 h4 h h7 h8 h9) hf
            | false => exact parseR_f6 a c l hl wm hv h20 h4 h h7 h8 h9
          · exact parseR_f5 a c l hl wm hv h20 h4 h h7 h8
        · exact parseR_f4 a c l hl wm hv h20 h4 h (by omega)
      · exact parseR_f3 a c l hl wm hv h20 h4 (by omega)
    · exact parseR_f2 a c l hl wm hv h20 h4
end Go.Proofs.Ytdjhgahdiggahaa

namespace Go.Proofs.Ytdjhgahdiggahaa
open Go.RowKit
attribute [local go_sem ↓] Go.wp_at_zero Go.wp_at_succ

set_option maxRecDepth 100000 in
set_option maxHeartbeats 4000000 in
theorem parse_no (v : Value) (l : List UInt8) (hl : l.length ≤ 1000000) (wm : World) (hv : Bytes wm v l) (hf : flt l ≠ 0) :
    Calls Try.prog 75 #[v] wm fun e w' => e = .returned (.tuple #[.agg #[.int .u8 0, .int .u16 0, .bool false, .bool false, .bool false, .int .i64 0, .int .u8 0, .int .u8 0, .int .u32 0, .int .u32 0, .slice none 0 0], .slice none 0 0, .int .i64 (flt l : Nat)]) ∧ Below wm.heap.size wm w' := by
  have HV := Lib.hid hv
  obtain ⟨f, hfe⟩ : ∃ f, f = flt l := ⟨_, rfl⟩
  have hfl := fault_any v l hl
  rw [← hfe] at hf ⊢
  have HF := Lib.hid hfe
  have hA : Below wm.heap.size wm (wm.alloc (.cells #[.int .u8 0, .int .u16 0, .bool false, .bool false, .bool false, .int .i64 0, .int .u8 0, .int .u8 0, .int .u32 0, .int .u32 0, .slice none 0 0] 106)) := (Below.refl _ _).alloc (Nat.le_refl _) _
  have hfa := hfl _ (hv.later hA)
  rw [← hfe] at hfa
  have HFA := Lib.hid hfa
  have g1 : ((f : Int) != 0) = true := by rw [bne_iff_ne]; omega
  clear hfl hfe hv hf hfa
  go_enter Try.func75, Try.ntmps75
  go_wp2_with fail
  refine HFA.out.mono ?_
  rintro e w1 ⟨rfl, hb1⟩
  have hc : ∀ j x, [Value.int .u8 0, .int .u16 0, .bool false, .bool false, .bool false, .int .i64 0, .int .u8 0, .int .u8 0, .int .u32 0, .int .u32 0, .slice none 0 0][j]? = some x → w1.cell? ⟨wm.heap.size, j, none⟩ = some x := fun j x hx => cell_later hb1 (by simp; exact hx)
  have hfz : ∀ j, w1.frozen? ⟨wm.heap.size, j, none⟩ = false := fun j => by rw [hb1.frozen (p := ⟨wm.heap.size, j, none⟩) (by simp)]; simp
  have k0 := hc 0 _ rfl
  have k1 := hc 1 _ rfl
  have k2 := hc 2 _ rfl
  have k3 := hc 3 _ rfl
  have k4 := hc 4 _ rfl
  have k5 := hc 5 _ rfl
  have k6 := hc 6 _ rfl
  have k7 := hc 7 _ rfl
  have k8 := hc 8 _ rfl
  have k9 := hc 9 _ rfl
  have k10 := hc 10 _ rfl
  have hr1 : HdAt wm.heap.size hz w1 := HdAt.later (HdAt.new wm hz) hb1
  obtain ⟨s1, s2, s3, _⟩ := HdAt.set11 (show HdAt wm.heap.size hz w1 from hr1) (.int .u8 0) (.int .u16 0) (.bool false) (.bool false) (.bool false) (.int .i64 0) (.int .u8 0) (.int .u8 0) (.int .u32 0) (.int .u32 0) (.slice none 0 0)
  have Q1 := Lib.hid s1
  have Q4 := Lib.hid ((hA.trans (hb1.mono hA.size)).trans (s3 _ (Nat.le_refl _)))
  clear hc s1 s2 s3 hr1 hA hb1
  go_wp2_with fail
  have d0 := HdAt.cell Q1.out (j := 0) rfl
  have d1 := HdAt.cell Q1.out (j := 1) rfl
  have d2 := HdAt.cell Q1.out (j := 2) rfl
  have d3 := HdAt.cell Q1.out (j := 3) rfl
  have d4 := HdAt.cell Q1.out (j := 4) rfl
  have d5 := HdAt.cell Q1.out (j := 5) rfl
  have d6 := HdAt.cell Q1.out (j := 6) rfl
  have d7 := HdAt.cell Q1.out (j := 7) rfl
  have d8 := HdAt.cell Q1.out (j := 8) rfl
  have d9 := HdAt.cell Q1.out (j := 9) rfl
  have d10 := HdAt.cell Q1.out (j := 10) rfl
  exact bodyPost_ret (v := .tuple #[.agg #[.int .u8 0, .int .u16 0, .bool false, .bool false, .bool false, .int .i64 0, .int .u8 0, .int .u8 0, .int .u32 0, .int .u32 0, .slice none 0 0], .slice none 0 0, .int .i64 (f : Nat)]) (by simp [results, Try.results75, go_sem, d0, d1, d2, d3, d4, d5, d6, d7, d8, d9, d10]) rfl ⟨rfl, Q4.out⟩
end Go.Proofs.Ytdjhgahdiggahaa

namespace Go.Proofs.Ytdjhgahdiggahaa
open Go.RowKit
attribute [local go_sem ↓] Go.wp_at_zero Go.wp_at_succ

/-- A header's fields, but its options. -/
structure Hd where
  (tos id : Nat) (ev df mf : Bool) (off : Int) (ttl pr src dst : Nat)
structure Hd.Ok (h : Hd) : Prop where
  (tos : h.tos < 256) (id : h.id < 65536) (ttl : h.ttl < 256) (pr : h.pr < 256) (src : h.src < 4294967296) (dst : h.dst < 4294967296)
/-- May such a header be? -/
def mayO (off : Int) (O : List UInt8) : Bool := decide (0 ≤ off) && (decide (off ≤ 8191) && (decide (O.length ≤ 40) && (decide (O.length % 4 = 0) && Om.ok O)))
def sizeN (off : Int) (O : List UInt8) : Nat := if mayO off O then 20 + O.length else 0
/-- The word of flags and offset. -/
def flagsN (h : Hd) : Nat := h.ev.toNat * 32768 + h.df.toNat * 16384 + h.mf.toNat * 8192 + h.off.toNat

theorem mayO_of {off : Int} {O : List UInt8} (h1 : 0 ≤ off) (h2 : off ≤ 8191) (h3 : O.length ≤ 40) (h4 : O.length % 4 = 0) : mayO off O = Om.ok O := by
  unfold mayO; simp [h1, h2, h3, h4]
theorem may_no {off : Int} {O : List UInt8} (h : ¬ (0 ≤ off ∧ off ≤ 8191 ∧ O.length ≤ 40 ∧ O.length % 4 = 0)) : mayO off O = false := by
  cases hm : mayO off O with
  | false => rfl
  | true =>
    unfold mayO at hm
    simp only [Bool.and_eq_true, decide_eq_true_eq] at hm
    exact absurd ⟨hm.1, hm.2.1, hm.2.2.1, hm.2.2.2.1⟩ h

theorem mayO_len {off : Int} {O : List UInt8} (h : mayO off O = true) : O.length ≤ 40 ∧ O.length % 4 = 0 ∧ 0 ≤ off ∧ off ≤ 8191 ∧ Om.ok O = true := by
  unfold mayO at h
  simp only [Bool.and_eq_true, decide_eq_true_eq] at h
  exact ⟨h.2.2.1, h.2.2.2.1, h.1, h.2.1, h.2.2.2.2⟩
end Go.Proofs.Ytdjhgahdiggahaa

namespace Go.Proofs.Ytdjhgahdiggahaa
open Go.RowKit

/-- The header, the options and the payload that bytes tell: noughts, if they are wrong. -/
def hdP (l : List UInt8) : Hd := if flt l = 0 then ⟨Sm.at0 l 1, numAt l 4 2, evB (numAt l 6 2), dfB (numAt l 6 2), mfB (numAt l 6 2), ((numAt l 6 2 % 8192 : Nat) : Int), Sm.at0 l 8, Sm.at0 l 9, numAt l 12 4, numAt l 16 4⟩ else ⟨0, 0, false, false, false, 0, 0, 0, 0, 0⟩
def opP (l : List UInt8) : List UInt8 := if flt l = 0 then (l.take (hsz l)).drop 20 else []
def plP (l : List UInt8) : List UInt8 := if flt l = 0 then (l.take (numAt l 2 2)).drop (hsz l) else []
def PrsW (wm : World) (l : List UInt8) (e : Ending) (w' : World) : Prop :=
  ∃ (u v : Value) (B : Nat), e = .returned (.tuple #[.agg #[.int .u8 ((hdP l).tos : Nat), .int .u16 ((hdP l).id : Nat), .bool (hdP l).ev, .bool (hdP l).df, .bool (hdP l).mf, .int .i64 (hdP l).off, .int .u8 ((hdP l).ttl : Nat), .int .u8 ((hdP l).pr : Nat), .int .u32 ((hdP l).src : Nat), .int .u32 ((hdP l).dst : Nat), u], v, .int .i64 (flt l : Nat)]) ∧
    OwnB w' wm.heap.size u (opP l) ∧ OwnB w' B v (plP l) ∧ wm.heap.size ≤ B ∧ (∀ g, u.ownBlock = some g → g < B) ∧ Below wm.heap.size wm w'
def PrsR (wm : World) (l : List UInt8) (e : Ending) (w' : World) : Prop :=
  ∃ (u v : Value), e = .returned (.tuple #[.agg #[.int .u8 ((hdP l).tos : Nat), .int .u16 ((hdP l).id : Nat), .bool (hdP l).ev, .bool (hdP l).df, .bool (hdP l).mf, .int .i64 (hdP l).off, .int .u8 ((hdP l).ttl : Nat), .int .u8 ((hdP l).pr : Nat), .int .u32 ((hdP l).src : Nat), .int .u32 ((hdP l).dst : Nat), u], v, .int .i64 (flt l : Nat)]) ∧
    Bytes w' u (opP l) ∧ Bytes w' v (plP l) ∧ Below wm.heap.size wm w'

theorem hdP_yes {l : List UInt8} (h : flt l = 0) : hdP l = ⟨Sm.at0 l 1, numAt l 4 2, evB (numAt l 6 2), dfB (numAt l 6 2), mfB (numAt l 6 2), ((numAt l 6 2 % 8192 : Nat) : Int), Sm.at0 l 8, Sm.at0 l 9, numAt l 12 4, numAt l 16 4⟩ := if_pos h
theorem hdP_no {l : List UInt8} (h : flt l ≠ 0) : hdP l = ⟨0, 0, false, false, false, 0, 0, 0, 0, 0⟩ := if_neg h
theorem opP_yes {l : List UInt8} (h : flt l = 0) : opP l = (l.take (hsz l)).drop 20 := if_pos h
theorem opP_no {l : List UInt8} (h : flt l ≠ 0) : opP l = [] := if_neg h
theorem plP_yes {l : List UInt8} (h : flt l = 0) : plP l = (l.take (numAt l 2 2)).drop (hsz l) := if_pos h
theorem plP_no {l : List UInt8} (h : flt l ≠ 0) : plP l = [] := if_neg h

theorem prsW_any (v : Value) (l : List UInt8) (hl : l.length ≤ 1000000) (wm : World) (hv : Bytes wm v l) : Calls Try.prog 75 #[v] wm (PrsW wm l) := by
  by_cases hf : flt l = 0
  · obtain ⟨a, c, rfl⟩ := hv.form
    refine (parse_yes a c l hl wm hv hf).mono ?_
    rintro e w' ⟨u, v, B, rfl, h1, h2, h3, h4, h5⟩
    refine ⟨u, v, B, ?_, ?_, ?_, h3, h4, h5⟩
    · rw [hdP_yes hf, hf]; rfl
    · rw [opP_yes hf]; exact h1
    · rw [plP_yes hf]; exact h2
  · refine (parse_no v l hl wm hv hf).mono ?_
    rintro e w' ⟨rfl, h5⟩
    refine ⟨.slice none 0 0, .slice none 0 0, wm.heap.size, ?_, ?_, ?_, Nat.le_refl _, fun g hg => by simp [Value.ownBlock] at hg, h5⟩
    · rw [hdP_no hf]; rfl
    · rw [opP_no hf]; exact OwnB.nil _ _
    · rw [plP_no hf]; exact OwnB.nil _ _
theorem prsR_any (v : Value) (l : List UInt8) (hl : l.length ≤ 1000000) (wm : World) (hv : Bytes wm v l) : Calls Try.prog 79 #[v] wm (PrsR wm l) := by
  by_cases hf : flt l = 0
  · obtain ⟨h20, _⟩ := flt_zero hf
    obtain ⟨b, o, c, rfl⟩ : ∃ b o c, v = .slice (some ⟨b, o, none⟩) l.length c := by
      rcases hv with ⟨rfl, _⟩ | ⟨b, o, c, rfl, _⟩
      · simp at h20
      · exact ⟨b, o, c, rfl⟩
    refine (parseR_yes b o c l hl wm hv hf).mono ?_
    rintro e w' ⟨u, v, rfl, h1, h2, h5⟩
    refine ⟨u, v, ?_, ?_, ?_, h5⟩
    · rw [hdP_yes hf, hf]; rfl
    · rw [opP_yes hf]; exact h1
    · rw [plP_yes hf]; exact h2
  · refine (parseR_no v l hl wm hv hf).mono ?_
    rintro e w' ⟨rfl, h5⟩
    refine ⟨.slice none 0 0, .slice none 0 0, ?_, ?_, ?_, h5⟩
    · rw [hdP_no hf]; rfl
    · rw [opP_no hf]; exact Bytes.nil _ _ _
    · rw [plP_no hf]; exact Bytes.nil _ _ _
theorem prs_lens {l : List UInt8} (h : flt l = 0) : (opP l).length = hsz l - 20 ∧ (plP l).length = numAt l 2 2 - hsz l ∧ 20 ≤ hsz l ∧ hsz l ≤ 60 ∧ hsz l ≤ numAt l 2 2 ∧ numAt l 2 2 ≤ l.length ∧ 20 + (opP l).length + (plP l).length ≤ l.length ∧ (plP l).length ≤ 65535 := by
  obtain ⟨h1, h2, h3, h4, h5⟩ := flt_zero h
  have h6 := hsz_le l
  have h7 : numAt l 2 2 < 256 ^ 2 := numAt_lt (by omega)
  have e1 : (opP l).length = hsz l - 20 := by rw [opP_yes h]; simp; omega
  have e2 : (plP l).length = numAt l 2 2 - hsz l := by rw [plP_yes h]; simp; omega
  refine ⟨e1, e2, h2, h6, h4, h5, by omega, by omega⟩
theorem prs_may {l : List UInt8} (h : flt l = 0) : mayO (hdP l).off (opP l) = true := by
  obtain ⟨e1, e2, h2, h6, h4, h5, h7, _⟩ := prs_lens h
  have ho : (hdP l).off = ((numAt l 6 2 % 8192 : Nat) : Int) := by rw [hdP_yes h]
  have hm : hsz l % 4 = 0 := by unfold hsz; omega
  rw [mayO_of (by rw [ho]; omega) (by rw [ho]; omega) (by omega) (by omega), opP_yes h]
  exact (flt_zero2 h).2.2
theorem hdP_ok (l : List UInt8) : (hdP l).Ok := by
  by_cases h : flt l = 0
  · obtain ⟨h1, h2, h3, h4, h5⟩ := flt_zero h
    have n4 : numAt l 4 2 < 256 ^ 2 := numAt_lt (by omega)
    have n12 : numAt l 12 4 < 256 ^ 4 := numAt_lt (by omega)
    have n16 : numAt l 16 4 < 256 ^ 4 := numAt_lt (by omega)
    rw [hdP_yes h]
    exact ⟨Sm.at0_lt _ _, by simpa using n4, Sm.at0_lt _ _, Sm.at0_lt _ _, by simpa using n12, by simpa using n16⟩
  · rw [hdP_no h]; exact ⟨by decide, by decide, by decide, by decide, by decide, by decide⟩
end Go.Proofs.Ytdjhgahdiggahaa

namespace Go.Proofs.Ytdjhgahdiggahaa
open Go.RowKit
attribute [local go_sem ↓] Go.wp_at_zero Go.wp_at_succ

theorem may_not_ok {off : Int} {O : List UInt8} (h : Om.ok O = false) : mayO off O = false := by
  unfold mayO; rw [h]; simp
set_option maxHeartbeats 4000000 in
set_option maxRecDepth 100000 in
theorem mayHdR_any (h : Hd) (a : Option Addr) (c : Nat) (O : List UInt8) (w : World) (hv : Bytes w (.slice a O.length c) O) (hO : O.length ≤ 1000) :
    Calls Try.prog 44 #[.agg #[.int .u8 (h.tos : Nat), .int .u16 (h.id : Nat), .bool h.ev, .bool h.df, .bool h.mf, .int .i64 h.off, .int .u8 (h.ttl : Nat), .int .u8 (h.pr : Nat), .int .u32 (h.src : Nat), .int .u32 (h.dst : Nat), .slice a O.length c]] w fun e w' => e = .returned (.bool (mayO h.off O)) ∧ Below w.heap.size w w' := by
  have hA : Below w.heap.size w (w.alloc (.cells #[.int .u8 (h.tos : Nat), .int .u16 (h.id : Nat), .bool h.ev, .bool h.df, .bool h.mf, .int .i64 h.off, .int .u8 (h.ttl : Nat), .int .u8 (h.pr : Nat), .int .u32 (h.src : Nat), .int .u32 (h.dst : Nat), .slice a O.length c] 106)) := (Below.refl _ _).alloc (Nat.le_refl _) _
  have hc10 : (w.alloc (.cells #[.int .u8 (h.tos : Nat), .int .u16 (h.id : Nat), .bool h.ev, .bool h.df, .bool h.mf, .int .i64 h.off, .int .u8 (h.ttl : Nat), .int .u8 (h.pr : Nat), .int .u32 (h.src : Nat), .int .u32 (h.dst : Nat), .slice a O.length c] 106)).cell? ⟨w.heap.size, 10, none⟩ = some (.slice a O.length c) := by simp
  have hc5 : (w.alloc (.cells #[.int .u8 (h.tos : Nat), .int .u16 (h.id : Nat), .bool h.ev, .bool h.df, .bool h.mf, .int .i64 h.off, .int .u8 (h.ttl : Nat), .int .u8 (h.pr : Nat), .int .u32 (h.src : Nat), .int .u32 (h.dst : Nat), .slice a O.length c] 106)).cell? ⟨w.heap.size, 5, none⟩ = some (.int .i64 h.off) := by simp
  have hpt := partsR_any _ O hO _ (hv.later hA)
  have hg2 : (O.length : Int) ≤ 1000 := by omega
  obtain ⟨ok, hok⟩ : ∃ b, b = Om.ok O := ⟨_, rfl⟩
  rw [← hok] at hpt
  cases ok with
  | false =>
    have hk := may_not_ok (off := h.off) hok.symm
    have HOK : Hid (false = false) := rfl
    clear hok
    have HK := Lib.hid hk
    have HPT := Lib.hid hpt
    have HA := Lib.hid hA
    have HC10 := Lib.hid hc10
    have HC5 := Lib.hid hc5
    clear hv hA hk hpt hc10 hc5 hO
    go_enter Try.func44, Try.ntmps44
    go_wp2_with fail
    refine HPT.out.mono ?_
    rintro e w1 ⟨a1, c1, A, rfl, _, _, _, _, hb1⟩
    have HB := Lib.hid (HA.out.trans (hb1.mono HA.out.size))
    clear hb1
    go_wp2_with fail
    go_ret
    exact ⟨ret_b (by first | exact HK.out.symm | (rw [HK.out]; simp; omega)), HB.out⟩
  | true =>
    by_cases h1 : O.length ≤ 40
    · have g1 : (O.length : Int) ≤ 40 := by omega
      by_cases h2 : O.length % 4 = 0
      · have g4 : ((O.length : Int) % 4 == 0) = true := by rw [beq_iff_eq]; omega
        by_cases h3 : 0 ≤ h.off
        · by_cases h4 : h.off < 8192
          · have hk := (mayO_of (O := O) h3 (by omega) h1 h2).trans hok.symm
            clear hok h2
            have HK := Lib.hid hk
            have HPT := Lib.hid hpt
            have HA := Lib.hid hA
            have HC10 := Lib.hid hc10
            have HC5 := Lib.hid hc5
            clear hv hA hk hpt hc10 hc5 hO
            go_enter Try.func44, Try.ntmps44
            go_wp2_with fail
            refine HPT.out.mono ?_
            rintro e w1 ⟨a1, c1, A, rfl, _, _, _, _, hb1⟩
            have k10 := cell_later hb1 HC10.out
            have k5 := cell_later hb1 HC5.out
            have HB := Lib.hid (HA.out.trans (hb1.mono HA.out.size))
            clear hb1
            go_wp2_with fail
            go_ret
            exact ⟨ret_b (by first | exact HK.out.symm | (rw [HK.out]; simp; omega)), HB.out⟩
          · have hk := may_no (off := h.off) (O := O) (by omega)
            have g6 : 8192 ≤ h.off := by omega
            clear hok h2
            have HK := Lib.hid hk
            have HPT := Lib.hid hpt
            have HA := Lib.hid hA
            have HC10 := Lib.hid hc10
            have HC5 := Lib.hid hc5
            clear hv hA hk hpt hc10 hc5 hO
            go_enter Try.func44, Try.ntmps44
            go_wp2_with fail
            refine HPT.out.mono ?_
            rintro e w1 ⟨a1, c1, A, rfl, _, _, _, _, hb1⟩
            have k10 := cell_later hb1 HC10.out
            have k5 := cell_later hb1 HC5.out
            have HB := Lib.hid (HA.out.trans (hb1.mono HA.out.size))
            clear hb1
            go_wp2_with fail
            go_ret
            exact ⟨ret_b (by first | exact HK.out.symm | (rw [HK.out]; simp; omega)), HB.out⟩
        · have hk := may_no (off := h.off) (O := O) (by omega)
          have g5 : h.off < 0 := by omega
          clear hok h2
          have HK := Lib.hid hk
          have HPT := Lib.hid hpt
          have HA := Lib.hid hA
          have HC10 := Lib.hid hc10
          have HC5 := Lib.hid hc5
          clear hv hA hk hpt hc10 hc5 hO
          go_enter Try.func44, Try.ntmps44
          go_wp2_with fail
          refine HPT.out.mono ?_
          rintro e w1 ⟨a1, c1, A, rfl, _, _, _, _, hb1⟩
          have k10 := cell_later hb1 HC10.out
          have k5 := cell_later hb1 HC5.out
          have HB := Lib.hid (HA.out.trans (hb1.mono HA.out.size))
          clear hb1
          go_wp2_with fail
          go_ret
          exact ⟨ret_b (by first | exact HK.out.symm | (rw [HK.out]; simp; omega)), HB.out⟩
      · have hk := may_no (off := h.off) (O := O) (by omega)
        have g4 : ((O.length : Int) % 4 == 0) = false := by rw [beq_eq_false_iff_ne]; omega
        clear hok h2
        have HK := Lib.hid hk
        have HPT := Lib.hid hpt
        have HA := Lib.hid hA
        have HC10 := Lib.hid hc10
        have HC5 := Lib.hid hc5
        clear hv hA hk hpt hc10 hc5 hO
        go_enter Try.func44, Try.ntmps44
        go_wp2_with fail
        refine HPT.out.mono ?_
        rintro e w1 ⟨a1, c1, A, rfl, _, _, _, _, hb1⟩
        have k10 := cell_later hb1 HC10.out
        have k5 := cell_later hb1 HC5.out
        have HB := Lib.hid (HA.out.trans (hb1.mono HA.out.size))
        clear hb1
        go_wp2_with fail
        go_ret
        exact ⟨ret_b (by first | exact HK.out.symm | (rw [HK.out]; simp; omega)), HB.out⟩
    · have hk := may_no (off := h.off) (O := O) (by omega)
      have g1 : (40 : Int) < O.length := by omega
      clear hok
      have HK := Lib.hid hk
      have HPT := Lib.hid hpt
      have HA := Lib.hid hA
      have HC10 := Lib.hid hc10
      have HC5 := Lib.hid hc5
      clear hv hA hk hpt hc10 hc5 hO
      go_enter Try.func44, Try.ntmps44
      go_wp2_with fail
      refine HPT.out.mono ?_
      rintro e w1 ⟨a1, c1, A, rfl, _, _, _, _, hb1⟩
      have k10 := cell_later hb1 HC10.out
      have k5 := cell_later hb1 HC5.out
      have HB := Lib.hid (HA.out.trans (hb1.mono HA.out.size))
      clear hb1
      go_wp2_with fail
      go_ret
      exact ⟨ret_b (by first | exact HK.out.symm | (rw [HK.out]; simp; omega)), HB.out⟩

/-- May a packet be of that header and payload? -/
def fitB (off : Int) (O : List UInt8) (n : Nat) : Bool := mayO off O && decide (n ≤ 65535 - 20 - O.length)
/-- Is it a piece; is it a multicast address? -/
def fragB (h : Hd) : Bool := h.mf || decide (0 < h.off)
def multB (n : Nat) : Bool := decide (3758096384 ≤ n)
set_option maxHeartbeats 2000000 in
set_option maxRecDepth 100000 in
theorem fragW_any (h : Hd) (u : Value) (w : World) (hu : ∃ a n c, u = .slice a n c) : Calls Try.prog 112 #[.agg #[.int .u8 (h.tos : Nat), .int .u16 (h.id : Nat), .bool h.ev, .bool h.df, .bool h.mf, .int .i64 h.off, .int .u8 (h.ttl : Nat), .int .u8 (h.pr : Nat), .int .u32 (h.src : Nat), .int .u32 (h.dst : Nat), u]] w fun e w' => e = .returned (.bool (fragB h)) ∧ Below w.heap.size w w' := by
  obtain ⟨a, n, c, rfl⟩ := hu
  have hk : fragB h = (h.mf || decide (0 < h.off)) := rfl
  have HK := Lib.hid hk
  clear hk
  go_enter Try.func112, Try.ntmps112
  obtain ⟨m, hm⟩ : ∃ m, m = h.mf := ⟨_, rfl⟩
  rw [← hm] at HK ⊢
  clear hm
  cases m with
  | true =>
    go_wp2_with fail
    go_ret
    exact ⟨ret_b HK.out.symm, by go_grown⟩
  | false =>
    go_wp2_with fail
    go_ret
    exact ⟨ret_b (by rw [HK.out]; simp), by go_grown⟩
set_option maxHeartbeats 2000000 in
set_option maxRecDepth 100000 in
theorem fragR_any (h : Hd) (u : Value) (w : World) (hu : ∃ a n c, u = .slice a n c) : Calls Try.prog 81 #[.agg #[.int .u8 (h.tos : Nat), .int .u16 (h.id : Nat), .bool h.ev, .bool h.df, .bool h.mf, .int .i64 h.off, .int .u8 (h.ttl : Nat), .int .u8 (h.pr : Nat), .int .u32 (h.src : Nat), .int .u32 (h.dst : Nat), u]] w fun e w' => e = .returned (.bool (fragB h)) ∧ Below w.heap.size w w' := by
  obtain ⟨a, n, c, rfl⟩ := hu
  have hk : fragB h = (h.mf || decide (0 < h.off)) := rfl
  have HK := Lib.hid hk
  clear hk
  go_enter Try.func81, Try.ntmps81
  obtain ⟨m, hm⟩ : ∃ m, m = h.mf := ⟨_, rfl⟩
  rw [← hm] at HK ⊢
  clear hm
  cases m with
  | true =>
    go_wp2_with fail
    go_ret
    exact ⟨ret_b HK.out.symm, by go_grown⟩
  | false =>
    go_wp2_with fail
    go_ret
    exact ⟨ret_b (by rw [HK.out]; simp), by go_grown⟩
end Go.Proofs.Ytdjhgahdiggahaa

namespace Go.Proofs.Ytdjhgahdiggahaa
open Go.RowKit

/-- A block whose cells are these. -/
def BlkAt (t : TypeId) (g : Nat) (cs : List Value) (w : World) : Prop := w.heap[g]? = some (.cells cs.toArray t (0, 0))
section
variable {t : TypeId}
theorem BlkAt.lt {g : Nat} {cs : List Value} {w : World} (h : BlkAt t g cs w) : g < w.heap.size := (Array.getElem?_eq_some_iff.1 h).1
theorem BlkAt.later {g : Nat} {cs : List Value} {w w' : World} (h : BlkAt t g cs w) (hb : Below w.heap.size w w') : BlkAt t g cs w' := (hb.block g h.lt).trans h
theorem BlkAt.new (w : World) (cs : List Value) : BlkAt t w.heap.size cs (w.alloc (.cells cs.toArray t)) := World.alloc_heap_new w _
theorem BlkAt.cell {g : Nat} {cs : List Value} {w : World} (h : BlkAt t g cs w) {j : Nat} {x : Value} (hx : cs[j]? = some x) : w.cell? ⟨g, j, none⟩ = some x := by
  rw [cell_of_row w g j cs.toArray _ (0, 0) h]; simpa using hx
theorem BlkAt.frozen {g : Nat} {cs : List Value} {w : World} (h : BlkAt t g cs w) (j : Nat) : w.frozen? ⟨g, j, none⟩ = false := by
  unfold World.frozen?; simp [show w.heap[g]? = _ from h]
theorem BlkAt.set {g : Nat} {cs : List Value} {w : World} (h : BlkAt t g cs w) (j : Nat) (x : Value) : BlkAt t g (cs.set j x) (w.setCell ⟨g, j, none⟩ x) := by
  have hl := h.lt
  have hk : w.heap[g] = .cells cs.toArray t (0, 0) := (Array.getElem?_eq_some_iff.1 h).2
  show (w.heap.modify g _)[g]? = _
  rw [Array.getElem?_eq_getElem (by rw [Array.size_modify]; exact hl), Array.getElem_modify_self, hk]
  simp
theorem BlkAt.other {g b : Nat} {cs : List Value} {w : World} (h : BlkAt t g cs w) (hne : g ≠ b) (j : Nat) (x : Value) : BlkAt t g cs (w.setCell ⟨b, j, none⟩ x) := by
  show (w.setCell ⟨b, j, none⟩ x).heap[g]? = _
  rw [Below.heap_setCell _ _ _ _ (by simpa using hne)]; exact h
theorem BlkAt.range {g : Nat} {cs : List Value} {w : World} (h : BlkAt t g cs w) : w.rangeAt g 0 cs := fun j v hv => by rw [Nat.zero_add]; exact h.cell hv
end
end Go.Proofs.Ytdjhgahdiggahaa

namespace Go.Proofs.Ytdjhgahdiggahaa
open Go.RowKit
attribute [local go_sem ↓] Go.wp_at_zero Go.wp_at_succ
open Sp

/-- What tells flows between two ends apart. -/
def pthI (h : Hd) (P : List UInt8) : List UInt8 := if (h.pr = 6 ∨ h.pr = 17) ∧ fragB h = false ∧ 4 ≤ P.length then P.take 4 else []
def hashH (h : Hd) (P : List UInt8) : Nat := fnvs [putL h.src 4, putL h.dst 4, [UInt8.ofNat h.pr], pthI h P]
set_option maxRecDepth 100000 in
theorem portsL (h : Hd) (ua : Option Addr) (un uc : Nat) (v : Value) (P : List UInt8) (w : World) (hv : Bytes w v P) (hl : P.length ≤ 1000000) :
    Calls Try.prog 78 #[.agg #[.int .u8 (h.tos : Nat), .int .u16 (h.id : Nat), .bool h.ev, .bool h.df, .bool h.mf, .int .i64 h.off, .int .u8 (h.ttl : Nat), .int .u8 (h.pr : Nat), .int .u32 (h.src : Nat), .int .u32 (h.dst : Nat), .slice ua un uc], v] w fun e w' => ∃ v', e = .returned v' ∧ Bytes w' v' (pthI h P) ∧ Below w.heap.size w w' := by
  obtain ⟨w1, hw1⟩ : ∃ w1, w1 = w.alloc (.cells #[.int .u8 (h.tos : Nat), .int .u16 (h.id : Nat), .bool h.ev, .bool h.df, .bool h.mf, .int .i64 h.off, .int .u8 (h.ttl : Nat), .int .u8 (h.pr : Nat), .int .u32 (h.src : Nat), .int .u32 (h.dst : Nat), .slice ua un uc] 106) := ⟨_, rfl⟩
  have hb1 : Below w.heap.size w w1 := by rw [hw1]; exact ba1 _ _
  have HB1 := Lib.hid hb1
  have HW1 := Lib.hid hw1
  have HFG := Lib.hid (fun W => fragW_any h (.slice ua un uc) W ⟨_, _, _, rfl⟩)
  obtain ⟨fg, hfg⟩ : ∃ f, f = fragB h := ⟨_, rfl⟩
  rw [← hfg] at HFG
  have HVV := Lib.hid (hv.later hb1)
  obtain ⟨a, c, rfl⟩ := hv.form
  obtain ⟨n, hn⟩ : ∃ n, n = P.length := ⟨_, rfl⟩
  rw [← hn] at HVV ⊢ hl
  have g0 : (n : Int) ≤ 1000000 := by omega
  have HNN : Hid (n = P.length ∧ fg = fragB h) := ⟨hn, hfg⟩
  have FIN : Hid (∀ W, Below w.heap.size w W → ¬ ((h.pr = 6 ∨ h.pr = 17) ∧ fragB h = false ∧ 4 ≤ P.length) → Bytes W (.slice none 0 0) (pthI h P) ∧ Below w.heap.size w W) := by
    have : ∀ W, Below w.heap.size w W → ¬ ((h.pr = 6 ∨ h.pr = 17) ∧ fragB h = false ∧ 4 ≤ P.length) → Bytes W (.slice none 0 0) (pthI h P) ∧ Below w.heap.size w W := fun W hW hk => by
      unfold pthI
      rw [if_neg hk]
      exact ⟨Bytes.nil W none 0, hW⟩
    exact this
  clear hw1 hb1 hv hn hl hfg
  by_cases hk : h.pr = 6 ∨ h.pr = 17
  · have HKK : Hid (h.pr = 6 ∨ h.pr = 17) := hk
    have k12 : (((h.pr : Nat) : Int) == 6) = true ∨ ((((h.pr : Nat) : Int) == 6) = false ∧ (((h.pr : Nat) : Int) == 17) = true) := by
      by_cases h6 : h.pr = 6
      · exact .inl (by rw [h6]; decide)
      · exact .inr ⟨beq_eq_false_iff_ne.2 (by omega), beq_iff_eq.2 (by omega)⟩
    clear hk
    cases fg with
    | true =>
      rcases k12 with k1 | ⟨k1, k2⟩
      all_goals
        go_enter Try.func78, Try.ntmps78
        go_wp2_with fail
        rw [← HW1.out]
        refine (HFG.out _).mono ?_
        rintro e w2 ⟨rfl, hb2⟩
        have HB2 := Lib.hid (below_of HB1.out hb2)
        clear hb2
        go_wp2_with fail
        go_ret
        exact ⟨_, rfl, FIN.out _ HB2.out (fun hh => by have := HNN.out.2; rw [hh.2.1] at this; cases this)⟩
    | false =>
      by_cases h4 : n < 4
      · have g4 : (n : Int) < 4 := by omega
        rcases k12 with k1 | ⟨k1, k2⟩
        all_goals
          go_enter Try.func78, Try.ntmps78
          go_wp2_with fail
          rw [← HW1.out]
          refine (HFG.out _).mono ?_
          rintro e w2 ⟨rfl, hb2⟩
          have HB2 := Lib.hid (below_of HB1.out hb2)
          clear hb2
          go_wp2_with fail
          go_ret
          exact ⟨_, rfl, FIN.out _ HB2.out (fun hh => by have := HNN.out.1; omega)⟩
      · have g4 : ¬ (n : Int) < 4 := by omega
        rcases k12 with k1 | ⟨k1, k2⟩
        all_goals
          go_enter Try.func78, Try.ntmps78
          go_wp2_with fail
          rw [← HW1.out]
          refine (HFG.out _).mono ?_
          rintro e w2 ⟨rfl, hb2⟩
          have HB2 := Lib.hid (below_of HB1.out hb2)
          have HV2 := Lib.hid (HVV.out.later hb2)
          have hcp := Bytes.cap HV2.out
          have g5 : 4 ≤ (c : Int) := by have := HNN.out.1; omega
          have g6 : 4 ≤ (n : Int) := by omega
          clear hb2 hcp g4
          go_wp2_with fail
          go_ret
          refine ⟨_, rfl, ?_, HB2.out⟩
          unfold pthI
          rw [if_pos ⟨HKK.out, HNN.out.2.symm, by have := HNN.out.1; omega⟩]
          exact bytes_take HV2.out (by have := HNN.out.1; omega)
  · have k1 : (((h.pr : Nat) : Int) == 6) = false := beq_eq_false_iff_ne.2 (by omega)
    have k2 : (((h.pr : Nat) : Int) == 17) = false := beq_eq_false_iff_ne.2 (by omega)
    go_enter Try.func78, Try.ntmps78
    go_wp2_with fail
    rw [← HW1.out]
    go_ret
    exact ⟨_, rfl, FIN.out _ HB1.out (fun hh => hk hh.1)⟩
end Go.Proofs.Ytdjhgahdiggahaa
