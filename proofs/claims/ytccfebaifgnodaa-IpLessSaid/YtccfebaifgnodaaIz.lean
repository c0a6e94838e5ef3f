/- The walk of ip.Less. -/
import Derived.Test.YtccfebaifgnodaaIh
import Derived.Test.YtccfebaifgnodaaIb
import Derived.Test.YtccfebaifgnodaaIw
import Derived.Test.YtccfebaifgnodaaSt
namespace Go.Proofs.Ytccfebaifgnodaa
open Go.RowKit
attribute [local go_sem ↓] Go.wp_at_zero Go.wp_at_succ

/-- Bytes with the ninth one less. -/
def decL (l : List UInt8) : List UInt8 := l.set 8 (UInt8.ofNat (Sm.at0 l 8 - 1))
/-- The checksum that is changed by that. -/
def lessC (l : List UInt8) : Nat := Sm.changed (numAt l 10 2) (numAt l 8 2) (numAt (decL l) 8 2)
def lessL (l : List UInt8) : List UInt8 := spl (decL l) 10 (putL (lessC l) 2)
theorem flt_20 {l : List UInt8} (h : flt l = 0) : 20 ≤ l.length := by
  rcases Nat.lt_or_ge l.length 20 with h1 | h1
  · rw [flt1 h1] at h; cases h
  · exact h1

/-- An answer of bytes that are owned, and an error's number. -/
def AnsO (w : World) (l : List UInt8) (n : Int) (e : Ending) (w' : World) : Prop := ∃ v, e = .returned (.tuple #[v, .int .i64 n]) ∧ OwnB w' w.heap.size v l ∧ Below w.heap.size w w'

theorem less_bad (a : Option Addr) (c : Nat) (l : List UInt8) (hl : l.length ≤ 1000000) (w : World) (hv : Bytes w (.slice a l.length c) l) (hf : flt l ≠ 0) :
    Calls Try.prog 32 #[.slice a l.length c] w (AnsO w [] 4) := by
  obtain ⟨f, hfe⟩ : ∃ f, f = flt l := ⟨_, rfl⟩
  have hfa := fault_any _ l hl w hv
  rw [← hfe] at hf hfa
  have g1 : ((f : Int) != 0) = true := by rw [bne_iff_ne]; omega
  have HFA := Lib.hid hfa
  clear hf hfe hfa hv
  go_enter Try.func32, Try.ntmps32
  go_wp2_with fail
  refine HFA.out.mono ?_
  rintro e w1 ⟨rfl, hb1⟩
  go_wp2_with fail
  go_ret2
  exact ⟨_, rfl, OwnB.nil _ _, hb1⟩
theorem less_zero (a : Option Addr) (c : Nat) (l : List UInt8) (hl : l.length ≤ 1000000) (w : World) (hv : Bytes w (.slice a l.length c) l) (hf : flt l = 0) (ht : Sm.at0 l 8 = 0) :
    Calls Try.prog 32 #[.slice a l.length c] w (AnsO w [] 7) := by
  have h20 := flt_20 hf
  have hfa := fault_any _ l hl w hv
  rw [hf] at hfa
  have HFA := Lib.hid hfa
  obtain ⟨b, o, rfl, hb, hcell⟩ := hv.at1 (i := 8) (by omega)
  rw [ht] at hcell
  have HC := Lib.hid hcell
  have g1 : (8 : Int) < l.length := by omega
  have g2 : 8 < l.length := by omega
  clear hf hfa hv ht hcell h20
  go_enter Try.func32, Try.ntmps32
  go_wp2_with fail
  refine HFA.out.mono ?_
  rintro e w1 ⟨rfl, hb1⟩
  have hc := cell_later hb1 HC.out
  go_wp2_with fail
  go_ret2
  exact ⟨_, rfl, OwnB.nil _ _, hb1⟩

theorem bv_set (l : List UInt8) (i x : Nat) (hx : x < 256) : (bv l).set i (.int .u8 (x : Nat)) = bv (l.set i (UInt8.ofNat x)) := by
  unfold bv
  rw [List.map_set, UInt8.toNat_ofNat', Nat.mod_eq_of_lt (by simpa using hx)]
theorem OwnB.set {w : World} {B g cap : Nat} {l : List UInt8} (h : OwnB w B (.slice (some ⟨g, 0, none⟩) l.length cap) l) (i x : Nat) (hx : x < 256) (hi : i < l.length) :
    OwnB (w.setCell ⟨g, i, none⟩ (.int .u8 (x : Nat))) B (.slice (some ⟨g, 0, none⟩) l.length cap) (l.set i (UInt8.ofNat x)) := by
  have := (World.ownsRow.stored h i (.int .u8 (x : Nat))).1
  rw [bv_set l i x hx] at this
  show World.ownsRow _ _ _ _ _ _ _
  rw [List.length_set]; exact this
theorem OwnB.cellAt {w : World} {B g cap : Nat} {l : List UInt8} (h : OwnB w B (.slice (some ⟨g, 0, none⟩) l.length cap) l) {i : Nat} (hi : i < l.length) : w.cell? ⟨g, i, none⟩ = some (.int .u8 (Sm.at0 l i : Nat)) ∧ w.frozen? ⟨g, i, none⟩ = false := by
  obtain ⟨b, o, e1, _, hc⟩ := (OwnB.bytes h).at1 hi
  simp only [Option.some.injEq, Addr.mk.injEq, and_true] at e1
  obtain ⟨rfl, rfl⟩ := e1
  rw [Nat.zero_add] at hc
  exact ⟨hc, World.ownsRow.frozenAt h i⟩

set_option maxHeartbeats 8000000 in
set_option maxRecDepth 100000 in
theorem less_yes (a : Option Addr) (c : Nat) (l : List UInt8) (hl : l.length ≤ 1000000) (w : World) (hv : Bytes w (.slice a l.length c) l) (hf : flt l = 0) (ht : Sm.at0 l 8 ≠ 0) :
    Calls Try.prog 32 #[.slice a l.length c] w (AnsO w (lessL l) 0) := by
  have h20 := flt_20 hf
  have hfa := fault_any _ l hl w hv
  rw [hf] at hfa
  have HFA := Lib.hid hfa
  have HV := Lib.hid hv
  obtain ⟨b, o, rfl, hb, hcell⟩ := hv.at1 (i := 8) (by omega)
  have hx256 := Sm.at0_lt l 8
  obtain ⟨x, hx⟩ : ∃ x, x = Sm.at0 l 8 := ⟨_, rfl⟩
  rw [← hx] at hcell ht hx256
  have HX := Lib.hid hx
  have HC := Lib.hid hcell
  have g1 : (8 : Int) < l.length := by omega
  have g2 : 8 < l.length := by omega
  have g3 : ((x : Int) == 0) = false := by rw [beq_eq_false_iff_ne]; omega
  have HH := Lib.hid (And.intro h20 (And.intro hl (And.intro ht hx256)))
  have hdl : (decL l).length = l.length := by unfold decL; simp
  have hc1 := numAt_lt (l := l) (i := 10) (k := 2) (by omega)
  have hc2 := numAt_lt (l := l) (i := 8) (k := 2) (by omega)
  have hc3 := numAt_lt (l := decL l) (i := 8) (k := 2) (by rw [hdl]; omega)
  obtain ⟨n1, e1⟩ : ∃ n, n = numAt l 10 2 := ⟨_, rfl⟩
  obtain ⟨n2, e2⟩ : ∃ n, n = numAt l 8 2 := ⟨_, rfl⟩
  obtain ⟨n3, e3⟩ : ∃ n, n = numAt (decL l) 8 2 := ⟨_, rfl⟩
  rw [← e1] at hc1
  rw [← e2] at hc2
  rw [← e3] at hc3
  have hw1 : IntKind.u16.wrap (n1 : Int) = n1 := IntWalk.u16_in _ ⟨by omega, by omega⟩
  have hw2 : IntKind.u16.wrap (n2 : Int) = n2 := IntWalk.u16_in _ ⟨by omega, by omega⟩
  have hw3 : IntKind.u16.wrap (n3 : Int) = n3 := IntWalk.u16_in _ ⟨by omega, by omega⟩
  have hwx : IntKind.u8.wrap ((x : Int) - 1) = x - 1 := IntWalk.u8_in _ ⟨by omega, by omega⟩
  obtain ⟨ch, hch⟩ : ∃ n, n = Sm.changed n1 n2 n3 := ⟨_, rfl⟩
  have hch2 : ch < 65536 := by rw [hch]; unfold Sm.changed; omega
  have hw4 : IntKind.u64.wrap (ch : Int) = ch := IntWalk.u64_in _ ⟨by omega, by omega⟩
  have HE := Lib.hid (And.intro e1 (And.intro e2 (And.intro e3 (And.intro hch (And.intro hc1 (And.intro hc2 (And.intro hc3 (And.intro hch2 hdl))))))))
  have g4 : (1 : Int) ≤ x := by omega
  clear hf hfa hv ht hcell h20 hx hx256 hl hdl hc1 hc2 hc3 e1 e2 e3 hch hch2
  go_enter Try.func32, Try.ntmps32
  go_wp2_with fail
  refine HFA.out.mono ?_
  rintro e w1 ⟨rfl, hb1⟩
  have hc := cell_later hb1 HC.out
  have HB1 := Lib.hid hb1
  clear hb1
  go_wp2_with fail
  refine (clone_any _ l w1 ((show Bytes w _ l from HV.out).later HB1.out) (by have := HH.out; omega)).mono ?_
  rintro e w2 ⟨v2, rfl, ho2, hb2⟩
  obtain ⟨g, cap, cur, rfl, hbg, hgc, hnc, hcs⟩ := ho2.row (by omega)
  have hgl : g < w2.heap.size := (Array.getElem?_eq_some_iff.1 hgc).1
  have HB2 := Lib.hid (HB1.out.trans (hb2.mono HB1.out.size))
  have HO2 : Hid (OwnB w2 w.heap.size (.slice (some ⟨g, 0, none⟩) l.length cap) l) := OwnB.weak ho2 HB1.out.size
  have HG : Hid (w.heap.size ≤ g ∧ g < w2.heap.size) := ⟨Nat.le_trans HB1.out.size hbg, hgl⟩
  clear hc ho2 hb2 hbg hgc hnc hcs hgl
  go_wp2_with fail
  refine (numbersW_any _ _ _ _).mono ?_
  rintro e w3 ⟨rfl, hw3'⟩
  have hcN : w3.heap[w2.heap.size]? = some (.cells #[.slice (some ⟨g, 0, none⟩) l.length cap] 22 (0, 0)) := by rw [hw3']; exact World.alloc_heap_new _ _
  have HB3 : Hid (Below w.heap.size w w3) := by rw [hw3']; exact HB2.out.alloc HB2.out.size _
  have HO3 : Hid (OwnB w3 w.heap.size (.slice (some ⟨g, 0, none⟩) l.length cap) l) := by rw [hw3']; exact OwnB.alloc HO2.out _
  have hs3 : w3.heap.size = w2.heap.size + 1 := by rw [hw3']; simp
  obtain ⟨N, hN⟩ : ∃ N, N = w2.heap.size := ⟨_, rfl⟩
  rw [← hN] at hcN hs3 ⊢
  have HNN : Hid (N ≠ g ∧ N < w3.heap.size ∧ w.heap.size ≤ w3.heap.size) := ⟨by rw [hN]; have := HG.out; omega, by omega, HB3.out.size⟩
  have HCN := Lib.hid hcN
  have hcN2 : w3.cell? ⟨N, 0, none⟩ = some (.slice (some ⟨g, 0, none⟩) l.length cap) := by simp [World.cell?, hcN]
  have hg1 := numG_any 10 2 N _ l w3 hcN2 (OwnB.bytes HO3.out) (by omega) (by omega) (by have := HH.out; omega) HH.out.2.1
  have hg2 := numG_any 8 2 N _ l w3 hcN2 (OwnB.bytes HO3.out) (by omega) (by omega) (by have := HH.out; omega) HH.out.2.1
  rw [show getL ((l.take (10 + 2)).drop 10) = n1 from HE.out.1.symm] at hg1
  rw [show getL ((l.take (8 + 2)).drop 8) = n2 from HE.out.2.1.symm] at hg2
  have HG1 := Lib.hid hg1
  have HG2 := Lib.hid hg2
  clear hw3' hcN hs3 hN hcN2 hg1 hg2
  go_wp2_with fail
  refine HG1.out.mono ?_
  rintro e w4 ⟨rfl, rfl⟩
  go_wp2_with fail
  refine HG2.out.mono ?_
  rintro e w4 ⟨rfl, rfl⟩
  obtain ⟨hc8, hf8⟩ := OwnB.cellAt HO3.out g2
  rw [← HX.out] at hc8
  go_wp2_with fail
  have hcast : ((x - 1 : Nat) : Int) = (x : Int) - 1 := by omega
  have ho5 : OwnB (w3.setCell ⟨g, 8, none⟩ (.int .u8 ((x - 1 : Nat) : Int))) w.heap.size (.slice (some ⟨g, 0, none⟩) l.length cap) (l.set 8 (UInt8.ofNat (x - 1))) := OwnB.set HO3.out 8 (x - 1) (by have := HH.out; omega) g2
  rw [hcast, HX.out] at ho5
  have hb5 : Below w.heap.size w3 (w3.setCell ⟨g, 8, none⟩ (.int .u8 ((Sm.at0 l 8 : Nat) - 1))) := (Below.refl _ _).setCell (by exact HG.out.1) _
  have hN5 : (w3.setCell ⟨g, 8, none⟩ (.int .u8 ((Sm.at0 l 8 : Nat) - 1))).heap[N]? = some (.cells #[.slice (some ⟨g, 0, none⟩) l.length cap] 22 (0, 0)) := by
    rw [Below.heap_setCell _ _ _ _ (by exact HNN.out.1)]; exact HCN.out
  have hs5 : (w3.setCell ⟨g, 8, none⟩ (.int .u8 ((Sm.at0 l 8 : Nat) - 1))).heap.size = w3.heap.size := by simp
  rw [← HX.out] at ho5 hb5 hN5 hs5
  obtain ⟨w5, hw5⟩ : ∃ w5, w5 = w3.setCell ⟨g, 8, none⟩ (.int .u8 ((x : Int) - 1)) := ⟨_, rfl⟩
  rw [← hw5] at ho5 hb5 hN5 hs5 ⊢
  have ho6 : OwnB w5 w.heap.size (.slice (some ⟨g, 0, none⟩) l.length cap) (decL l) := by unfold decL; rw [← HX.out]; exact ho5
  have hdl := HE.out.2.2.2.2.2.2.2.2
  have ho7 : OwnB w5 w.heap.size (.slice (some ⟨g, 0, none⟩) (decL l).length cap) (decL l) := by rw [hdl]; exact ho6
  have hcN5 : w5.cell? ⟨N, 0, none⟩ = some (.slice (some ⟨g, 0, none⟩) (decL l).length cap) := by rw [hdl]; simp [World.cell?, hN5]
  have hg3 := numG_any 8 2 N _ (decL l) w5 hcN5 (OwnB.bytes ho7) (by omega) (by omega) (by rw [hdl]; have := HH.out; omega) (by rw [hdl]; exact HH.out.2.1)
  rw [show getL (((decL l).take (8 + 2)).drop 8) = n3 from HE.out.2.2.1.symm] at hg3
  have hpt := putC_any 10 2 ch N g cap w.heap.size (decL l) w5 hcN5 ho7 (by omega) (by omega) (by have := HE.out.2.2.2.2.2.2.2.1; omega) (by rw [hdl]; have := HH.out; omega) (by rw [hdl]; exact HH.out.2.1) (by have := HNN.out; omega) HNN.out.1
  have hchg := changeW_any n1 n2 n3 w5 (by have := HE.out; omega) (by have := HE.out; omega) (by have := HE.out; omega)
  rw [← HE.out.2.2.2.1] at hchg
  have HPT := Lib.hid hpt
  have HCH := Lib.hid hchg
  have HG3 := Lib.hid hg3
  have HB5 := Lib.hid (HB3.out.trans hb5)
  clear hcast hw5 ho5 ho6 ho7 hcN5 hg3 hpt hchg hb5 hN5 hs5 hdl hc8 hf8
  refine HG3.out.mono ?_
  rintro e w6 ⟨rfl, rfl⟩
  go_wp2_with fail
  refine HCH.out.mono ?_
  rintro e w6 ⟨rfl, rfl⟩
  go_wp2_with fail
  refine HPT.out.mono ?_
  rintro e w7 ⟨⟨vv, rfl⟩, ho7, hb7, _⟩
  have HO7 := Lib.hid ho7
  have HB7 := Lib.hid (HB5.out.trans hb7)
  clear ho7 hb7
  go_wp2_with fail
  go_ret2
  refine ⟨_, rfl, ?_, HB7.out⟩
  have h1 : lessL l = spl (decL l) 10 (putL ch 2) := by
    unfold lessL lessC
    rw [← HE.out.1, ← HE.out.2.1, ← HE.out.2.2.1, ← HE.out.2.2.2.1]
  rw [h1, ← HE.out.2.2.2.2.2.2.2.2]
  exact HO7.out
theorem lessW_any (v : Value) (l : List UInt8) (hl : l.length ≤ 1000000) (w : World) (hv : Bytes w v l) :
    Calls Try.prog 32 #[v] w (AnsO w (if flt l ≠ 0 then [] else if Sm.at0 l 8 = 0 then [] else lessL l) (if flt l ≠ 0 then 4 else if Sm.at0 l 8 = 0 then 7 else 0)) := by
  obtain ⟨a, c, rfl⟩ := hv.form
  by_cases h1 : flt l ≠ 0
  · rw [if_pos h1, if_pos h1]; exact less_bad a c l hl w hv h1
  · rw [if_neg h1, if_neg h1]
    have h1' : flt l = 0 := by omega
    by_cases h2 : Sm.at0 l 8 = 0
    · rw [if_pos h2, if_pos h2]; exact less_zero a c l hl w hv h1' h2
    · rw [if_neg h2, if_neg h2]; exact less_yes a c l hl w hv h1' h2
end Go.Proofs.Ytccfebaifgnodaa
