/- The walk of the law IpLess. -/
import Derived.Test.YtccfebaifgnodaaRl2
import Derived.Test.YtccfebaifgnodaaIk
namespace Go.Proofs.Ytccfebaifgnodaa
open Go.RowKit
attribute [local go_sem ↓] Go.wp_at_zero Go.wp_at_succ

theorem str_seven (l : List UInt8) : (l ++ [7] == ((⟨l.toArray⟩ : ByteArray) ++ (⟨#[7]⟩ : ByteArray)).toList) = true := by
  have e : ((⟨l.toArray⟩ : ByteArray) ++ (⟨#[7]⟩ : ByteArray)) = ⟨(l ++ [7]).toArray⟩ := by
    apply ByteArray.ext
    simp
  rw [e]; simp
set_option maxRecDepth 100000 in
set_option maxHeartbeats 4000000 in
theorem ipLess_in (a : Option Addr) (c : Nat) (l : List UInt8) (w : World) (hv : Bytes w (.slice a l.length c) l) (hl : l.length ≤ 70000) :
    Calls Try.prog 6 #[.slice a l.length c] w fun e w' => e = .returned (.bool true) ∧ Below w.heap.size w w' := by
  have g1 : (l.length : Int) ≤ 70000 := by omega
  have hlw := fun v wm hv => lessW_any v l (by omega) wm hv
  have hlr := fun v wm hv => lessR_any v l (by omega) wm hv
  obtain ⟨A, hA⟩ : ∃ A, A = (if flt l ≠ 0 then [] else if Sm.at0 l 8 = 0 then [] else lessL l) := ⟨_, rfl⟩
  obtain ⟨n, hn⟩ : ∃ n : Int, n = (if flt l ≠ 0 then 4 else if Sm.at0 l 8 = 0 then 7 else 0) := ⟨_, rfl⟩
  rw [← hA, ← hn] at hlw hlr
  have HLW := Lib.hid hlw
  have HLR := Lib.hid hlr
  have HV := Lib.hid hv
  have HL := Lib.hid hl
  have hq0 : ([] : List UInt8).length + l.length ≤ 140737488355328 := by simp; omega
  have hq1 : l.length + [(7 : UInt8)].length ≤ 140737488355328 := by simp; omega
  clear hlw hlr hA hn hv hl
  go_enter Try.func6, Try.ntmps6
  go_wp2_with (at_builtin; refine wpList_app rfl (.const (.slice none 0 0)) (.tmp 12) rfl w.heap.size (.slice none 0 0) _ [] l rfl rfl (OwnB.nil _ _) HV.out hq0 (Nat.le_refl _) ?_)
  intro v1 w1 ho1 hb1 _
  have HB1 := Lib.hid hb1
  have HO1 : Hid (OwnB w1 w.heap.size v1 l) := ho1
  clear ho1 hb1
  go_wp2_with (at_builtin; refine wpList_app rfl (.tmp 13) (.tmp 14) rfl w.heap.size _ _ l [7] rfl rfl (OwnB.alloc HO1.out _) (bytes_lit w1 [7]) hq1 (by rw [World.size_alloc]; exact Nat.le_succ_of_le HB1.out.size) ?_)
  intro v2 w2 ho2 hb2 _
  obtain ⟨a2, c2, rfl⟩ := OwnB.form ho2
  have HB2 : Hid (Below w.heap.size w w2) := (HB1.out.alloc HB1.out.size _).trans hb2
  have HO2 := Lib.hid (OwnB.bytes ho2)
  obtain ⟨s, hs⟩ : ∃ s, s = (l ++ [(7 : UInt8)]).length := ⟨_, rfl⟩
  rw [← hs] at HO2 ⊢
  obtain ⟨hct, hcb⟩ := Bytes.cut_hk .i64 HO2.out (l.length : Int) l.length rfl (by simp)
  rw [List.take_left] at hcb
  have HCB := Lib.hid hcb
  clear ho2 hb2 hs hcb
  go_wp2_with fail
  refine (HLW.out _ w2 HCB.out).mono ?_
  rintro e w3 ⟨v3, rfl, ho3, hb3⟩
  obtain ⟨a3, c3, rfl⟩ := ho3.form
  have HB3 := Lib.hid (HB2.out.trans (hb3.mono HB2.out.size))
  have HB23 := Lib.hid hb3
  have HO3 := Lib.hid (OwnB.bytes ho3)
  obtain ⟨t, ht⟩ : ∃ t, t = A.length := ⟨_, rfl⟩
  rw [← ht] at HO3 ⊢
  have HT := Lib.hid ht
  clear ho3 hb3 hct ht
  go_wp2_with fail
  refine (HLR.out _ w3 ((show Bytes w _ l from HV.out).later HB3.out)).mono ?_
  rintro e w4 ⟨v4, rfl, ho4, hb4⟩
  obtain ⟨a4, c4, rfl⟩ := ho4.form
  have HB4 := Lib.hid (HB3.out.trans (hb4.mono HB3.out.size))
  have z1 := ((show Bytes w3 _ A from HO3.out).later hb4).str (P := Try.prog) (src := 22) (dst := 9) Try.underlying22 Try.underlying5 Try.underlying9
  have z2 := (OwnB.bytes ho4).str (P := Try.prog) (src := 22) (dst := 9) Try.underlying22 Try.underlying5 Try.underlying9
  rw [← HT.out] at z2 ⊢
  have z3 := ((show Bytes w2 _ _ from HO2.out).later (HB23.out.trans (hb4.mono HB23.out.size))).str (P := Try.prog) (src := 22) (dst := 9) Try.underlying22 Try.underlying5 Try.underlying9
  have z4 := ((show Bytes w _ l from HV.out).later HB4.out).str (P := Try.prog) (src := 22) (dst := 9) Try.underlying22 Try.underlying5 Try.underlying9
  clear ho4 hb4
  go_wp2_with fail
  refine (num3_any n w4).mono ?_
  rintro e w5 ⟨rfl, rfl⟩
  have hnn : (n == n) = true := by simp
  have hst := str_seven l
  go_wp2_with fail
  refine (known3_any w4).mono ?_
  rintro e w6 ⟨rfl, hb6⟩
  have HB6 := Lib.hid (HB4.out.trans (hb6.mono HB4.out.size))
  clear hb6
  go_wp2_with fail
  go_ret
  exact ⟨rfl, HB6.out⟩
theorem ipLess_walk (v : Value) (L : List UInt8) (w : World) (hv : Bytes w v L) (hl : L.length ≤ 9223372036854775807) :
    Calls Try.prog 6 #[v] w fun e w' => e = .returned (.bool true) ∧ Below w.heap.size w w' := by
  obtain ⟨a, c, rfl⟩ := hv.form
  rcases Nat.lt_or_ge 70000 L.length with h | h
  · have g1 : (70000 : Int) < L.length := by omega
    clear hv h
    go_enter Try.func6, Try.ntmps6
    go_wp2_with fail
    refine (known3_any w).mono ?_
    rintro e w1 ⟨rfl, hb1⟩
    go_wp2_with fail
    go_ret
    exact ⟨rfl, hb1⟩
  · exact ipLess_in a c L w hv h
end Go.Proofs.Ytccfebaifgnodaa
