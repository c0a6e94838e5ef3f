/- The walk of ip.fault. -/
import Derived.Test.YtccfebaifgnodaaIm
import Derived.Test.YtccfebaifgnodaaSt
namespace Go.Proofs.Ytccfebaifgnodaa
open Go.RowKit
attribute [local go_sem ↓] Go.wp_at_zero Go.wp_at_succ

/-- What is wrong with bytes, the first of it; 0: nothing. -/
def flt (l : List UInt8) : Nat :=
  if l.length < 20 then 1
  else if Sm.at0 l 0 / 16 ≠ 4 then 2
  else if hsz l < 20 ∨ l.length < hsz l then 3
  else if numAt l 2 2 < hsz l ∨ l.length < numAt l 2 2 then 4
  else if Sm.tot (l.take (hsz l)) ≠ 65535 then 5
  else if Om.ok ((l.take (hsz l)).drop 20) = false then 6 else 0
theorem hsz_le (l : List UInt8) : hsz l ≤ 60 := by unfold hsz; omega
theorem flt1 {l : List UInt8} (h : l.length < 20) : flt l = 1 := by unfold flt; rw [if_pos h]
theorem flt2 {l : List UInt8} (h : 20 ≤ l.length) (h2 : Sm.at0 l 0 / 16 ≠ 4) : flt l = 2 := by unfold flt; rw [if_neg (by omega), if_pos h2]
theorem flt3 {l : List UInt8} (h : 20 ≤ l.length) (h2 : Sm.at0 l 0 / 16 = 4) (h3 : hsz l < 20 ∨ l.length < hsz l) : flt l = 3 := by unfold flt; rw [if_neg (by omega), if_neg (by omega), if_pos h3]
theorem flt4 {l : List UInt8} (h : 20 ≤ l.length) (h2 : Sm.at0 l 0 / 16 = 4) (h3 : 20 ≤ hsz l ∧ hsz l ≤ l.length) (h4 : numAt l 2 2 < hsz l ∨ l.length < numAt l 2 2) : flt l = 4 := by
  unfold flt; rw [if_neg (by omega), if_neg (by omega), if_neg (by omega), if_pos h4]
theorem flt5 {l : List UInt8} (h : 20 ≤ l.length) (h2 : Sm.at0 l 0 / 16 = 4) (h3 : 20 ≤ hsz l ∧ hsz l ≤ l.length) (h4 : hsz l ≤ numAt l 2 2 ∧ numAt l 2 2 ≤ l.length) (h5 : Sm.tot (l.take (hsz l)) ≠ 65535) : flt l = 5 := by
  unfold flt; rw [if_neg (by omega), if_neg (by omega), if_neg (by omega), if_neg (by omega), if_pos h5]
theorem flt6 {l : List UInt8} (h : 20 ≤ l.length) (h2 : Sm.at0 l 0 / 16 = 4) (h3 : 20 ≤ hsz l ∧ hsz l ≤ l.length) (h4 : hsz l ≤ numAt l 2 2 ∧ numAt l 2 2 ≤ l.length) (h5 : Sm.tot (l.take (hsz l)) = 65535) (h6 : Om.ok ((l.take (hsz l)).drop 20) = false) : flt l = 6 := by
  unfold flt; rw [if_neg (by omega), if_neg (by omega), if_neg (by omega), if_neg (by omega), if_neg (fun h => h h5), if_pos h6]
theorem flt0 {l : List UInt8} (h : 20 ≤ l.length) (h2 : Sm.at0 l 0 / 16 = 4) (h3 : 20 ≤ hsz l ∧ hsz l ≤ l.length) (h4 : hsz l ≤ numAt l 2 2 ∧ numAt l 2 2 ≤ l.length) (h5 : Sm.tot (l.take (hsz l)) = 65535) (h6 : Om.ok ((l.take (hsz l)).drop 20) = true) : flt l = 0 := by
  unfold flt; rw [if_neg (by omega), if_neg (by omega), if_neg (by omega), if_neg (by omega), if_neg (fun h => h h5), if_neg (by rw [h6]; decide)]

set_option maxHeartbeats 2000000 in
theorem fault_any (v : Value) (l : List UInt8) (hl : l.length ≤ 1000000) (w : World) (hv : Bytes w v l) :
    Calls Try.prog 35 #[v] w fun e w' => e = .returned (.int .i64 (flt l : Nat)) ∧ Below w.heap.size w w' := by
  obtain ⟨a, c, rfl⟩ := hv.form
  have HV := Lib.hid hv
  rcases Nat.lt_or_ge l.length 20 with h20 | h20
  · have HF := Lib.hid (flt1 h20)
    have g1 : (l.length : Int) < 20 := by omega
    clear hv h20
    go_enter Try.func35, Try.ntmps35
    go_wp2_with fail
    go_ret
    exact ⟨ret_i (by rw [HF.out]; rfl), Below.refl _ _⟩
  · have g1 : (20 : Int) ≤ l.length := by omega
    obtain ⟨b, o, rfl, hb, hcell⟩ := hv.at1 (i := 0) (by omega)
    obtain ⟨x, hx⟩ : ∃ x, x = Sm.at0 l 0 := ⟨_, rfl⟩
    have hxl : x < 256 := by rw [hx]; exact Sm.at0_lt _ _
    rw [← hx] at hcell
    have hcell0 : w.cell? ⟨b, o, none⟩ = some (.int .u8 (x : Int)) := hcell
    have HX := Lib.hid hx
    clear hv hcell hx
    have hsl := hsz_le l
    have htl := numAt_lt (l := l) (i := 2) (k := 2) (by omega)
    obtain ⟨s, hs⟩ : ∃ s, s = hsz l := ⟨_, rfl⟩
    obtain ⟨t, ht⟩ : ∃ t, t = numAt l 2 2 := ⟨_, rfl⟩
    have hsz := sizes_any _ l w HV.out h20 hl
    rw [← hs, ← ht] at hsz
    rw [← hs] at hsl
    rw [← ht] at htl
    have ht2 : (t : Int) ≤ 70000 := by omega
    have HS := Lib.hid hs
    have HT := Lib.hid ht
    have HZ := Lib.hid hsz
    clear hs ht hsz htl
    by_cases h4 : x / 16 = 4
    · have G4 : ((x : Int) / 16 != 4) = false := by simp; omega
      by_cases h3 : 20 ≤ s ∧ s ≤ l.length
      · obtain ⟨h3a, h3b⟩ := h3
        have k3 : (20 : Int) ≤ s := by omega
        have k4 : (s : Int) ≤ l.length := by omega
        by_cases h5 : s ≤ t ∧ t ≤ l.length
        · obtain ⟨h5a, h5b⟩ := h5
          have k5 : (s : Int) ≤ t := by omega
          have k6 : (t : Int) ≤ l.length := by omega
          have hcut := HV.out.cut_h (s : Int) s rfl h3b
          have hcs := hcut.1
          have HCUT := Lib.hid hcut.2
          have HLT : Hid ((l.take s).length ≤ 10000) := by show _ ≤ _; rw [List.length_take]; omega
          obtain ⟨a2, hcs2, hcut2⟩ := HV.out.cut_lh 20 (s : Int) 20 s rfl rfl h3a h3b
          have HCUT2 := Lib.hid hcut2
          have HLD : Hid (((l.take s).drop 20).length ≤ 1000000) := by show _ ≤ _; rw [List.length_drop, List.length_take]; omega
          clear hcut hcut2
          by_cases h6 : Sm.tot (l.take s) = 65535
          · have HTOT : Hid ((Sm.tot (l.take s) == 65535) = true) := by show _ = _; rw [h6]; rfl
            cases h7 : Om.ok ((l.take s).drop 20) with
            | false =>
              have HMAY := Lib.hid h7
              have HF := Lib.hid (flt6 h20 (by rw [← HX.out]; exact h4) (by rw [← HS.out]; exact ⟨h3a, h3b⟩) (by rw [← HS.out, ← HT.out]; exact ⟨h5a, h5b⟩) (by rw [← HS.out]; exact h6) (by rw [← HS.out]; exact h7))
              clear h4 h6 h7
              go_enter Try.func35, Try.ntmps35
              go_wp2_with fail
              refine HZ.out.mono ?_
              rintro e w1 ⟨rfl, hb1⟩
              have hc1 := cell_later hb1 hcell0
              have HB1 := Lib.hid hb1
              clear hb1
              go_wp2_with fail
              refine (goodW_any w1 _ (l.take s) (HCUT.out.later HB1.out) HLT.out).mono ?_
              rintro e w2 ⟨rfl, hb2⟩
              rw [HTOT.out]
              have HB2 := Lib.hid (HB1.out.trans (hb2.mono HB1.out.size))
              clear hb2 hc1
              go_wp2_with fail
              refine (mayOptions_any _ ((l.take s).drop 20) HLD.out w2 (HCUT2.out.later HB2.out)).mono ?_
              rintro e w3 ⟨rfl, hb3⟩
              rw [HMAY.out]
              have HB3 := Lib.hid (HB2.out.trans (hb3.mono HB2.out.size))
              clear hb3
              go_wp2_with fail
              go_ret
              exact ⟨ret_i (by rw [HF.out]; rfl), HB3.out⟩
            | true =>
              have HMAY := Lib.hid h7
              have HF := Lib.hid (flt0 h20 (by rw [← HX.out]; exact h4) (by rw [← HS.out]; exact ⟨h3a, h3b⟩) (by rw [← HS.out, ← HT.out]; exact ⟨h5a, h5b⟩) (by rw [← HS.out]; exact h6) (by rw [← HS.out]; exact h7))
              clear h4 h6 h7
              go_enter Try.func35, Try.ntmps35
              go_wp2_with fail
              refine HZ.out.mono ?_
              rintro e w1 ⟨rfl, hb1⟩
              have hc1 := cell_later hb1 hcell0
              have HB1 := Lib.hid hb1
              clear hb1
              go_wp2_with fail
              refine (goodW_any w1 _ (l.take s) (HCUT.out.later HB1.out) HLT.out).mono ?_
              rintro e w2 ⟨rfl, hb2⟩
              rw [HTOT.out]
              have HB2 := Lib.hid (HB1.out.trans (hb2.mono HB1.out.size))
              clear hb2 hc1
              go_wp2_with fail
              refine (mayOptions_any _ ((l.take s).drop 20) HLD.out w2 (HCUT2.out.later HB2.out)).mono ?_
              rintro e w3 ⟨rfl, hb3⟩
              rw [HMAY.out]
              have HB3 := Lib.hid (HB2.out.trans (hb3.mono HB2.out.size))
              clear hb3
              go_wp2_with fail
              go_ret
              exact ⟨ret_i (by rw [HF.out]; rfl), HB3.out⟩
          · have HTOT : Hid ((Sm.tot (l.take s) == 65535) = false) := by show _ = _; simpa using h6
            have HF := Lib.hid (flt5 h20 (by rw [← HX.out]; exact h4) (by rw [← HS.out]; exact ⟨h3a, h3b⟩) (by rw [← HS.out, ← HT.out]; exact ⟨h5a, h5b⟩) (by rw [← HS.out]; exact h6))
            clear h4 h6
            go_enter Try.func35, Try.ntmps35
            go_wp2_with fail
            refine HZ.out.mono ?_
            rintro e w1 ⟨rfl, hb1⟩
            have hc1 := cell_later hb1 hcell0
            have HB1 := Lib.hid hb1
            clear hb1
            go_wp2_with fail
            refine (goodW_any w1 _ (l.take s) (HCUT.out.later HB1.out) HLT.out).mono ?_
            rintro e w2 ⟨rfl, hb2⟩
            rw [HTOT.out]
            have HB2 := Lib.hid (HB1.out.trans (hb2.mono HB1.out.size))
            clear hb2 hc1
            go_wp2_with fail
            go_ret
            exact ⟨ret_i (by rw [HF.out]; rfl), HB2.out⟩
        · have HF := Lib.hid (flt4 h20 (by rw [← HX.out]; exact h4) (by rw [← HS.out]; exact ⟨h3a, h3b⟩) (by rw [← HS.out, ← HT.out]; omega))
          rcases Nat.lt_or_ge t s with h8 | h8
          · have k5 : (t : Int) < s := by omega
            clear h4 h5
            go_enter Try.func35, Try.ntmps35
            go_wp2_with fail
            refine HZ.out.mono ?_
            rintro e w1 ⟨rfl, hb1⟩
            have hc1 := cell_later hb1 hcell0
            have HB1 := Lib.hid hb1
            clear hb1
            go_wp2_with fail
            go_ret
            exact ⟨ret_i (by rw [HF.out]; rfl), HB1.out⟩
          · have k5 : (s : Int) ≤ t := by omega
            have k6 : (l.length : Int) < t := by omega
            clear h4 h5
            go_enter Try.func35, Try.ntmps35
            go_wp2_with fail
            refine HZ.out.mono ?_
            rintro e w1 ⟨rfl, hb1⟩
            have hc1 := cell_later hb1 hcell0
            have HB1 := Lib.hid hb1
            clear hb1
            go_wp2_with fail
            go_ret
            exact ⟨ret_i (by rw [HF.out]; rfl), HB1.out⟩
      · have HF := Lib.hid (flt3 h20 (by rw [← HX.out]; exact h4) (by rw [← HS.out]; omega))
        rcases Nat.lt_or_ge s 20 with h8 | h8
        · have k5 : (s : Int) < 20 := by omega
          clear h4 h3
          go_enter Try.func35, Try.ntmps35
          go_wp2_with fail
          refine HZ.out.mono ?_
          rintro e w1 ⟨rfl, hb1⟩
          have hc1 := cell_later hb1 hcell0
          have HB1 := Lib.hid hb1
          clear hb1
          go_wp2_with fail
          go_ret
          exact ⟨ret_i (by rw [HF.out]; rfl), HB1.out⟩
        · have k5 : (20 : Int) ≤ s := by omega
          have k6 : (l.length : Int) < s := by omega
          clear h4 h3
          go_enter Try.func35, Try.ntmps35
          go_wp2_with fail
          refine HZ.out.mono ?_
          rintro e w1 ⟨rfl, hb1⟩
          have hc1 := cell_later hb1 hcell0
          have HB1 := Lib.hid hb1
          clear hb1
          go_wp2_with fail
          go_ret
          exact ⟨ret_i (by rw [HF.out]; rfl), HB1.out⟩
    · have HF := Lib.hid (flt2 h20 (by rw [← HX.out]; exact h4))
      have G4 : ((x : Int) / 16 != 4) = true := by simp; omega
      clear h4
      go_enter Try.func35, Try.ntmps35
      go_wp2_with fail
      refine HZ.out.mono ?_
      rintro e w1 ⟨rfl, hb1⟩
      have hc1 := cell_later hb1 hcell0
      have HB1 := Lib.hid hb1
      clear hb1
      go_wp2_with fail
      go_ret
      exact ⟨ret_i (by rw [HF.out]; rfl), HB1.out⟩
end Go.Proofs.Ytccfebaifgnodaa
