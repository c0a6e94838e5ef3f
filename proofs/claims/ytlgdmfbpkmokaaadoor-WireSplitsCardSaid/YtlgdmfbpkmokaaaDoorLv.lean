/- The walk of the law WireSplits. -/
import Derived.Test.YtlgdmfbpkmokaaaDoorCu
import Derived.Test.YtlgdmfbpkmokaaaDoorSl
import Derived.Test.YtlgdmfbpkmokaaaDoorWj
import Derived.Test.YtlgdmfbpkmokaaaDoorWk
namespace Go.Proofs.YtlgdmfbpkmokaaaDoor
open Go.RowKit
attribute [local go_sem ↓] Go.wp_at_zero Go.wp_at_succ

theorem info8i : ∃ i0, Tryd.prog.info? 3 = some i0 ∧ i0.zero = some (.int .i64 0) ∧ i0.size = 1 ∧ i0.bytes = 8 := by
  have hi5 : (Tryd.prog.info? 3).map (fun i => (i.zero, i.size, i.bytes)) = some (some (.int .i64 0), 1, 8) := by kernel_rfl
  obtain ⟨i0, hi, hx⟩ := Option.map_eq_some_iff.1 hi5
  simp only [Prod.mk.injEq] at hx
  exact ⟨i0, hi, hx.1, hx.2.1, hx.2.2⟩
def szs (L : List (List UInt8)) : List Int := L.map fun l => (l.length : Int)
theorem szs_take (L : List (List UInt8)) (k : Nat) (h : k < L.length) : szs (L.take (k + 1)) = szs (L.take k) ++ [(L[k].length : Int)] := by
  unfold szs; rw [List.take_succ_eq_append_getElem h, List.map_append]; rfl

set_option maxHeartbeats 2000000 in
set_option maxRecDepth 100000 in
theorem wireSplits_yes (b : Option Addr) (d : Nat) (L : List (List UInt8)) (m : Nat) (w : World) (g : Gl w) (hv : Lists w (.slice b L.length d) L) (hL : L.length + L.flatten.length ≤ 9000) (hLL : L.length ≤ 9223372036854775807) (hS : ∀ l ∈ L, l.length ≤ 9223372036854775807) (hm : m < 256) :
    Calls Tryd.prog 5 #[.slice b L.length d, .int .u8 (m : Int)] w fun e w' => e = .returned (.bool true) ∧ Below w.heap.size w w' := by
  have hmu : muchB L = false := by unfold muchB; exact decide_eq_false (by omega)
  have HM := Lib.hid hmu
  have HV := Lib.hid hv
  have HS := Lib.hid hS
  have HL := Lib.hid hL
  have HMm := Lib.hid hm
  have g0 : (L.length : Int) ≤ 9000 := by omega
  obtain ⟨mb, hmb⟩ : ∃ mb : UInt8, mb.toNat = m := ⟨UInt8.ofNat m, by rw [UInt8.toNat_ofNat']; omega⟩
  have HMB := Lib.hid hmb
  have HC0 := Lib.hid (cut_join L)
  have HC4 := Lib.hid (cut_more L mb)
  obtain ⟨i0, hi, hz0, hz1, hby⟩ := info8i
  clear hmu hv hS hL hm hmb
  go_enter Tryd.func5, Tryd.ntmps5
  go_wp2_with fail
  refine (much_any _ L w HV.out hLL HS.out).mono ?_
  rintro e w0 ⟨rfl, rfl⟩
  rw [HM.out]
  go_wp2_with fail
  refine (joinW_own _ L w HV.out (by have := HL.out; omega) (by have := HL.out; omega)).mono ?_
  rintro e w1 ⟨v1, rfl, ho1, hb1⟩
  have HO1 := Lib.hid ho1
  have HB1 := Lib.hid hb1
  clear ho1 hb1
  go_wp2_with fail
  go_loopw [6, 7] (fun v i wr => ∃ k : Nat, k ≤ L.length ∧ i = .int .i64 k ∧ Hid (wr.ownsRow w1.heap.size 3 1 v k (iv (szs (L.take k)))) ∧ Hid (Below w1.heap.size w1 wr)) (fun _ i _ => L.length - (intOf i).toNat)
  case atStart => exact ⟨0, Nat.zero_le _, rfl, World.ownsRow_nil _ _ _ _, Below.refl _ _⟩
  case round =>
    obtain ⟨k, hk, rfl, HW, HB⟩ := hrel
    rcases Nat.lt_or_ge k L.length with hlt | hge
    · have g1 : (k : Int) < L.length := by omega
      obtain ⟨bl, bo, rfl, hbl, x, dx, he, hbe⟩ := HV.out.at hlt
      have he' := cell_later' (below_of HB1.out HB.out) hbl he
      have b1 : bl < wr.heap.size := World.block_lt_of_cell? _ _ he'
      have hst := szs_take L k hlt
      obtain ⟨n, hn⟩ : ∃ n, n = L[k].length := ⟨_, rfl⟩
      rw [← hn] at he' hst
      have hn2 : (n : Int) ≤ 9223372036854775807 := by have := HS.out _ (List.getElem_mem hlt); omega
      have HST := Lib.hid hst
      clear hn hst he hbe
      go_wp2_with (at_builtin; refine wpList_append_own _ rfl _ _ 24 rfl w1.heap.size 3 i0 (.int .i64 0) 1 8 Tryd.underlying24 hi hz0 hz1 hby rfl (by decide) _ _ _ rfl (HW.out.alloc _) ⟨wr.heap.size, 0, none⟩ 1 1 [.int .i64 (n : Int)] rfl rfl (news_one wr _ _) (one_int _ _) (by unfold maxLen; omega) (by omega) (by simp; exact Nat.le_succ_of_le HB.out.size) ?_)
      intro v' w3 hown' hgrow _
      have HO3 : Hid (w3.ownsRow w1.heap.size 3 1 v' (k + 1) (iv (szs (L.take (k + 1))))) := by
        show World.ownsRow _ _ _ _ _ _ _
        rw [HST.out, iv, List.map_append]; exact hown'
      have HB3 : Hid (Below w1.heap.size w1 w3) := (HB.out.alloc HB.out.size _).grown hgrow (by simp; exact Nat.le_succ_of_le HB.out.size) (fun j hj => own_base HW.out hj)
      clear hown' hgrow
      go_wp2_with fail
      go_roundw
      case rel => exact ⟨k + 1, by omega, by go_num, HO3, HB3⟩
      case measure => simp [intOf]; omega
    · have e : k = L.length := by omega
      subst e
      rw [List.take_length] at HW
      rename_i hwz
      have HO1r := Lib.hid (HO1.out.later HB.out)
      have hszl : (szs L).length = L.length := by simp [szs]
      go_wp2_with fail
      refine (cutW_any _ _ _ (szs L) wr HO1r.out.bytes (Row.of_own HW.out) (by have := HL.out; omega) (by have := HL.out; omega)).mono ?_
      rintro e w4 ⟨v4, rfl, ha4⟩
      rw [show cutN L.flatten (szs L) = 0 from HC0.out.2]
      have ha4' : CutAns wr v4 L w4 := by rw [show cutP L.flatten (szs L) = L from HC0.out.1] at ha4; exact ha4
      have HA4 := Lib.hid ha4'
      have HO4 := Lib.hid (HO1r.out.later ha4'.2)
      have HW4 := Lib.hid ha4'.2
      have hmbi : (m : Int) = (mb.toNat : Int) := by have := HMB.out; omega
      clear ha4 ha4'
      go_wp2_with (at_builtin; refine wpList_app rfl _ _ rfl w.heap.size v1 _ L.flatten [mb] rfl rfl (HO4.out.alloc _) (bytes_lit w4 [mb]) (by have := HL.out; show L.flatten.length + 1 ≤ _; omega) (by have h1 := HB1.out.size; have h2 := HB.out.size; have h3 := HW4.out.size; simp; omega) ?_)
      intro v5 w5 ho5 hb5 hg5
      have HV5 : Hid (Bytes w5 v5 (L.flatten ++ [mb])) := ho5.bytes
      have HB5 : Hid (Below w.heap.size w w5) := ((below_of HB1.out (HB.out.trans (HW4.out.mono HB.out.size))).alloc (by have h1 := HB1.out.size; have h2 := HB.out.size; have h3 := HW4.out.size; omega) _).trans hb5
      have hrow : ∀ r, v1.ownBlock = some r → r < wr.heap.size := fun r hr => Nat.lt_of_lt_of_le (World.ownsRow.lt HO1.out r hr).2 HB.out.size
      have HC5 : Hid (Lists w5 v4 L) := by
        have h := HA4.out
        have hA : CutAns wr v4 L (w4.alloc (.cells #[.int .u8 (mb.toNat : Int)] 5)) := by
          obtain ⟨⟨g', wc, h1, h2, ⟨xs, hx1, hx2⟩, h4, h5⟩, h6⟩ := h
          have hal : Below w4.heap.size w4 (w4.alloc (.cells #[.int .u8 (mb.toNat : Int)] 5)) := (Below.refl _ _).alloc (Nat.le_refl _) _
          refine ⟨⟨g', wc, h1, h2, ⟨xs, World.ownsRow.alloc hx1 _, hx2⟩, h4.trans (hal.mono h4.size), fun hp => ?_⟩, h6.trans (hal.mono h6.size)⟩
          obtain ⟨q1, q2⟩ := h5 hp
          exact ⟨q1, fun o => (hal.frozen (p := ⟨g', o, none⟩) (Nat.lt_of_lt_of_le q1 h4.size)).trans (q2 o)⟩
        exact hA.kept hg5 hrow
      have HW5 : Hid (w5.ownsRow w1.heap.size 3 1 u6 L.length (iv (szs L))) := by
        have h1 := World.ownsRow.alloc (ownsRow_later HW.out HW4.out) (.cells #[.int .u8 (mb.toNat : Int)] 5)
        refine World.ownsRow.kept h1 hg5 ?_
        rcases hu : u6.ownBlock with _ | j
        · exact .inl rfl
        · refine .inr fun e => ?_
          have q1 := own_base HW.out hu
          have q2 := (World.ownsRow.lt HO1.out j e.symm).2
          omega
      obtain ⟨l5, hl5⟩ : ∃ l5, l5 = L.flatten ++ [mb] := ⟨_, rfl⟩
      have hv5 := HV5.out
      rw [← hl5] at hv5
      have hlen5 : l5.length ≤ 20000 := by have := HL.out; rw [hl5, List.length_append]; show L.flatten.length + 1 ≤ _; omega
      have hc4 : cutN l5 (szs L) = 4 := by rw [hl5]; exact HC4.out
      have HV5 := Lib.hid hv5
      have HLen5 := Lib.hid hlen5
      have HC4 := Lib.hid hc4
      clear hl5 hv5 hlen5 hc4
      clear ho5 hb5 hg5 hrow HA4 HO1 HO1r HO4
      go_wp2_with fail
      refine (cutW_any v5 l5 u6 (szs L) w5 HV5.out (Row.of_own HW5.out) HLen5.out (by have := HL.out; omega)).mono ?_
      rintro e w6 ⟨v6, rfl, ha6⟩
      rw [HC4.out]
      have HC6 := Lib.hid (HC5.out.later ha6.2)
      have HB6 := Lib.hid (below_of HB5.out ha6.2)
      clear ha6
      go_wp2_with fail
      refine (num_any _ _).mono ?_
      rintro e wn ⟨rfl, rfl⟩
      go_wp2_with fail
      refine (num_any _ _).mono ?_
      rintro e wn ⟨rfl, rfl⟩
      go_wp2_with fail
      refine (same_any _ _ L w6 HC6.out (HV.out.later HB6.out) (by have := HL.out; omega)).mono ?_
      rintro e w7 ⟨rfl, hb7⟩
      have HB7 := Lib.hid (below_of HB6.out hb7)
      clear hb7
      go_wp2_with fail
      refine (known_any _ (g.below HB7.out)).mono ?_
      rintro e w8 ⟨rfl, hb8⟩
      go_wp2_with fail
      go_ret
      exact ⟨rfl, below_of HB7.out hb8⟩
set_option maxHeartbeats 1000000 in
theorem wireSplits_no (b : Option Addr) (d : Nat) (L : List (List UInt8)) (m : Int) (w : World) (g : Gl w) (hv : Lists w (.slice b L.length d) L) (hL : ¬ L.length + L.flatten.length ≤ 9000) (hLL : L.length ≤ 9223372036854775807) (hS : ∀ l ∈ L, l.length ≤ 9223372036854775807) :
    Calls Tryd.prog 5 #[.slice b L.length d, .int .u8 m] w fun e w' => e = .returned (.bool true) ∧ Below w.heap.size w w' := by
  have hmu : muchB L = true := by unfold muchB; exact decide_eq_true (by omega)
  have HM := Lib.hid hmu
  have HV := Lib.hid hv
  have HS := Lib.hid hS
  clear hmu hv hS hL
  go_enter Tryd.func5, Tryd.ntmps5
  go_wp2_with fail
  refine (much_any _ L w HV.out hLL HS.out).mono ?_
  rintro e w0 ⟨rfl, rfl⟩
  rw [HM.out]
  go_wp2_with fail
  refine (known_any _ g).mono ?_
  rintro e w8 ⟨rfl, hb8⟩
  go_wp2_with fail
  go_ret
  exact ⟨rfl, hb8⟩
theorem wireSplits_walk (v : Value) (L : List (List UInt8)) (m : Int) (w : World) (g : Gl w) (hv : Lists w v L) (hLL : L.length ≤ 9223372036854775807) (hS : ∀ l ∈ L, l.length ≤ 9223372036854775807) (hm : 0 ≤ m) (hm2 : m < 256) :
    Calls Tryd.prog 5 #[v, .int .u8 m] w fun e w' => e = .returned (.bool true) ∧ Below w.heap.size w w' := by
  obtain ⟨b, d, rfl⟩ := hv.form
  obtain ⟨m, rfl⟩ := Int.eq_ofNat_of_zero_le hm
  by_cases h : L.length + L.flatten.length ≤ 9000
  · exact wireSplits_yes b d L m w g hv h hLL hS (by omega)
  · exact wireSplits_no b d L m w g hv h hLL hS
end Go.Proofs.YtlgdmfbpkmokaaaDoor
