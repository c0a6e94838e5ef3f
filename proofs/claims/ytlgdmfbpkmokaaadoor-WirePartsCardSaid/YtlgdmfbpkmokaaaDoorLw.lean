/- The walk of the law WireParts. -/
import Derived.Test.YtlgdmfbpkmokaaaDoorLwm
import Derived.Test.YtlgdmfbpkmokaaaDoorCr
import Derived.Test.YtlgdmfbpkmokaaaDoorSl
import Derived.Test.YtlgdmfbpkmokaaaDoorWj
import Derived.Test.YtlgdmfbpkmokaaaDoorWk
import Derived.Test.YtlgdmfbpkmokaaaDoorRg
namespace Go.Proofs.YtlgdmfbpkmokaaaDoor
open Go.RowKit
attribute [local go_sem ↓] Go.wp_at_zero Go.wp_at_succ

set_option maxHeartbeats 4000000 in
set_option maxRecDepth 100000 in
theorem wireParts_yes (b : Option Addr) (d : Nat) (L : List (List UInt8)) (a : Option Addr) (c : Nat) (l : List UInt8) (bz : Option Addr) (cz : Nat) (zs : List Int) (w : World) (g : Gl w)
    (hv : Lists w (.slice b L.length d) L) (hL : L.length + L.flatten.length ≤ 9000) (hLL : L.length ≤ 9223372036854775807) (hS : ∀ l ∈ L, l.length ≤ 9223372036854775807)
    (hb : Bytes w (.slice a l.length c) l) (hl : l.length ≤ 9000) (hr : Row w (.slice bz zs.length cz) (iv zs)) (hz : zs.length ≤ 9000) (hzs : ∀ z ∈ zs, -9223372036854775808 ≤ z ∧ z ≤ 9223372036854775807) :
    Calls Tryd.prog 3 #[.slice b L.length d, .slice a l.length c, .slice bz zs.length cz] w fun e w' => e = .returned (.bool true) ∧ Below w.heap.size w w' := by
  have hmu : muchB L = false := by unfold muchB; exact decide_eq_false (by omega)
  have HM := Lib.hid hmu
  have HV := Lib.hid hv
  have HS := Lib.hid hS
  have HL := Lib.hid hL
  have HLb := Lib.hid hl
  have HZ := Lib.hid hz
  have HZS := Lib.hid hzs
  have HA := Lib.hid hb
  have HR := Lib.hid hr
  have g0 : (l.length : Int) ≤ 9000 := by omega
  have g1 : (zs.length : Int) ≤ 9000 := by omega
  obtain ⟨sF, hsF⟩ : ∃ s : ByteArray, s = ⟨L.flatten.toArray⟩ := ⟨_, rfl⟩
  have HSF := Lib.hid hsF
  clear hmu hv hS hL hl hz hzs hb hr hsF
  go_enter Tryd.func3, Tryd.ntmps3
  go_wp2_with fail
  refine (much_any _ L w HV.out hLL HS.out).mono ?_
  rintro e w0 ⟨rfl, rfl⟩
  rw [HM.out]
  go_wp2_with fail
  (refine wp_region_held_drew (S := (fun w' => Below w.heap.size w w')) (by kernel_rfl) ?_ (fun hHeld => ?_); (focus ((try dsimp only); (exact (Below.refl _ _).drew))))
  obtain ⟨w0, hw0⟩ : ∃ w0, w0 = World.drew w := ⟨_, rfl⟩
  rw [← hw0]
  rw [← hw0] at hHeld
  clear hw0
  refine wpAnyH_cut #[true, true, true, true, true, true, true] 0 (fun A w1 => ∃ x14 x15 x16 x17 x18 x19 x20 x21 x22 x23 x24 x25 v28 v31 : Value, A = ⟨#[.slice b L.length d, .slice a l.length c, .slice bz zs.length cz, undef, undef, undef, .bool false, undef, undef, undef, undef, undef, undef, undef, x14, x15, x16, x17, x18, x19, x20, x21, x22, x23, x24, x25, undef, .slice b L.length d, v28, .string sF, .slice b L.length d, v31, .string sF, .bool false, undef, undef, undef, undef, undef, undef, undef, undef, undef, undef, undef, undef, undef, undef, undef, undef, undef, undef, undef, undef, undef, undef, undef, undef, undef, undef, undef, undef, undef, undef, undef, undef, undef, undef, undef, undef, undef, undef, undef, undef, undef, undef, undef, undef, undef, undef, undef, undef, undef, undef, undef, undef, undef, undef, undef, undef, undef, undef, undef, undef, undef, undef, undef, undef, undef, undef, undef], []⟩) ?_ (fun m0 => ?_)
  · rintro l A w1 rfl ⟨x14, x15, x16, x17, x18, x19, x20, x21, x22, x23, x24, x25, v28, v31, rfl⟩ hHeld
    refine wpAnyH_done (by kernel_rfl) ?_ _
    have HB1 := Lib.hid hHeld
    clear hHeld
    go_wp2_with (at_builtin; refine wpList_app rfl (.const (.slice none 0 0)) (.tmp 34) rfl w1.heap.size (.slice none 0 0) _ [] l rfl rfl (OwnB.nil _ _) (HA.out.later HB1.out) (by have := HLb.out; show 0 + l.length ≤ _; omega) (Nat.le_refl _) ?_)
    intro v2 w2 ho2 hb2 hg2
    have HO2 := Lib.hid ho2
    have HB2 := Lib.hid hb2
    clear ho2 hb2 hg2
    go_wp2_with (at_builtin; refine wpList_app rfl (.tmp 35) (.tmp 36) rfl w1.heap.size v2 _ l [7] rfl rfl (HO2.out.alloc _) (bytes_lit w2 [7]) (by have := HLb.out; show l.length + 1 ≤ _; omega) (by have := HB2.out.size; simp; omega) ?_)
    intro v3 w3 ho3 hb3 hg3
    obtain ⟨l7, hl7⟩ : ∃ l7, l7 = l ++ [7] := ⟨_, rfl⟩
    have hv3 := ho3.bytes
    rw [← hl7] at hv3
    obtain ⟨a3, c3, rfl⟩ := hv3.form
    have hlen7 : l.length ≤ l7.length := by rw [hl7]; simp
    obtain ⟨hr7, hcut7⟩ := hv3.cut_h (l.length : Int) l.length rfl hlen7
    have htake : l7.take l.length = l := by rw [hl7]; simp
    rw [htake] at hcut7
    have HV3 := Lib.hid hv3
    have HX3 := Lib.hid hcut7
    have HL7 := Lib.hid hl7
    have HB3 : Hid (Below w.heap.size w w3) := HB1.out.trans ((((HB2.out.alloc HB2.out.size _).trans hb3)).mono HB1.out.size)
    clear ho3 hb3 hg3 hl7 hv3 hlen7 hcut7 htake HO2 HB2
    go_wp2_with fail
    refine (cutW_any _ l _ zs w3 HX3.out (HR.out.later HB3.out) (by have := HLb.out; omega) (by have := HZ.out; omega)).mono ?_
    rintro e w4 ⟨v4, rfl, ha4⟩
    obtain ⟨P, hP⟩ : ∃ P, P = cutP l zs := ⟨_, rfl⟩
    obtain ⟨cn, hcn⟩ : ∃ n, n = cutN l zs := ⟨_, rfl⟩
    rw [← hP] at ha4
    rw [← hcn]
    have hPl : P.length ≤ 9000 := by rw [hP]; exact Nat.le_trans (cutP_len l zs) HZ.out
    have hPp : ∀ p ∈ P, p.length ≤ 9000 := fun p hp => Nat.le_trans (cutP_part l zs p (by rw [← hP]; exact hp)) HLb.out
    obtain ⟨a4, c4, rfl⟩ := ha4.lists.form
    have HC4 := Lib.hid ha4.lists
    have HM4 := Lib.hid ha4.mod
    have HB4 := Lib.hid ha4.2
    have HP := Lib.hid hP
    have HCN := Lib.hid hcn
    have HPl := Lib.hid hPl
    have HPp := Lib.hid hPp
    have hP2 : (P.length : Int) ≤ 9000 := by omega
    clear ha4 hP hcn hPl hPp
    go_wp2_with fail
    refine (cutR_any _ l _ zs w4 (HA.out.later (below_of HB3.out HB4.out)) (HR.out.later (below_of HB3.out HB4.out)) (by have := HLb.out; omega) (by have := HZ.out; omega) HZS.out).mono ?_
    rintro e w5 ⟨v5, rfl, hc5, hb5⟩
    rw [← HCN.out]
    rw [← HP.out] at hc5
    have HC5 := Lib.hid hc5
    have HB5 := Lib.hid hb5
    clear hc5 hb5
    go_wp2_with fail
    refine (same_any _ _ P w5 (HC4.out.later HB5.out) HC5.out (by have := HPl.out; omega)).mono ?_
    rintro e w6 ⟨rfl, hb6⟩
    have HB6 := Lib.hid (below_of HB4.out (below_of HB5.out hb6))
    have HM6 := Lib.hid (HM4.out.later (below_of HB5.out hb6))
    clear hb6 HC4 HC5 HM4
    go_wp2_with fail
    refine (num_any _ _).mono ?_
    rintro e wn ⟨rfl, rfl⟩
    go_wp2_with fail
    go_loopw [12] (fun i wr => ∃ k : Nat, k ≤ P.length ∧ i = .int .i64 k ∧ Hid (Mod w3.heap.size wr a4 P) ∧ Hid (Below w3.heap.size w3 wr)) (fun i _ => P.length - (intOf i).toNat)
    case atStart => exact ⟨0, Nat.zero_le _, rfl, HM6.out, HB6.out⟩
    case round =>
      obtain ⟨i, hi, rfl, HM, HB⟩ := hrel
      obtain ⟨wo, hwo⟩ : ∃ wo : World, wo = wr := ⟨_, rfl⟩
      rw [← hwo] at HM HB ⊢
      clear hwo
      rcases Nat.lt_or_ge i P.length with hlt | hge
      · have g2 : (i : Int) < P.length := by omega
        go_wp2_with fail
        go_loopw [13] (fun j wr => ∃ k : Nat, k ≤ P[i].length ∧ j = .int .i64 k ∧ Hid (Mod w3.heap.size wr a4 P) ∧ Hid (Below w3.heap.size w3 wr)) (fun j _ => P[i].length - (intOf j).toNat)
        case atStart => exact ⟨0, Nat.zero_le _, rfl, HM.out, HB.out⟩
        case round =>
          obtain ⟨k, hk, rfl, HMi, HBi⟩ := hrel
          obtain ⟨bx, ox, x, dx, rfl, hc, hkk⟩ := HMi.out i hlt
          obtain ⟨n, hn⟩ : ∃ n, n = P[i].length := ⟨_, rfl⟩
          rw [← hn] at hk hc hkk ⊢
          have hn9 : (n : Int) ≤ 9000 := by have := HPp.out _ (List.getElem_mem hlt); omega
          have b1 : bx < wr.heap.size := World.block_lt_of_cell? _ _ hc
          clear hn
          rcases Nat.lt_or_ge k n with hlt2 | hge2
          · have g3 : (k : Int) < n := by omega
            obtain ⟨gx, o, rfl, hgx, hfr, z, hz, hcz⟩ := hkk k hlt2
            have b2 : gx < wr.heap.size := World.block_lt_of_cell? _ _ hcz
            clear hkk
            go_wp2_with fail
            go_still_tail 13, (by kernel_rfl)
            change wpList _ _ _ _ _ wr.drew
            have hwy : IntKind.u8.wrap ((z : Int) + 1) = ((z : Int) + 1) % 256 := wrap8 _
            have HM2 := Lib.hid (Mod.set (HMi.out.drew) (p := ⟨gx, o + k, none⟩) (z0 := z) (by exact hcz) (((z : Int) + 1) % 256) (by omega) (by omega))
            have HB2i : Hid (Below w3.heap.size w3 ((wr.drew).setCell ⟨gx, o + k, none⟩ (.int .u8 (((z : Int) + 1) % 256)))) := (HBi.out.drew).setCell hgx _
            go_wp2_with fail
            go_roundw
            case rel => exact ⟨k + 1, by omega, by go_num, HM2, HB2i⟩
            case measure => simp [intOf]; omega
          · have g3 : (n : Int) ≤ k := by omega
            clear hkk
            go_wp2_with fail
            go_roundw
            case rel => exact ⟨i + 1, by omega, by go_num, HMi, HBi⟩
            case measure => simp [intOf]; omega
      · have e : i = P.length := by omega
        subst e
        have hA9 := HA.out.later (below_of HB3.out HB.out)
        have hO9 := HV3.out.later HB.out
        obtain ⟨s7, hs7⟩ : ∃ s : ByteArray, s = ⟨l7.toArray⟩ := ⟨_, rfl⟩
        obtain ⟨s0, hs0⟩ : ∃ s : ByteArray, s = ⟨l.toArray⟩ := ⟨_, rfl⟩
        have hc7 := hO9.str (P := Tryd.prog) Tryd.underlying23 Tryd.underlying5 Tryd.underlying9
        have hc0 := hA9.str (P := Tryd.prog) Tryd.underlying23 Tryd.underlying5 Tryd.underlying9
        rw [← hs7] at hc7
        rw [← hs0] at hc0
        have HS7 := Lib.hid hs7
        have HS0 := Lib.hid hs0
        have hsz : (s0.size : Int) ≤ 9000 := by
          have e : s0.size = l.length := by rw [hs0]; simp [ByteArray.size]
          have := HLb.out
          omega
        have heq : s7.toList = (s0 ++ ⟨#[7]⟩).toList := by
          rw [hs7, hs0, HL7.out]
          have e : (⟨l.toArray⟩ ++ ⟨#[7]⟩ : ByteArray) = ⟨(l ++ [7]).toArray⟩ := by
            apply ByteArray.ext
            simp
          rw [e]
        clear hA9 hO9 hs7 hs0
        go_wp2_with fail
        refine (known_any _ (g.below (below_of HB3.out HB.out))).mono ?_
        rintro e w8 ⟨rfl, hb8⟩
        go_wp2_with fail
        go_ret
        exact ⟨rfl, below_of (below_of HB3.out HB.out) hb8⟩
  refine wpAnyH_cut #[true, true, true, true, true, false, false] 2 (fun A w1 => ∃ x14 x15 x16 x17 x18 x19 x20 x21 x22 x23 x24 x25 v28 v31 : Value, A = ⟨#[.slice b L.length d, .slice a l.length c, .slice bz zs.length cz, undef, undef, undef, .bool false, undef, undef, undef, undef, undef, undef, undef, x14, x15, x16, x17, x18, x19, x20, x21, x22, x23, x24, x25, undef, .slice b L.length d, v28, .string sF, .slice b L.length d, v31, undef, undef, undef, undef, undef, undef, undef, undef, undef, undef, undef, undef, undef, undef, undef, undef, undef, undef, undef, undef, undef, undef, undef, undef, undef, undef, undef, undef, undef, undef, undef, undef, undef, undef, undef, undef, undef, undef, undef, undef, undef, undef, undef, undef, undef, undef, undef, undef, undef, undef, undef, undef, undef, undef, undef, undef, undef, undef, undef, undef, undef, undef, undef, undef, undef, undef, undef, undef, undef], []⟩ ∧ Hid (Bytes w1 v31 L.flatten)) ?_ (fun m1 => ?_)
  · rintro l A w1 rfl ⟨x14, x15, x16, x17, x18, x19, x20, x21, x22, x23, x24, x25, v28, v31, rfl, F31⟩ hHeld
    refine wpAnyH_ready (rs := [5]) (by kernel_rfl) (by simp) ?_
    refine AllReadyH.cons rfl (fun K hK => ?_) AllReadyH.nil
    go_simp
    rw [F31.out.str Tryd.underlying23 Tryd.underlying5 Tryd.underlying9]
    simp only [Result.andThen]
    rw [← HSF.out]
    have hs : Below (World.heap w1).size w1 w1 := Below.refl _ _
    refine hK.out _ _ (hHeld.trans (hs.mono hHeld.size)) (fun hHeldN => ?_)
    try simp only [Act.put, List.setIfInBounds_toArray, List.set_cons_zero, List.set_cons_succ, List.getElem_toArray, List.getElem_cons_zero, List.getElem_cons_succ]
    (have hHeldO := hHeld; clear hHeld; have hHeld := hHeldN)
    (refine wpAnyH_take (i := 6) (v := ?_) rfl (by kernel_rfl) (by kernel_rfl) (by kernel_rfl) (fun _ _ _ h => h) (Or.inl ⟨by rfl, ?_⟩) hHeld ?_; rotate_left; (focus (intro w hSw; (try dsimp only at hSw); go_simp; try with_reducible rfl)); (try simp only [Act.put, List.setIfInBounds_toArray, List.set_cons_zero, List.set_cons_succ, List.getElem_toArray, List.getElem_cons_zero, List.getElem_cons_succ]))
    exact m0 _ _ _ (by kernel_rfl) ⟨_, _, _, _, _, _, _, _, _, _, _, _, _, _, rfl⟩ hHeldN
  refine wpAnyH_cut #[true, true, true, true, false, false, false] 3 (fun A w1 => ∃ x14 x15 x16 x17 x18 x19 x20 x21 x22 x23 x24 x25 v28 : Value, A = ⟨#[.slice b L.length d, .slice a l.length c, .slice bz zs.length cz, undef, undef, undef, .bool false, undef, undef, undef, undef, undef, undef, undef, x14, x15, x16, x17, x18, x19, x20, x21, x22, x23, x24, x25, undef, .slice b L.length d, v28, .string sF, .slice b L.length d, undef, undef, undef, undef, undef, undef, undef, undef, undef, undef, undef, undef, undef, undef, undef, undef, undef, undef, undef, undef, undef, undef, undef, undef, undef, undef, undef, undef, undef, undef, undef, undef, undef, undef, undef, undef, undef, undef, undef, undef, undef, undef, undef, undef, undef, undef, undef, undef, undef, undef, undef, undef, undef, undef, undef, undef, undef, undef, undef, undef, undef, undef, undef, undef, undef, undef, undef, undef, undef, undef], []⟩ ∧ Hid (Bytes w1 v28 L.flatten)) ?_ (fun m2 => ?_)
  · rintro l A w1 rfl ⟨x14, x15, x16, x17, x18, x19, x20, x21, x22, x23, x24, x25, v28, rfl, F28⟩ hHeld
    refine wpAnyH_ready (rs := [4]) (by kernel_rfl) (by simp) ?_
    refine AllReadyH.cons rfl (fun K hK => ?_) AllReadyH.nil
    go_simp
    refine (joinR_any _ L w1 (HV.out.later hHeld) (by have := HL.out; omega) (by have := HL.out; omega)).mono ?_
    rintro e w_n ⟨vN, rfl, hv1, hs⟩
    have hF := Lib.hid hv1
    clear hv1
    simp only []
    refine hK.out _ _ (hHeld.trans (hs.mono hHeld.size)) (fun hHeldN => ?_)
    exact m1 _ _ _ (by kernel_rfl) ⟨_, _, _, _, _, _, _, _, _, _, _, _, _, _, rfl, hF⟩ hHeldN
  refine wpAnyH_cut #[true, true, false, true, true, true, false] 2 (fun A w1 => ∃ x14 x15 x16 x17 x18 x19 x20 x21 x22 x23 x24 x25 v28 v31 : Value, A = ⟨#[.slice b L.length d, .slice a l.length c, .slice bz zs.length cz, undef, undef, undef, .bool false, undef, undef, undef, undef, undef, undef, undef, x14, x15, x16, x17, x18, x19, x20, x21, x22, x23, x24, x25, undef, .slice b L.length d, v28, undef, .slice b L.length d, v31, .string sF, undef, undef, undef, undef, undef, undef, undef, undef, undef, undef, undef, undef, undef, undef, undef, undef, undef, undef, undef, undef, undef, undef, undef, undef, undef, undef, undef, undef, undef, undef, undef, undef, undef, undef, undef, undef, undef, undef, undef, undef, undef, undef, undef, undef, undef, undef, undef, undef, undef, undef, undef, undef, undef, undef, undef, undef, undef, undef, undef, undef, undef, undef, undef, undef, undef, undef, undef, undef], []⟩ ∧ Hid (Bytes w1 v28 L.flatten)) ?_ (fun m3 => ?_)
  · rintro l A w1 rfl ⟨x14, x15, x16, x17, x18, x19, x20, x21, x22, x23, x24, x25, v28, v31, rfl, F28⟩ hHeld
    refine wpAnyH_ready (rs := [2]) (by kernel_rfl) (by simp) ?_
    refine AllReadyH.cons rfl (fun K hK => ?_) AllReadyH.nil
    go_simp
    rw [F28.out.str Tryd.underlying23 Tryd.underlying5 Tryd.underlying9]
    simp only [Result.andThen]
    rw [← HSF.out]
    have hs : Below (World.heap w1).size w1 w1 := Below.refl _ _
    refine hK.out _ _ (hHeld.trans (hs.mono hHeld.size)) (fun hHeldN => ?_)
    try simp only [Act.put, List.setIfInBounds_toArray, List.set_cons_zero, List.set_cons_succ, List.getElem_toArray, List.getElem_cons_zero, List.getElem_cons_succ]
    (have hHeldO := hHeld; clear hHeld; have hHeld := hHeldN)
    (refine wpAnyH_take (i := 6) (v := ?_) rfl (by kernel_rfl) (by kernel_rfl) (by kernel_rfl) (fun _ _ _ h => h) (Or.inl ⟨by rfl, ?_⟩) hHeld ?_; rotate_left; (focus (intro w hSw; (try dsimp only at hSw); go_simp; try with_reducible rfl)); (try simp only [Act.put, List.setIfInBounds_toArray, List.set_cons_zero, List.set_cons_succ, List.getElem_toArray, List.getElem_cons_zero, List.getElem_cons_succ]))
    exact m0 _ _ _ (by kernel_rfl) ⟨_, _, _, _, _, _, _, _, _, _, _, _, _, _, rfl⟩ hHeldN
  refine wpAnyH_cut #[true, true, false, true, true, false, false] 3 (fun A w1 => ∃ x14 x15 x16 x17 x18 x19 x20 x21 x22 x23 x24 x25 v28 v31 : Value, A = ⟨#[.slice b L.length d, .slice a l.length c, .slice bz zs.length cz, undef, undef, undef, .bool false, undef, undef, undef, undef, undef, undef, undef, x14, x15, x16, x17, x18, x19, x20, x21, x22, x23, x24, x25, undef, .slice b L.length d, v28, undef, .slice b L.length d, v31, undef, undef, undef, undef, undef, undef, undef, undef, undef, undef, undef, undef, undef, undef, undef, undef, undef, undef, undef, undef, undef, undef, undef, undef, undef, undef, undef, undef, undef, undef, undef, undef, undef, undef, undef, undef, undef, undef, undef, undef, undef, undef, undef, undef, undef, undef, undef, undef, undef, undef, undef, undef, undef, undef, undef, undef, undef, undef, undef, undef, undef, undef, undef, undef, undef, undef, undef, undef, undef], []⟩ ∧ Hid (Bytes w1 v28 L.flatten) ∧ Hid (Bytes w1 v31 L.flatten)) ?_ (fun m4 => ?_)
  · rintro l A w1 rfl ⟨x14, x15, x16, x17, x18, x19, x20, x21, x22, x23, x24, x25, v28, v31, rfl, F28, F31⟩ hHeld
    refine wpAnyH_ready (rs := [2, 5]) (by kernel_rfl) (by simp) ?_
    refine AllReadyH.cons rfl (fun K hK => ?_) (AllReadyH.cons rfl (fun K hK => ?_) AllReadyH.nil)
    · go_simp
      rw [F28.out.str Tryd.underlying23 Tryd.underlying5 Tryd.underlying9]
      simp only [Result.andThen]
      rw [← HSF.out]
      have hs : Below (World.heap w1).size w1 w1 := Below.refl _ _
      refine hK.out _ _ (hHeld.trans (hs.mono hHeld.size)) (fun hHeldN => ?_)
      exact m1 _ _ _ (by kernel_rfl) ⟨_, _, _, _, _, _, _, _, _, _, _, _, _, _, rfl, Lib.hid (F31.out.later hs)⟩ hHeldN
    · go_simp
      rw [F31.out.str Tryd.underlying23 Tryd.underlying5 Tryd.underlying9]
      simp only [Result.andThen]
      rw [← HSF.out]
      have hs : Below (World.heap w1).size w1 w1 := Below.refl _ _
      refine hK.out _ _ (hHeld.trans (hs.mono hHeld.size)) (fun hHeldN => ?_)
      exact m3 _ _ _ (by kernel_rfl) ⟨_, _, _, _, _, _, _, _, _, _, _, _, _, _, rfl, Lib.hid (F28.out.later hs)⟩ hHeldN
  refine wpAnyH_cut #[true, true, false, true, false, false, false] 4 (fun A w1 => ∃ x14 x15 x16 x17 x18 x19 x20 x21 x22 x23 x24 x25 v28 : Value, A = ⟨#[.slice b L.length d, .slice a l.length c, .slice bz zs.length cz, undef, undef, undef, .bool false, undef, undef, undef, undef, undef, undef, undef, x14, x15, x16, x17, x18, x19, x20, x21, x22, x23, x24, x25, undef, .slice b L.length d, v28, undef, .slice b L.length d, undef, undef, undef, undef, undef, undef, undef, undef, undef, undef, undef, undef, undef, undef, undef, undef, undef, undef, undef, undef, undef, undef, undef, undef, undef, undef, undef, undef, undef, undef, undef, undef, undef, undef, undef, undef, undef, undef, undef, undef, undef, undef, undef, undef, undef, undef, undef, undef, undef, undef, undef, undef, undef, undef, undef, undef, undef, undef, undef, undef, undef, undef, undef, undef, undef, undef, undef, undef, undef, undef], []⟩ ∧ Hid (Bytes w1 v28 L.flatten)) ?_ (fun m5 => ?_)
  · rintro l A w1 rfl ⟨x14, x15, x16, x17, x18, x19, x20, x21, x22, x23, x24, x25, v28, rfl, F28⟩ hHeld
    refine wpAnyH_ready (rs := [2, 4]) (by kernel_rfl) (by simp) ?_
    refine AllReadyH.cons rfl (fun K hK => ?_) (AllReadyH.cons rfl (fun K hK => ?_) AllReadyH.nil)
    · go_simp
      rw [F28.out.str Tryd.underlying23 Tryd.underlying5 Tryd.underlying9]
      simp only [Result.andThen]
      rw [← HSF.out]
      have hs : Below (World.heap w1).size w1 w1 := Below.refl _ _
      refine hK.out _ _ (hHeld.trans (hs.mono hHeld.size)) (fun hHeldN => ?_)
      exact m2 _ _ _ (by kernel_rfl) ⟨_, _, _, _, _, _, _, _, _, _, _, _, _, rfl, Lib.hid (F28.out.later hs)⟩ hHeldN
    · go_simp
      refine (joinR_any _ L w1 (HV.out.later hHeld) (by have := HL.out; omega) (by have := HL.out; omega)).mono ?_
      rintro e w_n ⟨vN, rfl, hv1, hs⟩
      have hF := Lib.hid hv1
      clear hv1
      simp only []
      refine hK.out _ _ (hHeld.trans (hs.mono hHeld.size)) (fun hHeldN => ?_)
      exact m4 _ _ _ (by kernel_rfl) ⟨_, _, _, _, _, _, _, _, _, _, _, _, _, _, rfl, Lib.hid (F28.out.later hs), hF⟩ hHeldN
  (refine wpAnyH_take (i := 0) (v := ?_) rfl (by kernel_rfl) (by kernel_rfl) (by kernel_rfl) (fun _ _ _ h => h) (Or.inl ⟨by rfl, ?_⟩) hHeld ?_; rotate_left; (focus (intro w hSw; (try dsimp only at hSw); go_simp; try with_reducible rfl)); (try simp only [Act.put, List.setIfInBounds_toArray, List.set_cons_zero, List.set_cons_succ, List.getElem_toArray, List.getElem_cons_zero])); (refine wpAnyH_take (i := 3) (v := ?_) rfl (by kernel_rfl) (by kernel_rfl) (by kernel_rfl) (fun _ _ _ h => h) (Or.inl ⟨by rfl, ?_⟩) hHeld ?_; rotate_left; (focus (intro w hSw; (try dsimp only at hSw); go_simp; try with_reducible rfl)); (try simp only [Act.put, List.setIfInBounds_toArray, List.set_cons_zero, List.set_cons_succ, List.getElem_toArray, List.getElem_cons_zero, List.getElem_cons_succ]))
  refine wpAnyH_ready (rs := [1]) (by kernel_rfl) (by simp) ?_
  refine AllReadyH.cons rfl (fun K hK => ?_) AllReadyH.nil
  go_simp
  refine (joinW_any _ L w0 (HV.out.later hHeld) (by have := HL.out; omega) (by have := HL.out; omega)).mono ?_
  rintro e w_n ⟨vN, rfl, hv1, hs⟩
  have hF := Lib.hid hv1
  clear hv1
  simp only []
  refine hK.out _ _ (hHeld.trans (hs.mono hHeld.size)) (fun hHeldN => ?_)
  exact m5 _ _ _ (by kernel_rfl) ⟨_, _, _, _, _, _, _, _, _, _, _, _, _, rfl, hF⟩ hHeldN
set_option maxHeartbeats 1000000 in
theorem wireParts_no (b : Option Addr) (d : Nat) (L : List (List UInt8)) (a : Option Addr) (c m : Nat) (bz : Option Addr) (cz n : Nat) (w : World) (g : Gl w)
    (hv : Lists w (.slice b L.length d) L) (hLL : L.length ≤ 9223372036854775807) (hS : ∀ l ∈ L, l.length ≤ 9223372036854775807) (h : muchB L = true ∨ 9000 < m ∨ 9000 < n) :
    Calls Tryd.prog 3 #[.slice b L.length d, .slice a m c, .slice bz n cz] w fun e w' => e = .returned (.bool true) ∧ Below w.heap.size w w' := by
  have HV := Lib.hid hv
  have HS := Lib.hid hS
  clear hv hS
  cases hmu : muchB L with
  | true =>
    have HM := Lib.hid hmu
    clear h hmu
    go_enter Tryd.func3, Tryd.ntmps3
    go_wp2_with fail
    refine (much_any _ L w HV.out hLL HS.out).mono ?_
    rintro e w0 ⟨rfl, rfl⟩
    rw [HM.out]
    go_wp2_with fail
    refine (known_any _ g).mono ?_
    rintro e w8 ⟨rfl, hb8⟩
    go_wp2_with fail
    go_ret
    exact ⟨rfl, hb8⟩
  | false =>
    have HM := Lib.hid hmu
    by_cases hm : 9000 < m
    · have g0 : (9000 : Int) < m := by omega
      clear h hmu hm
      go_enter Tryd.func3, Tryd.ntmps3
      go_wp2_with fail
      refine (much_any _ L w HV.out hLL HS.out).mono ?_
      rintro e w0 ⟨rfl, rfl⟩
      rw [HM.out]
      go_wp2_with fail
      refine (known_any _ g).mono ?_
      rintro e w8 ⟨rfl, hb8⟩
      go_wp2_with fail
      go_ret
      exact ⟨rfl, hb8⟩
    · have hn : 9000 < n := by
        rcases h with h | h | h
        · rw [hmu] at h; cases h
        · exact absurd h hm
        · exact h
      have g0 : (m : Int) ≤ 9000 := by omega
      have g1 : (9000 : Int) < n := by omega
      clear h hmu hm hn
      go_enter Tryd.func3, Tryd.ntmps3
      go_wp2_with fail
      refine (much_any _ L w HV.out hLL HS.out).mono ?_
      rintro e w0 ⟨rfl, rfl⟩
      rw [HM.out]
      go_wp2_with fail
      refine (known_any _ g).mono ?_
      rintro e w8 ⟨rfl, hb8⟩
      go_wp2_with fail
      go_ret
      exact ⟨rfl, hb8⟩
theorem wireParts_walk (v : Value) (L : List (List UInt8)) (u : Value) (l : List UInt8) (z : Value) (zs : List Int) (w : World) (g : Gl w) (hv : Lists w v L) (hLL : L.length ≤ 9223372036854775807) (hS : ∀ l ∈ L, l.length ≤ 9223372036854775807)
    (hb : Bytes w u l) (_hl : l.length ≤ 9223372036854775807) (hr : Row w z (iv zs)) (_hz : zs.length ≤ 9223372036854775807) (hzs : ∀ z ∈ zs, -9223372036854775808 ≤ z ∧ z ≤ 9223372036854775807) :
    Calls Tryd.prog 3 #[v, u, z] w fun e w' => e = .returned (.bool true) ∧ Below w.heap.size w w' := by
  obtain ⟨b, d, rfl⟩ := hv.form
  obtain ⟨a, c, rfl⟩ := hb.form
  obtain ⟨bz, cz, rfl⟩ := hr.form
  rw [show (iv zs).length = zs.length by simp [iv]] at hr ⊢
  by_cases h : muchB L = true ∨ 9000 < l.length ∨ 9000 < zs.length
  · exact wireParts_no b d L a c l.length bz cz zs.length w g hv hLL hS h
  · have h1 : ¬ 9000 < L.length + L.flatten.length := by
      intro h2
      exact h (.inl (by unfold muchB; exact decide_eq_true h2))
    exact wireParts_yes b d L a c l bz cz zs w g hv (by omega) hLL hS hb (by omega) hr (by omega) hzs
end Go.Proofs.YtlgdmfbpkmokaaaDoor
