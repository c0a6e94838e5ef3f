/- The walk of the law SumOrder. -/
import Derived.Test.YtlgdmfbpkmokaaaSo
import Derived.Test.YtlgdmfbpkmokaaaRg
import Derived.Test.YtlgdmfbpkmokaaaAp
namespace Go.Proofs.Ytlgdmfbpkmokaaa
open Go.RowKit
attribute [local go_sem ↓] Go.wp_at_zero Go.wp_at_succ

set_option maxHeartbeats 40000000 in
set_option maxRecDepth 100000 in
theorem sumOrder_yes (a : Option Addr) (c k : Nat) (l : List UInt8) (w : World) (hb : Bytes w (.slice a l.length c) l) (hl : l.length ≤ 9000) (hk : 2 * k ≤ l.length) :
    Calls Try.prog 6 #[.slice a l.length c, .int .i64 (k : Int)] w fun e w' => e = .returned (.bool true) ∧ Below w.heap.size w w' := by
  obtain ⟨a', hrl, hR⟩ := hb.cut_l (2 * (k : Int)) (2 * k) (by omega) hk
  obtain ⟨hrh, hP⟩ := hb.cut_h (2 * (k : Int)) (2 * k) (by omega) hk
  have HV := Lib.hid hb
  have HR := Lib.hid hR
  have HP := Lib.hid hP
  obtain ⟨t, ht⟩ : ∃ t, t = Sm.tot l := ⟨_, rfl⟩
  have HT2 : Hid (Sm.tot ([] ++ l.take (2 * k) ++ [0, 0] ++ l.drop (2 * k)) = t) := by
    show _ = _
    rw [List.nil_append, Sm.tot_wide hk, ht]
  have HT := Lib.hid ht
  have g1 : (l.length : Int) ≤ 9000 := by omega
  have g2 : (k : Int) ≤ (l.length : Int) / 2 := by omega
  clear hb hR hP ht
  go_enter Try.func6, Try.ntmps6
  go_wp2_with fail
  (refine wp_region_held_drew (S := (fun w' => Below w.heap.size w w')) (by kernel_rfl) ?_ (fun hHeld => ?_); (focus ((try dsimp only); (exact (Below.refl _ _).drew))))
  (refine wpAnyH_take (i := 0) (v := ?_) rfl (by kernel_rfl) (by kernel_rfl) (by kernel_rfl) (fun _ _ _ h => h) (Or.inl ⟨by rfl, ?_⟩) hHeld ?_; rotate_left; (focus (intro w hSw; (try dsimp only at hSw); go_simp; try with_reducible rfl)); (try simp only [Act.put, List.setIfInBounds_toArray, List.set_cons_zero, List.set_cons_succ, List.getElem_toArray, List.getElem_cons_zero])); (refine wpAnyH_take (i := 1) (v := ?_) rfl (by kernel_rfl) (by kernel_rfl) (by kernel_rfl) (fun _ _ _ h => h) (Or.inl ⟨by rfl, ?_⟩) hHeld ?_; rotate_left; (focus (intro w hSw; (try dsimp only at hSw); go_simp; try with_reducible rfl)); (try simp only [Act.put, List.setIfInBounds_toArray, List.set_cons_zero, List.set_cons_succ, List.getElem_toArray, List.getElem_cons_zero, List.getElem_cons_succ])); (refine wpAnyH_take (i := 2) (v := ?_) rfl (by kernel_rfl) (by kernel_rfl) (by kernel_rfl) (fun _ _ _ h => h) (Or.inl ⟨by rfl, ?_⟩) hHeld ?_; rotate_left; (focus (intro w hSw; (try dsimp only at hSw); go_simp; try with_reducible rfl)); (try simp only [Act.put, List.setIfInBounds_toArray, List.set_cons_zero, List.set_cons_succ, List.getElem_toArray, List.getElem_cons_zero, List.getElem_cons_succ])); (refine wpAnyH_take (i := 4) (v := ?_) rfl (by kernel_rfl) (by kernel_rfl) (by kernel_rfl) (fun _ _ _ h => h) (Or.inl ⟨by rfl, ?_⟩) hHeld ?_; rotate_left; (focus (intro w hSw; (try dsimp only at hSw); go_simp; try with_reducible rfl)); (try simp only [Act.put, List.setIfInBounds_toArray, List.set_cons_zero, List.set_cons_succ, List.getElem_toArray, List.getElem_cons_zero, List.getElem_cons_succ])); (refine wpAnyH_take (i := 5) (v := ?_) rfl (by kernel_rfl) (by kernel_rfl) (by kernel_rfl) (fun _ _ _ h => h) (Or.inl ⟨by rfl, ?_⟩) hHeld ?_; rotate_left; (focus (intro w hSw; (try dsimp only at hSw); go_simp; try with_reducible rfl)); (try simp only [Act.put, List.setIfInBounds_toArray, List.set_cons_zero, List.set_cons_succ, List.getElem_toArray, List.getElem_cons_zero, List.getElem_cons_succ])); (refine wpAnyH_take (i := 6) (v := ?_) rfl (by kernel_rfl) (by kernel_rfl) (by kernel_rfl) (fun _ _ _ h => h) (Or.inl ⟨by rfl, ?_⟩) hHeld ?_; rotate_left; (focus (intro w hSw; (try dsimp only at hSw); go_simp; try with_reducible rfl)); (try simp only [Act.put, List.setIfInBounds_toArray, List.set_cons_zero, List.set_cons_succ, List.getElem_toArray, List.getElem_cons_zero, List.getElem_cons_succ]))
  (refine wpAnyH_ready (rs := [3]) (by kernel_rfl) (by simp) ?_; refine AllReadyH.cons rfl (fun K hK => ?_) AllReadyH.nil; refine step_app rfl _ _ rfl w.heap.size (.slice none 0 0) _ [] (l.drop (2 * k)) (by rfl) (by rfl) (OwnB.nil _ _) (HR.out.later hHeld) (by simp; omega) hHeld.size ?_; intro v1 w1 ho1 hb1 hg1; refine hK.out _ _ ?_ (fun hHeldN => ?_); (focus ((try dsimp only); exact hHeld.trans hb1)); clear hK K hHeld; have hHeld := hHeldN; clear hHeldN; (try simp only [Act.put, List.setIfInBounds_toArray, List.set_cons_zero, List.set_cons_succ, List.getElem_toArray, List.getElem_cons_zero, List.getElem_cons_succ]))
  (refine wpAnyH_ready (rs := [7]) (by kernel_rfl) (by simp) ?_; refine AllReadyH.cons rfl (fun K hK => ?_) AllReadyH.nil; refine step_app rfl _ _ rfl w.heap.size v1 _ ([] ++ l.drop (2 * k)) (l.take (2 * k)) (by rfl) (by rfl) ho1 (HP.out.later hHeld) (by simp; omega) hHeld.size ?_; intro v2 wA ho2 hb2 hg2; refine hK.out _ _ ?_ (fun hHeldN => ?_); (focus ((try dsimp only); exact hHeld.trans hb2)); clear hK K hHeld; have hHeld := hHeldN; clear hHeldN; (try simp only [Act.put, List.setIfInBounds_toArray, List.set_cons_zero, List.set_cons_succ, List.getElem_toArray, List.getElem_cons_zero, List.getElem_cons_succ]))
  (refine wpAnyH_take (i := 8) (v := ?_) rfl (by kernel_rfl) (by kernel_rfl) (by kernel_rfl) (fun _ _ _ h => h) (Or.inl ⟨by rfl, ?_⟩) hHeld ?_; rotate_left; (focus (intro w hSw; (try dsimp only at hSw); go_simp; try with_reducible rfl)); (try simp only [Act.put, List.setIfInBounds_toArray, List.set_cons_zero, List.set_cons_succ, List.getElem_toArray, List.getElem_cons_zero, List.getElem_cons_succ]))
  refine wpAnyH_done (by kernel_rfl) ?_ _
  have hy := ho2.bytes
  obtain ⟨l1, hl1⟩ : ∃ l1, l1 = [] ++ l.drop (2 * k) ++ l.take (2 * k) := ⟨_, rfl⟩
  rw [← hl1] at hy
  obtain ⟨a1, c1, rfl⟩ := hy.form
  have HL1 := Lib.hid hl1
  have HA1 := Lib.hid hy
  have HA2 := Lib.hid hHeld
  clear hl1 hy hHeld ho1 hb1 hg1 ho2 hb2 hg2
  go_wp2_with fail
  (refine wp_region_held_drew (S := (fun w' => Below wA.heap.size wA w')) (by kernel_rfl) ?_ (fun hHeld => ?_); (focus ((try dsimp only); (exact (Below.refl _ _).drew))))
  obtain ⟨w0, hw0⟩ : ∃ w0, w0 = World.drew wA := ⟨_, rfl⟩
  rw [← hw0]
  rw [← hw0] at hHeld
  clear hw0
  refine wpAnyH_cut #[true, true, true, true, true, true, true, true, true, true, true] 0 (fun A w1 => ∃ x8 x9 x10 x11 x12 x13 x14 x15 x16 x17 x18 x19 x20 x21 x23 x24 x25 x26 x27 x28 x29 x30 x31 x32 v36 v37 v38 v42 : Value, A = ⟨#[.slice a l.length c, .int .i64 (k : Int), undef, undef, .bool false, .int .i64 (2 * (k : Int)), .slice a1 l1.length c1, v42, x8, x9, x10, x11, x12, x13, x14, x15, x16, x17, x18, x19, x20, x21, undef, x23, x24, x25, x26, x27, x28, x29, x30, x31, x32, .slice a l.length c, .int .i64 (2 * (k : Int)), .slice a (2 * k) c, v36, v37, v38, .slice a l.length c, .int .i64 (2 * (k : Int)), .slice a' (l.length - 2 * k) (c - 2 * k), v42, undef, undef, undef, undef, undef, undef, undef, undef, undef, undef, undef, undef, undef, undef, undef, undef, undef, undef, undef, undef, undef, undef, undef, undef, undef], []⟩ ∧ Hid (OwnB w1 wA.heap.size v42 ([] ++ l.take (2 * k) ++ [0, 0] ++ l.drop (2 * k)))) ?_ (fun m0 => ?_)
  · rintro l A w1 rfl ⟨x8, x9, x10, x11, x12, x13, x14, x15, x16, x17, x18, x19, x20, x21, x23, x24, x25, x26, x27, x28, x29, x30, x31, x32, v36, v37, v38, v42, rfl, F42⟩ hHeld
    refine wpAnyH_done (by kernel_rfl) ?_ _
    have Hv2 : Bytes w1 v42 ([] ++ l.take (2 * k) ++ [0, 0] ++ l.drop (2 * k)) := F42.out.bytes
    have HB2 : Below w.heap.size w w1 := HA2.out.trans (hHeld.mono HA2.out.size)
    have Hv1 : Bytes w1 (.slice a1 l1.length c1) l1 := HA1.out.later hHeld
    obtain ⟨l2, hl2⟩ : ∃ l2, l2 = [] ++ l.take (2 * k) ++ [0, 0] ++ l.drop (2 * k) := ⟨_, rfl⟩
    have hT2 := HT2.out
    rw [← hl2] at Hv2 hT2
    have hL2 : l2.length ≤ 10000 := by rw [hl2]; simp; omega
    have HL2 := Lib.hid hL2
    have HT2 := Lib.hid hT2
    obtain ⟨a2, c2, rfl⟩ := Hv2.form
    have HB := Lib.hid HB2
    have H1 := Lib.hid Hv1
    have H2 := Lib.hid Hv2
    clear hHeld HB2 Hv1 Hv2 F42 hl2 hT2 hL2
    by_cases hodd : l.length % 2 = 1
    · have q1 : (l.length : Int) % 2 = 1 := by omega
      go_wp2_with fail
      refine (total_one _ _ _ H2.out HL2.out).mono ?_
      rintro e w4 ⟨rfl, hb⟩
      rw [HT2.out]
      have HB := Lib.hid (below_of HB.out hb)
      clear hb
      go_wp2_with fail
      refine (total_one _ _ l (HV.out.later HB.out) (by omega)).mono ?_
      rintro e w5 ⟨rfl, hb⟩
      rw [← HT.out]
      have HB := Lib.hid (below_of HB.out hb)
      clear hb
      go_wp2_with fail
      refine (known2_any _).mono ?_
      rintro e w6 ⟨rfl, hb⟩
      go_wp2_with fail
      go_ret
      exact ⟨rfl, below_of HB.out hb⟩
    · have q1 : (l.length : Int) % 2 = 0 := by omega
      have q2 : l.length % 2 = 0 := by omega
      have HT1 : Hid (Sm.tot l1 = t) := by
        show _ = _
        rw [HL1.out, List.nil_append, Sm.tot_turned hk (by omega), HT.out]
      clear hodd
      go_wp2_with fail
      refine (total_one _ _ _ H1.out (by rw [HL1.out]; simp; omega)).mono ?_
      rintro e w3 ⟨rfl, hb⟩
      rw [HT1.out]
      have HB := Lib.hid (below_of HB.out hb)
      have H2 := Lib.hid (H2.out.later hb)
      clear hb
      go_wp2_with fail
      refine (total_one _ _ l (HV.out.later HB.out) (by omega)).mono ?_
      rintro e w5 ⟨rfl, hb⟩
      rw [← HT.out]
      have HB := Lib.hid (below_of HB.out hb)
      have H2 := Lib.hid (H2.out.later hb)
      clear hb
      go_wp2_with fail
      refine (total_one _ _ _ H2.out HL2.out).mono ?_
      rintro e w4 ⟨rfl, hb⟩
      rw [HT2.out]
      have HB := Lib.hid (below_of HB.out hb)
      clear hb
      go_wp2_with fail
      refine (total_one _ _ l (HV.out.later HB.out) (by omega)).mono ?_
      rintro e w5 ⟨rfl, hb⟩
      rw [← HT.out]
      have HB := Lib.hid (below_of HB.out hb)
      clear hb
      go_wp2_with fail
      refine (known2_any _).mono ?_
      rintro e w6 ⟨rfl, hb⟩
      go_wp2_with fail
      go_ret
      exact ⟨rfl, below_of HB.out hb⟩
  refine wpAnyH_cut #[true, true, true, true, true, true, true, true, true, false, false] 2 (fun A w1 => ∃ x8 x9 x10 x11 x12 x13 x14 x15 x16 x17 x18 x19 x20 x21 x23 x24 x25 x26 x27 x28 x29 x30 x31 x32 v36 v37 v38 : Value, A = ⟨#[.slice a l.length c, .int .i64 (k : Int), undef, undef, .bool false, .int .i64 (2 * (k : Int)), .slice a1 l1.length c1, undef, x8, x9, x10, x11, x12, x13, x14, x15, x16, x17, x18, x19, x20, x21, undef, x23, x24, x25, x26, x27, x28, x29, x30, x31, x32, .slice a l.length c, .int .i64 (2 * (k : Int)), .slice a (2 * k) c, v36, v37, v38, .slice a l.length c, .int .i64 (2 * (k : Int)), .slice a' (l.length - 2 * k) (c - 2 * k), undef, undef, undef, undef, undef, undef, undef, undef, undef, undef, undef, undef, undef, undef, undef, undef, undef, undef, undef, undef, undef, undef, undef, undef, undef, undef], []⟩ ∧ Hid (OwnB w1 wA.heap.size v38 ([] ++ l.take (2 * k) ++ [0, 0]))) ?_ (fun m1 => ?_)
  · rintro l A w1 rfl ⟨x8, x9, x10, x11, x12, x13, x14, x15, x16, x17, x18, x19, x20, x21, x23, x24, x25, x26, x27, x28, x29, x30, x31, x32, v36, v37, v38, rfl, F38⟩ hHeld
    refine wpAnyH_ready (rs := [9]) (by kernel_rfl) (by simp) ?_
    refine AllReadyH.cons rfl (fun K hK => ?_) AllReadyH.nil
    refine step_app rfl _ _ rfl wA.heap.size v38 _ ([] ++ l.take (2 * k) ++ [0, 0]) (l.drop (2 * k)) (by rfl) (by rfl) F38.out (HR.out.later (HA2.out.trans (hHeld.mono HA2.out.size))) (by simp; omega) hHeld.size ?_
    intro vN w_n hown hs hg
    have hF := Lib.hid hown
    clear hown hg
    refine hK.out _ _ (hHeld.trans hs) (fun hHeldN => ?_)
    try simp only [Act.put, List.setIfInBounds_toArray, List.set_cons_zero, List.set_cons_succ, List.getElem_toArray, List.getElem_cons_zero, List.getElem_cons_succ]
    (have hHeldO := hHeld; clear hHeld; have hHeld := hHeldN)
    (refine wpAnyH_take (i := 10) (v := ?_) rfl (by kernel_rfl) (by kernel_rfl) (by kernel_rfl) (fun _ _ _ h => h) (Or.inl ⟨by rfl, ?_⟩) hHeld ?_; rotate_left; (focus (intro w hSw; (try dsimp only at hSw); go_simp; try with_reducible rfl)); (try simp only [Act.put, List.setIfInBounds_toArray, List.set_cons_zero, List.set_cons_succ, List.getElem_toArray, List.getElem_cons_zero, List.getElem_cons_succ]))
    exact m0 _ _ _ (by kernel_rfl) ⟨_, _, _, _, _, _, _, _, _, _, _, _, _, _, _, _, _, _, _, _, _, _, _, _, _, _, _, _, rfl, hF⟩ hHeldN
  refine wpAnyH_cut #[true, true, true, true, true, false, true, true, true, false, false] 3 (fun A w1 => ∃ x8 x9 x10 x11 x12 x13 x14 x15 x16 x17 x18 x19 x20 x21 x23 x24 x25 x26 x27 x28 x29 x30 x31 x32 v36 v37 : Value, A = ⟨#[.slice a l.length c, .int .i64 (k : Int), undef, undef, .bool false, .int .i64 (2 * (k : Int)), .slice a1 l1.length c1, undef, x8, x9, x10, x11, x12, x13, x14, x15, x16, x17, x18, x19, x20, x21, undef, x23, x24, x25, x26, x27, x28, x29, x30, x31, x32, .slice a l.length c, .int .i64 (2 * (k : Int)), .slice a (2 * k) c, v36, v37, undef, .slice a l.length c, .int .i64 (2 * (k : Int)), .slice a' (l.length - 2 * k) (c - 2 * k), undef, undef, undef, undef, undef, undef, undef, undef, undef, undef, undef, undef, undef, undef, undef, undef, undef, undef, undef, undef, undef, undef, undef, undef, undef, undef], []⟩ ∧ Hid (OwnB w1 wA.heap.size v36 ([] ++ l.take (2 * k))) ∧ Hid (Bytes w1 v37 [0, 0])) ?_ (fun m2 => ?_)
  · rintro l A w1 rfl ⟨x8, x9, x10, x11, x12, x13, x14, x15, x16, x17, x18, x19, x20, x21, x23, x24, x25, x26, x27, x28, x29, x30, x31, x32, v36, v37, rfl, F36, F37⟩ hHeld
    refine wpAnyH_ready (rs := [5]) (by kernel_rfl) (by simp) ?_
    refine AllReadyH.cons rfl (fun K hK => ?_) AllReadyH.nil
    refine step_app rfl _ _ rfl wA.heap.size v36 v37 ([] ++ l.take (2 * k)) [0, 0] (by rfl) (by rfl) F36.out F37.out (by simp; omega) hHeld.size ?_
    intro vN w_n hown hs hg
    have hF := Lib.hid hown
    clear hown hg
    refine hK.out _ _ (hHeld.trans hs) (fun hHeldN => ?_)
    exact m1 _ _ _ (by kernel_rfl) ⟨_, _, _, _, _, _, _, _, _, _, _, _, _, _, _, _, _, _, _, _, _, _, _, _, _, _, _, rfl, hF⟩ hHeldN
  refine wpAnyH_cut #[true, true, true, true, false, false, true, true, true, false, false] 4 (fun A w1 => ∃ x8 x9 x10 x11 x12 x13 x14 x15 x16 x17 x18 x19 x20 x21 x23 x24 x25 x26 x27 x28 x29 x30 x31 x32 v36 : Value, A = ⟨#[.slice a l.length c, .int .i64 (k : Int), undef, undef, .bool false, .int .i64 (2 * (k : Int)), .slice a1 l1.length c1, undef, x8, x9, x10, x11, x12, x13, x14, x15, x16, x17, x18, x19, x20, x21, undef, x23, x24, x25, x26, x27, x28, x29, x30, x31, x32, .slice a l.length c, .int .i64 (2 * (k : Int)), .slice a (2 * k) c, v36, undef, undef, .slice a l.length c, .int .i64 (2 * (k : Int)), .slice a' (l.length - 2 * k) (c - 2 * k), undef, undef, undef, undef, undef, undef, undef, undef, undef, undef, undef, undef, undef, undef, undef, undef, undef, undef, undef, undef, undef, undef, undef, undef, undef, undef], []⟩ ∧ Hid (OwnB w1 wA.heap.size v36 ([] ++ l.take (2 * k)))) ?_ (fun m3 => ?_)
  · rintro l A w1 rfl ⟨x8, x9, x10, x11, x12, x13, x14, x15, x16, x17, x18, x19, x20, x21, x23, x24, x25, x26, x27, x28, x29, x30, x31, x32, v36, rfl, F36⟩ hHeld
    refine wpAnyH_ready (rs := [4]) (by kernel_rfl) (by simp) ?_
    refine AllReadyH.cons rfl (fun K hK => ?_) AllReadyH.nil
    go_simp
    have hs : Below (World.heap w1).size w1 (w1.alloc (.cells #[.int .u8 0, .int .u8 0] 5)) := (Below.refl _ _).alloc (Nat.le_refl _) _
    have hF : Hid (Bytes (w1.alloc (.cells #[.int .u8 0, .int .u8 0] 5)) (.slice (some ⟨(World.heap w1).size, 0, none⟩) 2 2) [0, 0]) := bytes_lit w1 [0, 0]
    refine hK.out _ _ (hHeld.trans (hs.mono hHeld.size)) (fun hHeldN => ?_)
    exact m2 _ _ _ (by kernel_rfl) ⟨_, _, _, _, _, _, _, _, _, _, _, _, _, _, _, _, _, _, _, _, _, _, _, _, _, _, rfl, Lib.hid (F36.out.later hs), hF⟩ hHeldN
  refine wpAnyH_cut #[true, true, true, false, true, false, true, true, true, false, false] 4 (fun A w1 => ∃ x8 x9 x10 x11 x12 x13 x14 x15 x16 x17 x18 x19 x20 x21 x23 x24 x25 x26 x27 x28 x29 x30 x31 x32 v37 : Value, A = ⟨#[.slice a l.length c, .int .i64 (k : Int), undef, undef, .bool false, .int .i64 (2 * (k : Int)), .slice a1 l1.length c1, undef, x8, x9, x10, x11, x12, x13, x14, x15, x16, x17, x18, x19, x20, x21, undef, x23, x24, x25, x26, x27, x28, x29, x30, x31, x32, .slice a l.length c, .int .i64 (2 * (k : Int)), .slice a (2 * k) c, undef, v37, undef, .slice a l.length c, .int .i64 (2 * (k : Int)), .slice a' (l.length - 2 * k) (c - 2 * k), undef, undef, undef, undef, undef, undef, undef, undef, undef, undef, undef, undef, undef, undef, undef, undef, undef, undef, undef, undef, undef, undef, undef, undef, undef, undef], []⟩ ∧ Hid (Bytes w1 v37 [0, 0])) ?_ (fun m4 => ?_)
  · rintro l A w1 rfl ⟨x8, x9, x10, x11, x12, x13, x14, x15, x16, x17, x18, x19, x20, x21, x23, x24, x25, x26, x27, x28, x29, x30, x31, x32, v37, rfl, F37⟩ hHeld
    refine wpAnyH_ready (rs := [3]) (by kernel_rfl) (by simp) ?_
    refine AllReadyH.cons rfl (fun K hK => ?_) AllReadyH.nil
    refine step_app rfl _ _ rfl wA.heap.size (.slice none 0 0) _ [] (l.take (2 * k)) (by rfl) (by rfl) (OwnB.nil _ _) (HP.out.later (HA2.out.trans (hHeld.mono HA2.out.size))) (by simp; omega) hHeld.size ?_
    intro vN w_n hown hb hg
    have hs : Below (World.heap w1).size w1 w_n := (Below.refl _ _).grown hg (Nat.le_refl _) (fun j hj => by simp [Value.ownBlock] at hj)
    have hF := Lib.hid hown
    clear hown hb hg
    refine hK.out _ _ (hHeld.trans (hs.mono hHeld.size)) (fun hHeldN => ?_)
    exact m2 _ _ _ (by kernel_rfl) ⟨_, _, _, _, _, _, _, _, _, _, _, _, _, _, _, _, _, _, _, _, _, _, _, _, _, _, rfl, hF, Lib.hid (F37.out.later hs)⟩ hHeldN
  (refine wpAnyH_take (i := 0) (v := ?_) rfl (by kernel_rfl) (by kernel_rfl) (by kernel_rfl) (fun _ _ _ h => h) (Or.inl ⟨by rfl, ?_⟩) hHeld ?_; rotate_left; (focus (intro w hSw; (try dsimp only at hSw); go_simp; try with_reducible rfl)); (try simp only [Act.put, List.setIfInBounds_toArray, List.set_cons_zero, List.set_cons_succ, List.getElem_toArray, List.getElem_cons_zero])); (refine wpAnyH_take (i := 1) (v := ?_) rfl (by kernel_rfl) (by kernel_rfl) (by kernel_rfl) (fun _ _ _ h => h) (Or.inl ⟨by rfl, ?_⟩) hHeld ?_; rotate_left; (focus (intro w hSw; (try dsimp only at hSw); go_simp; try with_reducible rfl)); (try simp only [Act.put, List.setIfInBounds_toArray, List.set_cons_zero, List.set_cons_succ, List.getElem_toArray, List.getElem_cons_zero, List.getElem_cons_succ])); (refine wpAnyH_take (i := 6) (v := ?_) rfl (by kernel_rfl) (by kernel_rfl) (by kernel_rfl) (fun _ _ _ h => h) (Or.inl ⟨by rfl, ?_⟩) hHeld ?_; rotate_left; (focus (intro w hSw; (try dsimp only at hSw); go_simp; try with_reducible rfl)); (try simp only [Act.put, List.setIfInBounds_toArray, List.set_cons_zero, List.set_cons_succ, List.getElem_toArray, List.getElem_cons_zero, List.getElem_cons_succ])); (refine wpAnyH_take (i := 7) (v := ?_) rfl (by kernel_rfl) (by kernel_rfl) (by kernel_rfl) (fun _ _ _ h => h) (Or.inl ⟨by rfl, ?_⟩) hHeld ?_; rotate_left; (focus (intro w hSw; (try dsimp only at hSw); go_simp; try with_reducible rfl)); (try simp only [Act.put, List.setIfInBounds_toArray, List.set_cons_zero, List.set_cons_succ, List.getElem_toArray, List.getElem_cons_zero, List.getElem_cons_succ])); (refine wpAnyH_take (i := 2) (v := ?_) rfl (by kernel_rfl) (by kernel_rfl) (by kernel_rfl) (fun _ _ _ h => h) (Or.inl ⟨by rfl, ?_⟩) hHeld ?_; rotate_left; (focus (intro w hSw; (try dsimp only at hSw); go_simp; try with_reducible rfl)); (try simp only [Act.put, List.setIfInBounds_toArray, List.set_cons_zero, List.set_cons_succ, List.getElem_toArray, List.getElem_cons_zero, List.getElem_cons_succ])); (refine wpAnyH_take (i := 8) (v := ?_) rfl (by kernel_rfl) (by kernel_rfl) (by kernel_rfl) (fun _ _ _ h => h) (Or.inl ⟨by rfl, ?_⟩) hHeld ?_; rotate_left; (focus (intro w hSw; (try dsimp only at hSw); go_simp; try with_reducible rfl)); (try simp only [Act.put, List.setIfInBounds_toArray, List.set_cons_zero, List.set_cons_succ, List.getElem_toArray, List.getElem_cons_zero, List.getElem_cons_succ]))
  refine wpAnyH_ready (rs := [3, 4]) (by kernel_rfl) (by simp) ?_
  refine AllReadyH.cons rfl (fun K hK => ?_) (AllReadyH.cons rfl (fun K hK => ?_) AllReadyH.nil)
  · refine step_app rfl _ _ rfl wA.heap.size (.slice none 0 0) _ [] (l.take (2 * k)) (by rfl) (by rfl) (OwnB.nil _ _) (HP.out.later (HA2.out.trans (hHeld.mono HA2.out.size))) (by simp; omega) hHeld.size ?_
    intro vN w_n hown hb hg
    have hs : Below (World.heap w0).size w0 w_n := (Below.refl _ _).grown hg (Nat.le_refl _) (fun j hj => by simp [Value.ownBlock] at hj)
    have hF := Lib.hid hown
    clear hown hb hg
    refine hK.out _ _ (hHeld.trans (hs.mono hHeld.size)) (fun hHeldN => ?_)
    exact m3 _ _ _ (by kernel_rfl) ⟨_, _, _, _, _, _, _, _, _, _, _, _, _, _, _, _, _, _, _, _, _, _, _, _, _, rfl, hF⟩ hHeldN
  · go_simp
    have hs : Below (World.heap w0).size w0 (w0.alloc (.cells #[.int .u8 0, .int .u8 0] 5)) := (Below.refl _ _).alloc (Nat.le_refl _) _
    have hF : Hid (Bytes (w0.alloc (.cells #[.int .u8 0, .int .u8 0] 5)) (.slice (some ⟨(World.heap w0).size, 0, none⟩) 2 2) [0, 0]) := bytes_lit w0 [0, 0]
    refine hK.out _ _ (hHeld.trans (hs.mono hHeld.size)) (fun hHeldN => ?_)
    exact m4 _ _ _ (by kernel_rfl) ⟨_, _, _, _, _, _, _, _, _, _, _, _, _, _, _, _, _, _, _, _, _, _, _, _, _, rfl, hF⟩ hHeldN
set_option maxHeartbeats 1000000 in
theorem sumOrder_no (a : Option Addr) (c : Nat) (l : List UInt8) (i : Int) (w : World) (h : 9000 < l.length ∨ i < 0 ∨ ((l.length / 2 : Nat) : Int) < i) :
    Calls Try.prog 6 #[.slice a l.length c, .int .i64 i] w fun e w' => e = .returned (.bool true) ∧ Below w.heap.size w w' := by
  by_cases h1 : 9000 < l.length
  · have g1 : (9000 : Int) < l.length := by omega
    clear h
    go_enter Try.func6, Try.ntmps6
    go_wp2_with fail
    refine (known2_any _).mono ?_
    rintro e w10 ⟨rfl, hb10⟩
    go_wp2_with fail
    go_ret
    exact ⟨rfl, hb10⟩
  · have g1 : (l.length : Int) ≤ 9000 := by omega
    by_cases h2 : i < 0
    · clear h
      go_enter Try.func6, Try.ntmps6
      go_wp2_with fail
      refine (known2_any _).mono ?_
      rintro e w10 ⟨rfl, hb10⟩
      go_wp2_with fail
      go_ret
      exact ⟨rfl, hb10⟩
    · have g2 : (0 : Int) ≤ i := by omega
      have g3 : (l.length : Int) / 2 < i := by omega
      clear h h2
      go_enter Try.func6, Try.ntmps6
      go_wp2_with fail
      refine (known2_any _).mono ?_
      rintro e w10 ⟨rfl, hb10⟩
      go_wp2_with fail
      go_ret
      exact ⟨rfl, hb10⟩
theorem sumOrder_walk (v : Value) (l : List UInt8) (i : Int) (w : World) (hb : Bytes w v l) (_hl : l.length ≤ 9223372036854775807) :
    Calls Try.prog 6 #[v, .int .i64 i] w fun e w' => e = .returned (.bool true) ∧ Below w.heap.size w w' := by
  obtain ⟨a, c, rfl⟩ := hb.form
  by_cases h : 9000 < l.length ∨ i < 0 ∨ ((l.length / 2 : Nat) : Int) < i
  · exact sumOrder_no a c l i w h
  · obtain ⟨k, rfl⟩ := Int.eq_ofNat_of_zero_le (show 0 ≤ i by omega)
    exact sumOrder_yes a c k l w hb (by omega) (by omega)
end Go.Proofs.Ytlgdmfbpkmokaaa
