/- The walk of the law SumParts. -/
import Derived.Test.YtlgdmfbpkmokaaaSo
import Derived.Test.YtlgdmfbpkmokaaaRg
namespace Go.Proofs.Ytlgdmfbpkmokaaa
open Go.RowKit
attribute [local go_sem ↓] Go.wp_at_zero Go.wp_at_succ

set_option maxHeartbeats 40000000 in
set_option maxRecDepth 100000 in
theorem sumParts_yes (a : Option Addr) (c k : Nat) (l : List UInt8) (w : World) (hb : Bytes w (.slice a l.length c) l) (hl : l.length ≤ 9000) (hk : 2 * k ≤ l.length) :
    Calls Try.prog 8 #[.slice a l.length c, .int .i64 (k : Int)] w fun e w' => e = .returned (.bool true) ∧ Below w.heap.size w w' := by
  obtain ⟨a', hrl, hR⟩ := hb.cut_l (2 * (k : Int)) (2 * k) (by omega) hk
  obtain ⟨hrh, hP⟩ := hb.cut_h (2 * (k : Int)) (2 * k) (by omega) hk
  have HV := Lib.hid hb
  have HR := Lib.hid hR
  have HP := Lib.hid hP
  have hl1 : (l.take (2 * k)).length ≤ 10000 := by simp; omega
  have hl2 : (l.drop (2 * k)).length ≤ 10000 := by simp; omega
  obtain ⟨t, ht⟩ : ∃ t, t = Sm.tot l := ⟨_, rfl⟩
  obtain ⟨t1, ht1⟩ : ∃ t, t = Sm.tot (l.take (2 * k)) := ⟨_, rfl⟩
  obtain ⟨t2, ht2⟩ : ∃ t, t = Sm.tot (l.drop (2 * k)) := ⟨_, rfl⟩
  have b0 : t < 65536 := by rw [ht]; exact Sm.tot_lt _
  have b1 : t1 < 65536 := by rw [ht1]; exact Sm.tot_lt _
  have b2 : t2 < 65536 := by rw [ht2]; exact Sm.tot_lt _
  have HS : Hid ((t : Int) = (Sm.addC (t1 : Int).toNat (t2 : Int).toNat : Nat)) := by
    show _ = _
    rw [Int.toNat_natCast, Int.toNat_natCast, ht, ht1, ht2, ← Sm.tot_parts hk]
  have HT := Lib.hid ht
  have HT1 := Lib.hid ht1
  have HT2 := Lib.hid ht2
  have g1 : (l.length : Int) ≤ 9000 := by omega
  have g2 : (k : Int) ≤ (l.length : Int) / 2 := by omega
  have hsub : IntKind.u16.wrap (65535 - (t : Int)) = 65535 - (t : Int) := IntWalk.u16_in _ ⟨by omega, by omega⟩
  have B0 := Lib.hid b0
  have B1 := Lib.hid b1
  have B2 := Lib.hid b2
  have HSub := Lib.hid hsub
  have Hl1 := Lib.hid hl1
  have Hl2 := Lib.hid hl2
  clear hb hR hP ht ht1 ht2 hl1 hl2 b0 b1 b2 hsub
  go_enter Try.func8, Try.ntmps8
  go_wp2_with fail
  have hsub := HSub.out
  (refine wp_region_held_drew (S := (fun w' => Below w.heap.size w w')) (by kernel_rfl) ?_ (fun hHeld => ?_); (focus ((try dsimp only); (exact (Below.refl _ _).drew))))
  obtain ⟨w0, hw0⟩ : ∃ w0, w0 = World.drew w := ⟨_, rfl⟩
  rw [← hw0]
  rw [← hw0] at hHeld
  clear hw0
  refine wpAnyH_cut #[true, true, true, true, true, true, true, true, true, true, true, true, true, true, true, true, true, true, true, true, true, true, true, true, true, true, true, true, true] 0 (fun A w1 => ∃ x6 x7 x8 x9 x10 x11 x12 x13 x14 x15 x16 x17 x18 x19 x20 x21 x22 v24 v29 v34 v40 v43 : Value, A = ⟨#[.slice a l.length c, .int .i64 (k : Int), undef, undef, .bool true, .int .i64 (2 * (k : Int)), x6, x7, x8, x9, x10, x11, x12, x13, x14, x15, x16, x17, x18, x19, x20, x21, x22, .slice a l.length c, v24, .int .u16 (t : Int), .slice a l.length c, .int .i64 (2 * (k : Int)), .slice a (2 * k) c, v29, .int .u16 (t1 : Int), .slice a l.length c, .int .i64 (2 * (k : Int)), .slice a' (l.length - 2 * k) (c - 2 * k), v34, .int .u16 (t2 : Int), .int .u16 (t : Int), .bool true, .bool true, .slice a l.length c, v40, .int .u16 (65535 - (t : Int)), .slice a l.length c, v43, .int .u16 (t : Int), .int .u16 (65535 - (t : Int)), .bool true, .bool true, .bool true, .bool true, .bool true], []⟩) ?_ (fun m0 => ?_)
  · rintro l A w1 rfl ⟨x6, x7, x8, x9, x10, x11, x12, x13, x14, x15, x16, x17, x18, x19, x20, x21, x22, v24, v29, v34, v40, v43, rfl⟩ hHeld
    refine wpAnyH_done (by kernel_rfl) ?_ _
    go_wp2_with fail
    go_ret
    exact ⟨rfl, hHeld⟩
  refine wpAnyH_cut #[true, true, true, true, true, true, true, true, true, true, true, true, true, true, true, true, true, true, true, true, true, true, true, true, true, true, false, false, false] 3 (fun A w1 => ∃ x6 x7 x8 x9 x10 x11 x12 x13 x14 x15 x16 x17 x18 x19 x20 x21 x22 v24 v29 v34 v40 v43 : Value, A = ⟨#[.slice a l.length c, .int .i64 (k : Int), undef, undef, .bool false, .int .i64 (2 * (k : Int)), x6, x7, x8, x9, x10, x11, x12, x13, x14, x15, x16, x17, x18, x19, x20, x21, x22, .slice a l.length c, v24, .int .u16 (t : Int), .slice a l.length c, .int .i64 (2 * (k : Int)), .slice a (2 * k) c, v29, .int .u16 (t1 : Int), .slice a l.length c, .int .i64 (2 * (k : Int)), .slice a' (l.length - 2 * k) (c - 2 * k), v34, .int .u16 (t2 : Int), .int .u16 (t : Int), .bool true, .bool true, .slice a l.length c, v40, .int .u16 (65535 - (t : Int)), .slice a l.length c, v43, .int .u16 (t : Int), .int .u16 (65535 - (t : Int)), .bool true, .bool true, .bool true, undef, undef], []⟩) ?_ (fun m1 => ?_)
  · rintro l A w1 rfl ⟨x6, x7, x8, x9, x10, x11, x12, x13, x14, x15, x16, x17, x18, x19, x20, x21, x22, v24, v29, v34, v40, v43, rfl⟩ hHeld
    refine wpAnyH_ready (rs := [26]) (by kernel_rfl) (by simp) ?_
    refine AllReadyH.cons rfl (fun K hK => ?_) AllReadyH.nil
    go_simp
    refine (known2_any _).mono ?_
    rintro e w_n ⟨rfl, hs⟩
    simp only []
    refine hK.out _ _ (hHeld.trans (hs.mono hHeld.size)) (fun hHeldN => ?_)
    try simp only [Act.put, List.setIfInBounds_toArray, List.set_cons_zero, List.set_cons_succ, List.getElem_toArray, List.getElem_cons_zero, List.getElem_cons_succ]
    (have hHeldO := hHeld; clear hHeld; have hHeld := hHeldN)
    (refine wpAnyH_take (i := 27) (v := ?_) rfl (by kernel_rfl) (by kernel_rfl) (by kernel_rfl) (fun _ _ _ h => h) (Or.inl ⟨by rfl, ?_⟩) hHeld ?_; rotate_left; (focus (intro w hSw; (try dsimp only at hSw); go_simp; try with_reducible rfl)); (try simp only [Act.put, List.setIfInBounds_toArray, List.set_cons_zero, List.set_cons_succ, List.getElem_toArray, List.getElem_cons_zero, List.getElem_cons_succ])); (refine wpAnyH_take (i := 28) (v := ?_) rfl (by kernel_rfl) (by kernel_rfl) (by kernel_rfl) (fun _ _ _ h => h) (Or.inl ⟨by rfl, ?_⟩) hHeld ?_; rotate_left; (focus (intro w hSw; (try dsimp only at hSw); go_simp; try with_reducible rfl)); (try simp only [Act.put, List.setIfInBounds_toArray, List.set_cons_zero, List.set_cons_succ, List.getElem_toArray, List.getElem_cons_zero, List.getElem_cons_succ]))
    exact m0 _ _ _ (by kernel_rfl) ⟨_, _, _, _, _, _, _, _, _, _, _, _, _, _, _, _, _, _, _, _, _, _, rfl⟩ hHeldN
  refine wpAnyH_cut #[true, true, true, true, true, true, true, true, true, true, true, true, true, true, true, true, true, true, true, true, true, false, false, false, false, false, false, false, false] 8 (fun A w1 => ∃ x6 x7 x8 x9 x10 x11 x12 x13 x14 x15 x16 x17 x18 x19 x20 x21 x22 v24 v29 v34 v40 v43 : Value, A = ⟨#[.slice a l.length c, .int .i64 (k : Int), undef, undef, .bool false, .int .i64 (2 * (k : Int)), x6, x7, x8, x9, x10, x11, x12, x13, x14, x15, x16, x17, x18, x19, x20, x21, x22, .slice a l.length c, v24, .int .u16 (t : Int), .slice a l.length c, .int .i64 (2 * (k : Int)), .slice a (2 * k) c, v29, .int .u16 (t1 : Int), .slice a l.length c, .int .i64 (2 * (k : Int)), .slice a' (l.length - 2 * k) (c - 2 * k), v34, .int .u16 (t2 : Int), .int .u16 (t : Int), .bool true, .bool true, .slice a l.length c, v40, .int .u16 (65535 - (t : Int)), .slice a l.length c, v43, undef, undef, undef, undef, undef, undef, undef], []⟩ ∧ Hid (Lists w1 v43 [l])) ?_ (fun m2 => ?_)
  · rintro l A w1 rfl ⟨x6, x7, x8, x9, x10, x11, x12, x13, x14, x15, x16, x17, x18, x19, x20, x21, x22, v24, v29, v34, v40, v43, rfl, F43⟩ hHeld
    refine wpAnyH_ready (rs := [21]) (by kernel_rfl) (by simp) ?_
    refine AllReadyH.cons rfl (fun K hK => ?_) AllReadyH.nil
    go_simp
    refine (total_of _ _ l t HT.out (by omega) F43.out).mono ?_
    rintro e w_n ⟨rfl, hs⟩
    simp only []
    refine hK.out _ _ (hHeld.trans (hs.mono hHeld.size)) (fun hHeldN => ?_)
    try simp only [Act.put, List.setIfInBounds_toArray, List.set_cons_zero, List.set_cons_succ, List.getElem_toArray, List.getElem_cons_zero, List.getElem_cons_succ]
    (have hHeldO := hHeld; clear hHeld; have hHeld := hHeldN)
    (refine wpAnyH_take (i := 22) (v := ?_) rfl (by kernel_rfl) (by kernel_rfl) (by kernel_rfl) (fun _ _ _ h => h) (Or.inl ⟨by rfl, ?_⟩) hHeld ?_; rotate_left; (focus (intro w hSw; (try dsimp only at hSw); go_simp; try with_reducible rfl)); (try simp only [Act.put, List.setIfInBounds_toArray, List.set_cons_zero, List.set_cons_succ, List.getElem_toArray, List.getElem_cons_zero, List.getElem_cons_succ])); (refine wpAnyH_take (i := 23) (v := ?_) rfl (by kernel_rfl) (by kernel_rfl) (by kernel_rfl) (fun _ _ _ h => h) (Or.inl ⟨by rfl, ?_⟩) hHeld ?_; rotate_left; (focus (intro w hSw; (try dsimp only at hSw); go_simp; try with_reducible rfl)); (try simp only [Act.put, List.setIfInBounds_toArray, List.set_cons_zero, List.set_cons_succ, List.getElem_toArray, List.getElem_cons_zero, List.getElem_cons_succ])); (refine wpAnyH_take (i := 24) (v := ?_) rfl (by kernel_rfl) (by kernel_rfl) (by kernel_rfl) (fun _ _ _ h => h) (Or.inl ⟨by rfl, ?_⟩) hHeld ?_; rotate_left; (focus (intro w hSw; (try dsimp only at hSw); go_simp; try with_reducible rfl)); (try simp only [Act.put, List.setIfInBounds_toArray, List.set_cons_zero, List.set_cons_succ, List.getElem_toArray, List.getElem_cons_zero, List.getElem_cons_succ])); (refine wpAnyH_take (i := 25) (v := ?_) rfl (by kernel_rfl) (by kernel_rfl) (by kernel_rfl) (fun _ _ _ h => h) (Or.inl ⟨by rfl, ?_⟩) hHeld ?_; rotate_left; (focus (intro w hSw; (try dsimp only at hSw); go_simp; try with_reducible rfl)); (try simp only [Act.put, List.setIfInBounds_toArray, List.set_cons_zero, List.set_cons_succ, List.getElem_toArray, List.getElem_cons_zero, List.getElem_cons_succ]))
    exact m1 _ _ _ (by kernel_rfl) ⟨_, _, _, _, _, _, _, _, _, _, _, _, _, _, _, _, _, _, _, _, _, _, rfl⟩ hHeldN
  refine wpAnyH_cut #[true, true, true, true, true, true, true, true, true, true, true, true, true, true, true, true, true, true, true, true, false, false, false, false, false, false, false, false, false] 9 (fun A w1 => ∃ x6 x7 x8 x9 x10 x11 x12 x13 x14 x15 x16 x17 x18 x19 x20 x21 x22 v24 v29 v34 v40 : Value, A = ⟨#[.slice a l.length c, .int .i64 (k : Int), undef, undef, .bool false, .int .i64 (2 * (k : Int)), x6, x7, x8, x9, x10, x11, x12, x13, x14, x15, x16, x17, x18, x19, x20, x21, x22, .slice a l.length c, v24, .int .u16 (t : Int), .slice a l.length c, .int .i64 (2 * (k : Int)), .slice a (2 * k) c, v29, .int .u16 (t1 : Int), .slice a l.length c, .int .i64 (2 * (k : Int)), .slice a' (l.length - 2 * k) (c - 2 * k), v34, .int .u16 (t2 : Int), .int .u16 (t : Int), .bool true, .bool true, .slice a l.length c, v40, .int .u16 (65535 - (t : Int)), .slice a l.length c, undef, undef, undef, undef, undef, undef, undef, undef], []⟩) ?_ (fun m3 => ?_)
  · rintro l A w1 rfl ⟨x6, x7, x8, x9, x10, x11, x12, x13, x14, x15, x16, x17, x18, x19, x20, x21, x22, v24, v29, v34, v40, rfl⟩ hHeld
    refine wpAnyH_ready (rs := [20]) (by kernel_rfl) (by simp) ?_
    refine AllReadyH.cons rfl (fun K hK => ?_) AllReadyH.nil
    go_simp
    have hs : Below (World.heap w1).size w1 (w1.alloc (.cells #[.slice a l.length c] 23)) := (Below.refl _ _).alloc (Nat.le_refl _) _
    have hF : Hid (Lists (w1.alloc (.cells #[.slice a l.length c] 23)) (.slice (some ⟨(World.heap w1).size, 0, none⟩) 1 1) [l]) := lists_one (HV.out.later hHeld)
    refine hK.out _ _ (hHeld.trans (hs.mono hHeld.size)) (fun hHeldN => ?_)
    exact m2 _ _ _ (by kernel_rfl) ⟨_, _, _, _, _, _, _, _, _, _, _, _, _, _, _, _, _, _, _, _, _, _, rfl, hF⟩ hHeldN
  refine wpAnyH_cut #[true, true, true, true, true, true, true, true, true, true, true, true, true, true, true, true, true, true, false, true, true, false, false, false, false, false, false, false, false] 9 (fun A w1 => ∃ x6 x7 x8 x9 x10 x11 x12 x13 x14 x15 x16 x17 x18 x19 x20 x21 x22 v24 v29 v34 v40 v43 : Value, A = ⟨#[.slice a l.length c, .int .i64 (k : Int), undef, undef, .bool false, .int .i64 (2 * (k : Int)), x6, x7, x8, x9, x10, x11, x12, x13, x14, x15, x16, x17, x18, x19, x20, x21, x22, .slice a l.length c, v24, .int .u16 (t : Int), .slice a l.length c, .int .i64 (2 * (k : Int)), .slice a (2 * k) c, v29, .int .u16 (t1 : Int), .slice a l.length c, .int .i64 (2 * (k : Int)), .slice a' (l.length - 2 * k) (c - 2 * k), v34, .int .u16 (t2 : Int), .int .u16 (t : Int), .bool true, .bool true, .slice a l.length c, v40, undef, .slice a l.length c, v43, undef, undef, undef, undef, undef, undef, undef], []⟩ ∧ Hid (Lists w1 v40 [l]) ∧ Hid (Lists w1 v43 [l])) ?_ (fun m4 => ?_)
  · rintro l A w1 rfl ⟨x6, x7, x8, x9, x10, x11, x12, x13, x14, x15, x16, x17, x18, x19, x20, x21, x22, v24, v29, v34, v40, v43, rfl, F40, F43⟩ hHeld
    refine wpAnyH_ready (rs := [18]) (by kernel_rfl) (by simp) ?_
    refine AllReadyH.cons rfl (fun K hK => ?_) AllReadyH.nil
    go_simp
    refine (check_of _ _ l t HT.out (by omega) F40.out).mono ?_
    rintro e w_n ⟨rfl, hs⟩
    simp only []
    refine hK.out _ _ (hHeld.trans (hs.mono hHeld.size)) (fun hHeldN => ?_)
    exact m2 _ _ _ (by kernel_rfl) ⟨_, _, _, _, _, _, _, _, _, _, _, _, _, _, _, _, _, _, _, _, _, _, rfl, Lib.hid (F43.out.later hs)⟩ hHeldN
  refine wpAnyH_cut #[true, true, true, true, true, true, true, true, true, true, true, true, true, true, true, true, true, true, false, true, false, false, false, false, false, false, false, false, false] 10 (fun A w1 => ∃ x6 x7 x8 x9 x10 x11 x12 x13 x14 x15 x16 x17 x18 x19 x20 x21 x22 v24 v29 v34 v40 : Value, A = ⟨#[.slice a l.length c, .int .i64 (k : Int), undef, undef, .bool false, .int .i64 (2 * (k : Int)), x6, x7, x8, x9, x10, x11, x12, x13, x14, x15, x16, x17, x18, x19, x20, x21, x22, .slice a l.length c, v24, .int .u16 (t : Int), .slice a l.length c, .int .i64 (2 * (k : Int)), .slice a (2 * k) c, v29, .int .u16 (t1 : Int), .slice a l.length c, .int .i64 (2 * (k : Int)), .slice a' (l.length - 2 * k) (c - 2 * k), v34, .int .u16 (t2 : Int), .int .u16 (t : Int), .bool true, .bool true, .slice a l.length c, v40, undef, .slice a l.length c, undef, undef, undef, undef, undef, undef, undef, undef], []⟩ ∧ Hid (Lists w1 v40 [l])) ?_ (fun m5 => ?_)
  · rintro l A w1 rfl ⟨x6, x7, x8, x9, x10, x11, x12, x13, x14, x15, x16, x17, x18, x19, x20, x21, x22, v24, v29, v34, v40, rfl, F40⟩ hHeld
    refine wpAnyH_ready (rs := [18, 20]) (by kernel_rfl) (by simp) ?_
    refine AllReadyH.cons rfl (fun K hK => ?_) (AllReadyH.cons rfl (fun K hK => ?_) AllReadyH.nil)
    · go_simp
      refine (check_of _ _ l t HT.out (by omega) F40.out).mono ?_
      rintro e w_n ⟨rfl, hs⟩
      simp only []
      refine hK.out _ _ (hHeld.trans (hs.mono hHeld.size)) (fun hHeldN => ?_)
      exact m3 _ _ _ (by kernel_rfl) ⟨_, _, _, _, _, _, _, _, _, _, _, _, _, _, _, _, _, _, _, _, _, rfl⟩ hHeldN
    · go_simp
      have hs : Below (World.heap w1).size w1 (w1.alloc (.cells #[.slice a l.length c] 23)) := (Below.refl _ _).alloc (Nat.le_refl _) _
      have hF : Hid (Lists (w1.alloc (.cells #[.slice a l.length c] 23)) (.slice (some ⟨(World.heap w1).size, 0, none⟩) 1 1) [l]) := lists_one (HV.out.later hHeld)
      refine hK.out _ _ (hHeld.trans (hs.mono hHeld.size)) (fun hHeldN => ?_)
      exact m4 _ _ _ (by kernel_rfl) ⟨_, _, _, _, _, _, _, _, _, _, _, _, _, _, _, _, _, _, _, _, _, _, rfl, Lib.hid (F40.out.later hs), hF⟩ hHeldN
  refine wpAnyH_cut #[true, true, true, true, true, true, true, true, true, true, true, true, true, true, true, true, true, false, false, true, true, false, false, false, false, false, false, false, false] 10 (fun A w1 => ∃ x6 x7 x8 x9 x10 x11 x12 x13 x14 x15 x16 x17 x18 x19 x20 x21 x22 v24 v29 v34 v43 : Value, A = ⟨#[.slice a l.length c, .int .i64 (k : Int), undef, undef, .bool false, .int .i64 (2 * (k : Int)), x6, x7, x8, x9, x10, x11, x12, x13, x14, x15, x16, x17, x18, x19, x20, x21, x22, .slice a l.length c, v24, .int .u16 (t : Int), .slice a l.length c, .int .i64 (2 * (k : Int)), .slice a (2 * k) c, v29, .int .u16 (t1 : Int), .slice a l.length c, .int .i64 (2 * (k : Int)), .slice a' (l.length - 2 * k) (c - 2 * k), v34, .int .u16 (t2 : Int), .int .u16 (t : Int), .bool true, .bool true, .slice a l.length c, undef, undef, .slice a l.length c, v43, undef, undef, undef, undef, undef, undef, undef], []⟩ ∧ Hid (Lists w1 v43 [l])) ?_ (fun m6 => ?_)
  · rintro l A w1 rfl ⟨x6, x7, x8, x9, x10, x11, x12, x13, x14, x15, x16, x17, x18, x19, x20, x21, x22, v24, v29, v34, v43, rfl, F43⟩ hHeld
    refine wpAnyH_ready (rs := [17]) (by kernel_rfl) (by simp) ?_
    refine AllReadyH.cons rfl (fun K hK => ?_) AllReadyH.nil
    go_simp
    have hs : Below (World.heap w1).size w1 (w1.alloc (.cells #[.slice a l.length c] 23)) := (Below.refl _ _).alloc (Nat.le_refl _) _
    have hF : Hid (Lists (w1.alloc (.cells #[.slice a l.length c] 23)) (.slice (some ⟨(World.heap w1).size, 0, none⟩) 1 1) [l]) := lists_one (HV.out.later hHeld)
    refine hK.out _ _ (hHeld.trans (hs.mono hHeld.size)) (fun hHeldN => ?_)
    exact m4 _ _ _ (by kernel_rfl) ⟨_, _, _, _, _, _, _, _, _, _, _, _, _, _, _, _, _, _, _, _, _, _, rfl, hF, Lib.hid (F43.out.later hs)⟩ hHeldN
  refine wpAnyH_cut #[true, true, true, true, true, true, true, true, true, true, true, true, true, true, true, true, true, false, false, true, false, false, false, false, false, false, false, false, false] 11 (fun A w1 => ∃ x6 x7 x8 x9 x10 x11 x12 x13 x14 x15 x16 x17 x18 x19 x20 x21 x22 v24 v29 v34 : Value, A = ⟨#[.slice a l.length c, .int .i64 (k : Int), undef, undef, .bool false, .int .i64 (2 * (k : Int)), x6, x7, x8, x9, x10, x11, x12, x13, x14, x15, x16, x17, x18, x19, x20, x21, x22, .slice a l.length c, v24, .int .u16 (t : Int), .slice a l.length c, .int .i64 (2 * (k : Int)), .slice a (2 * k) c, v29, .int .u16 (t1 : Int), .slice a l.length c, .int .i64 (2 * (k : Int)), .slice a' (l.length - 2 * k) (c - 2 * k), v34, .int .u16 (t2 : Int), .int .u16 (t : Int), .bool true, .bool true, .slice a l.length c, undef, undef, .slice a l.length c, undef, undef, undef, undef, undef, undef, undef, undef], []⟩) ?_ (fun m7 => ?_)
  · rintro l A w1 rfl ⟨x6, x7, x8, x9, x10, x11, x12, x13, x14, x15, x16, x17, x18, x19, x20, x21, x22, v24, v29, v34, rfl⟩ hHeld
    refine wpAnyH_ready (rs := [17, 20]) (by kernel_rfl) (by simp) ?_
    refine AllReadyH.cons rfl (fun K hK => ?_) (AllReadyH.cons rfl (fun K hK => ?_) AllReadyH.nil)
    · go_simp
      have hs : Below (World.heap w1).size w1 (w1.alloc (.cells #[.slice a l.length c] 23)) := (Below.refl _ _).alloc (Nat.le_refl _) _
      have hF : Hid (Lists (w1.alloc (.cells #[.slice a l.length c] 23)) (.slice (some ⟨(World.heap w1).size, 0, none⟩) 1 1) [l]) := lists_one (HV.out.later hHeld)
      refine hK.out _ _ (hHeld.trans (hs.mono hHeld.size)) (fun hHeldN => ?_)
      exact m5 _ _ _ (by kernel_rfl) ⟨_, _, _, _, _, _, _, _, _, _, _, _, _, _, _, _, _, _, _, _, _, rfl, hF⟩ hHeldN
    · go_simp
      have hs : Below (World.heap w1).size w1 (w1.alloc (.cells #[.slice a l.length c] 23)) := (Below.refl _ _).alloc (Nat.le_refl _) _
      have hF : Hid (Lists (w1.alloc (.cells #[.slice a l.length c] 23)) (.slice (some ⟨(World.heap w1).size, 0, none⟩) 1 1) [l]) := lists_one (HV.out.later hHeld)
      refine hK.out _ _ (hHeld.trans (hs.mono hHeld.size)) (fun hHeldN => ?_)
      exact m6 _ _ _ (by kernel_rfl) ⟨_, _, _, _, _, _, _, _, _, _, _, _, _, _, _, _, _, _, _, _, _, rfl, hF⟩ hHeldN
  refine wpAnyH_cut #[true, true, true, true, true, true, true, true, true, true, true, true, true, false, false, false, false, false, false, false, false, false, false, false, false, false, false, false, false] 16 (fun A w1 => ∃ x6 x7 x8 x9 x10 x11 x12 x13 x14 x15 x16 x17 x18 x19 x20 x21 x22 v24 v29 v34 : Value, A = ⟨#[.slice a l.length c, .int .i64 (k : Int), undef, undef, .bool false, .int .i64 (2 * (k : Int)), x6, x7, x8, x9, x10, x11, x12, x13, x14, x15, x16, x17, x18, x19, x20, x21, x22, .slice a l.length c, v24, .int .u16 (t : Int), .slice a l.length c, .int .i64 (2 * (k : Int)), .slice a (2 * k) c, v29, .int .u16 (t1 : Int), .slice a l.length c, .int .i64 (2 * (k : Int)), .slice a' (l.length - 2 * k) (c - 2 * k), v34, .int .u16 (t2 : Int), undef, undef, undef, undef, undef, undef, undef, undef, undef, undef, undef, undef, undef, undef, undef], []⟩) ?_ (fun m8 => ?_)
  · rintro l A w1 rfl ⟨x6, x7, x8, x9, x10, x11, x12, x13, x14, x15, x16, x17, x18, x19, x20, x21, x22, v24, v29, v34, rfl⟩ hHeld
    refine wpAnyH_ready (rs := [13]) (by kernel_rfl) (by simp) ?_
    refine AllReadyH.cons rfl (fun K hK => ?_) AllReadyH.nil
    go_simp
    refine (addW_int _ _ _ (by omega) (by have := B1.out; omega) (by omega) (by have := B2.out; omega) (t : Int) HS.out).mono ?_
    rintro e w_n ⟨rfl, rfl⟩
    simp only []
    have hs : Below (World.heap w1).size w1 w1 := Below.refl _ _
    refine hK.out _ _ (hHeld.trans (hs.mono hHeld.size)) (fun hHeldN => ?_)
    try simp only [Act.put, List.setIfInBounds_toArray, List.set_cons_zero, List.set_cons_succ, List.getElem_toArray, List.getElem_cons_zero, List.getElem_cons_succ]
    (have hHeldO := hHeld; clear hHeld; have hHeld := hHeldN)
    (refine wpAnyH_take (i := 14) (v := ?_) rfl (by kernel_rfl) (by kernel_rfl) (by kernel_rfl) (fun _ _ _ h => h) (Or.inl ⟨by rfl, ?_⟩) hHeld ?_; rotate_left; (focus (intro w hSw; (try dsimp only at hSw); go_simp; try with_reducible rfl)); (try simp only [Act.put, List.setIfInBounds_toArray, List.set_cons_zero, List.set_cons_succ, List.getElem_toArray, List.getElem_cons_zero, List.getElem_cons_succ])); (refine wpAnyH_take (i := 15) (v := ?_) rfl (by kernel_rfl) (by kernel_rfl) (by kernel_rfl) (fun _ _ _ h => h) (Or.inl ⟨by rfl, ?_⟩) hHeld ?_; rotate_left; (focus (intro w hSw; (try dsimp only at hSw); go_simp; try with_reducible rfl)); (try simp only [Act.put, List.setIfInBounds_toArray, List.set_cons_zero, List.set_cons_succ, List.getElem_toArray, List.getElem_cons_zero, List.getElem_cons_succ])); (refine wpAnyH_take (i := 16) (v := ?_) rfl (by kernel_rfl) (by kernel_rfl) (by kernel_rfl) (fun _ _ _ h => h) (Or.inl ⟨by rfl, ?_⟩) hHeld ?_; rotate_left; (focus (intro w hSw; (try dsimp only at hSw); go_simp; try with_reducible rfl)); (try simp only [Act.put, List.setIfInBounds_toArray, List.set_cons_zero, List.set_cons_succ, List.getElem_toArray, List.getElem_cons_zero, List.getElem_cons_succ])); (refine wpAnyH_take (i := 19) (v := ?_) rfl (by kernel_rfl) (by kernel_rfl) (by kernel_rfl) (fun _ _ _ h => h) (Or.inl ⟨by rfl, ?_⟩) hHeld ?_; rotate_left; (focus (intro w hSw; (try dsimp only at hSw); go_simp; try with_reducible rfl)); (try simp only [Act.put, List.setIfInBounds_toArray, List.set_cons_zero, List.set_cons_succ, List.getElem_toArray, List.getElem_cons_zero, List.getElem_cons_succ]))
    exact m7 _ _ _ (by kernel_rfl) ⟨_, _, _, _, _, _, _, _, _, _, _, _, _, _, _, _, _, _, _, _, rfl⟩ hHeldN
  refine wpAnyH_cut #[true, true, true, true, true, true, true, true, true, true, true, true, false, false, false, false, false, false, false, false, false, false, false, false, false, false, false, false, false] 17 (fun A w1 => ∃ x6 x7 x8 x9 x10 x11 x12 x13 x14 x15 x16 x17 x18 x19 x20 x21 x22 v24 v29 v34 : Value, A = ⟨#[.slice a l.length c, .int .i64 (k : Int), undef, undef, .bool false, .int .i64 (2 * (k : Int)), x6, x7, x8, x9, x10, x11, x12, x13, x14, x15, x16, x17, x18, x19, x20, x21, x22, .slice a l.length c, v24, .int .u16 (t : Int), .slice a l.length c, .int .i64 (2 * (k : Int)), .slice a (2 * k) c, v29, .int .u16 (t1 : Int), .slice a l.length c, .int .i64 (2 * (k : Int)), .slice a' (l.length - 2 * k) (c - 2 * k), v34, undef, undef, undef, undef, undef, undef, undef, undef, undef, undef, undef, undef, undef, undef, undef, undef], []⟩ ∧ Hid (Lists w1 v34 [l.drop (2 * k)])) ?_ (fun m9 => ?_)
  · rintro l A w1 rfl ⟨x6, x7, x8, x9, x10, x11, x12, x13, x14, x15, x16, x17, x18, x19, x20, x21, x22, v24, v29, v34, rfl, F34⟩ hHeld
    refine wpAnyH_ready (rs := [12]) (by kernel_rfl) (by simp) ?_
    refine AllReadyH.cons rfl (fun K hK => ?_) AllReadyH.nil
    go_simp
    refine (total_of _ _ (l.drop (2 * k)) t2 HT2.out Hl2.out F34.out).mono ?_
    rintro e w_n ⟨rfl, hs⟩
    simp only []
    refine hK.out _ _ (hHeld.trans (hs.mono hHeld.size)) (fun hHeldN => ?_)
    exact m8 _ _ _ (by kernel_rfl) ⟨_, _, _, _, _, _, _, _, _, _, _, _, _, _, _, _, _, _, _, _, rfl⟩ hHeldN
  refine wpAnyH_cut #[true, true, true, true, true, true, true, true, true, true, true, false, false, false, false, false, false, false, false, false, false, false, false, false, false, false, false, false, false] 18 (fun A w1 => ∃ x6 x7 x8 x9 x10 x11 x12 x13 x14 x15 x16 x17 x18 x19 x20 x21 x22 v24 v29 : Value, A = ⟨#[.slice a l.length c, .int .i64 (k : Int), undef, undef, .bool false, .int .i64 (2 * (k : Int)), x6, x7, x8, x9, x10, x11, x12, x13, x14, x15, x16, x17, x18, x19, x20, x21, x22, .slice a l.length c, v24, .int .u16 (t : Int), .slice a l.length c, .int .i64 (2 * (k : Int)), .slice a (2 * k) c, v29, .int .u16 (t1 : Int), .slice a l.length c, .int .i64 (2 * (k : Int)), .slice a' (l.length - 2 * k) (c - 2 * k), undef, undef, undef, undef, undef, undef, undef, undef, undef, undef, undef, undef, undef, undef, undef, undef, undef], []⟩) ?_ (fun m10 => ?_)
  · rintro l A w1 rfl ⟨x6, x7, x8, x9, x10, x11, x12, x13, x14, x15, x16, x17, x18, x19, x20, x21, x22, v24, v29, rfl⟩ hHeld
    refine wpAnyH_ready (rs := [11]) (by kernel_rfl) (by simp) ?_
    refine AllReadyH.cons rfl (fun K hK => ?_) AllReadyH.nil
    go_simp
    have hs : Below (World.heap w1).size w1 (w1.alloc (.cells #[.slice a' (l.length - 2 * k) (c - 2 * k)] 23)) := (Below.refl _ _).alloc (Nat.le_refl _) _
    have hF : Hid (Lists (w1.alloc (.cells #[.slice a' (l.length - 2 * k) (c - 2 * k)] 23)) (.slice (some ⟨(World.heap w1).size, 0, none⟩) 1 1) [l.drop (2 * k)]) := lists_one (HR.out.later hHeld)
    refine hK.out _ _ (hHeld.trans (hs.mono hHeld.size)) (fun hHeldN => ?_)
    exact m9 _ _ _ (by kernel_rfl) ⟨_, _, _, _, _, _, _, _, _, _, _, _, _, _, _, _, _, _, _, _, rfl, hF⟩ hHeldN
  refine wpAnyH_cut #[true, true, true, true, true, true, true, false, true, true, true, true, false, false, false, false, false, false, false, false, false, false, false, false, false, false, false, false, false] 18 (fun A w1 => ∃ x6 x7 x8 x9 x10 x11 x12 x13 x14 x15 x16 x17 x18 x19 x20 x21 x22 v24 v29 v34 : Value, A = ⟨#[.slice a l.length c, .int .i64 (k : Int), undef, undef, .bool false, .int .i64 (2 * (k : Int)), x6, x7, x8, x9, x10, x11, x12, x13, x14, x15, x16, x17, x18, x19, x20, x21, x22, .slice a l.length c, v24, .int .u16 (t : Int), .slice a l.length c, .int .i64 (2 * (k : Int)), .slice a (2 * k) c, v29, undef, .slice a l.length c, .int .i64 (2 * (k : Int)), .slice a' (l.length - 2 * k) (c - 2 * k), v34, undef, undef, undef, undef, undef, undef, undef, undef, undef, undef, undef, undef, undef, undef, undef, undef], []⟩ ∧ Hid (Lists w1 v29 [l.take (2 * k)]) ∧ Hid (Lists w1 v34 [l.drop (2 * k)])) ?_ (fun m11 => ?_)
  · rintro l A w1 rfl ⟨x6, x7, x8, x9, x10, x11, x12, x13, x14, x15, x16, x17, x18, x19, x20, x21, x22, v24, v29, v34, rfl, F29, F34⟩ hHeld
    refine wpAnyH_ready (rs := [7]) (by kernel_rfl) (by simp) ?_
    refine AllReadyH.cons rfl (fun K hK => ?_) AllReadyH.nil
    go_simp
    refine (total_of _ _ (l.take (2 * k)) t1 HT1.out Hl1.out F29.out).mono ?_
    rintro e w_n ⟨rfl, hs⟩
    simp only []
    refine hK.out _ _ (hHeld.trans (hs.mono hHeld.size)) (fun hHeldN => ?_)
    exact m9 _ _ _ (by kernel_rfl) ⟨_, _, _, _, _, _, _, _, _, _, _, _, _, _, _, _, _, _, _, _, rfl, Lib.hid (F34.out.later hs)⟩ hHeldN
  refine wpAnyH_cut #[true, true, true, true, true, true, true, false, true, true, true, false, false, false, false, false, false, false, false, false, false, false, false, false, false, false, false, false, false] 19 (fun A w1 => ∃ x6 x7 x8 x9 x10 x11 x12 x13 x14 x15 x16 x17 x18 x19 x20 x21 x22 v24 v29 : Value, A = ⟨#[.slice a l.length c, .int .i64 (k : Int), undef, undef, .bool false, .int .i64 (2 * (k : Int)), x6, x7, x8, x9, x10, x11, x12, x13, x14, x15, x16, x17, x18, x19, x20, x21, x22, .slice a l.length c, v24, .int .u16 (t : Int), .slice a l.length c, .int .i64 (2 * (k : Int)), .slice a (2 * k) c, v29, undef, .slice a l.length c, .int .i64 (2 * (k : Int)), .slice a' (l.length - 2 * k) (c - 2 * k), undef, undef, undef, undef, undef, undef, undef, undef, undef, undef, undef, undef, undef, undef, undef, undef, undef], []⟩ ∧ Hid (Lists w1 v29 [l.take (2 * k)])) ?_ (fun m12 => ?_)
  · rintro l A w1 rfl ⟨x6, x7, x8, x9, x10, x11, x12, x13, x14, x15, x16, x17, x18, x19, x20, x21, x22, v24, v29, rfl, F29⟩ hHeld
    refine wpAnyH_ready (rs := [7, 11]) (by kernel_rfl) (by simp) ?_
    refine AllReadyH.cons rfl (fun K hK => ?_) (AllReadyH.cons rfl (fun K hK => ?_) AllReadyH.nil)
    · go_simp
      refine (total_of _ _ (l.take (2 * k)) t1 HT1.out Hl1.out F29.out).mono ?_
      rintro e w_n ⟨rfl, hs⟩
      simp only []
      refine hK.out _ _ (hHeld.trans (hs.mono hHeld.size)) (fun hHeldN => ?_)
      exact m10 _ _ _ (by kernel_rfl) ⟨_, _, _, _, _, _, _, _, _, _, _, _, _, _, _, _, _, _, _, rfl⟩ hHeldN
    · go_simp
      have hs : Below (World.heap w1).size w1 (w1.alloc (.cells #[.slice a' (l.length - 2 * k) (c - 2 * k)] 23)) := (Below.refl _ _).alloc (Nat.le_refl _) _
      have hF : Hid (Lists (w1.alloc (.cells #[.slice a' (l.length - 2 * k) (c - 2 * k)] 23)) (.slice (some ⟨(World.heap w1).size, 0, none⟩) 1 1) [l.drop (2 * k)]) := lists_one (HR.out.later hHeld)
      refine hK.out _ _ (hHeld.trans (hs.mono hHeld.size)) (fun hHeldN => ?_)
      exact m11 _ _ _ (by kernel_rfl) ⟨_, _, _, _, _, _, _, _, _, _, _, _, _, _, _, _, _, _, _, _, rfl, Lib.hid (F29.out.later hs), hF⟩ hHeldN
  refine wpAnyH_cut #[true, true, true, true, true, true, false, false, true, true, true, true, false, false, false, false, false, false, false, false, false, false, false, false, false, false, false, false, false] 19 (fun A w1 => ∃ x6 x7 x8 x9 x10 x11 x12 x13 x14 x15 x16 x17 x18 x19 x20 x21 x22 v24 v34 : Value, A = ⟨#[.slice a l.length c, .int .i64 (k : Int), undef, undef, .bool false, .int .i64 (2 * (k : Int)), x6, x7, x8, x9, x10, x11, x12, x13, x14, x15, x16, x17, x18, x19, x20, x21, x22, .slice a l.length c, v24, .int .u16 (t : Int), .slice a l.length c, .int .i64 (2 * (k : Int)), .slice a (2 * k) c, undef, undef, .slice a l.length c, .int .i64 (2 * (k : Int)), .slice a' (l.length - 2 * k) (c - 2 * k), v34, undef, undef, undef, undef, undef, undef, undef, undef, undef, undef, undef, undef, undef, undef, undef, undef], []⟩ ∧ Hid (Lists w1 v34 [l.drop (2 * k)])) ?_ (fun m13 => ?_)
  · rintro l A w1 rfl ⟨x6, x7, x8, x9, x10, x11, x12, x13, x14, x15, x16, x17, x18, x19, x20, x21, x22, v24, v34, rfl, F34⟩ hHeld
    refine wpAnyH_ready (rs := [6]) (by kernel_rfl) (by simp) ?_
    refine AllReadyH.cons rfl (fun K hK => ?_) AllReadyH.nil
    go_simp
    have hs : Below (World.heap w1).size w1 (w1.alloc (.cells #[.slice a (2 * k) c] 23)) := (Below.refl _ _).alloc (Nat.le_refl _) _
    have hF : Hid (Lists (w1.alloc (.cells #[.slice a (2 * k) c] 23)) (.slice (some ⟨(World.heap w1).size, 0, none⟩) 1 1) [l.take (2 * k)]) := lists_one (HP.out.later hHeld)
    refine hK.out _ _ (hHeld.trans (hs.mono hHeld.size)) (fun hHeldN => ?_)
    exact m11 _ _ _ (by kernel_rfl) ⟨_, _, _, _, _, _, _, _, _, _, _, _, _, _, _, _, _, _, _, _, rfl, hF, Lib.hid (F34.out.later hs)⟩ hHeldN
  refine wpAnyH_cut #[true, true, true, true, true, true, false, false, true, true, true, false, false, false, false, false, false, false, false, false, false, false, false, false, false, false, false, false, false] 20 (fun A w1 => ∃ x6 x7 x8 x9 x10 x11 x12 x13 x14 x15 x16 x17 x18 x19 x20 x21 x22 v24 : Value, A = ⟨#[.slice a l.length c, .int .i64 (k : Int), undef, undef, .bool false, .int .i64 (2 * (k : Int)), x6, x7, x8, x9, x10, x11, x12, x13, x14, x15, x16, x17, x18, x19, x20, x21, x22, .slice a l.length c, v24, .int .u16 (t : Int), .slice a l.length c, .int .i64 (2 * (k : Int)), .slice a (2 * k) c, undef, undef, .slice a l.length c, .int .i64 (2 * (k : Int)), .slice a' (l.length - 2 * k) (c - 2 * k), undef, undef, undef, undef, undef, undef, undef, undef, undef, undef, undef, undef, undef, undef, undef, undef, undef], []⟩) ?_ (fun m14 => ?_)
  · rintro l A w1 rfl ⟨x6, x7, x8, x9, x10, x11, x12, x13, x14, x15, x16, x17, x18, x19, x20, x21, x22, v24, rfl⟩ hHeld
    refine wpAnyH_ready (rs := [6, 11]) (by kernel_rfl) (by simp) ?_
    refine AllReadyH.cons rfl (fun K hK => ?_) (AllReadyH.cons rfl (fun K hK => ?_) AllReadyH.nil)
    · go_simp
      have hs : Below (World.heap w1).size w1 (w1.alloc (.cells #[.slice a (2 * k) c] 23)) := (Below.refl _ _).alloc (Nat.le_refl _) _
      have hF : Hid (Lists (w1.alloc (.cells #[.slice a (2 * k) c] 23)) (.slice (some ⟨(World.heap w1).size, 0, none⟩) 1 1) [l.take (2 * k)]) := lists_one (HP.out.later hHeld)
      refine hK.out _ _ (hHeld.trans (hs.mono hHeld.size)) (fun hHeldN => ?_)
      exact m12 _ _ _ (by kernel_rfl) ⟨_, _, _, _, _, _, _, _, _, _, _, _, _, _, _, _, _, _, _, rfl, hF⟩ hHeldN
    · go_simp
      have hs : Below (World.heap w1).size w1 (w1.alloc (.cells #[.slice a' (l.length - 2 * k) (c - 2 * k)] 23)) := (Below.refl _ _).alloc (Nat.le_refl _) _
      have hF : Hid (Lists (w1.alloc (.cells #[.slice a' (l.length - 2 * k) (c - 2 * k)] 23)) (.slice (some ⟨(World.heap w1).size, 0, none⟩) 1 1) [l.drop (2 * k)]) := lists_one (HR.out.later hHeld)
      refine hK.out _ _ (hHeld.trans (hs.mono hHeld.size)) (fun hHeldN => ?_)
      exact m13 _ _ _ (by kernel_rfl) ⟨_, _, _, _, _, _, _, _, _, _, _, _, _, _, _, _, _, _, _, rfl, hF⟩ hHeldN
  refine wpAnyH_cut #[true, true, false, true, true, true, true, false, true, true, true, true, false, false, false, false, false, false, false, false, false, false, false, false, false, false, false, false, false] 19 (fun A w1 => ∃ x6 x7 x8 x9 x10 x11 x12 x13 x14 x15 x16 x17 x18 x19 x20 x21 x22 v24 v29 v34 : Value, A = ⟨#[.slice a l.length c, .int .i64 (k : Int), undef, undef, .bool false, .int .i64 (2 * (k : Int)), x6, x7, x8, x9, x10, x11, x12, x13, x14, x15, x16, x17, x18, x19, x20, x21, x22, .slice a l.length c, v24, undef, .slice a l.length c, .int .i64 (2 * (k : Int)), .slice a (2 * k) c, v29, undef, .slice a l.length c, .int .i64 (2 * (k : Int)), .slice a' (l.length - 2 * k) (c - 2 * k), v34, undef, undef, undef, undef, undef, undef, undef, undef, undef, undef, undef, undef, undef, undef, undef, undef], []⟩ ∧ Hid (Lists w1 v24 [l]) ∧ Hid (Lists w1 v29 [l.take (2 * k)]) ∧ Hid (Lists w1 v34 [l.drop (2 * k)])) ?_ (fun m15 => ?_)
  · rintro l A w1 rfl ⟨x6, x7, x8, x9, x10, x11, x12, x13, x14, x15, x16, x17, x18, x19, x20, x21, x22, v24, v29, v34, rfl, F24, F29, F34⟩ hHeld
    refine wpAnyH_ready (rs := [2]) (by kernel_rfl) (by simp) ?_
    refine AllReadyH.cons rfl (fun K hK => ?_) AllReadyH.nil
    go_simp
    refine (total_of _ _ l t HT.out (by omega) F24.out).mono ?_
    rintro e w_n ⟨rfl, hs⟩
    simp only []
    refine hK.out _ _ (hHeld.trans (hs.mono hHeld.size)) (fun hHeldN => ?_)
    exact m11 _ _ _ (by kernel_rfl) ⟨_, _, _, _, _, _, _, _, _, _, _, _, _, _, _, _, _, _, _, _, rfl, Lib.hid (F29.out.later hs), Lib.hid (F34.out.later hs)⟩ hHeldN
  refine wpAnyH_cut #[true, true, false, true, true, true, true, false, true, true, true, false, false, false, false, false, false, false, false, false, false, false, false, false, false, false, false, false, false] 20 (fun A w1 => ∃ x6 x7 x8 x9 x10 x11 x12 x13 x14 x15 x16 x17 x18 x19 x20 x21 x22 v24 v29 : Value, A = ⟨#[.slice a l.length c, .int .i64 (k : Int), undef, undef, .bool false, .int .i64 (2 * (k : Int)), x6, x7, x8, x9, x10, x11, x12, x13, x14, x15, x16, x17, x18, x19, x20, x21, x22, .slice a l.length c, v24, undef, .slice a l.length c, .int .i64 (2 * (k : Int)), .slice a (2 * k) c, v29, undef, .slice a l.length c, .int .i64 (2 * (k : Int)), .slice a' (l.length - 2 * k) (c - 2 * k), undef, undef, undef, undef, undef, undef, undef, undef, undef, undef, undef, undef, undef, undef, undef, undef, undef], []⟩ ∧ Hid (Lists w1 v24 [l]) ∧ Hid (Lists w1 v29 [l.take (2 * k)])) ?_ (fun m16 => ?_)
  · rintro l A w1 rfl ⟨x6, x7, x8, x9, x10, x11, x12, x13, x14, x15, x16, x17, x18, x19, x20, x21, x22, v24, v29, rfl, F24, F29⟩ hHeld
    refine wpAnyH_ready (rs := [2, 11]) (by kernel_rfl) (by simp) ?_
    refine AllReadyH.cons rfl (fun K hK => ?_) (AllReadyH.cons rfl (fun K hK => ?_) AllReadyH.nil)
    · go_simp
      refine (total_of _ _ l t HT.out (by omega) F24.out).mono ?_
      rintro e w_n ⟨rfl, hs⟩
      simp only []
      refine hK.out _ _ (hHeld.trans (hs.mono hHeld.size)) (fun hHeldN => ?_)
      exact m12 _ _ _ (by kernel_rfl) ⟨_, _, _, _, _, _, _, _, _, _, _, _, _, _, _, _, _, _, _, rfl, Lib.hid (F29.out.later hs)⟩ hHeldN
    · go_simp
      have hs : Below (World.heap w1).size w1 (w1.alloc (.cells #[.slice a' (l.length - 2 * k) (c - 2 * k)] 23)) := (Below.refl _ _).alloc (Nat.le_refl _) _
      have hF : Hid (Lists (w1.alloc (.cells #[.slice a' (l.length - 2 * k) (c - 2 * k)] 23)) (.slice (some ⟨(World.heap w1).size, 0, none⟩) 1 1) [l.drop (2 * k)]) := lists_one (HR.out.later hHeld)
      refine hK.out _ _ (hHeld.trans (hs.mono hHeld.size)) (fun hHeldN => ?_)
      exact m15 _ _ _ (by kernel_rfl) ⟨_, _, _, _, _, _, _, _, _, _, _, _, _, _, _, _, _, _, _, _, rfl, Lib.hid (F24.out.later hs), Lib.hid (F29.out.later hs), hF⟩ hHeldN
  refine wpAnyH_cut #[true, true, false, true, true, true, false, false, true, true, true, true, false, false, false, false, false, false, false, false, false, false, false, false, false, false, false, false, false] 20 (fun A w1 => ∃ x6 x7 x8 x9 x10 x11 x12 x13 x14 x15 x16 x17 x18 x19 x20 x21 x22 v24 v34 : Value, A = ⟨#[.slice a l.length c, .int .i64 (k : Int), undef, undef, .bool false, .int .i64 (2 * (k : Int)), x6, x7, x8, x9, x10, x11, x12, x13, x14, x15, x16, x17, x18, x19, x20, x21, x22, .slice a l.length c, v24, undef, .slice a l.length c, .int .i64 (2 * (k : Int)), .slice a (2 * k) c, undef, undef, .slice a l.length c, .int .i64 (2 * (k : Int)), .slice a' (l.length - 2 * k) (c - 2 * k), v34, undef, undef, undef, undef, undef, undef, undef, undef, undef, undef, undef, undef, undef, undef, undef, undef], []⟩ ∧ Hid (Lists w1 v24 [l]) ∧ Hid (Lists w1 v34 [l.drop (2 * k)])) ?_ (fun m17 => ?_)
  · rintro l A w1 rfl ⟨x6, x7, x8, x9, x10, x11, x12, x13, x14, x15, x16, x17, x18, x19, x20, x21, x22, v24, v34, rfl, F24, F34⟩ hHeld
    refine wpAnyH_ready (rs := [2, 6]) (by kernel_rfl) (by simp) ?_
    refine AllReadyH.cons rfl (fun K hK => ?_) (AllReadyH.cons rfl (fun K hK => ?_) AllReadyH.nil)
    · go_simp
      refine (total_of _ _ l t HT.out (by omega) F24.out).mono ?_
      rintro e w_n ⟨rfl, hs⟩
      simp only []
      refine hK.out _ _ (hHeld.trans (hs.mono hHeld.size)) (fun hHeldN => ?_)
      exact m13 _ _ _ (by kernel_rfl) ⟨_, _, _, _, _, _, _, _, _, _, _, _, _, _, _, _, _, _, _, rfl, Lib.hid (F34.out.later hs)⟩ hHeldN
    · go_simp
      have hs : Below (World.heap w1).size w1 (w1.alloc (.cells #[.slice a (2 * k) c] 23)) := (Below.refl _ _).alloc (Nat.le_refl _) _
      have hF : Hid (Lists (w1.alloc (.cells #[.slice a (2 * k) c] 23)) (.slice (some ⟨(World.heap w1).size, 0, none⟩) 1 1) [l.take (2 * k)]) := lists_one (HP.out.later hHeld)
      refine hK.out _ _ (hHeld.trans (hs.mono hHeld.size)) (fun hHeldN => ?_)
      exact m15 _ _ _ (by kernel_rfl) ⟨_, _, _, _, _, _, _, _, _, _, _, _, _, _, _, _, _, _, _, _, rfl, Lib.hid (F24.out.later hs), hF, Lib.hid (F34.out.later hs)⟩ hHeldN
  refine wpAnyH_cut #[true, true, false, true, true, true, false, false, true, true, true, false, false, false, false, false, false, false, false, false, false, false, false, false, false, false, false, false, false] 21 (fun A w1 => ∃ x6 x7 x8 x9 x10 x11 x12 x13 x14 x15 x16 x17 x18 x19 x20 x21 x22 v24 : Value, A = ⟨#[.slice a l.length c, .int .i64 (k : Int), undef, undef, .bool false, .int .i64 (2 * (k : Int)), x6, x7, x8, x9, x10, x11, x12, x13, x14, x15, x16, x17, x18, x19, x20, x21, x22, .slice a l.length c, v24, undef, .slice a l.length c, .int .i64 (2 * (k : Int)), .slice a (2 * k) c, undef, undef, .slice a l.length c, .int .i64 (2 * (k : Int)), .slice a' (l.length - 2 * k) (c - 2 * k), undef, undef, undef, undef, undef, undef, undef, undef, undef, undef, undef, undef, undef, undef, undef, undef, undef], []⟩ ∧ Hid (Lists w1 v24 [l])) ?_ (fun m18 => ?_)
  · rintro l A w1 rfl ⟨x6, x7, x8, x9, x10, x11, x12, x13, x14, x15, x16, x17, x18, x19, x20, x21, x22, v24, rfl, F24⟩ hHeld
    refine wpAnyH_ready (rs := [2, 6, 11]) (by kernel_rfl) (by simp) ?_
    refine AllReadyH.cons rfl (fun K hK => ?_) (AllReadyH.cons rfl (fun K hK => ?_) (AllReadyH.cons rfl (fun K hK => ?_) AllReadyH.nil))
    · go_simp
      refine (total_of _ _ l t HT.out (by omega) F24.out).mono ?_
      rintro e w_n ⟨rfl, hs⟩
      simp only []
      refine hK.out _ _ (hHeld.trans (hs.mono hHeld.size)) (fun hHeldN => ?_)
      exact m14 _ _ _ (by kernel_rfl) ⟨_, _, _, _, _, _, _, _, _, _, _, _, _, _, _, _, _, _, rfl⟩ hHeldN
    · go_simp
      have hs : Below (World.heap w1).size w1 (w1.alloc (.cells #[.slice a (2 * k) c] 23)) := (Below.refl _ _).alloc (Nat.le_refl _) _
      have hF : Hid (Lists (w1.alloc (.cells #[.slice a (2 * k) c] 23)) (.slice (some ⟨(World.heap w1).size, 0, none⟩) 1 1) [l.take (2 * k)]) := lists_one (HP.out.later hHeld)
      refine hK.out _ _ (hHeld.trans (hs.mono hHeld.size)) (fun hHeldN => ?_)
      exact m16 _ _ _ (by kernel_rfl) ⟨_, _, _, _, _, _, _, _, _, _, _, _, _, _, _, _, _, _, _, rfl, Lib.hid (F24.out.later hs), hF⟩ hHeldN
    · go_simp
      have hs : Below (World.heap w1).size w1 (w1.alloc (.cells #[.slice a' (l.length - 2 * k) (c - 2 * k)] 23)) := (Below.refl _ _).alloc (Nat.le_refl _) _
      have hF : Hid (Lists (w1.alloc (.cells #[.slice a' (l.length - 2 * k) (c - 2 * k)] 23)) (.slice (some ⟨(World.heap w1).size, 0, none⟩) 1 1) [l.drop (2 * k)]) := lists_one (HR.out.later hHeld)
      refine hK.out _ _ (hHeld.trans (hs.mono hHeld.size)) (fun hHeldN => ?_)
      exact m17 _ _ _ (by kernel_rfl) ⟨_, _, _, _, _, _, _, _, _, _, _, _, _, _, _, _, _, _, _, rfl, Lib.hid (F24.out.later hs), hF⟩ hHeldN
  refine wpAnyH_cut #[true, false, false, true, true, true, true, false, true, true, true, true, false, false, false, false, false, false, false, false, false, false, false, false, false, false, false, false, false] 20 (fun A w1 => ∃ x6 x7 x8 x9 x10 x11 x12 x13 x14 x15 x16 x17 x18 x19 x20 x21 x22 v29 v34 : Value, A = ⟨#[.slice a l.length c, .int .i64 (k : Int), undef, undef, .bool false, .int .i64 (2 * (k : Int)), x6, x7, x8, x9, x10, x11, x12, x13, x14, x15, x16, x17, x18, x19, x20, x21, x22, .slice a l.length c, undef, undef, .slice a l.length c, .int .i64 (2 * (k : Int)), .slice a (2 * k) c, v29, undef, .slice a l.length c, .int .i64 (2 * (k : Int)), .slice a' (l.length - 2 * k) (c - 2 * k), v34, undef, undef, undef, undef, undef, undef, undef, undef, undef, undef, undef, undef, undef, undef, undef, undef], []⟩ ∧ Hid (Lists w1 v29 [l.take (2 * k)]) ∧ Hid (Lists w1 v34 [l.drop (2 * k)])) ?_ (fun m19 => ?_)
  · rintro l A w1 rfl ⟨x6, x7, x8, x9, x10, x11, x12, x13, x14, x15, x16, x17, x18, x19, x20, x21, x22, v29, v34, rfl, F29, F34⟩ hHeld
    refine wpAnyH_ready (rs := [1]) (by kernel_rfl) (by simp) ?_
    refine AllReadyH.cons rfl (fun K hK => ?_) AllReadyH.nil
    go_simp
    have hs : Below (World.heap w1).size w1 (w1.alloc (.cells #[.slice a l.length c] 23)) := (Below.refl _ _).alloc (Nat.le_refl _) _
    have hF : Hid (Lists (w1.alloc (.cells #[.slice a l.length c] 23)) (.slice (some ⟨(World.heap w1).size, 0, none⟩) 1 1) [l]) := lists_one (HV.out.later hHeld)
    refine hK.out _ _ (hHeld.trans (hs.mono hHeld.size)) (fun hHeldN => ?_)
    exact m15 _ _ _ (by kernel_rfl) ⟨_, _, _, _, _, _, _, _, _, _, _, _, _, _, _, _, _, _, _, _, rfl, hF, Lib.hid (F29.out.later hs), Lib.hid (F34.out.later hs)⟩ hHeldN
  refine wpAnyH_cut #[true, false, false, true, true, true, true, false, true, true, true, false, false, false, false, false, false, false, false, false, false, false, false, false, false, false, false, false, false] 21 (fun A w1 => ∃ x6 x7 x8 x9 x10 x11 x12 x13 x14 x15 x16 x17 x18 x19 x20 x21 x22 v29 : Value, A = ⟨#[.slice a l.length c, .int .i64 (k : Int), undef, undef, .bool false, .int .i64 (2 * (k : Int)), x6, x7, x8, x9, x10, x11, x12, x13, x14, x15, x16, x17, x18, x19, x20, x21, x22, .slice a l.length c, undef, undef, .slice a l.length c, .int .i64 (2 * (k : Int)), .slice a (2 * k) c, v29, undef, .slice a l.length c, .int .i64 (2 * (k : Int)), .slice a' (l.length - 2 * k) (c - 2 * k), undef, undef, undef, undef, undef, undef, undef, undef, undef, undef, undef, undef, undef, undef, undef, undef, undef], []⟩ ∧ Hid (Lists w1 v29 [l.take (2 * k)])) ?_ (fun m20 => ?_)
  · rintro l A w1 rfl ⟨x6, x7, x8, x9, x10, x11, x12, x13, x14, x15, x16, x17, x18, x19, x20, x21, x22, v29, rfl, F29⟩ hHeld
    refine wpAnyH_ready (rs := [1, 11]) (by kernel_rfl) (by simp) ?_
    refine AllReadyH.cons rfl (fun K hK => ?_) (AllReadyH.cons rfl (fun K hK => ?_) AllReadyH.nil)
    · go_simp
      have hs : Below (World.heap w1).size w1 (w1.alloc (.cells #[.slice a l.length c] 23)) := (Below.refl _ _).alloc (Nat.le_refl _) _
      have hF : Hid (Lists (w1.alloc (.cells #[.slice a l.length c] 23)) (.slice (some ⟨(World.heap w1).size, 0, none⟩) 1 1) [l]) := lists_one (HV.out.later hHeld)
      refine hK.out _ _ (hHeld.trans (hs.mono hHeld.size)) (fun hHeldN => ?_)
      exact m16 _ _ _ (by kernel_rfl) ⟨_, _, _, _, _, _, _, _, _, _, _, _, _, _, _, _, _, _, _, rfl, hF, Lib.hid (F29.out.later hs)⟩ hHeldN
    · go_simp
      have hs : Below (World.heap w1).size w1 (w1.alloc (.cells #[.slice a' (l.length - 2 * k) (c - 2 * k)] 23)) := (Below.refl _ _).alloc (Nat.le_refl _) _
      have hF : Hid (Lists (w1.alloc (.cells #[.slice a' (l.length - 2 * k) (c - 2 * k)] 23)) (.slice (some ⟨(World.heap w1).size, 0, none⟩) 1 1) [l.drop (2 * k)]) := lists_one (HR.out.later hHeld)
      refine hK.out _ _ (hHeld.trans (hs.mono hHeld.size)) (fun hHeldN => ?_)
      exact m19 _ _ _ (by kernel_rfl) ⟨_, _, _, _, _, _, _, _, _, _, _, _, _, _, _, _, _, _, _, rfl, Lib.hid (F29.out.later hs), hF⟩ hHeldN
  refine wpAnyH_cut #[true, false, false, true, true, true, false, false, true, true, true, true, false, false, false, false, false, false, false, false, false, false, false, false, false, false, false, false, false] 21 (fun A w1 => ∃ x6 x7 x8 x9 x10 x11 x12 x13 x14 x15 x16 x17 x18 x19 x20 x21 x22 v34 : Value, A = ⟨#[.slice a l.length c, .int .i64 (k : Int), undef, undef, .bool false, .int .i64 (2 * (k : Int)), x6, x7, x8, x9, x10, x11, x12, x13, x14, x15, x16, x17, x18, x19, x20, x21, x22, .slice a l.length c, undef, undef, .slice a l.length c, .int .i64 (2 * (k : Int)), .slice a (2 * k) c, undef, undef, .slice a l.length c, .int .i64 (2 * (k : Int)), .slice a' (l.length - 2 * k) (c - 2 * k), v34, undef, undef, undef, undef, undef, undef, undef, undef, undef, undef, undef, undef, undef, undef, undef, undef], []⟩ ∧ Hid (Lists w1 v34 [l.drop (2 * k)])) ?_ (fun m21 => ?_)
  · rintro l A w1 rfl ⟨x6, x7, x8, x9, x10, x11, x12, x13, x14, x15, x16, x17, x18, x19, x20, x21, x22, v34, rfl, F34⟩ hHeld
    refine wpAnyH_ready (rs := [1, 6]) (by kernel_rfl) (by simp) ?_
    refine AllReadyH.cons rfl (fun K hK => ?_) (AllReadyH.cons rfl (fun K hK => ?_) AllReadyH.nil)
    · go_simp
      have hs : Below (World.heap w1).size w1 (w1.alloc (.cells #[.slice a l.length c] 23)) := (Below.refl _ _).alloc (Nat.le_refl _) _
      have hF : Hid (Lists (w1.alloc (.cells #[.slice a l.length c] 23)) (.slice (some ⟨(World.heap w1).size, 0, none⟩) 1 1) [l]) := lists_one (HV.out.later hHeld)
      refine hK.out _ _ (hHeld.trans (hs.mono hHeld.size)) (fun hHeldN => ?_)
      exact m17 _ _ _ (by kernel_rfl) ⟨_, _, _, _, _, _, _, _, _, _, _, _, _, _, _, _, _, _, _, rfl, hF, Lib.hid (F34.out.later hs)⟩ hHeldN
    · go_simp
      have hs : Below (World.heap w1).size w1 (w1.alloc (.cells #[.slice a (2 * k) c] 23)) := (Below.refl _ _).alloc (Nat.le_refl _) _
      have hF : Hid (Lists (w1.alloc (.cells #[.slice a (2 * k) c] 23)) (.slice (some ⟨(World.heap w1).size, 0, none⟩) 1 1) [l.take (2 * k)]) := lists_one (HP.out.later hHeld)
      refine hK.out _ _ (hHeld.trans (hs.mono hHeld.size)) (fun hHeldN => ?_)
      exact m19 _ _ _ (by kernel_rfl) ⟨_, _, _, _, _, _, _, _, _, _, _, _, _, _, _, _, _, _, _, rfl, hF, Lib.hid (F34.out.later hs)⟩ hHeldN
  (refine wpAnyH_take (i := 0) (v := ?_) rfl (by kernel_rfl) (by kernel_rfl) (by kernel_rfl) (fun _ _ _ h => h) (Or.inl ⟨by rfl, ?_⟩) hHeld ?_; rotate_left; (focus (intro w hSw; (try dsimp only at hSw); go_simp; try with_reducible rfl)); (try simp only [Act.put, List.setIfInBounds_toArray, List.set_cons_zero, List.set_cons_succ, List.getElem_toArray, List.getElem_cons_zero])); (refine wpAnyH_take (i := 3) (v := ?_) rfl (by kernel_rfl) (by kernel_rfl) (by kernel_rfl) (fun _ _ _ h => h) (Or.inl ⟨by rfl, ?_⟩) hHeld ?_; rotate_left; (focus (intro w hSw; (try dsimp only at hSw); go_simp; try with_reducible rfl)); (try simp only [Act.put, List.setIfInBounds_toArray, List.set_cons_zero, List.set_cons_succ, List.getElem_toArray, List.getElem_cons_zero, List.getElem_cons_succ])); (refine wpAnyH_take (i := 4) (v := ?_) rfl (by kernel_rfl) (by kernel_rfl) (by kernel_rfl) (fun _ _ _ h => h) (Or.inl ⟨by rfl, ?_⟩) hHeld ?_; rotate_left; (focus (intro w hSw; (try dsimp only at hSw); go_simp; try with_reducible rfl)); (try simp only [Act.put, List.setIfInBounds_toArray, List.set_cons_zero, List.set_cons_succ, List.getElem_toArray, List.getElem_cons_zero, List.getElem_cons_succ])); (refine wpAnyH_take (i := 8) (v := ?_) rfl (by kernel_rfl) (by kernel_rfl) (by kernel_rfl) (fun _ _ _ h => h) (Or.inl ⟨by rfl, ?_⟩) hHeld ?_; rotate_left; (focus (intro w hSw; (try dsimp only at hSw); go_simp; try with_reducible rfl)); (try simp only [Act.put, List.setIfInBounds_toArray, List.set_cons_zero, List.set_cons_succ, List.getElem_toArray, List.getElem_cons_zero, List.getElem_cons_succ])); (refine wpAnyH_take (i := 9) (v := ?_) rfl (by kernel_rfl) (by kernel_rfl) (by kernel_rfl) (fun _ _ _ h => h) (Or.inl ⟨by rfl, ?_⟩) hHeld ?_; rotate_left; (focus (intro w hSw; (try dsimp only at hSw); go_simp; try with_reducible rfl)); (try simp only [Act.put, List.setIfInBounds_toArray, List.set_cons_zero, List.set_cons_succ, List.getElem_toArray, List.getElem_cons_zero, List.getElem_cons_succ])); (refine wpAnyH_take (i := 5) (v := ?_) rfl (by kernel_rfl) (by kernel_rfl) (by kernel_rfl) (fun _ _ _ h => h) (Or.inl ⟨by rfl, ?_⟩) hHeld ?_; rotate_left; (focus (intro w hSw; (try dsimp only at hSw); go_simp; try with_reducible rfl)); (try simp only [Act.put, List.setIfInBounds_toArray, List.set_cons_zero, List.set_cons_succ, List.getElem_toArray, List.getElem_cons_zero, List.getElem_cons_succ])); (refine wpAnyH_take (i := 10) (v := ?_) rfl (by kernel_rfl) (by kernel_rfl) (by kernel_rfl) (fun _ _ _ h => h) (Or.inl ⟨by rfl, ?_⟩) hHeld ?_; rotate_left; (focus (intro w hSw; (try dsimp only at hSw); go_simp; try with_reducible rfl)); (try simp only [Act.put, List.setIfInBounds_toArray, List.set_cons_zero, List.set_cons_succ, List.getElem_toArray, List.getElem_cons_zero, List.getElem_cons_succ]))
  refine wpAnyH_ready (rs := [1, 6, 11]) (by kernel_rfl) (by simp) ?_
  refine AllReadyH.cons rfl (fun K hK => ?_) (AllReadyH.cons rfl (fun K hK => ?_) (AllReadyH.cons rfl (fun K hK => ?_) AllReadyH.nil))
  · go_simp
    have hs : Below (World.heap w0).size w0 (w0.alloc (.cells #[.slice a l.length c] 23)) := (Below.refl _ _).alloc (Nat.le_refl _) _
    have hF : Hid (Lists (w0.alloc (.cells #[.slice a l.length c] 23)) (.slice (some ⟨(World.heap w0).size, 0, none⟩) 1 1) [l]) := lists_one (HV.out.later hHeld)
    refine hK.out _ _ (hHeld.trans (hs.mono hHeld.size)) (fun hHeldN => ?_)
    exact m18 _ _ _ (by kernel_rfl) ⟨_, _, _, _, _, _, _, _, _, _, _, _, _, _, _, _, _, _, rfl, hF⟩ hHeldN
  · go_simp
    have hs : Below (World.heap w0).size w0 (w0.alloc (.cells #[.slice a (2 * k) c] 23)) := (Below.refl _ _).alloc (Nat.le_refl _) _
    have hF : Hid (Lists (w0.alloc (.cells #[.slice a (2 * k) c] 23)) (.slice (some ⟨(World.heap w0).size, 0, none⟩) 1 1) [l.take (2 * k)]) := lists_one (HP.out.later hHeld)
    refine hK.out _ _ (hHeld.trans (hs.mono hHeld.size)) (fun hHeldN => ?_)
    exact m20 _ _ _ (by kernel_rfl) ⟨_, _, _, _, _, _, _, _, _, _, _, _, _, _, _, _, _, _, rfl, hF⟩ hHeldN
  · go_simp
    have hs : Below (World.heap w0).size w0 (w0.alloc (.cells #[.slice a' (l.length - 2 * k) (c - 2 * k)] 23)) := (Below.refl _ _).alloc (Nat.le_refl _) _
    have hF : Hid (Lists (w0.alloc (.cells #[.slice a' (l.length - 2 * k) (c - 2 * k)] 23)) (.slice (some ⟨(World.heap w0).size, 0, none⟩) 1 1) [l.drop (2 * k)]) := lists_one (HR.out.later hHeld)
    refine hK.out _ _ (hHeld.trans (hs.mono hHeld.size)) (fun hHeldN => ?_)
    exact m21 _ _ _ (by kernel_rfl) ⟨_, _, _, _, _, _, _, _, _, _, _, _, _, _, _, _, _, _, rfl, hF⟩ hHeldN
set_option maxHeartbeats 1000000 in
theorem sumParts_no (a : Option Addr) (c : Nat) (l : List UInt8) (i : Int) (w : World) (h : 9000 < l.length ∨ i < 0 ∨ ((l.length / 2 : Nat) : Int) < i) :
    Calls Try.prog 8 #[.slice a l.length c, .int .i64 i] w fun e w' => e = .returned (.bool true) ∧ Below w.heap.size w w' := by
  by_cases h1 : 9000 < l.length
  · have g1 : (9000 : Int) < l.length := by omega
    clear h
    go_enter Try.func8, Try.ntmps8
    go_wp2_with fail
    refine (known2_any _).mono ?_
    rintro e w10 ⟨rfl, hb10⟩
    go_wp2_with fail
    go_ret
    exact ⟨rfl, hb10⟩
  · have g1 : (l.length : Int) ≤ 9000 := by omega
    by_cases h2 : i < 0
    · clear h
      go_enter Try.func8, Try.ntmps8
      go_wp2_with fail
      refine (known2_any _).mono ?_
      rintro e w10 ⟨rfl, hb10⟩
      go_wp2_with fail
      go_ret
      exact ⟨rfl, hb10⟩
    · have g2 : (0 : Int) ≤ i := by omega
      have g3 : (l.length : Int) / 2 < i := by omega
      clear h h2
      go_enter Try.func8, Try.ntmps8
      go_wp2_with fail
      refine (known2_any _).mono ?_
      rintro e w10 ⟨rfl, hb10⟩
      go_wp2_with fail
      go_ret
      exact ⟨rfl, hb10⟩
theorem sumParts_walk (v : Value) (l : List UInt8) (i : Int) (w : World) (hb : Bytes w v l) (_hl : l.length ≤ 9223372036854775807) :
    Calls Try.prog 8 #[v, .int .i64 i] w fun e w' => e = .returned (.bool true) ∧ Below w.heap.size w w' := by
  obtain ⟨a, c, rfl⟩ := hb.form
  by_cases h : 9000 < l.length ∨ i < 0 ∨ ((l.length / 2 : Nat) : Int) < i
  · exact sumParts_no a c l i w h
  · obtain ⟨k, rfl⟩ := Int.eq_ofNat_of_zero_le (show 0 ≤ i by omega)
    exact sumParts_yes a c k l w hb (by omega) (by omega)
end Go.Proofs.Ytlgdmfbpkmokaaa
