/- The walk of the law IpOptions. -/
import Derived.Test.YtccfebaifgnodaaPy
import Derived.Test.YtccfebaifgnodaaPx
import Derived.Test.YtccfebaifgnodaaIk
namespace Go.Proofs.Ytccfebaifgnodaa
open Go.RowKit
attribute [local go_sem ↓] Go.wp_at_zero Go.wp_at_succ

set_option maxHeartbeats 8000000 in
set_option maxRecDepth 100000 in
theorem ipOptions_in (a : Option Addr) (c : Nat) (L : List UInt8) (w : World) (hv : Bytes w (.slice a L.length c) L) (hL : L.length ≤ 300) :
    Calls Try.prog 5 #[.slice a L.length c] w fun e w' => e = .returned (.bool true) ∧ Below w.heap.size w w' := by
  have g1 : (L.length : Int) ≤ 300 := by omega
  have HV := Lib.hid hv
  have hrl := raws_len L
  have hop := fun w hv => optionsW_any (.slice a L.length c) L (by omega) w hv
  have hor := fun w hv => optionsR_any (.slice a L.length c) L (by omega) w hv
  have hca := cop_again L
  have hcl := copied_le L
  obtain ⟨R, hR⟩ : ∃ R, R = Om.raws L := ⟨_, rfl⟩
  obtain ⟨bo, hbo⟩ : ∃ b, b = Om.ok L := ⟨_, rfl⟩
  rw [← hR, ← hbo] at hop hor
  rw [← hR] at hca hrl
  obtain ⟨N, hN⟩ : ∃ N, N = R.length := ⟨_, rfl⟩
  have HOP := Lib.hid hop
  have HOR := Lib.hid hor
  have hwf : ∀ r ∈ R, Sm.at0 r 0 < 256 := fun r _ => Sm.at0_lt _ _
  have HH := Lib.hid (And.intro hN (And.intro hL (And.intro hrl (And.intro hca hcl))))
  have hN2 : (N : Int) ≤ 300 := by omega
  clear hv hop hor hca hcl hrl hR hbo hwf
  go_enter Try.func5, Try.ntmps5
  go_wp2_with fail
  refine (HOP.out w HV.out).mono ?_
  rintro e w1 ⟨v1, rfl, ho1, hb1⟩
  obtain ⟨a1, c1, rfl⟩ := ho1.form
  rw [← hN] at ho1 ⊢
  have HB1 := Lib.hid hb1
  have HO1 := Lib.hid ho1.reads
  clear ho1 hb1 hN
  go_wp2_with fail
  refine (HOR.out w1 ((show Bytes w _ _ from HV.out).later HB1.out)).mono ?_
  rintro e w2 ⟨v2, rfl, ho2, hb2⟩
  obtain ⟨a2, c2, rfl⟩ := ho2.form
  have HB2 := Lib.hid (HB1.out.trans (hb2.mono HB1.out.size))
  have HO2 := Lib.hid ho2
  have HL2 : Hid (OptR w2 (.slice a1 N c1) (R.map kd)) := (show OptR w1 _ _ from HO1.out).later hb2
  have HV2 : Hid (Bytes w2 (.slice a L.length c) L) := (show Bytes w _ _ from HV.out).later HB2.out
  have hml : (R.map kd).length = N := by rw [List.length_map]; exact HH.out.1.symm
  rw [hml] at HO2 ⊢
  clear ho2 hb2 hml
  go_wp2_with fail
  (refine wp_region_held_drew (S := (fun w' => Below w2.heap.size w2 w')) (by kernel_rfl) ?_ (fun hHeld => ?_); (focus ((try dsimp only); (exact (Below.refl _ _).drew))))
  change wpAnyH _ _ _ _ _ 25 _ _ _
  obtain ⟨w3, hw3⟩ : ∃ w0, w0 = World.drew w2 := ⟨_, rfl⟩
  rw [← hw3]
  (try dsimp only at hHeld)
  rw [← hw3] at hHeld
  clear hw3
  (refine wpAnyH_take (i := 0) (v := ?_) rfl (by kernel_rfl) (by kernel_rfl) (by kernel_rfl) (fun _ _ _ h => h) (Or.inl ⟨by rfl, ?_⟩) hHeld ?_; rotate_left; (focus (intro w hSw; (try dsimp only at hSw); go_simp; try with_reducible rfl)); (try simp only [Act.put, List.setIfInBounds_toArray, List.set_cons_zero, List.set_cons_succ, List.getElem_toArray, List.getElem_cons_zero])); (refine wpAnyH_take (i := 1) (v := ?_) rfl (by kernel_rfl) (by kernel_rfl) (by kernel_rfl) (fun _ _ _ h => h) (Or.inl ⟨by rfl, ?_⟩) hHeld ?_; rotate_left; (focus (intro w hSw; (try dsimp only at hSw); go_simp; try with_reducible rfl)); (try simp only [Act.put, List.setIfInBounds_toArray, List.set_cons_zero, List.set_cons_succ, List.getElem_toArray, List.getElem_cons_zero, List.getElem_cons_succ])); (refine wpAnyH_take (i := 2) (v := ?_) rfl (by kernel_rfl) (by kernel_rfl) (by kernel_rfl) (fun _ _ _ h => h) (Or.inl ⟨by rfl, ?_⟩) hHeld ?_; rotate_left; (focus (intro w hSw; (try dsimp only at hSw); go_simp; try with_reducible rfl)); (try simp only [Act.put, List.setIfInBounds_toArray, List.set_cons_zero, List.set_cons_succ, List.getElem_toArray, List.getElem_cons_zero, List.getElem_cons_succ])); (refine wpAnyH_take (i := 3) (v := ?_) rfl (by kernel_rfl) (by kernel_rfl) (by kernel_rfl) (fun _ _ _ h => h) (Or.inl ⟨by rfl, ?_⟩) hHeld ?_; rotate_left; (focus (intro w hSw; (try dsimp only at hSw); go_simp; try with_reducible rfl)); (try simp only [Act.put, List.setIfInBounds_toArray, List.set_cons_zero, List.set_cons_succ, List.getElem_toArray, List.getElem_cons_zero, List.getElem_cons_succ])); (refine wpAnyH_take (i := 4) (v := ?_) rfl (by kernel_rfl) (by kernel_rfl) (by kernel_rfl) (fun _ _ _ h => h) (Or.inl ⟨by rfl, ?_⟩) hHeld ?_; rotate_left; (focus (intro w hSw; (try dsimp only at hSw); go_simp; try with_reducible rfl)); (try simp only [Act.put, List.setIfInBounds_toArray, List.set_cons_zero, List.set_cons_succ, List.getElem_toArray, List.getElem_cons_zero, List.getElem_cons_succ])); (refine wpAnyH_take (i := 5) (v := ?_) rfl (by kernel_rfl) (by kernel_rfl) (by kernel_rfl) (fun _ _ _ h => h) (Or.inl ⟨by rfl, ?_⟩) hHeld ?_; rotate_left; (focus (intro w hSw; (try dsimp only at hSw); go_simp; try with_reducible rfl)); (try simp only [Act.put, List.setIfInBounds_toArray, List.set_cons_zero, List.set_cons_succ, List.getElem_toArray, List.getElem_cons_zero, List.getElem_cons_succ]))
  (refine wpAnyH_ready (rs := [6]) (by kernel_rfl) (by simp) ?_; refine AllReadyH.cons rfl (fun K hK => ?_) AllReadyH.nil; go_simp; refine (sameOpt_any _ _ (R.map kd) (by rw [List.length_map]; have := HH.out; omega) w3 ((show OptR w2 _ _ from HL2.out).later hHeld) ((show OptR w2 _ _ from HO2.out).later hHeld)).mono ?_; rintro e w4 ⟨rfl, hb4⟩; refine hK.out _ _ ?_ (fun hHeldN => ?_); (focus ((try dsimp only); (exact hHeld.trans (hb4.mono hHeld.size)))); clear hK K hHeld; have hHeld := hHeldN; clear hHeldN; (try simp only [Act.put, List.setIfInBounds_toArray, List.set_cons_zero, List.set_cons_succ, List.getElem_toArray, List.getElem_cons_zero, List.getElem_cons_succ]))
  clear hb4
  (refine wpAnyH_take (i := 7) (v := ?_) rfl (by kernel_rfl) (by kernel_rfl) (by kernel_rfl) (fun _ _ _ h => h) (Or.inl ⟨by rfl, ?_⟩) hHeld ?_; rotate_left; (focus (intro w hSw; (try dsimp only at hSw); go_simp; try with_reducible rfl)); (try simp only [Act.put, List.setIfInBounds_toArray, List.set_cons_zero, List.set_cons_succ, List.getElem_toArray, List.getElem_cons_zero, List.getElem_cons_succ])); (refine wpAnyH_take (i := 8) (v := ?_) rfl (by kernel_rfl) (by kernel_rfl) (by kernel_rfl) (fun _ _ _ h => h) (Or.inl ⟨by rfl, ?_⟩) hHeld ?_; rotate_left; (focus (intro w hSw; (try dsimp only at hSw); go_simp; try with_reducible rfl)); (try simp only [Act.put, List.setIfInBounds_toArray, List.set_cons_zero, List.set_cons_succ, List.getElem_toArray, List.getElem_cons_zero, List.getElem_cons_succ])); (refine wpAnyH_take (i := 9) (v := ?_) rfl (by kernel_rfl) (by kernel_rfl) (by kernel_rfl) (fun _ _ _ h => h) (Or.inl ⟨by rfl, ?_⟩) hHeld ?_; rotate_left; (focus (intro w hSw; (try dsimp only at hSw); go_simp; try with_reducible rfl)); (try simp only [Act.put, List.setIfInBounds_toArray, List.set_cons_zero, List.set_cons_succ, List.getElem_toArray, List.getElem_cons_zero, List.getElem_cons_succ])); (refine wpAnyH_take (i := 10) (v := ?_) rfl (by kernel_rfl) (by kernel_rfl) (by kernel_rfl) (fun _ _ _ h => h) (Or.inl ⟨by rfl, ?_⟩) hHeld ?_; rotate_left; (focus (intro w hSw; (try dsimp only at hSw); go_simp; try with_reducible rfl)); (try simp only [Act.put, List.setIfInBounds_toArray, List.set_cons_zero, List.set_cons_succ, List.getElem_toArray, List.getElem_cons_zero, List.getElem_cons_succ])); (refine wpAnyH_take (i := 13) (v := ?_) rfl (by kernel_rfl) (by kernel_rfl) (by kernel_rfl) (fun _ _ _ h => h) (Or.inl ⟨by rfl, ?_⟩) hHeld ?_; rotate_left; (focus (intro w hSw; (try dsimp only at hSw); go_simp; try with_reducible rfl)); (try simp only [Act.put, List.setIfInBounds_toArray, List.set_cons_zero, List.set_cons_succ, List.getElem_toArray, List.getElem_cons_zero, List.getElem_cons_succ]))
  (refine wpAnyH_ready (rs := [11]) (by kernel_rfl) (by simp) ?_; refine AllReadyH.cons rfl (fun K hK => ?_) AllReadyH.nil; go_simp; refine (copiedW_any _ L (by omega) w4 ((show Bytes w2 _ _ from HV2.out).later hHeld)).mono ?_; rintro e w5 ⟨v5, rfl, ho5, hb5⟩; obtain ⟨a5, c5, rfl⟩ := ho5.form; refine hK.out _ _ ?_ (fun hHeldN => ?_); (focus ((try dsimp only); (exact hHeld.trans (hb5.mono hHeld.size)))); clear hK K hHeld; have hHeld := hHeldN; clear hHeldN; (try simp only [Act.put, List.setIfInBounds_toArray, List.set_cons_zero, List.set_cons_succ, List.getElem_toArray, List.getElem_cons_zero, List.getElem_cons_succ]))
  have H5 := Lib.hid (OwnB.bytes ho5)
  have HB5 := Lib.hid hHeld
  clear hHeld ho5 hb5
  refine wpAnyH_str (S' := fun w' => Below w5.heap.size w5 w') (fun w' h => HB5.out.trans (h.mono HB5.out.size)) _ _ _ _ ?_
  have hHeld := Below.refl w5.heap.size w5
  (refine wpAnyH_take (i := 12) (v := ?_) rfl (by kernel_rfl) (by kernel_rfl) (by kernel_rfl) (fun _ _ _ h => h) (Or.inl ⟨by rfl, ?_⟩) hHeld ?_; rotate_left; (focus (intro w hSw; (try dsimp only at hSw); go_simp; (rw [((show Bytes w5 _ (copied L) from H5.out).later hSw).str Try.underlying22 Try.underlying5 Try.underlying9]; rfl))); (try simp only [Act.put, List.setIfInBounds_toArray, List.set_cons_zero, List.set_cons_succ, List.getElem_toArray, List.getElem_cons_zero, List.getElem_cons_succ]))
  (refine wpAnyH_ready (rs := [14]) (by kernel_rfl) (by simp) ?_; refine AllReadyH.cons rfl (fun K hK => ?_) AllReadyH.nil; go_simp; refine (copiedR_any _ L (by omega) w5 ((show Bytes w2 _ _ from HV2.out).later HB5.out)).mono ?_; rintro e w6 ⟨v6, rfl, ho6, hb6⟩; obtain ⟨a6, c6, rfl⟩ := ho6.form; refine hK.out _ _ ?_ (fun hHeldN => ?_); (focus ((try dsimp only); (exact hHeld.trans (hb6.mono hHeld.size)))); clear hK K hHeld; have hHeld := hHeldN; clear hHeldN; (try simp only [Act.put, List.setIfInBounds_toArray, List.set_cons_zero, List.set_cons_succ, List.getElem_toArray, List.getElem_cons_zero, List.getElem_cons_succ]))
  have H6 := Lib.hid (OwnB.bytes ho6)
  have HB6 := Lib.hid (HB5.out.trans (hHeld.mono HB5.out.size))
  have HB56 := Lib.hid hHeld
  clear hHeld ho6 hb6
  refine wpAnyH_str (S' := fun w' => Below w6.heap.size w6 w') (fun w' h => HB56.out.trans (h.mono HB56.out.size)) _ _ _ _ ?_
  have hHeld := Below.refl w6.heap.size w6
  (refine wpAnyH_take (i := 15) (v := ?_) rfl (by kernel_rfl) (by kernel_rfl) (by kernel_rfl) (fun _ _ _ h => h) (Or.inl ⟨by rfl, ?_⟩) hHeld ?_; rotate_left; (focus (intro w hSw; (try dsimp only at hSw); go_simp; (rw [((show Bytes w6 _ (copied L) from H6.out).later hSw).str Try.underlying22 Try.underlying5 Try.underlying9]; rfl))); (try simp only [Act.put, List.setIfInBounds_toArray, List.set_cons_zero, List.set_cons_succ, List.getElem_toArray, List.getElem_cons_zero, List.getElem_cons_succ]))
  (refine wpAnyH_take (i := 16) (v := ?_) rfl (by kernel_rfl) (by kernel_rfl) (by kernel_rfl) (fun _ _ _ h => h) (Or.inl ⟨by rfl, ?_⟩) hHeld ?_; rotate_left; (focus (intro w hSw; (try dsimp only at hSw); go_simp; try with_reducible rfl)); (try simp only [Act.put, List.setIfInBounds_toArray, List.set_cons_zero, List.set_cons_succ, List.getElem_toArray, List.getElem_cons_zero, List.getElem_cons_succ])); (refine wpAnyH_take (i := 17) (v := ?_) rfl (by kernel_rfl) (by kernel_rfl) (by kernel_rfl) (fun _ _ _ h => h) (Or.inl ⟨by rfl, ?_⟩) hHeld ?_; rotate_left; (focus (intro w hSw; (try dsimp only at hSw); go_simp; try with_reducible rfl)); (try simp only [Act.put, List.setIfInBounds_toArray, List.set_cons_zero, List.set_cons_succ, List.getElem_toArray, List.getElem_cons_zero, List.getElem_cons_succ])); (refine wpAnyH_take (i := 18) (v := ?_) rfl (by kernel_rfl) (by kernel_rfl) (by kernel_rfl) (fun _ _ _ h => h) (Or.inl ⟨by rfl, ?_⟩) hHeld ?_; rotate_left; (focus (intro w hSw; (try dsimp only at hSw); go_simp; try with_reducible rfl)); (try simp only [Act.put, List.setIfInBounds_toArray, List.set_cons_zero, List.set_cons_succ, List.getElem_toArray, List.getElem_cons_zero, List.getElem_cons_succ])); (refine wpAnyH_take (i := 19) (v := ?_) rfl (by kernel_rfl) (by kernel_rfl) (by kernel_rfl) (fun _ _ _ h => h) (Or.inl ⟨by rfl, ?_⟩) hHeld ?_; rotate_left; (focus (intro w hSw; (try dsimp only at hSw); go_simp; try with_reducible rfl)); (try simp only [Act.put, List.setIfInBounds_toArray, List.set_cons_zero, List.set_cons_succ, List.getElem_toArray, List.getElem_cons_zero, List.getElem_cons_succ])); (refine wpAnyH_take (i := 21) (v := ?_) rfl (by kernel_rfl) (by kernel_rfl) (by kernel_rfl) (fun _ _ _ h => h) (Or.inl ⟨by rfl, ?_⟩) hHeld ?_; rotate_left; (focus (intro w hSw; (try dsimp only at hSw); go_simp; try with_reducible rfl)); (try simp only [Act.put, List.setIfInBounds_toArray, List.set_cons_zero, List.set_cons_succ, List.getElem_toArray, List.getElem_cons_zero, List.getElem_cons_succ]))
  (refine wpAnyH_ready (rs := [20]) (by kernel_rfl) (by simp) ?_; refine AllReadyH.cons rfl (fun K hK => ?_) AllReadyH.nil; go_simp; refine (routedW_any _ L (by omega) w6 ((show Bytes w2 _ _ from HV2.out).later HB6.out)).mono ?_; rintro e w7 ⟨rfl, hb7⟩; refine hK.out _ _ ?_ (fun hHeldN => ?_); (focus ((try dsimp only); (exact hHeld.trans (hb7.mono hHeld.size)))); clear hK K hHeld; have hHeld := hHeldN; clear hHeldN; (try simp only [Act.put, List.setIfInBounds_toArray, List.set_cons_zero, List.set_cons_succ, List.getElem_toArray, List.getElem_cons_zero, List.getElem_cons_succ]))
  clear hb7
  (refine wpAnyH_ready (rs := [22]) (by kernel_rfl) (by simp) ?_; refine AllReadyH.cons rfl (fun K hK => ?_) AllReadyH.nil; go_simp; refine (routedR_any _ L (by omega) w7 ((show Bytes w2 _ _ from HV2.out).later (HB6.out.trans (hHeld.mono HB6.out.size)))).mono ?_; rintro e w8 ⟨rfl, hb8⟩; refine hK.out _ _ ?_ (fun hHeldN => ?_); (focus ((try dsimp only); (exact hHeld.trans (hb8.mono hHeld.size)))); clear hK K hHeld; have hHeld := hHeldN; clear hHeldN; (try simp only [Act.put, List.setIfInBounds_toArray, List.set_cons_zero, List.set_cons_succ, List.getElem_toArray, List.getElem_cons_zero, List.getElem_cons_succ]))
  clear hb8
  (refine wpAnyH_take (i := 23) (v := ?_) rfl (by kernel_rfl) (by kernel_rfl) (by kernel_rfl) (fun _ _ _ h => h) (Or.inl ⟨by rfl, ?_⟩) hHeld ?_; rotate_left; (focus (intro w hSw; (try dsimp only at hSw); go_simp; try with_reducible rfl)); (try simp only [Act.put, List.setIfInBounds_toArray, List.set_cons_zero, List.set_cons_succ, List.getElem_toArray, List.getElem_cons_zero, List.getElem_cons_succ])); (refine wpAnyH_take (i := 24) (v := ?_) rfl (by kernel_rfl) (by kernel_rfl) (by kernel_rfl) (fun _ _ _ h => h) (Or.inl ⟨by rfl, ?_⟩) hHeld ?_; rotate_left; (focus (intro w hSw; (try dsimp only at hSw); go_simp; try with_reducible rfl)); (try simp only [Act.put, List.setIfInBounds_toArray, List.set_cons_zero, List.set_cons_succ, List.getElem_toArray, List.getElem_cons_zero, List.getElem_cons_succ]))
  refine wpAnyH_done (by kernel_rfl) ?_ _
  have HB8 := Lib.hid (HB6.out.trans (hHeld.mono HB6.out.size))
  clear hHeld
  go_wp2_with fail
  refine (copiedW_any _ L (by omega) w8 ((show Bytes w2 _ _ from HV2.out).later HB8.out)).mono ?_
  rintro e w9 ⟨v9, rfl, ho9, hb9⟩
  obtain ⟨a9, c9, rfl⟩ := ho9.form
  have hop2 := optionsW_any (.slice a9 (copied L).length c9) (copied L) (by have := HH.out; omega) w9 (OwnB.bytes ho9)
  rw [HH.out.2.2.2.1.1, HH.out.2.2.2.1.2] at hop2
  have HOP2 := Lib.hid hop2
  have HB9 := Lib.hid (HB8.out.trans (hb9.mono HB8.out.size))
  obtain ⟨q, hq⟩ : ∃ q, q = (copied L).length := ⟨_, rfl⟩
  rw [← hq] at HOP2 ⊢
  clear ho9 hb9 hop2 hq
  go_wp2_with fail
  refine HOP2.out.mono ?_
  rintro e w10 ⟨v10, rfl, ho10, hb10⟩
  obtain ⟨a10, c10, rfl⟩ := ho10.form
  obtain ⟨F, hF⟩ : ∃ F, F = R.filter isCop := ⟨_, rfl⟩
  obtain ⟨FN, hFN⟩ : ∃ FN, FN = F.length := ⟨_, rfl⟩
  rw [← hF, ← hFN] at ho10 ⊢
  have HF := Lib.hid (And.intro hF hFN)
  have hFl : FN ≤ N := by rw [hFN, hF, HH.out.1]; exact List.length_filter_le _ _
  have HB10 := Lib.hid (HB2.out.trans ((HB9.out.trans (hb10.mono HB9.out.size)).mono HB2.out.size))
  have HA10 : Hid (OptR w10 (.slice a10 FN c10) (F.map kd)) := ho10.reads
  have HL10 : Hid (OptR w10 (.slice a1 N c1) (R.map kd)) := (show OptR w2 _ _ from HL2.out).later (HB9.out.trans (hb10.mono HB9.out.size))
  clear ho10 hb10 hF hFN
  go_wp2_with fail
  go_loopw [9, 10] (fun n i wr => ∃ k j : Nat, k ≤ N ∧ i = .int .i64 (k : Nat) ∧ n = .int .i64 (j : Nat) ∧ Hid (j = ((R.take k).filter isCop).length) ∧ Hid (Below w10.heap.size w10 wr)) (fun _ i _ => N - (intOf i).toNat)
  case atStart => exact ⟨0, 0, Nat.zero_le _, rfl, rfl, rfl, Below.refl _ _⟩
  case round =>
    obtain ⟨k, j, hk, rfl, rfl, HJ, HB⟩ := hrel
    rcases Nat.lt_or_ge k N with hlt | hge
    · have g2 : (k : Int) < N := by omega
      have hkl : k < R.length := by rw [← HH.out.1]; exact hlt
      have hkK : k < (R.map kd).length := by rw [List.length_map]; exact hkl
      have hsuc := filter_len_succ hkl isCop
      have hfat := filter_at hkl isCop
      rw [← HJ.out, ← HF.out.1] at hfat
      rw [← HJ.out] at hsuc
      obtain ⟨b, o, rfl, hbl, hc0, x, m, d, hc1, hm1, hby⟩ := HL10.out.at hkK
      have hgk : (R.map kd)[k] = kd R[k] := by simp
      rw [hgk] at hc0 hm1 hby
      obtain ⟨r, hr⟩ : ∃ r, r = R[k] := ⟨_, rfl⟩
      rw [← hr] at hc0 hm1 hby hsuc hfat
      simp only [kd] at hc0 hm1 hby
      obtain ⟨z, hz⟩ : ∃ z, z = Sm.at0 r 0 := ⟨_, rfl⟩
      have hcopz : isCop r = decide (128 ≤ z) := by rw [hz]; rfl
      have hkd : kd r = (z, r.drop 2) := by rw [hz]; rfl
      rw [← hz] at hc0
      have d0 := cell_later' HB.out hbl hc0
      have d1 := cell_later' HB.out hbl hc1
      rw [Nat.mul_comm] at d0
      have e2 : wr.cell? ⟨b, o + k * 2 + 1, none⟩ = some (.slice x m d) := by rw [Nat.add_assoc, Nat.mul_comm k 2]; exact d1
      have HBY := Lib.hid hby
      clear hc0 hc1 hgk hz hm1 hby d1 hkK hr
      rw [hcopz] at hsuc hfat
      by_cases h1 : 128 ≤ z
      · have g3 : (128 : Int) ≤ z := by omega
        have hfj := hfat (by simp [h1])
        have hjF : j < FN := by rw [HF.out.2]; exact (List.getElem?_eq_some_iff.1 hfj).1
        have hjK : j < (F.map kd).length := by rw [List.length_map, ← HF.out.2]; exact hjF
        have hgj : (F.map kd)[j] = (z, r.drop 2) := by
          rw [List.getElem_map, ← hkd]
          congr 1
          exact (List.getElem?_eq_some_iff.1 hfj).2
        obtain ⟨b', o', rfl, hbl', hc0', x', m', d', hc1', hm2, hby'⟩ := HA10.out.at hjK
        rw [hgj] at hc0' hm2 hby'
        simp only at hc0' hm2 hby'
        have d0' := cell_later' HB.out hbl' hc0'
        have d1' := cell_later' HB.out hbl' hc1'
        rw [Nat.mul_comm] at d0'
        have e2' : wr.cell? ⟨b', o' + j * 2 + 1, none⟩ = some (.slice x' m' d') := by rw [Nat.add_assoc, Nat.mul_comm j 2]; exact d1'
        have hcv := fun n => ((show Bytes w10 _ _ from HBY.out).later (HB.out.trans (below_dr0 _ wr n))).str (P := Try.prog) (src := 22) (dst := 9) Try.underlying22 Try.underlying5 Try.underlying9
        have hcv' := fun n => (hby'.later (HB.out.trans (below_dr0 _ wr n))).str (P := Try.prog) (src := 22) (dst := 9) Try.underlying22 Try.underlying5 Try.underlying9
        have g4 : ((z : Int) != z) = false := by simp
        have g5 : (j : Int) < FN := by omega
        have g6 : k < N := hlt
        have HS : Hid (j + 1 = ((R.take (k + 1)).filter isCop).length) := by
          show _ = _
          rw [hsuc]; simp [h1]
        have hj9 : (j : Int) ≤ 300 := by omega
        clear hsuc hfat hfj hgj hkd hcopz hc0' hc1' d1' hm2 hby' hjK h1 hkl
        go_wp2_with fail
        go_quiet (fail)
        go_wp2_with fail
        go_roundw
        case rel => exact ⟨k + 1, j + 1, by omega, by go_num, by go_num, HS, below_drewN HB.out _⟩
        case measure => simp [intOf]; omega
      · have g3 : (z : Int) < 128 := by omega
        have HS : Hid (j = ((R.take (k + 1)).filter isCop).length) := by
          show _ = _
          rw [hsuc]; simp [h1]
        clear hsuc hfat hkd hcopz h1 hkl
        go_wp2_with fail
        go_roundw
        case rel => exact ⟨k + 1, j, by omega, by go_num, rfl, HS, HB⟩
        case measure => simp [intOf]; omega
    · have e : k = N := by omega
      subst e
      have hjF : j = FN := by rw [HJ.out, HH.out.1, List.take_length, HF.out.2, HF.out.1]
      have g2 : (k : Int) ≤ k := by omega
      have g3 : ((j : Int) == FN) = true := by rw [beq_iff_eq]; omega
      clear hjF
      go_wp2_with fail
      refine (known3_any wr).mono ?_
      rintro e w12 ⟨rfl, hb12⟩
      have HB12 := Lib.hid (HB10.out.trans ((HB.out.trans (hb12.mono HB.out.size)).mono HB10.out.size))
      clear hb12
      go_wp2_with fail
      go_ret
      exact ⟨rfl, HB12.out⟩

theorem ipOptions_walk (v : Value) (L : List UInt8) (w : World) (hv : Bytes w v L) (hl : L.length ≤ 9223372036854775807) :
    Calls Try.prog 5 #[v] w fun e w' => e = .returned (.bool true) ∧ Below w.heap.size w w' := by
  obtain ⟨a, c, rfl⟩ := hv.form
  rcases Nat.lt_or_ge 300 L.length with h | h
  · have g1 : (300 : Int) < L.length := by omega
    clear hv h
    go_enter Try.func5, Try.ntmps5
    go_wp2_with fail
    refine (known3_any w).mono ?_
    rintro e w1 ⟨rfl, hb1⟩
    go_wp2_with fail
    go_ret
    exact ⟨rfl, hb1⟩
  · exact ipOptions_in a c L w hv h
end Go.Proofs.Ytccfebaifgnodaa
