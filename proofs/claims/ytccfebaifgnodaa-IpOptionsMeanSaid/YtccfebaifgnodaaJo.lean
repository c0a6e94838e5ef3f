/- The walk of the law IpOptionsMean. -/
import Derived.Test.YtccfebaifgnodaaJm
import Derived.Test.YtccfebaifgnodaaIk
namespace Go.Proofs.Ytccfebaifgnodaa
open Go.RowKit
attribute [local go_sem ↓] Go.wp_at_zero Go.wp_at_succ

theorem bytes_two (w : World) (x y : Nat) (hx : x < 256) (hy : y < 256) : Bytes (w.alloc (.cells #[.int .u8 (x : Nat), .int .u8 (y : Nat)] 5)) (.slice (some ⟨w.heap.size, 0, none⟩) 2 2) [UInt8.ofNat x, UInt8.ofNat y] := by
  have := bytes_lit w [UInt8.ofNat x, UInt8.ofNat y]
  have e : bv [UInt8.ofNat x, UInt8.ofNat y] = [.int .u8 (x : Nat), .int .u8 (y : Nat)] := by
    simp only [bv, List.map_cons, List.map_nil, UInt8.toNat_ofNat']
    rw [Nat.mod_eq_of_lt (by simpa using hx), Nat.mod_eq_of_lt (by simpa using hy)]
  rw [e] at this
  exact this

set_option maxHeartbeats 8000000 in
set_option maxRecDepth 100000 in
theorem optMean_no (a : Option Addr) (c : Nat) (L : List UInt8) (w : World) (hv : Bytes w (.slice a L.length c) L) (hL : L.length ≤ 300) (hok : Om.ok L = false) :
    Calls Try.prog 8 #[.slice a L.length c] w fun e w' => e = .returned (.bool true) ∧ Below w.heap.size w w' := by
  have g1 : (L.length : Int) ≤ 300 := by omega
  have HV := Lib.hid hv
  have HK := Lib.hid (And.intro hok (And.intro (raws_no hok) (And.intro (copied_no hok) (routed_no hok))))
  clear hv hok
  go_enter Try.func8, Try.ntmps8
  go_wp2_with fail
  refine (optionsW_any _ L (by omega) w HV.out).mono ?_
  rintro e w1 ⟨v1, rfl, ho1, hb1⟩
  rw [HK.out.1, HK.out.2.1] at *
  obtain ⟨a1, c1, rfl⟩ := ho1.form
  have HB1 := Lib.hid hb1
  clear ho1 hb1
  go_wp2_with fail
  refine (copiedW_any _ L (by omega) w1 ((show Bytes w _ _ from HV.out).later HB1.out)).mono ?_
  rintro e w2 ⟨v2, rfl, ho2, hb2⟩
  rw [HK.out.2.2.1] at ho2
  obtain ⟨a2, c2, rfl⟩ := ho2.form
  have HB2 := Lib.hid (HB1.out.trans (hb2.mono HB1.out.size))
  clear ho2 hb2
  go_wp2_with fail
  have hr := routedW_any _ L (by omega) w2 ((show Bytes w _ _ from HV.out).later HB2.out)
  rw [HK.out.2.2.2] at hr
  refine hr.mono ?_
  rintro e w3 ⟨rfl, hb3⟩
  have HB3 := Lib.hid (HB2.out.trans (hb3.mono HB2.out.size))
  clear hb3 hr
  go_wp2_with fail
  refine (known3_any w3).mono ?_
  rintro e w4 ⟨rfl, hb4⟩
  have HB4 := Lib.hid (HB3.out.trans (hb4.mono HB3.out.size))
  clear hb4
  go_wp2_with fail
  go_ret
  exact ⟨rfl, HB4.out⟩

set_option maxHeartbeats 20000000 in
set_option maxRecDepth 100000 in
theorem optMean_yes (a : Option Addr) (c : Nat) (L : List UInt8) (w : World) (hv : Bytes w (.slice a L.length c) L) (hL : L.length ≤ 300) (hok : Om.ok L = true) :
    Calls Try.prog 8 #[.slice a L.length c] w fun e w' => e = .returned (.bool true) ∧ Below w.heap.size w w' := by
  have g1 : (L.length : Int) ≤ 300 := by omega
  have HV := Lib.hid hv
  have HK := Lib.hid hok
  have hrl := raws_len L
  have htot := raws_total L
  have hwf := raws_wf L
  obtain ⟨R, hR⟩ : ∃ R, R = Om.raws L := ⟨_, rfl⟩
  have hfl := ok_flat L
  have hop := fun w hv => optionsW_any (.slice a L.length c) L (by omega) w hv
  have hro := fun w hv => routedW_any (.slice a L.length c) L (by omega) w hv
  have hrb : routedB L = routedK (R.map kd) := by rw [hR]; rfl
  rw [hok, ← hR] at hop
  rw [hrb] at hro
  rw [← hR] at hrl htot hwf hfl
  have HOP := Lib.hid hop
  have HRO := Lib.hid hro
  have HRL := Lib.hid (And.intro hrl (And.intro htot (And.intro hwf (And.intro hfl hL))))
  have k2 : (R.length : Int) ≤ 300 := by omega
  clear hv hok hrl htot hwf hfl hop hro hrb hR
  go_enter Try.func8, Try.ntmps8
  go_wp2_with fail
  refine (HOP.out w HV.out).mono ?_
  rintro e w1 ⟨v1, rfl, ho1, hb1⟩
  obtain ⟨a1, c1, rfl⟩ := ho1.form
  have HB1 := Lib.hid hb1
  have HO1 := Lib.hid ho1.reads
  obtain ⟨N, hN⟩ : ∃ N, N = R.length := ⟨_, rfl⟩
  rw [← hN] at HO1 k2 ⊢
  have HN := Lib.hid hN
  clear ho1 hb1 hN
  go_wp2_with fail
  go_loopw [5, 6, 7] (fun v rt i wr => ∃ k : Nat, k ≤ N ∧ i = .int .i64 k ∧ Hid (OwnB wr w1.heap.size v (R.take k).flatten) ∧ rt = .bool (routedK ((R.take k).map kd)) ∧ Hid (Below w1.heap.size w1 wr)) (fun _ _ i _ => N - (intOf i).toNat)
  case atStart => exact ⟨0, Nat.zero_le _, rfl, OwnB.nil _ _, rfl, Below.refl _ _⟩
  case round =>
    obtain ⟨k, hk, rfl, HW, rfl, HB⟩ := hrel
    obtain ⟨rt, hrt⟩ : ∃ rt, rt = routedK ((R.take k).map kd) := ⟨_, rfl⟩
    rw [← hrt]
    have HRT := Lib.hid hrt
    obtain ⟨av, cv, rfl⟩ := OwnB.form (show OwnB wr w1.heap.size u5 (R.take k).flatten from HW.out)
    obtain ⟨A, hA⟩ : ∃ A, A = (R.take k).flatten := ⟨_, rfl⟩
    rw [← hA] at HW ⊢
    have HAe := Lib.hid hA
    clear hrt hA
    rcases Nat.lt_or_ge k N with hlt | hge
    · have g2 : (k : Int) < N := by omega
      have hkl : k < R.length := by rw [← HN.out]; exact hlt
      have hkK : k < (R.map kd).length := by rw [List.length_map]; exact hkl
      have HO2 : Hid (OptR w1 (.slice a1 N c1) (R.map kd)) := HO1.out
      obtain ⟨b, o, rfl, hbl, hc0, x, m, d, hc1, hm, hby⟩ := OptR.at HO2.out hkK
      have hgk : (R.map kd)[k] = kd R[k] := by simp
      rw [hgk] at hc0 hm hby
      obtain ⟨r, hr⟩ : ∃ r, r = R[k] := ⟨_, rfl⟩
      rw [← hr] at hc0 hm hby
      simp only [kd] at hc0 hm hby
      obtain ⟨w2r, w3r, w4r⟩ := HRL.out.2.2.1 r (by rw [hr]; exact List.getElem_mem hkl)
      have hr256 : r.length < 256 := by rw [← w4r]; exact Sm.at0_lt _ _
      have htl : A.length + r.length ≤ 300 := by
        have h1 := take_flat_le (R := R) (k + 1)
        rw [take_flat_succ hkl, ← HAe.out, ← hr, List.length_append] at h1
        have := HRL.out; omega
      have hsuc : (R.take (k + 1)).flatten = A ++ r := by rw [take_flat_succ hkl, ← HAe.out, ← hr]
      have hrs : routedK ((R.take (k + 1)).map kd) = (rt || isRoute (Sm.at0 r 0)) := by rw [routed_take hkl, ← HRT.out, ← hr]
      have hre := raw_eq w2r
      rw [w4r] at hre
      obtain ⟨z, hz⟩ : ∃ z, z = Sm.at0 r 0 := ⟨_, rfl⟩
      obtain ⟨rl, hrl⟩ : ∃ z, z = r.length := ⟨_, rfl⟩
      obtain ⟨D, hD⟩ : ∃ z, z = r.drop 2 := ⟨_, rfl⟩
      have hml : m = rl - 2 := by rw [hm, List.length_drop, hrl]
      rw [← hz] at hc0 hrs hre w3r
      rw [← hrl] at hre htl w2r
      rw [← hD] at hre hby
      have hz256 : z < 256 := by rw [hz]; exact Sm.at0_lt _ _
      have e0 : w1.cell? ⟨b, o + k * 2, none⟩ = some (.int .u8 (z : Nat)) := by rw [Nat.mul_comm]; exact hc0
      have e1 : w1.cell? ⟨b, o + k * 2 + 1, none⟩ = some (.slice x m d) := by rw [Nat.add_assoc, Nat.mul_comm k 2]; exact hc1
      have hs1 : (2 : Int) + m = rl := by omega
      rw [← hrl] at hr256
      have hwr : IntKind.u8.wrap (2 + (m : Int)) = rl := by rw [hs1]; exact IntWalk.u8_in _ ⟨by omega, by omega⟩
      have hwi : IntKind.i64.wrap (2 + (m : Int)) = 2 + m := IntWalk.i64_in _ ⟨by omega, by omega⟩
      have HBY := Lib.hid hby
      have HSU := Lib.hid hsuc
      have HRS := Lib.hid hrs
      have HRE := Lib.hid hre
      have HAL : Hid (A.length + rl ≤ 300 ∧ 2 ≤ rl ∧ rl < 256 ∧ D.length = rl - 2) := ⟨htl, w2r, hr256, by rw [hD, List.length_drop, hrl]⟩
      have hkn : k < N := hlt
      have HWI := Lib.hid (And.intro hwr hwi)
      clear hc0 hc1 hm hby hgk hr w4r hsuc hrs hre hz hrl hD hml hs1 htl hkl hkK hwr hwi
      go_wp2_with fail
      obtain ⟨hwr, hwi⟩ := HWI.out
      have HB3 : Hid (Below w1.heap.size w1 wr) := HB
      (refine wp_region_held_drew (S := (fun w' => Below w1.heap.size w1 w')) (by kernel_rfl) ?_ (fun hHeld => ?_); (focus ((try dsimp only); (exact HB3.out.drew))))
      change wpAnyH _ _ _ _ _ 23 _ _ _
      (refine wpAnyH_take (i := 0) (v := ?_) rfl (by kernel_rfl) (by kernel_rfl) (by kernel_rfl) (fun _ _ _ h => h) (Or.inl ⟨by rfl, ?_⟩) hHeld ?_; rotate_left; (focus (intro w hSw; (try dsimp only at hSw); go_simp; try with_reducible rfl)); (try simp only [Act.put, List.setIfInBounds_toArray, List.set_cons_zero, List.set_cons_succ, List.getElem_toArray, List.getElem_cons_zero])); (refine wpAnyH_take (i := 1) (v := ?_) rfl (by kernel_rfl) (by kernel_rfl) (by kernel_rfl) (fun _ _ _ h => h) (Or.inl ⟨by rfl, ?_⟩) hHeld ?_; rotate_left; (focus (intro w hSw; (try dsimp only at hSw); go_simp; try with_reducible rfl)); (try simp only [Act.put, List.setIfInBounds_toArray, List.set_cons_zero, List.set_cons_succ, List.getElem_toArray, List.getElem_cons_zero, List.getElem_cons_succ])); (refine wpAnyH_take (i := 2) (v := ?_) rfl (by kernel_rfl) (by kernel_rfl) (by kernel_rfl) (fun _ _ _ h => h) (Or.inl ⟨by rfl, ?_⟩) hHeld ?_; rotate_left; (focus (intro w hSw; (try dsimp only at hSw); go_simp; try with_reducible rfl)); (try simp only [Act.put, List.setIfInBounds_toArray, List.set_cons_zero, List.set_cons_succ, List.getElem_toArray, List.getElem_cons_zero, List.getElem_cons_succ])); (refine wpAnyH_take (i := 3) (v := ?_) rfl (by kernel_rfl) (by kernel_rfl) (by kernel_rfl) (fun _ _ _ h => h) (Or.inl ⟨by rfl, ?_⟩) hHeld ?_; rotate_left; (focus (intro w hSw; (try dsimp only at hSw); go_simp; try with_reducible rfl)); (try simp only [Act.put, List.setIfInBounds_toArray, List.set_cons_zero, List.set_cons_succ, List.getElem_toArray, List.getElem_cons_zero, List.getElem_cons_succ])); (refine wpAnyH_take (i := 4) (v := ?_) rfl (by kernel_rfl) (by kernel_rfl) (by kernel_rfl) (fun _ _ _ h => h) (Or.inl ⟨by rfl, ?_⟩) hHeld ?_; rotate_left; (focus (intro w hSw; (try dsimp only at hSw); go_simp; try with_reducible rfl)); (try simp only [Act.put, List.setIfInBounds_toArray, List.set_cons_zero, List.set_cons_succ, List.getElem_toArray, List.getElem_cons_zero, List.getElem_cons_succ]))
      (refine wpAnyH_take (i := 5) (v := ?_) rfl (by kernel_rfl) (by kernel_rfl) (by kernel_rfl) (fun _ _ _ h => h) (Or.inl ⟨by rfl, ?_⟩) hHeld ?_; rotate_left; (focus (intro w hSw; (try dsimp only at hSw); go_simp; (have hcc := cell_later' hSw hbl e0; go_simp; try with_reducible rfl))); (try simp only [Act.put, List.setIfInBounds_toArray, List.set_cons_zero, List.set_cons_succ, List.getElem_toArray, List.getElem_cons_zero, List.getElem_cons_succ]))
      (refine wpAnyH_take (i := 6) (v := ?_) rfl (by kernel_rfl) (by kernel_rfl) (by kernel_rfl) (fun _ _ _ h => h) (Or.inl ⟨by rfl, ?_⟩) hHeld ?_; rotate_left; (focus (intro w hSw; (try dsimp only at hSw); go_simp; try with_reducible rfl)); (try simp only [Act.put, List.setIfInBounds_toArray, List.set_cons_zero, List.set_cons_succ, List.getElem_toArray, List.getElem_cons_zero, List.getElem_cons_succ])); (refine wpAnyH_take (i := 7) (v := ?_) rfl (by kernel_rfl) (by kernel_rfl) (by kernel_rfl) (fun _ _ _ h => h) (Or.inl ⟨by rfl, ?_⟩) hHeld ?_; rotate_left; (focus (intro w hSw; (try dsimp only at hSw); go_simp; try with_reducible rfl)); (try simp only [Act.put, List.setIfInBounds_toArray, List.set_cons_zero, List.set_cons_succ, List.getElem_toArray, List.getElem_cons_zero, List.getElem_cons_succ])); (refine wpAnyH_take (i := 8) (v := ?_) rfl (by kernel_rfl) (by kernel_rfl) (by kernel_rfl) (fun _ _ _ h => h) (Or.inl ⟨by rfl, ?_⟩) hHeld ?_; rotate_left; (focus (intro w hSw; (try dsimp only at hSw); go_simp; try with_reducible rfl)); (try simp only [Act.put, List.setIfInBounds_toArray, List.set_cons_zero, List.set_cons_succ, List.getElem_toArray, List.getElem_cons_zero, List.getElem_cons_succ])); (refine wpAnyH_take (i := 9) (v := ?_) rfl (by kernel_rfl) (by kernel_rfl) (by kernel_rfl) (fun _ _ _ h => h) (Or.inl ⟨by rfl, ?_⟩) hHeld ?_; rotate_left; (focus (intro w hSw; (try dsimp only at hSw); go_simp; try with_reducible rfl)); (try simp only [Act.put, List.setIfInBounds_toArray, List.set_cons_zero, List.set_cons_succ, List.getElem_toArray, List.getElem_cons_zero, List.getElem_cons_succ]))
      (refine wpAnyH_take (i := 10) (v := ?_) rfl (by kernel_rfl) (by kernel_rfl) (by kernel_rfl) (fun _ _ _ h => h) (Or.inl ⟨by rfl, ?_⟩) hHeld ?_; rotate_left; (focus (intro w hSw; (try dsimp only at hSw); go_simp; (have hcc := cell_later' hSw hbl e1; go_simp; try with_reducible rfl))); (try simp only [Act.put, List.setIfInBounds_toArray, List.set_cons_zero, List.set_cons_succ, List.getElem_toArray, List.getElem_cons_zero, List.getElem_cons_succ]))
      (refine wpAnyH_take (i := 11) (v := ?_) rfl (by kernel_rfl) (by kernel_rfl) (by kernel_rfl) (fun _ _ _ h => h) (Or.inl ⟨by rfl, ?_⟩) hHeld ?_; rotate_left; (focus (intro w hSw; (try dsimp only at hSw); go_simp; try with_reducible rfl)); (try simp only [Act.put, List.setIfInBounds_toArray, List.set_cons_zero, List.set_cons_succ, List.getElem_toArray, List.getElem_cons_zero, List.getElem_cons_succ])); (refine wpAnyH_take (i := 12) (v := ?_) rfl (by kernel_rfl) (by kernel_rfl) (by kernel_rfl) (fun _ _ _ h => h) (Or.inl ⟨by rfl, ?_⟩) hHeld ?_; rotate_left; (focus (intro w hSw; (try dsimp only at hSw); go_simp; try with_reducible rfl)); (try simp only [Act.put, List.setIfInBounds_toArray, List.set_cons_zero, List.set_cons_succ, List.getElem_toArray, List.getElem_cons_zero, List.getElem_cons_succ])); (refine wpAnyH_take (i := 13) (v := ?_) rfl (by kernel_rfl) (by kernel_rfl) (by kernel_rfl) (fun _ _ _ h => h) (Or.inl ⟨by rfl, ?_⟩) hHeld ?_; rotate_left; (focus (intro w hSw; (try dsimp only at hSw); go_simp; try with_reducible rfl)); (try simp only [Act.put, List.setIfInBounds_toArray, List.set_cons_zero, List.set_cons_succ, List.getElem_toArray, List.getElem_cons_zero, List.getElem_cons_succ])); (refine wpAnyH_take (i := 16) (v := ?_) rfl (by kernel_rfl) (by kernel_rfl) (by kernel_rfl) (fun _ _ _ h => h) (Or.inl ⟨by rfl, ?_⟩) hHeld ?_; rotate_left; (focus (intro w hSw; (try dsimp only at hSw); go_simp; try with_reducible rfl)); (try simp only [Act.put, List.setIfInBounds_toArray, List.set_cons_zero, List.set_cons_succ, List.getElem_toArray, List.getElem_cons_zero, List.getElem_cons_succ])); (refine wpAnyH_take (i := 17) (v := ?_) rfl (by kernel_rfl) (by kernel_rfl) (by kernel_rfl) (fun _ _ _ h => h) (Or.inl ⟨by rfl, ?_⟩) hHeld ?_; rotate_left; (focus (intro w hSw; (try dsimp only at hSw); go_simp; try with_reducible rfl)); (try simp only [Act.put, List.setIfInBounds_toArray, List.set_cons_zero, List.set_cons_succ, List.getElem_toArray, List.getElem_cons_zero, List.getElem_cons_succ])); (refine wpAnyH_take (i := 18) (v := ?_) rfl (by kernel_rfl) (by kernel_rfl) (by kernel_rfl) (fun _ _ _ h => h) (Or.inl ⟨by rfl, ?_⟩) hHeld ?_; rotate_left; (focus (intro w hSw; (try dsimp only at hSw); go_simp; try with_reducible rfl)); (try simp only [Act.put, List.setIfInBounds_toArray, List.set_cons_zero, List.set_cons_succ, List.getElem_toArray, List.getElem_cons_zero, List.getElem_cons_succ])); (refine wpAnyH_take (i := 19) (v := ?_) rfl (by kernel_rfl) (by kernel_rfl) (by kernel_rfl) (fun _ _ _ h => h) (Or.inl ⟨by rfl, ?_⟩) hHeld ?_; rotate_left; (focus (intro w hSw; (try dsimp only at hSw); go_simp; try with_reducible rfl)); (try simp only [Act.put, List.setIfInBounds_toArray, List.set_cons_zero, List.set_cons_succ, List.getElem_toArray, List.getElem_cons_zero, List.getElem_cons_succ]))
      (refine wpAnyH_take (i := 20) (v := ?_) rfl (by kernel_rfl) (by kernel_rfl) (by kernel_rfl) (fun _ _ _ h => h) (Or.inl ⟨by rfl, ?_⟩) hHeld ?_; rotate_left; (focus (intro w hSw; (try dsimp only at hSw); go_simp; (have hcc := cell_later' hSw hbl e1; go_simp; try with_reducible rfl))); (try simp only [Act.put, List.setIfInBounds_toArray, List.set_cons_zero, List.set_cons_succ, List.getElem_toArray, List.getElem_cons_zero, List.getElem_cons_succ]))
      obtain ⟨w0, hw0⟩ : ∃ w0, w0 = World.drew wr := ⟨_, rfl⟩
      rw [← hw0]
      (try dsimp only at hHeld)
      rw [← hw0] at hHeld
      have hd0 : Below wr.heap.size wr w0 := by rw [hw0]; exact (Below.refl _ _).drew
      have HW0 : Hid (OwnB w0 w1.heap.size (.slice av A.length cv) A) := OwnB.later HW.out hd0
      clear hw0 hd0
      refine wpAnyH_ready (rs := [14]) (by kernel_rfl) (by simp) ?_
      refine AllReadyH.cons rfl (fun K hK => ?_) AllReadyH.nil
      go_simp
      have hb14 := Lib.hid (bytes_two w0 z rl hz256 HAL.out.2.2.1)
      have HW1 := Lib.hid (OwnB.alloc HW0.out (.cells #[.int .u8 (z : Nat), .int .u8 (rl : Nat)] 5))
      refine hK.out _ _ (hHeld.alloc hHeld.size _) (fun hHeldN => ?_)
      (try simp only [Act.put, List.setIfInBounds_toArray, List.set_cons_zero, List.set_cons_succ, List.getElem_toArray, List.getElem_cons_zero, List.getElem_cons_succ])
      (clear hHeld; have hHeld := hHeldN; clear hHeldN)
      refine wpAnyH_ready (rs := [15]) (by kernel_rfl) (by simp) ?_
      refine AllReadyH.cons rfl (fun K2 hK2 => ?_) AllReadyH.nil
      refine step_app rfl (.tmp 44) (.tmp 58) rfl w1.heap.size _ _ A [UInt8.ofNat z, UInt8.ofNat rl] rfl rfl HW1.out hb14.out (by have := HAL.out; simp; omega) hHeld.size ?_
      intro v15 w15 ho15 hbl15 hg15
      have HW15 := Lib.hid ho15
      have hH15 := hHeld.trans hbl15
      clear ho15 hg15
      refine hK2.out _ _ hH15 (fun hHeldN => ?_)
      (try simp only [Act.put, List.setIfInBounds_toArray, List.set_cons_zero, List.set_cons_succ, List.getElem_toArray, List.getElem_cons_zero, List.getElem_cons_succ])
      (clear hHeld hH15; have hHeld := hHeldN; clear hHeldN)
      refine wpAnyH_ready (rs := [21]) (by kernel_rfl) (by simp) ?_
      refine AllReadyH.cons rfl (fun K3 hK3 => ?_) AllReadyH.nil
      refine step_app rfl (.tmp 59) (.tmp 64) rfl w1.heap.size _ _ (A ++ [UInt8.ofNat z, UInt8.ofNat rl]) D rfl rfl HW15.out ((show Bytes w1 _ _ from HBY.out).later hHeld) (by have := HAL.out; simp; omega) hHeld.size ?_
      intro v21 w21 ho21 hbl21 hg21
      have HW21 : Hid (OwnB w21 w1.heap.size v21 (R.take (k + 1)).flatten) := by
        show OwnB _ _ _ _
        have e : (A ++ [UInt8.ofNat z, UInt8.ofNat rl]) ++ D = (R.take (k + 1)).flatten := by rw [HSU.out, List.append_assoc, ← HRE.out]; rfl
        rw [← e]; exact ho21
      have hH21 := hHeld.trans hbl21
      have HB21 := Lib.hid hH21
      have E0 := Lib.hid (cell_later' hH21 hbl e0)
      clear ho21 hg21 hbl21 hbl15 HW15 hb14 HW1 HW0
      refine hK3.out _ _ hH21 (fun hHeldN => ?_)
      (try simp only [Act.put, List.setIfInBounds_toArray, List.set_cons_zero, List.set_cons_succ, List.getElem_toArray, List.getElem_cons_zero, List.getElem_cons_succ])
      (clear hHeld hH21; have hHeld := hHeldN; clear hHeldN)
      (refine wpAnyH_take (i := 22) (v := ?_) rfl (by kernel_rfl) (by kernel_rfl) (by kernel_rfl) (fun _ _ _ h => h) (Or.inl ⟨by rfl, ?_⟩) hHeld ?_; rotate_left; (focus (intro w hSw; (try dsimp only at hSw); go_simp; try with_reducible rfl)); (try simp only [Act.put, List.setIfInBounds_toArray, List.set_cons_zero, List.set_cons_succ, List.getElem_toArray, List.getElem_cons_zero, List.getElem_cons_succ]))
      refine wpAnyH_done (by kernel_rfl) ?_ _
      have e0' := E0.out
      have hzl : ((z : Int) < 2) = False := by simp; omega
      have hzl2 : (2 : Int) ≤ z := by omega
      have hbs : b < w21.heap.size := Nat.lt_of_lt_of_le hbl HB21.out.size
      clear e0 e1 hHeld
      have hrc := route_cases z
      cases rt with
      | true =>
        have HRS2 : Hid (routedK ((R.take (k + 1)).map kd) = true) := by show _ = _; rw [HRS.out]; rfl
        clear hrc
        go_wp2_with fail
        go_roundw
        case rel => exact ⟨k + 1, by omega, by go_num, HW21, by rw [HRS2.out], HB21⟩
        case measure => simp [intOf]; omega
      | false =>
        by_cases h1 : z = 131
        · have HRS2 : Hid (routedK ((R.take (k + 1)).map kd) = true) := by show _ = _; rw [HRS.out, hrc, h1]; rfl
          have g3 : ((z : Int) == 131) = true := by rw [beq_iff_eq]; omega
          clear hrc h1
          go_wp2_with fail
          go_roundw
          case rel => exact ⟨k + 1, by omega, by go_num, HW21, by rw [HRS2.out], HB21⟩
          case measure => simp [intOf]; omega
        · have g3 : ((z : Int) == 131) = false := by rw [beq_eq_false_iff_ne]; omega
          by_cases h2 : z = 137
          · have HRS2 : Hid (routedK ((R.take (k + 1)).map kd) = true) := by show _ = _; rw [HRS.out, hrc, h2]; rfl
            have g4 : ((z : Int) == 137) = true := by rw [beq_iff_eq]; omega
            clear hrc h1 h2
            go_wp2_with fail
            go_roundw
            case rel => exact ⟨k + 1, by omega, by go_num, HW21, by rw [HRS2.out], HB21⟩
            case measure => simp [intOf]; omega
          · have HRS2 : Hid (routedK ((R.take (k + 1)).map kd) = false) := by show _ = _; rw [HRS.out, hrc]; simp [h1, h2]
            have g4 : ((z : Int) == 137) = false := by rw [beq_eq_false_iff_ne]; omega
            clear hrc h1 h2
            go_wp2_with fail
            go_roundw
            case rel => exact ⟨k + 1, by omega, by go_num, HW21, by rw [HRS2.out], HB21⟩
            case measure => simp [intOf]; omega
    · have e : k = N := by omega
      subst e
      have hAR : A = R.flatten := by rw [HAe.out, HN.out, List.take_length]
      have hrtR : rt = routedK (R.map kd) := by rw [HRT.out, HN.out, List.take_length]
      have hAl : A.length ≤ 300 := by rw [hAR]; have := HRL.out; omega
      have hokA : Om.ok A = true := by rw [hAR]; exact HRL.out.2.2.2.1.1
      have hraA : Om.raws A = R := by rw [hAR]; exact HRL.out.2.2.2.1.2
      have hop2 := optionsW_any (.slice av A.length cv) A (by omega) wr (show Bytes wr _ _ from OwnB.bytes HW.out)
      rw [hokA, hraA] at hop2
      have HOP2 := Lib.hid hop2
      have hcm := copied_mod L
      obtain ⟨M, hM⟩ : ∃ M, M = copied L := ⟨_, rfl⟩
      rw [← hM] at hcm
      have hcp := fun w hv => copiedW_any (.slice a L.length c) L (by have := HRL.out; omega) w hv
      rw [← hM] at hcp
      have HCP := Lib.hid hcp
      have g5 : ((M.length : Int) % 4 == 0) = true := by rw [beq_iff_eq]; omega
      clear hAR hAl hop2 HAe hokA hraA hcm hM hcp
      subst hrtR
      clear HRT
      go_wp2_with fail
      refine HOP2.out.mono ?_
      rintro e w2 ⟨v2, rfl, ho2, hb2⟩
      obtain ⟨a2, c2, rfl⟩ := ho2.form
      have HB2 := Lib.hid (HB.out.trans (hb2.mono HB.out.size))
      have HO2 := Lib.hid ho2.reads
      clear ho2 hb2
      go_wp2_with fail
      refine (sameOpt_any _ _ (R.map kd) (by have := HRL.out; rw [List.length_map]; omega) w2 ((show OptR w1 _ _ from HO1.out).later HB2.out) HO2.out).mono ?_
      rintro e w3 ⟨rfl, hb3⟩
      have HB3 := Lib.hid (HB1.out.trans ((HB2.out.trans (hb3.mono HB2.out.size)).mono HB1.out.size))
      clear hb3
      go_wp2_with fail
      refine (HRO.out w3 ((show Bytes w _ _ from HV.out).later HB3.out)).mono ?_
      rintro e w4 ⟨rfl, hb4⟩
      have HB4 := Lib.hid (HB3.out.trans (hb4.mono HB3.out.size))
      clear hb4
      go_wp2_with fail
      refine (HCP.out w4 ((show Bytes w _ _ from HV.out).later HB4.out)).mono ?_
      rintro e w5 ⟨v5, rfl, ho5, hb5⟩
      obtain ⟨a5, c5, rfl⟩ := ho5.form
      have HB5 := Lib.hid (HB4.out.trans (hb5.mono HB4.out.size))
      clear ho5 hb5
      go_wp2_with fail
      refine (known3_any w5).mono ?_
      rintro e w6 ⟨rfl, hb6⟩
      have HB6 := Lib.hid (HB5.out.trans (hb6.mono HB5.out.size))
      clear hb6
      go_wp2_with fail
      go_ret
      exact ⟨rfl, HB6.out⟩

theorem ipOptionsMean_walk (v : Value) (L : List UInt8) (w : World) (hv : Bytes w v L) (hl : L.length ≤ 9223372036854775807) :
    Calls Try.prog 8 #[v] w fun e w' => e = .returned (.bool true) ∧ Below w.heap.size w w' := by
  obtain ⟨a, c, rfl⟩ := hv.form
  rcases Nat.lt_or_ge 300 L.length with h | h
  · have g1 : (300 : Int) < L.length := by omega
    clear hv h
    go_enter Try.func8, Try.ntmps8
    go_wp2_with fail
    refine (known3_any w).mono ?_
    rintro e w1 ⟨rfl, hb1⟩
    go_wp2_with fail
    go_ret
    exact ⟨rfl, hb1⟩
  · cases hok : Om.ok L with
    | false => exact optMean_no a c L w hv h hok
    | true => exact optMean_yes a c L w hv h hok
end Go.Proofs.Ytccfebaifgnodaa
