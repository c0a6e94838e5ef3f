/- The walks of Bytes, the program's and the reference's, and of answer, for longer bytes. -/
import Derived.Test.YtnhkkpcepppgoaaZ12
import Derived.Test.YtnhkkpcepppgoaaZ14
import Derived.Test.YtnhkkpcepppgoaaZ19

set_option linter.unusedSimpArgs false
set_option linter.unusedVariables false
namespace Go.Proofs.Ytnhkkpcepppgoaa
open Go.RowKit
attribute [local go_sem ↓] Go.wp_at_zero Go.wp_at_succ

set_option maxHeartbeats 8000000 in
set_option maxRecDepth 100000 in
theorem bytesM_anyB (m : Mg) (hm : m.Ok) (a : Option Addr) (c : Nat) (B : List UInt8) (wm : World) (hB : Bytes wm (.slice a B.length c) B) (hl : B.length ≤ 65507) :
    Calls Try.prog 31 #[.agg #[.int .u8 (m.ty : Nat), .int .u8 (m.co : Nat), .int .u8 (m.r0 : Nat), .int .u8 (m.r1 : Nat), .int .u8 (m.r2 : Nat), .int .u8 (m.r3 : Nat), .slice a B.length c]] wm fun e w' => ∃ v, e = .returned v ∧ OwnB w' wm.heap.size v (msgL m B) ∧ Below wm.heap.size wm w' := by
  obtain ⟨bn, hbn⟩ : ∃ n, n = B.length := ⟨_, rfl⟩
  obtain ⟨w, hw⟩ : ∃ w, w = wm.alloc (.cells #[.int .u8 (m.ty : Nat), .int .u8 (m.co : Nat), .int .u8 (m.r0 : Nat), .int .u8 (m.r1 : Nat), .int .u8 (m.r2 : Nat), .int .u8 (m.r3 : Nat), .slice a bn c] 46) := ⟨_, rfl⟩
  have hbm : Below wm.heap.size wm w := by rw [hw]; exact (Below.refl _ _).alloc (Nat.le_refl _) _
  have hbx : BlkAt 46 wm.heap.size [.int .u8 (m.ty : Nat), .int .u8 (m.co : Nat), .int .u8 (m.r0 : Nat), .int .u8 (m.r1 : Nat), .int .u8 (m.r2 : Nat), .int .u8 (m.r3 : Nat), .slice a bn c] w := by rw [hw]; exact BlkAt.new wm _
  have HBM := Lib.hid hbm
  have HBX := Lib.hid hbx
  have HBN := Lib.hid hbn
  have HB : Hid (Bytes w (.slice a bn c) B) := by rw [hbn]; exact hB.later hbm
  have HL : Hid (B.length ≤ 65507) := hl
  have HM := Lib.hid hm
  rw [← hbn]
  clear hbm hbx hbn hB hl hm
  go_enter Try.func31, Try.ntmps31
  go_wp2_with fail
  rw [← hw]
  clear hw
  (refine wp_region_held_drew (S := (fun w' => Below w.heap.size w w')) (by kernel_rfl) ?_ (fun hHeld => ?_); (focus ((try dsimp only); (exact (Below.refl _ _).drew))))
  (try dsimp only at hHeld)
  obtain ⟨w0, hw0⟩ : ∃ w4, w4 = World.drew w := ⟨_, rfl⟩
  rw [← hw0]
  rw [← hw0] at hHeld
  clear hw0
  (refine wpAnyH_take (i := 0) (v := ?_) rfl (by kernel_rfl) (by kernel_rfl) (by kernel_rfl) (fun _ _ _ h => h) (Or.inl ⟨by rfl, ?_⟩) hHeld ?_; rotate_left; (focus (intro w hSw; (try dsimp only at hSw); go_simp; try with_reducible rfl)); (try simp only [Act.put, List.setIfInBounds_toArray, List.set_cons_zero, List.set_cons_succ, List.getElem_toArray, List.getElem_cons_zero]))
  (refine wpAnyH_take (i := 1) (v := ?_) rfl (by kernel_rfl) (by kernel_rfl) (by kernel_rfl) (fun _ _ _ h => h) (Or.inl ⟨by rfl, ?_⟩) hHeld ?_; rotate_left; (focus (intro w hSw; (try dsimp only at hSw); go_simp; (have hcc := (HBX.out.later hSw).cell (j := 0) rfl; go_simp; try with_reducible rfl))); (try simp only [Act.put, List.setIfInBounds_toArray, List.set_cons_zero, List.set_cons_succ, List.getElem_toArray, List.getElem_cons_zero, List.getElem_cons_succ]))
  (refine wpAnyH_take (i := 2) (v := ?_) rfl (by kernel_rfl) (by kernel_rfl) (by kernel_rfl) (fun _ _ _ h => h) (Or.inl ⟨by rfl, ?_⟩) hHeld ?_; rotate_left; (focus (intro w hSw; (try dsimp only at hSw); go_simp; try with_reducible rfl)); (try simp only [Act.put, List.setIfInBounds_toArray, List.set_cons_zero, List.set_cons_succ, List.getElem_toArray, List.getElem_cons_zero, List.getElem_cons_succ]))
  (refine wpAnyH_take (i := 3) (v := ?_) rfl (by kernel_rfl) (by kernel_rfl) (by kernel_rfl) (fun _ _ _ h => h) (Or.inl ⟨by rfl, ?_⟩) hHeld ?_; rotate_left; (focus (intro w hSw; (try dsimp only at hSw); go_simp; (have hcc := (HBX.out.later hSw).cell (j := 1) rfl; go_simp; try with_reducible rfl))); (try simp only [Act.put, List.setIfInBounds_toArray, List.set_cons_zero, List.set_cons_succ, List.getElem_toArray, List.getElem_cons_zero, List.getElem_cons_succ]))
  (refine wpAnyH_take (i := 5) (v := ?_) rfl (by kernel_rfl) (by kernel_rfl) (by kernel_rfl) (fun _ _ _ h => h) (Or.inl ⟨by rfl, ?_⟩) hHeld ?_; rotate_left; (focus (intro w hSw; (try dsimp only at hSw); go_simp; try with_reducible rfl)); (try simp only [Act.put, List.setIfInBounds_toArray, List.set_cons_zero, List.set_cons_succ, List.getElem_toArray, List.getElem_cons_zero, List.getElem_cons_succ])); (refine wpAnyH_take (i := 6) (v := ?_) rfl (by kernel_rfl) (by kernel_rfl) (by kernel_rfl) (fun _ _ _ h => h) (Or.inl ⟨by rfl, ?_⟩) hHeld ?_; rotate_left; (focus (intro w hSw; (try dsimp only at hSw); go_simp; try with_reducible rfl)); (try simp only [Act.put, List.setIfInBounds_toArray, List.set_cons_zero, List.set_cons_succ, List.getElem_toArray, List.getElem_cons_zero, List.getElem_cons_succ])); (refine wpAnyH_take (i := 7) (v := ?_) rfl (by kernel_rfl) (by kernel_rfl) (by kernel_rfl) (fun _ _ _ h => h) (Or.inl ⟨by rfl, ?_⟩) hHeld ?_; rotate_left; (focus (intro w hSw; (try dsimp only at hSw); go_simp; try with_reducible rfl)); (try simp only [Act.put, List.setIfInBounds_toArray, List.set_cons_zero, List.set_cons_succ, List.getElem_toArray, List.getElem_cons_zero, List.getElem_cons_succ]))
  (refine wpAnyH_take (i := 8) (v := ?_) rfl (by kernel_rfl) (by kernel_rfl) (by kernel_rfl) (fun _ _ _ h => h) (Or.inl ⟨by rfl, ?_⟩) hHeld ?_; rotate_left; (focus (intro w hSw; (try dsimp only at hSw); go_simp; (have hcc := (HBX.out.later hSw).cell (j := 6) rfl; go_simp; try with_reducible rfl))); (try simp only [Act.put, List.setIfInBounds_toArray, List.set_cons_zero, List.set_cons_succ, List.getElem_toArray, List.getElem_cons_zero, List.getElem_cons_succ]))
  (refine wpAnyH_ready (rs := [4]) (by kernel_rfl) (by simp) ?_; refine AllReadyH.cons rfl (fun K hK => ?_) AllReadyH.nil; go_simp; skip; refine hK.out _ _ ?_ (fun hHeldN => ?_); (focus ((try dsimp only); (exact hHeld.alloc hHeld.size _))); clear hK K hHeld; have hHeld := hHeldN; clear hHeldN; (try simp only [Act.put, List.setIfInBounds_toArray, List.set_cons_zero, List.set_cons_succ, List.getElem_toArray, List.getElem_cons_zero, List.getElem_cons_succ]))
  (refine wpAnyH_ready (rs := [9]) (by kernel_rfl) (by simp) ?_; refine AllReadyH.cons rfl (fun K hK => ?_) AllReadyH.nil; go_simp; skip; refine hK.out _ _ ?_ (fun hHeldN => ?_); (focus ((try dsimp only); (exact hHeld.alloc hHeld.size _))); clear hK K hHeld; have hHeld := hHeldN; clear hHeldN; (try simp only [Act.put, List.setIfInBounds_toArray, List.set_cons_zero, List.set_cons_succ, List.getElem_toArray, List.getElem_cons_zero, List.getElem_cons_succ]))
  (refine wpAnyH_ready (rs := [10]) (by kernel_rfl) (by simp) ?_; refine AllReadyH.cons rfl (fun K hK => ?_) AllReadyH.nil; go_simp; refine (joinW_own _ [h4 m, r4 m, B] _ (lists_three3 ((lit4 HM.out w0).later ((Below.refl _ _).alloc (Nat.le_refl _) _)) (rest4 HM.out (HBX.out.later hHeld)) ((show Bytes w _ B from HB.out).later hHeld) (by simp) (by simp) (by simp) (by simp)) (by simp) (by have := HL.out; simp [h4, r4]; omega)).mono ?_; rintro e w2 ⟨v2, rfl, ho2, hb2⟩; have ho2 := OwnB.weak ho2 (Nat.le_trans HBM.out.size hHeld.size); refine hK.out _ _ ?_ (fun hHeldN => ?_); (focus ((try dsimp only); (exact hHeld.trans (hb2.mono hHeld.size)))); clear hK K hHeld; have hHeld := hHeldN; clear hHeldN; (try simp only [Act.put, List.setIfInBounds_toArray, List.set_cons_zero, List.set_cons_succ, List.getElem_toArray, List.getElem_cons_zero, List.getElem_cons_succ]))
  (refine wpAnyH_take (i := 11) (v := ?_) rfl (by kernel_rfl) (by kernel_rfl) (by kernel_rfl) (fun _ _ _ h => h) (Or.inl ⟨by rfl, ?_⟩) hHeld ?_; rotate_left; (focus (intro w hSw; (try dsimp only at hSw); go_simp; try with_reducible rfl)); (try simp only [Act.put, List.setIfInBounds_toArray, List.set_cons_zero, List.set_cons_succ, List.getElem_toArray, List.getElem_cons_zero, List.getElem_cons_succ]))
  refine wpAnyH_done (by kernel_rfl) ?_ _
  rw [show [h4 m, r4 m, B].flatten = msg0 m B from by simp [msg0]] at ho2
  obtain ⟨L0, hL0⟩ : ∃ L0, L0 = msg0 m B := ⟨_, rfl⟩
  rw [← hL0] at ho2
  have hln : L0.length = 8 + bn := by rw [hL0, msg0_length, HBN.out]
  obtain ⟨g, cap, _, rfl, hbg, _, hnc, _⟩ := ho2.row (by omega)
  obtain ⟨n, hn⟩ : ∃ n, n = L0.length := ⟨_, rfl⟩
  have hcut : ∀ W, (Instr.slice 22 (.slice (some ⟨g, 0, none⟩) n cap) (some (.int .i64 2)) none none).run Try.prog W = .ok (.slice (some ⟨g, 2, none⟩) (n - 2) (cap - 2)) W := fun W => cut_front g n cap 2 (by omega) (by omega) W
  have HLN : Hid (n = 8 + bn ∧ n = L0.length ∧ L0 = msg0 m B ∧ wm.heap.size ≤ g ∧ L0.length ≤ cap ∧ L0.length ≤ 100000) := ⟨by omega, hn, hL0, hbg, hnc, by have := HBN.out; have := HL.out; omega⟩
  have HB2 := Lib.hid (HBM.out.trans (hHeld.mono HBM.out.size))
  have HO2 := Lib.hid ho2
  have k2 : (2 : Int) ≤ n := by omega
  have k3 : n ≤ cap := by omega
  obtain ⟨ck, hck⟩ : ∃ k, k = 65535 - Sm.tot L0 := ⟨_, rfl⟩
  have HCK := Lib.hid hck
  have HC6 : Hid (ck < 65536) := by show ck < 65536; omega
  rw [← hn]
  clear hL0 hln hbg hnc hn hck ho2 hb2 hHeld
  go_wp2_with fail
  (refine wp_region_held_drew (S := (fun w' => Below wm.heap.size wm w')) (by kernel_rfl) ?_ (fun hHeld => ?_); (focus ((try dsimp only); (exact HB2.out.drew))))
  (try dsimp only at hHeld)
  obtain ⟨w3, hw3⟩ : ∃ w4, w4 = World.drew w2 := ⟨_, rfl⟩
  have HO3 : Hid (OwnB w3 wm.heap.size (.slice (some ⟨g, 0, none⟩) L0.length cap) L0) := by rw [hw3]; exact HO2.out
  rw [← hw3]
  rw [← hw3] at hHeld
  clear hw3
  (refine wpAnyH_take (i := 0) (v := ?_) rfl (by kernel_rfl) (by kernel_rfl) (by kernel_rfl) (fun _ _ _ h => h) (Or.inl ⟨by rfl, ?_⟩) hHeld ?_; rotate_left; (focus (intro w hSw; (try dsimp only at hSw); go_simp; try with_reducible rfl)); (try simp only [Act.put, List.setIfInBounds_toArray, List.set_cons_zero, List.set_cons_succ, List.getElem_toArray, List.getElem_cons_zero])); (refine wpAnyH_take (i := 1) (v := ?_) rfl (by kernel_rfl) (by kernel_rfl) (by kernel_rfl) (fun _ _ _ h => h) (Or.inl ⟨by rfl, ?_⟩) hHeld ?_; rotate_left; (focus (intro w hSw; (try dsimp only at hSw); go_simp; try with_reducible rfl)); (try simp only [Act.put, List.setIfInBounds_toArray, List.set_cons_zero, List.set_cons_succ, List.getElem_toArray, List.getElem_cons_zero, List.getElem_cons_succ])); (refine wpAnyH_take (i := 2) (v := ?_) rfl (by kernel_rfl) (by kernel_rfl) (by kernel_rfl) (fun _ _ _ h => h) (Or.inl ⟨by rfl, ?_⟩) hHeld ?_; rotate_left; (focus (intro w hSw; (try dsimp only at hSw); go_simp; try with_reducible rfl)); (try simp only [Act.put, List.setIfInBounds_toArray, List.set_cons_zero, List.set_cons_succ, List.getElem_toArray, List.getElem_cons_zero, List.getElem_cons_succ]))
  have H3 := Lib.hid hHeld
  (refine wpAnyH_ready (rs := [3]) (by kernel_rfl) (by simp) ?_; refine AllReadyH.cons rfl (fun K hK => ?_) AllReadyH.nil; go_simp; skip; refine hK.out _ _ ?_ (fun hHeldN => ?_); (focus ((try dsimp only); (exact hHeld.alloc hHeld.size _))); clear hK K hHeld; have hHeld := hHeldN; clear hHeldN; (try simp only [Act.put, List.setIfInBounds_toArray, List.set_cons_zero, List.set_cons_succ, List.getElem_toArray, List.getElem_cons_zero, List.getElem_cons_succ]))
  (refine wpAnyH_ready (rs := [4]) (by kernel_rfl) (by simp) ?_; refine AllReadyH.cons rfl (fun K hK => ?_) AllReadyH.nil; go_simp; have hc1 := check_oneB w3 (.slice (some ⟨g, 0, none⟩) n cap) L0 (by have h9 := OwnB.bytes HO3.out; rw [← HLN.out.2.1] at h9; exact h9) HLN.out.2.2.2.2.2; rw [← HCK.out] at hc1; refine hc1.mono ?_; rintro e w4 ⟨rfl, hb4⟩; have HO4 := Lib.hid (OwnB.later HO3.out hb4); refine hK.out _ _ ?_ (fun hHeldN => ?_); (focus ((try dsimp only); (exact H3.out.trans (hb4.mono H3.out.size)))); clear hK K hHeld; have hHeld := hHeldN; clear hHeldN; (try simp only [Act.put, List.setIfInBounds_toArray, List.set_cons_zero, List.set_cons_succ, List.getElem_toArray, List.getElem_cons_zero, List.getElem_cons_succ]))
  clear hb4 H3
  have hwc : IntKind.i64.wrap (ck : Int) = (ck : Int) := IntWalk.i64_in _ ⟨by have := HC6.out; omega, by have := HC6.out; omega⟩
  (refine wpAnyH_take (i := 5) (v := ?_) rfl (by kernel_rfl) (by kernel_rfl) (by kernel_rfl) (fun _ _ _ h => h) (Or.inl ⟨by rfl, ?_⟩) hHeld ?_; rotate_left; (focus (intro w hSw; (try dsimp only at hSw); go_simp; try with_reducible rfl)); (try simp only [Act.put, List.setIfInBounds_toArray, List.set_cons_zero, List.set_cons_succ, List.getElem_toArray, List.getElem_cons_zero, List.getElem_cons_succ]))
  (refine wpAnyH_ready (rs := [6]) (by kernel_rfl) (by simp) ?_; refine AllReadyH.cons rfl (fun K hK => ?_) AllReadyH.nil; go_simp; refine (pair_any ck HC6.out w4).mono ?_; rintro e w5 ⟨y, rfl, hy, hb5⟩; have HO5 := Lib.hid (OwnB.later HO4.out hb5); refine hK.out _ _ ?_ (fun hHeldN => ?_); (focus ((try dsimp only); (exact hHeld.trans (hb5.mono hHeld.size)))); clear hK K hHeld; have hHeld := hHeldN; clear hHeldN; (try simp only [Act.put, List.setIfInBounds_toArray, List.set_cons_zero, List.set_cons_succ, List.getElem_toArray, List.getElem_cons_zero, List.getElem_cons_succ]))
  clear hb5
  obtain ⟨b5, o5, c5, rfl⟩ : ∃ b o c, y = .slice (some ⟨b, o, none⟩) 2 c := by
    rcases hy with ⟨h0, _⟩ | ⟨b, o, c, e, _⟩
    · have := congrArg List.length h0; rw [putL_length] at this; simp at this
    · rw [putL_length] at e; exact ⟨b, o, c, e⟩
  obtain ⟨gz, cz, cur, e1, hbz, hgc, hnc, hcs⟩ := OwnB.row HO5.out (by have := HLN.out; omega)
  simp only [Value.slice.injEq, Option.some.injEq, Addr.mk.injEq, and_true] at e1
  obtain ⟨rfl, _, rfl⟩ := e1
  have k4 : 2 ≤ n - 2 := by have := HLN.out; omega
  (refine wpAnyH_ready (rs := [7]) (by kernel_rfl) (by simp) ?_; refine AllReadyH.cons rfl (fun K hK => ?_) AllReadyH.nil; refine step_copy_blk rfl (.tmp 16) (.tmp 21) 22 22 rfl 5 Try.underlying22 (by kernel_rfl) g 2 _ _ ⟨b5, o5, none⟩ _ _ rfl rfl cur.toList 5 (by simpa using hgc) (bv (putL ck 2)) (by rw [show (bv (putL ck 2)).length = 2 from by simp [bv, putL_length]]; exact (Nat.min_eq_left k4).symm) (Bytes.news hy) (by rw [show (bv (putL ck 2)).length = 2 from by simp [bv, putL_length]]; have := HLN.out; simp; omega) (bv_one _) ?_; intro w6 hg6 hk6 hb6; refine hK.out _ _ ?_ (fun hHeldN => ?_); (focus ((try dsimp only); (exact hHeld.trans (hb6.out _ HLN.out.2.2.2.1)))); clear hK K hHeld; have hHeld := hHeldN; clear hHeldN; (try simp only [Act.put, List.setIfInBounds_toArray, List.set_cons_zero, List.set_cons_succ, List.getElem_toArray, List.getElem_cons_zero, List.getElem_cons_succ]))
  refine wpAnyH_done (by kernel_rfl) ?_ _
  have hO6 : OwnB w6 wm.heap.size (.slice (some ⟨g, 0, none⟩) (spl L0 2 (putL ck 2)).length cap) (spl L0 2 (putL ck 2)) := OwnB.splice HO5.out hgc (by simpa using hg6.out) (by rw [putL_length]; have := HLN.out; omega)
  have HO6 : Hid (OwnB w6 wm.heap.size (.slice (some ⟨g, 0, none⟩) n cap) (msgL m B)) := by
    show OwnB _ _ _ _
    have e : spl L0 2 (putL ck 2) = msgL m B := by unfold msgL; rw [HCK.out, HLN.out.2.2.1]
    have e2 : (spl L0 2 (putL ck 2)).length = n := by rw [e, msgL_length, HLN.out.1, HBN.out]
    rw [e2, e] at hO6; exact hO6
  have HB6 := Lib.hid hHeld
  clear hO6 hHeld hg6 hk6 hb6 hgc
  go_wp2_with fail
  go_ret
  exact ⟨_, rfl, HO6.out, HB6.out⟩
set_option maxHeartbeats 8000000 in
set_option maxRecDepth 100000 in
theorem bytesMR_anyB (m : Mg) (hm : m.Ok) (a : Option Addr) (c : Nat) (B : List UInt8) (wm : World) (hB : Bytes wm (.slice a B.length c) B) (hl : B.length ≤ 65507) :
    Calls Try.prog 32 #[.agg #[.int .u8 (m.ty : Nat), .int .u8 (m.co : Nat), .int .u8 (m.r0 : Nat), .int .u8 (m.r1 : Nat), .int .u8 (m.r2 : Nat), .int .u8 (m.r3 : Nat), .slice a B.length c]] wm fun e w' => ∃ v, e = .returned v ∧ OwnB w' wm.heap.size v (msgL m B) ∧ Below wm.heap.size wm w' := by
  obtain ⟨bn, hbn⟩ : ∃ n, n = B.length := ⟨_, rfl⟩
  have hbm : Below wm.heap.size wm (wm.alloc (.cells #[.int .u8 (m.ty : Nat), .int .u8 (m.co : Nat), .int .u8 (m.r0 : Nat), .int .u8 (m.r1 : Nat), .int .u8 (m.r2 : Nat), .int .u8 (m.r3 : Nat), .slice a bn c] 46)) := (Below.refl _ _).alloc (Nat.le_refl _) _
  have HBN := Lib.hid hbn
  have HL : Hid (B.length ≤ 65507) := hl
  have HBA : Hid (Below wm.heap.size wm ((wm.alloc (.cells #[.int .u8 (m.ty : Nat), .int .u8 (m.co : Nat), .int .u8 (m.r0 : Nat), .int .u8 (m.r1 : Nat), .int .u8 (m.r2 : Nat), .int .u8 (m.r3 : Nat), .slice a bn c] 46)).alloc (.cells #[.int .u8 (m.ty : Nat), .int .u8 (m.co : Nat), .int .u8 0, .int .u8 0, .int .u8 (m.r0 : Nat), .int .u8 (m.r1 : Nat), .int .u8 (m.r2 : Nat), .int .u8 (m.r3 : Nat)] 5))) := hbm.alloc hbm.size _
  have HB : Hid (Bytes ((wm.alloc (.cells #[.int .u8 (m.ty : Nat), .int .u8 (m.co : Nat), .int .u8 (m.r0 : Nat), .int .u8 (m.r1 : Nat), .int .u8 (m.r2 : Nat), .int .u8 (m.r3 : Nat), .slice a bn c] 46)).alloc (.cells #[.int .u8 (m.ty : Nat), .int .u8 (m.co : Nat), .int .u8 0, .int .u8 0, .int .u8 (m.r0 : Nat), .int .u8 (m.r1 : Nat), .int .u8 (m.r2 : Nat), .int .u8 (m.r3 : Nat)] 5)) (.slice a bn c) B) := by show Bytes _ _ _; rw [hbn]; exact hB.later (by rw [← hbn]; exact HBA.out)
  have HO8 : Hid (OwnB ((wm.alloc (.cells #[.int .u8 (m.ty : Nat), .int .u8 (m.co : Nat), .int .u8 (m.r0 : Nat), .int .u8 (m.r1 : Nat), .int .u8 (m.r2 : Nat), .int .u8 (m.r3 : Nat), .slice a bn c] 46)).alloc (.cells #[.int .u8 (m.ty : Nat), .int .u8 (m.co : Nat), .int .u8 0, .int .u8 0, .int .u8 (m.r0 : Nat), .int .u8 (m.r1 : Nat), .int .u8 (m.r2 : Nat), .int .u8 (m.r3 : Nat)] 5)) wm.heap.size (.slice (some ⟨wm.heap.size + 1, 0, none⟩) 8 8) (h8 m)) := by
    have h := own8 hm (wm.alloc (.cells #[.int .u8 (m.ty : Nat), .int .u8 (m.co : Nat), .int .u8 (m.r0 : Nat), .int .u8 (m.r1 : Nat), .int .u8 (m.r2 : Nat), .int .u8 (m.r3 : Nat), .slice a bn c] 46)) wm.heap.size hbm.size
    rw [World.size_alloc] at h
    exact h
  rw [← hbn]
  clear hbm hbn hB hl hm
  go_enter Try.func32, Try.ntmps32
  go_wp2_with (at_builtin; refine wpList_app rfl (.tmp 20) (.tmp 22) rfl wm.heap.size _ _ (h8 m) B rfl rfl HO8.out HB.out (by have := HL.out; show 8 + B.length ≤ _; omega) HBA.out.size ?_)
  intro v2 w2 ho2 hb2 _
  rw [msg0_h8] at ho2
  obtain ⟨L0, hL0⟩ : ∃ L0, L0 = msg0 m B := ⟨_, rfl⟩
  rw [← hL0] at ho2
  have hln : L0.length = 8 + bn := by rw [hL0, msg0_length, HBN.out]
  obtain ⟨g, cap, _, rfl, hbg, _, hnc, _⟩ := ho2.row (by omega)
  obtain ⟨n, hn⟩ : ∃ n, n = L0.length := ⟨_, rfl⟩
  have HLN : Hid (n = 8 + bn ∧ n = L0.length ∧ L0 = msg0 m B ∧ wm.heap.size ≤ g ∧ L0.length ≤ cap ∧ L0.length ≤ 100000) := ⟨by omega, hn, hL0, hbg, hnc, by have := HBN.out; have := HL.out; omega⟩
  have HB2 := Lib.hid (HBA.out.trans hb2)
  have HO2 := Lib.hid ho2
  have hcut : ∀ W, (Instr.slice 22 (.slice (some ⟨g, 0, none⟩) n cap) (some (.int .i64 2)) (some (.int .i64 4)) none).run Try.prog W = .ok (.slice (some ⟨g, 2, none⟩) 2 (cap - 2)) W := by
    intro W
    rw [run_slice_lh W _ _ _ _ cells1 _ _ _ _ (by omega) (by omega) (by omega), size1]
    show Result.ok (Go.sliced _ _ _ _ 1) W = _
    unfold Go.sliced
    rw [if_neg (by omega)]
    simp [Addr.add]
  have k3 : n ≤ cap := by omega
  have k4 : (4 : Int) ≤ n := by omega
  obtain ⟨ck, hck⟩ : ∃ k, k = 65535 - Sm.tot L0 := ⟨_, rfl⟩
  have HCK := Lib.hid hck
  have HC6 : Hid (ck < 65536) := by show ck < 65536; omega
  rw [← hn]
  clear hL0 hln hbg hnc hn hck ho2 hb2
  go_wp2_with fail
  (refine wp_region_held_drew (S := (fun w' => Below wm.heap.size wm w')) (by kernel_rfl) ?_ (fun hHeld => ?_); (focus ((try dsimp only); (exact HB2.out.drew))))
  (try dsimp only at hHeld)
  obtain ⟨w3, hw3⟩ : ∃ w4, w4 = World.drew w2 := ⟨_, rfl⟩
  have HO3 : Hid (OwnB w3 wm.heap.size (.slice (some ⟨g, 0, none⟩) L0.length cap) L0) := by rw [hw3]; exact HO2.out
  rw [← hw3]
  rw [← hw3] at hHeld
  clear hw3
  (refine wpAnyH_take (i := 0) (v := ?_) rfl (by kernel_rfl) (by kernel_rfl) (by kernel_rfl) (fun _ _ _ h => h) (Or.inl ⟨by rfl, ?_⟩) hHeld ?_; rotate_left; (focus (intro w hSw; (try dsimp only at hSw); go_simp; try with_reducible rfl)); (try simp only [Act.put, List.setIfInBounds_toArray, List.set_cons_zero, List.set_cons_succ, List.getElem_toArray, List.getElem_cons_zero])); (refine wpAnyH_take (i := 1) (v := ?_) rfl (by kernel_rfl) (by kernel_rfl) (by kernel_rfl) (fun _ _ _ h => h) (Or.inl ⟨by rfl, ?_⟩) hHeld ?_; rotate_left; (focus (intro w hSw; (try dsimp only at hSw); go_simp; try with_reducible rfl)); (try simp only [Act.put, List.setIfInBounds_toArray, List.set_cons_zero, List.set_cons_succ, List.getElem_toArray, List.getElem_cons_zero, List.getElem_cons_succ])); (refine wpAnyH_take (i := 2) (v := ?_) rfl (by kernel_rfl) (by kernel_rfl) (by kernel_rfl) (fun _ _ _ h => h) (Or.inl ⟨by rfl, ?_⟩) hHeld ?_; rotate_left; (focus (intro w hSw; (try dsimp only at hSw); go_simp; try with_reducible rfl)); (try simp only [Act.put, List.setIfInBounds_toArray, List.set_cons_zero, List.set_cons_succ, List.getElem_toArray, List.getElem_cons_zero, List.getElem_cons_succ]))
  have hc1 := checkR_anyB (.slice (some ⟨g, 0, none⟩) n cap) L0 w3 (by have h9 := OwnB.bytes HO3.out; rw [← HLN.out.2.1] at h9; exact h9) HLN.out.2.2.2.2.2
  rw [← HCK.out] at hc1
  (refine wpAnyH_ready (rs := [3]) (by kernel_rfl) (by simp) ?_; refine AllReadyH.cons rfl (fun K hK => ?_) AllReadyH.nil; go_simp; refine hc1.mono ?_; rintro e w4 ⟨rfl, hb4⟩; have HO4 := Lib.hid (OwnB.later HO3.out hb4); refine hK.out _ _ ?_ (fun hHeldN => ?_); (focus ((try dsimp only); (exact hHeld.trans (hb4.mono hHeld.size)))); clear hK K hHeld; have hHeld := hHeldN; clear hHeldN; (try simp only [Act.put, List.setIfInBounds_toArray, List.set_cons_zero, List.set_cons_succ, List.getElem_toArray, List.getElem_cons_zero, List.getElem_cons_succ]))
  clear hb4 hc1
  have hwc : IntKind.u64.wrap (ck : Int) = (ck : Int) := IntWalk.u64_in _ ⟨by have := HC6.out; omega, by have := HC6.out; omega⟩
  (refine wpAnyH_take (i := 4) (v := ?_) rfl (by kernel_rfl) (by kernel_rfl) (by kernel_rfl) (fun _ _ _ h => h) (Or.inl ⟨by rfl, ?_⟩) hHeld ?_; rotate_left; (focus (intro w hSw; (try dsimp only at hSw); go_simp; try with_reducible rfl)); (try simp only [Act.put, List.setIfInBounds_toArray, List.set_cons_zero, List.set_cons_succ, List.getElem_toArray, List.getElem_cons_zero, List.getElem_cons_succ]))
  (refine wpAnyH_ready (rs := [5]) (by kernel_rfl) (by simp) ?_; refine AllReadyH.cons rfl (fun K hK => ?_) AllReadyH.nil; go_simp; refine (putR_any ck 2 w4 (by have := HC6.out; omega) (by omega)).mono ?_; rintro e w5 ⟨y, rfl, hy, hb5⟩; have HO5 := Lib.hid (OwnB.later HO4.out hb5); refine hK.out _ _ ?_ (fun hHeldN => ?_); (focus ((try dsimp only); (exact hHeld.trans (hb5.mono hHeld.size)))); clear hK K hHeld; have hHeld := hHeldN; clear hHeldN; (try simp only [Act.put, List.setIfInBounds_toArray, List.set_cons_zero, List.set_cons_succ, List.getElem_toArray, List.getElem_cons_zero, List.getElem_cons_succ]))
  clear hb5
  obtain ⟨b5, o5, c5, rfl⟩ : ∃ b o c, y = .slice (some ⟨b, o, none⟩) 2 c := by
    rcases hy with ⟨h0, _⟩ | ⟨b, o, c, e, _⟩
    · have := congrArg List.length h0; rw [putL_length] at this; simp at this
    · rw [putL_length] at e; exact ⟨b, o, c, e⟩
  obtain ⟨gz, cz, cur, e1, hbz, hgc, hnc, hcs⟩ := OwnB.row HO5.out (by have := HLN.out; omega)
  simp only [Value.slice.injEq, Option.some.injEq, Addr.mk.injEq, and_true] at e1
  obtain ⟨rfl, _, rfl⟩ := e1
  (refine wpAnyH_ready (rs := [6]) (by kernel_rfl) (by simp) ?_; refine AllReadyH.cons rfl (fun K hK => ?_) AllReadyH.nil; refine step_copy_blk rfl (.tmp 25) (.tmp 29) 22 22 rfl 5 Try.underlying22 (by kernel_rfl) g 2 _ _ ⟨b5, o5, none⟩ _ _ rfl rfl cur.toList 5 (by simpa using hgc) (bv (putL ck 2)) (by rw [show (bv (putL ck 2)).length = 2 from by simp [bv, putL_length]]; rfl) (Bytes.news hy) (by rw [show (bv (putL ck 2)).length = 2 from by simp [bv, putL_length]]; have := HLN.out; simp; omega) (bv_one _) ?_; intro w6 hg6 hk6 hb6; refine hK.out _ _ ?_ (fun hHeldN => ?_); (focus ((try dsimp only); (exact hHeld.trans (hb6.out _ HLN.out.2.2.2.1)))); clear hK K hHeld; have hHeld := hHeldN; clear hHeldN; (try simp only [Act.put, List.setIfInBounds_toArray, List.set_cons_zero, List.set_cons_succ, List.getElem_toArray, List.getElem_cons_zero, List.getElem_cons_succ]))
  refine wpAnyH_done (by kernel_rfl) ?_ _
  have hO6 : OwnB w6 wm.heap.size (.slice (some ⟨g, 0, none⟩) (spl L0 2 (putL ck 2)).length cap) (spl L0 2 (putL ck 2)) := OwnB.splice HO5.out hgc (by simpa using hg6.out) (by rw [putL_length]; have := HLN.out; omega)
  have HO6 : Hid (OwnB w6 wm.heap.size (.slice (some ⟨g, 0, none⟩) n cap) (msgL m B)) := by
    show OwnB _ _ _ _
    have e : spl L0 2 (putL ck 2) = msgL m B := by unfold msgL; rw [HCK.out, HLN.out.2.2.1]
    have e2 : (spl L0 2 (putL ck 2)).length = n := by rw [e, msgL_length, HLN.out.1, HBN.out]
    rw [e2, e] at hO6; exact hO6
  have HB6 := Lib.hid hHeld
  clear hO6 hHeld hg6 hk6 hb6 hgc
  go_wp2_with fail
  go_ret
  exact ⟨_, rfl, HO6.out, HB6.out⟩
set_option maxHeartbeats 8000000 in
set_option maxRecDepth 100000 in
theorem answer_anyB (h : Hd) (hh : h.Ok) (ho : h.off = 0) (m : Mg) (hm : m.Ok) (a : Option Addr) (c : Nat) (B : List UInt8) (wm : World) (hB : Bytes wm (.slice a B.length c) B) (hl : B.length ≤ 65507) :
    Calls Try.prog 72 #[.agg #[.int .u8 (h.tos : Nat), .int .u16 (h.id : Nat), .bool h.ev, .bool h.df, .bool h.mf, .int .i64 h.off, .int .u8 (h.ttl : Nat), .int .u8 (h.pr : Nat), .int .u32 (h.src : Nat), .int .u32 (h.dst : Nat), .slice none 0 0], .agg #[.int .u8 (m.ty : Nat), .int .u8 (m.co : Nat), .int .u8 (m.r0 : Nat), .int .u8 (m.r1 : Nat), .int .u8 (m.r2 : Nat), .int .u8 (m.r3 : Nat), .slice a B.length c]] wm fun e w' => ∃ v, e = .returned (.tuple #[v, .int .i64 0]) ∧ OwnB w' wm.heap.size v (ansL h m B) ∧ Below wm.heap.size wm w' := by
  obtain ⟨bn, hbn⟩ : ∃ n, n = B.length := ⟨_, rfl⟩
  have hbm : Below wm.heap.size wm ((wm.alloc (.cells #[.int .u8 (h.tos : Nat), .int .u16 (h.id : Nat), .bool h.ev, .bool h.df, .bool h.mf, .int .i64 h.off, .int .u8 64, .int .u8 1, .int .u32 (h.src : Nat), .int .u32 (h.dst : Nat), .slice none 0 0] 28)).alloc (.cells #[.int .u8 (m.ty : Nat), .int .u8 (m.co : Nat), .int .u8 (m.r0 : Nat), .int .u8 (m.r1 : Nat), .int .u8 (m.r2 : Nat), .int .u8 (m.r3 : Nat), .slice a bn c] 46)) := by go_grown
  obtain ⟨w, hw⟩ : ∃ w, w = (wm.alloc (.cells #[.int .u8 (h.tos : Nat), .int .u16 (h.id : Nat), .bool h.ev, .bool h.df, .bool h.mf, .int .i64 h.off, .int .u8 64, .int .u8 1, .int .u32 (h.src : Nat), .int .u32 (h.dst : Nat), .slice none 0 0] 28)).alloc (.cells #[.int .u8 (m.ty : Nat), .int .u8 (m.co : Nat), .int .u8 (m.r0 : Nat), .int .u8 (m.r1 : Nat), .int .u8 (m.r2 : Nat), .int .u8 (m.r3 : Nat), .slice a bn c] 46) := ⟨_, rfl⟩
  have HR1 : Hid (HdAt wm.heap.size [.int .u8 (h.tos : Nat), .int .u16 (h.id : Nat), .bool h.ev, .bool h.df, .bool h.mf, .int .i64 h.off, .int .u8 64, .int .u8 1, .int .u32 (h.src : Nat), .int .u32 (h.dst : Nat), .slice none 0 0] w) := by rw [hw]; exact HdAt.later (HdAt.new wm _) ((Below.refl _ _).alloc (Nat.le_refl _) _)
  have HR2 : Hid (BlkAt 46 (wm.heap.size + 1) [.int .u8 (m.ty : Nat), .int .u8 (m.co : Nat), .int .u8 (m.r0 : Nat), .int .u8 (m.r1 : Nat), .int .u8 (m.r2 : Nat), .int .u8 (m.r3 : Nat), .slice a bn c] w) := by
    rw [hw]
    have := BlkAt.new (t := 46) (wm.alloc (.cells #[.int .u8 (h.tos : Nat), .int .u16 (h.id : Nat), .bool h.ev, .bool h.df, .bool h.mf, .int .i64 h.off, .int .u8 64, .int .u8 1, .int .u32 (h.src : Nat), .int .u32 (h.dst : Nat), .slice none 0 0] 28)) [.int .u8 (m.ty : Nat), .int .u8 (m.co : Nat), .int .u8 (m.r0 : Nat), .int .u8 (m.r1 : Nat), .int .u8 (m.r2 : Nat), .int .u8 (m.r3 : Nat), .slice a bn c]
    rw [World.size_alloc] at this
    exact this
  rw [← hw] at hbm
  have HBM := Lib.hid hbm
  have HB : Hid (Bytes w (.slice a bn c) B) := by rw [hbn]; exact hB.later hbm
  have HBN := Lib.hid hbn
  have HBS : Hid (∀ W, Below w.heap.size w W → Calls Try.prog 31 #[.agg #[.int .u8 (m.ty : Nat), .int .u8 (m.co : Nat), .int .u8 (m.r0 : Nat), .int .u8 (m.r1 : Nat), .int .u8 (m.r2 : Nat), .int .u8 (m.r3 : Nat), .slice a bn c]] W fun e w' => ∃ v, e = .returned v ∧ OwnB w' W.heap.size v (msgL m B) ∧ Below W.heap.size W w') := fun W hb => by
    have := bytesM_anyB m hm a c B W (by rw [← hbn]; exact HB.out.later hb) hl
    rw [← hbn] at this; exact this
  have HIB : Hid (∀ (pa : Option Addr) (pc pn : Nat) (W : World), pn = (msgL m B).length → Bytes W (.slice pa pn pc) (msgL m B) → Calls Try.prog 22 #[.agg #[.int .u8 (h.tos : Nat), .int .u16 (h.id : Nat), .bool h.ev, .bool h.df, .bool h.mf, .int .i64 h.off, .int .u8 64, .int .u8 1, .int .u32 (h.src : Nat), .int .u32 (h.dst : Nat), .slice none 0 0], .slice pa pn pc] W fun e w' => ∃ v, e = .returned (.tuple #[v, .int .i64 0]) ∧ OwnB w' W.heap.size v (ansL h m B) ∧ Below W.heap.size W w') := fun pa pc pn W hpn hp => by
    subst hpn
    exact bytes_yes (ansH h) (ansH_ok hh) none 0 [] pa pc (msgL m B) W (Bytes.nil _ _ _) hp (may_nil ho) (by rw [msgL_length]; simp; omega)
  have HML : Hid ((msgL m B).length = 8 + bn) := by show _ = _; rw [msgL_length, hbn]
  rw [← hbn]
  clear hbm hbn hB hl hh hm
  have HOFF := Lib.hid ho
  clear ho
  go_enter Try.func72, Try.ntmps72
  go_wp2_with fail
  rw [← hw]
  clear hw
  (refine wp_region_held_drew (S := (fun w' => Below w.heap.size w w')) (by kernel_rfl) ?_ (fun hHeld => ?_); (focus ((try dsimp only); (exact (Below.refl _ _).drew))))
  (try dsimp only at hHeld)
  obtain ⟨w0, hw0⟩ : ∃ w4, w4 = World.drew w := ⟨_, rfl⟩
  rw [← hw0]
  rw [← hw0] at hHeld
  clear hw0
  (refine wpAnyH_take (i := 0) (v := ?_) rfl (by kernel_rfl) (by kernel_rfl) (by kernel_rfl) (fun _ _ _ h => h) (Or.inl ⟨by rfl, ?_⟩) hHeld ?_; rotate_left; (focus (intro w hSw; (try dsimp only at hSw); go_simp; (have hq := HdAt.later HR1.out hSw; have c0 := HdAt.cell hq (j := 0) rfl; have c1 := HdAt.cell hq (j := 1) rfl; have c2 := HdAt.cell hq (j := 2) rfl; have c3 := HdAt.cell hq (j := 3) rfl; have c4 := HdAt.cell hq (j := 4) rfl; have c5 := HdAt.cell hq (j := 5) rfl; have c6 := HdAt.cell hq (j := 6) rfl; have c7 := HdAt.cell hq (j := 7) rfl; have c8 := HdAt.cell hq (j := 8) rfl; have c9 := HdAt.cell hq (j := 9) rfl; have c10 := HdAt.cell hq (j := 10) rfl; go_simp; try with_reducible rfl))); (try simp only [Act.put, List.setIfInBounds_toArray, List.set_cons_zero, List.set_cons_succ, List.getElem_toArray, List.getElem_cons_zero]))
  (refine wpAnyH_take (i := 1) (v := ?_) rfl (by kernel_rfl) (by kernel_rfl) (by kernel_rfl) (fun _ _ _ h => h) (Or.inl ⟨by rfl, ?_⟩) hHeld ?_; rotate_left; (focus (intro w hSw; (try dsimp only at hSw); go_simp; (have hq := BlkAt.later HR2.out hSw; have c0 := BlkAt.cell hq (j := 0) rfl; have c1 := BlkAt.cell hq (j := 1) rfl; have c2 := BlkAt.cell hq (j := 2) rfl; have c3 := BlkAt.cell hq (j := 3) rfl; have c4 := BlkAt.cell hq (j := 4) rfl; have c5 := BlkAt.cell hq (j := 5) rfl; have c6 := BlkAt.cell hq (j := 6) rfl; go_simp; try with_reducible rfl))); (try simp only [Act.put, List.setIfInBounds_toArray, List.set_cons_zero, List.set_cons_succ, List.getElem_toArray, List.getElem_cons_zero, List.getElem_cons_succ]))
  (refine wpAnyH_ready (rs := [2]) (by kernel_rfl) (by simp) ?_; refine AllReadyH.cons rfl (fun K hK => ?_) AllReadyH.nil; go_simp; refine (HBS.out _ hHeld).mono ?_; rintro e w1 ⟨v1, rfl, ho1, hs⟩; refine hK.out _ _ ?_ (fun hHeldN => ?_); (focus ((try dsimp only); (exact hHeld.trans (hs.mono hHeld.size)))); clear hK K hHeld; have hHeld := hHeldN; clear hHeldN; (try simp only [Act.put, List.setIfInBounds_toArray, List.set_cons_zero, List.set_cons_succ, List.getElem_toArray, List.getElem_cons_zero, List.getElem_cons_succ]))
  obtain ⟨pa, pc, rfl⟩ := ho1.form
  obtain ⟨pn, hpn⟩ : ∃ n, n = (msgL m B).length := ⟨_, rfl⟩
  rw [← hpn]
  have HY := Lib.hid (HIB.out pa pc pn w1 hpn (by rw [hpn]; exact OwnB.bytes ho1))
  clear hs ho1 hpn
  (refine wpAnyH_ready (rs := [3]) (by kernel_rfl) (by simp) ?_; refine AllReadyH.cons rfl (fun K hK => ?_) AllReadyH.nil; go_simp; refine (HY.out).mono ?_; rintro e w2 ⟨v2, rfl, ho2, hs⟩; have HO2 := Lib.hid (OwnB.weak ho2 (Nat.le_trans HBM.out.size hHeld.size)); refine hK.out _ _ ?_ (fun hHeldN => ?_); (focus ((try dsimp only); (exact hHeld.trans (hs.mono hHeld.size)))); clear hK K hHeld; have hHeld := hHeldN; clear hHeldN; (try simp only [Act.put, List.setIfInBounds_toArray, List.set_cons_zero, List.set_cons_succ, List.getElem_toArray, List.getElem_cons_zero, List.getElem_cons_succ]))
  clear hs ho2
  (refine wpAnyH_take (i := 4) (v := ?_) rfl (by kernel_rfl) (by kernel_rfl) (by kernel_rfl) (fun _ _ _ h => h) (Or.inl ⟨by rfl, ?_⟩) hHeld ?_; rotate_left; (focus (intro w hSw; (try dsimp only at hSw); go_simp; try with_reducible rfl)); (try simp only [Act.put, List.setIfInBounds_toArray, List.set_cons_zero, List.set_cons_succ, List.getElem_toArray, List.getElem_cons_zero, List.getElem_cons_succ])); (refine wpAnyH_take (i := 5) (v := ?_) rfl (by kernel_rfl) (by kernel_rfl) (by kernel_rfl) (fun _ _ _ h => h) (Or.inl ⟨by rfl, ?_⟩) hHeld ?_; rotate_left; (focus (intro w hSw; (try dsimp only at hSw); go_simp; try with_reducible rfl)); (try simp only [Act.put, List.setIfInBounds_toArray, List.set_cons_zero, List.set_cons_succ, List.getElem_toArray, List.getElem_cons_zero, List.getElem_cons_succ])); (refine wpAnyH_take (i := 6) (v := ?_) rfl (by kernel_rfl) (by kernel_rfl) (by kernel_rfl) (fun _ _ _ h => h) (Or.inl ⟨by rfl, ?_⟩) hHeld ?_; rotate_left; (focus (intro w hSw; (try dsimp only at hSw); go_simp; try with_reducible rfl)); (try simp only [Act.put, List.setIfInBounds_toArray, List.set_cons_zero, List.set_cons_succ, List.getElem_toArray, List.getElem_cons_zero, List.getElem_cons_succ])); (refine wpAnyH_take (i := 7) (v := ?_) rfl (by kernel_rfl) (by kernel_rfl) (by kernel_rfl) (fun _ _ _ h => h) (Or.inl ⟨by rfl, ?_⟩) hHeld ?_; rotate_left; (focus (intro w hSw; (try dsimp only at hSw); go_simp; try with_reducible rfl)); (try simp only [Act.put, List.setIfInBounds_toArray, List.set_cons_zero, List.set_cons_succ, List.getElem_toArray, List.getElem_cons_zero, List.getElem_cons_succ]))
  refine wpAnyH_done (by kernel_rfl) ?_ _
  have HB2 := Lib.hid hHeld
  clear hHeld
  go_wp2_with fail
  go_ret2
  exact ⟨_, rfl, HO2.out, HBM.out.trans (HB2.out.mono HBM.out.size)⟩
end Go.Proofs.Ytnhkkpcepppgoaa
