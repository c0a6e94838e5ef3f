/- The reference's Join, whose answer is owned.
   The walk of ref04.Bytes. -/
import Derived.Test.YtnhkkpcepppgoaaZ03
import Derived.Test.YtnhkkpcepppgoaaZ04
import Derived.Test.YtnhkkpcepppgoaaZ05
import Derived.Test.YtnhkkpcepppgoaaZ06
import Derived.Test.YtnhkkpcepppgoaaZ09

set_option linter.unusedSimpArgs false
set_option linter.unusedVariables false
namespace Go.Proofs.Ytnhkkpcepppgoaa
open Go.RowKit
attribute [local go_sem ↓] Go.wp_at_zero Go.wp_at_succ

theorem own_lit (W : World) (B : Nat) (l : List UInt8) (hB : B ≤ W.heap.size) (hl : l.length ≤ 1000000) : OwnB (W.alloc (.cells (bv l).toArray 5)) B (.slice (some ⟨W.heap.size, 0, none⟩) l.length l.length) l := by
  refine ⟨by simp [bv], .inr ⟨W.heap.size, l.length, (bv l).toArray, rfl, hB, World.alloc_heap_new W _, Nat.le_refl _, by unfold maxLen; omega, by simp [bv], ?_⟩⟩
  rw [Nat.mul_one]
  exact List.take_of_length_le (by simp [bv])
def h8 (m : Mg) : List UInt8 := [u8n m.ty, u8n m.co, 0, 0, u8n m.r0, u8n m.r1, u8n m.r2, u8n m.r3]
theorem msg0_h8 (m : Mg) (B : List UInt8) : h8 m ++ B = msg0 m B := by unfold msg0 h8 h4 r4; rfl
theorem own8 {m : Mg} (hm : m.Ok) (W : World) (B : Nat) (hB : B ≤ W.heap.size) : OwnB (W.alloc (.cells #[.int .u8 (m.ty : Nat), .int .u8 (m.co : Nat), .int .u8 0, .int .u8 0, .int .u8 (m.r0 : Nat), .int .u8 (m.r1 : Nat), .int .u8 (m.r2 : Nat), .int .u8 (m.r3 : Nat)] 5)) B (.slice (some ⟨W.heap.size, 0, none⟩) 8 8) (h8 m) := by
  have h := own_lit W B (h8 m) hB (by simp [h8])
  have e : (bv (h8 m)).toArray = #[.int .u8 (m.ty : Nat), .int .u8 (m.co : Nat), .int .u8 0, .int .u8 0, .int .u8 (m.r0 : Nat), .int .u8 (m.r1 : Nat), .int .u8 (m.r2 : Nat), .int .u8 (m.r3 : Nat)] := by
    simp [bv, h8, u8n_nat hm.ty, u8n_nat hm.co, u8n_nat hm.r0, u8n_nat hm.r1, u8n_nat hm.r2, u8n_nat hm.r3]
  rw [e] at h
  exact h

set_option maxHeartbeats 8000000 in
set_option maxRecDepth 100000 in
theorem bytesMR_any (m : Mg) (hm : m.Ok) (a : Option Addr) (c : Nat) (B : List UInt8) (wm : World) (hB : Bytes wm (.slice a B.length c) B) (hl : B.length ≤ 9990) :
    Calls Try.prog 32 #[.agg #[.int .u8 (m.ty : Nat), .int .u8 (m.co : Nat), .int .u8 (m.r0 : Nat), .int .u8 (m.r1 : Nat), .int .u8 (m.r2 : Nat), .int .u8 (m.r3 : Nat), .slice a B.length c]] wm fun e w' => ∃ v, e = .returned v ∧ OwnB w' wm.heap.size v (msgL m B) ∧ Below wm.heap.size wm w' := by
  obtain ⟨bn, hbn⟩ : ∃ n, n = B.length := ⟨_, rfl⟩
  have hbm : Below wm.heap.size wm (wm.alloc (.cells #[.int .u8 (m.ty : Nat), .int .u8 (m.co : Nat), .int .u8 (m.r0 : Nat), .int .u8 (m.r1 : Nat), .int .u8 (m.r2 : Nat), .int .u8 (m.r3 : Nat), .slice a bn c] 46)) := (Below.refl _ _).alloc (Nat.le_refl _) _
  have HBN := Lib.hid hbn
  have HL : Hid (B.length ≤ 9990) := hl
  have HBA : Hid (Below wm.heap.size wm ((wm.alloc (.cells #[.int .u8 (m.ty : Nat), .int .u8 (m.co : Nat), .int .u8 (m.r0 : Nat), .int .u8 (m.r1 : Nat), .int .u8 (m.r2 : Nat), .int .u8 (m.r3 : Nat), .slice a bn c] 46)).alloc (.cells #[.int .u8 (m.ty : Nat), .int .u8 (m.co : Nat), .int .u8 0, .int .u8 0, .int .u8 (m.r0 : Nat), .int .u8 (m.r1 : Nat), .int .u8 (m.r2 : Nat), .int .u8 (m.r3 : Nat)] 5))) := hbm.alloc hbm.size _
  have HB : Hid (Bytes ((wm.alloc (.cells #[.int .u8 (m.ty : Nat), .int .u8 (m.co : Nat), .int .u8 (m.r0 : Nat), .int .u8 (m.r1 : Nat), .int .u8 (m.r2 : Nat), .int .u8 (m.r3 : Nat), .slice a bn c] 46)).alloc (.cells #[.int .u8 (m.ty : Nat), .int .u8 (m.co : Nat), .int .u8 0, .int .u8 0, .int .u8 (m.r0 : Nat), .int .u8 (m.r1 : Nat), .int .u8 (m.r2 : Nat), .int .u8 (m.r3 : Nat)] 5)) (.slice a bn c) B) := by show Bytes _ _ _; rw [hbn]; exact hB.later (by rw [← hbn]; exact HBA.out)
  have HO8 : Hid (OwnB ((wm.alloc (.cells #[.int .u8 (m.ty : Nat), .int .u8 (m.co : Nat), .int .u8 (m.r0 : Nat), .int .u8 (m.r1 : Nat), .int .u8 (m.r2 : Nat), .int .u8 (m.r3 : Nat), .slice a bn c] 46)).alloc (.cells #[.int .u8 (m.ty : Nat), .int .u8 (m.co : Nat), .int .u8 0, .int .u8 0, .int .u8 (m.r0 : Nat), .int .u8 (m.r1 : Nat), .int .u8 (m.r2 : Nat), .int .u8 (m.r3 : Nat)] 5)) wm.heap.size (.slice (some ⟨wm.heap.size + 1, 0, none⟩) 8 8) (h8 m)) := by
    have h := own8 hm (wm.alloc (.cells #[.int .u8 (m.ty : Nat), .int .u8 (m.co : Nat), .int .u8 (m.r0 : Nat), .int .u8 (m.r1 : Nat), .int .u8 (m.r2 : Nat), .int .u8 (m.r3 : Nat), .slice a bn c] 46)) wm.heap.size hbm.size
    rw [World.size_alloc] at h
    exact h
  rw [← hbn]
  clear hbm hbn hB hl hm
  go_enter Try.func32, Try.ntmps32
  go_wp2_with (at_builtin; refine wpList_app rfl (.tmp 20) (.tmp 22) rfl wm.heap.size _ _ (h8 m) B rfl rfl HO8.out HB.out (by have := HL.out; show 8 + B.length ≤ _; omega) HBA.out.size ?_)
  intro v2 w2 ho2 hb2 _
  rw [msg0_h8] at ho2
  obtain ⟨L0, hL0⟩ : ∃ L0, L0 = msg0 m B := ⟨_, rfl⟩
  rw [← hL0] at ho2
  have hln : L0.length = 8 + bn := by rw [hL0, msg0_length, HBN.out]
  obtain ⟨g, cap, _, rfl, hbg, _, hnc, _⟩ := ho2.row (by omega)
  obtain ⟨n, hn⟩ : ∃ n, n = L0.length := ⟨_, rfl⟩
  have HLN : Hid (n = 8 + bn ∧ n = L0.length ∧ L0 = msg0 m B ∧ wm.heap.size ≤ g ∧ L0.length ≤ cap ∧ L0.length ≤ 10000) := ⟨by omega, hn, hL0, hbg, hnc, by have := HBN.out; have := HL.out; omega⟩
  have HB2 := Lib.hid (HBA.out.trans hb2)
  have HO2 := Lib.hid ho2
  have hcut : ∀ W, (Instr.slice 22 (.slice (some ⟨g, 0, none⟩) n cap) (some (.int .i64 2)) (some (.int .i64 4)) none).run Try.prog W = .ok (.slice (some ⟨g, 2, none⟩) 2 (cap - 2)) W := by
    intro W
    rw [run_slice_lh W _ _ _ _ cells1 _ _ _ _ (by omega) (by omega) (by omega), size1]
    show Result.ok (Go.sliced _ _ _ _ 1) W = _
    unfold Go.sliced
    rw [if_neg (by omega)]
    simp [Addr.add]
  have k3 : n ≤ cap := by omega
  have k4 : (4 : Int) ≤ n := by omega
  obtain ⟨ck, hck⟩ : ∃ k, k = 65535 - Sm.tot L0 := ⟨_, rfl⟩
  have HCK := Lib.hid hck
  have HC6 : Hid (ck < 65536) := by show ck < 65536; omega
  rw [← hn]
  clear hL0 hln hbg hnc hn hck ho2 hb2
  go_wp2_with fail
  (refine wp_region_held_drew (S := (fun w' => Below wm.heap.size wm w')) (by kernel_rfl) ?_ (fun hHeld => ?_); (focus ((try dsimp only); (exact HB2.out.drew))))
  (try dsimp only at hHeld)
  obtain ⟨w3, hw3⟩ : ∃ w4, w4 = World.drew w2 := ⟨_, rfl⟩
  have HO3 : Hid (OwnB w3 wm.heap.size (.slice (some ⟨g, 0, none⟩) L0.length cap) L0) := by rw [hw3]; exact HO2.out
  rw [← hw3]
  rw [← hw3] at hHeld
  clear hw3
  (refine wpAnyH_take (i := 0) (v := ?_) rfl (by kernel_rfl) (by kernel_rfl) (by kernel_rfl) (fun _ _ _ h => h) (Or.inl ⟨by rfl, ?_⟩) hHeld ?_; rotate_left; (focus (intro w hSw; (try dsimp only at hSw); go_simp; try with_reducible rfl)); (try simp only [Act.put, List.setIfInBounds_toArray, List.set_cons_zero, List.set_cons_succ, List.getElem_toArray, List.getElem_cons_zero])); (refine wpAnyH_take (i := 1) (v := ?_) rfl (by kernel_rfl) (by kernel_rfl) (by kernel_rfl) (fun _ _ _ h => h) (Or.inl ⟨by rfl, ?_⟩) hHeld ?_; rotate_left; (focus (intro w hSw; (try dsimp only at hSw); go_simp; try with_reducible rfl)); (try simp only [Act.put, List.setIfInBounds_toArray, List.set_cons_zero, List.set_cons_succ, List.getElem_toArray, List.getElem_cons_zero, List.getElem_cons_succ])); (refine wpAnyH_take (i := 2) (v := ?_) rfl (by kernel_rfl) (by kernel_rfl) (by kernel_rfl) (fun _ _ _ h => h) (Or.inl ⟨by rfl, ?_⟩) hHeld ?_; rotate_left; (focus (intro w hSw; (try dsimp only at hSw); go_simp; try with_reducible rfl)); (try simp only [Act.put, List.setIfInBounds_toArray, List.set_cons_zero, List.set_cons_succ, List.getElem_toArray, List.getElem_cons_zero, List.getElem_cons_succ]))
  have hc1 := checkR_any (.slice (some ⟨g, 0, none⟩) n cap) L0 w3 (by have h9 := OwnB.bytes HO3.out; rw [← HLN.out.2.1] at h9; exact h9) HLN.out.2.2.2.2.2
  rw [← HCK.out] at hc1
  (refine wpAnyH_ready (rs := [3]) (by kernel_rfl) (by simp) ?_; refine AllReadyH.cons rfl (fun K hK => ?_) AllReadyH.nil; go_simp; refine hc1.mono ?_; rintro e w4 ⟨rfl, hb4⟩; have HO4 := Lib.hid (OwnB.later HO3.out hb4); refine hK.out _ _ ?_ (fun hHeldN => ?_); (focus ((try dsimp only); (exact hHeld.trans (hb4.mono hHeld.size)))); clear hK K hHeld; have hHeld := hHeldN; clear hHeldN; (try simp only [Act.put, List.setIfInBounds_toArray, List.set_cons_zero, List.set_cons_succ, List.getElem_toArray, List.getElem_cons_zero, List.getElem_cons_succ]))
  clear hb4 hc1
  have hwc : IntKind.u64.wrap (ck : Int) = (ck : Int) := IntWalk.u64_in _ ⟨by have := HC6.out; omega, by have := HC6.out; omega⟩
  (refine wpAnyH_take (i := 4) (v := ?_) rfl (by kernel_rfl) (by kernel_rfl) (by kernel_rfl) (fun _ _ _ h => h) (Or.inl ⟨by rfl, ?_⟩) hHeld ?_; rotate_left; (focus (intro w hSw; (try dsimp only at hSw); go_simp; try with_reducible rfl)); (try simp only [Act.put, List.setIfInBounds_toArray, List.set_cons_zero, List.set_cons_succ, List.getElem_toArray, List.getElem_cons_zero, List.getElem_cons_succ]))
  (refine wpAnyH_ready (rs := [5]) (by kernel_rfl) (by simp) ?_; refine AllReadyH.cons rfl (fun K hK => ?_) AllReadyH.nil; go_simp; refine (putR_any ck 2 w4 (by have := HC6.out; omega) (by omega)).mono ?_; rintro e w5 ⟨y, rfl, hy, hb5⟩; have HO5 := Lib.hid (OwnB.later HO4.out hb5); refine hK.out _ _ ?_ (fun hHeldN => ?_); (focus ((try dsimp only); (exact hHeld.trans (hb5.mono hHeld.size)))); clear hK K hHeld; have hHeld := hHeldN; clear hHeldN; (try simp only [Act.put, List.setIfInBounds_toArray, List.set_cons_zero, List.set_cons_succ, List.getElem_toArray, List.getElem_cons_zero, List.getElem_cons_succ]))
  clear hb5
  obtain ⟨b5, o5, c5, rfl⟩ : ∃ b o c, y = .slice (some ⟨b, o, none⟩) 2 c := by
    rcases hy with ⟨h0, _⟩ | ⟨b, o, c, e, _⟩
    · have := congrArg List.length h0; rw [putL_length] at this; simp at this
    · rw [putL_length] at e; exact ⟨b, o, c, e⟩
  obtain ⟨gz, cz, cur, e1, hbz, hgc, hnc, hcs⟩ := OwnB.row HO5.out (by have := HLN.out; omega)
  simp only [Value.slice.injEq, Option.some.injEq, Addr.mk.injEq, and_true] at e1
  obtain ⟨rfl, _, rfl⟩ := e1
  (refine wpAnyH_ready (rs := [6]) (by kernel_rfl) (by simp) ?_; refine AllReadyH.cons rfl (fun K hK => ?_) AllReadyH.nil; refine step_copy_blk rfl (.tmp 25) (.tmp 29) 22 22 rfl 5 Try.underlying22 (by kernel_rfl) g 2 _ _ ⟨b5, o5, none⟩ _ _ rfl rfl cur.toList 5 (by simpa using hgc) (bv (putL ck 2)) (by rw [show (bv (putL ck 2)).length = 2 from by simp [bv, putL_length]]; rfl) (Bytes.news hy) (by rw [show (bv (putL ck 2)).length = 2 from by simp [bv, putL_length]]; have := HLN.out; simp; omega) (bv_one _) ?_; intro w6 hg6 hk6 hb6; refine hK.out _ _ ?_ (fun hHeldN => ?_); (focus ((try dsimp only); (exact hHeld.trans (hb6.out _ HLN.out.2.2.2.1)))); clear hK K hHeld; have hHeld := hHeldN; clear hHeldN; (try simp only [Act.put, List.setIfInBounds_toArray, List.set_cons_zero, List.set_cons_succ, List.getElem_toArray, List.getElem_cons_zero, List.getElem_cons_succ]))
  refine wpAnyH_done (by kernel_rfl) ?_ _
  have hO6 : OwnB w6 wm.heap.size (.slice (some ⟨g, 0, none⟩) (spl L0 2 (putL ck 2)).length cap) (spl L0 2 (putL ck 2)) := OwnB.splice HO5.out hgc (by simpa using hg6.out) (by rw [putL_length]; have := HLN.out; omega)
  have HO6 : Hid (OwnB w6 wm.heap.size (.slice (some ⟨g, 0, none⟩) n cap) (msgL m B)) := by
    show OwnB _ _ _ _
    have e : spl L0 2 (putL ck 2) = msgL m B := by unfold msgL; rw [HCK.out, HLN.out.2.2.1]
    have e2 : (spl L0 2 (putL ck 2)).length = n := by rw [e, msgL_length, HLN.out.1, HBN.out]
    rw [e2, e] at hO6; exact hO6
  have HB6 := Lib.hid hHeld
  clear hO6 hHeld hg6 hk6 hb6 hgc
  go_wp2_with fail
  go_ret
  exact ⟨_, rfl, HO6.out, HB6.out⟩
end Go.Proofs.Ytnhkkpcepppgoaa

namespace Go.Proofs.Ytnhkkpcepppgoaa
open Go.RowKit
attribute [local go_sem ↓] Go.wp_at_zero Go.wp_at_succ

set_option maxHeartbeats 2000000 in
set_option maxRecDepth 100000 in
theorem joinRO_some (b : Option Addr) (c : Nat) (L : List (List UInt8)) (w : World) (hv : Lists w (.slice b L.length c) L) (hL : L.length ≤ 10000) (hS : L.flatten.length ≤ 10000) :
    Calls Try.prog 63 #[.slice b L.length c] w fun e w' => ∃ v, e = .returned v ∧ OwnB w' w.heap.size v L.flatten ∧ Below w.heap.size w w' := by
  have hi5 : (Try.prog.info? 5).map (fun i => (i.zero, i.size, i.bytes)) = some (some (.int .u8 0), 1, 1) := by kernel_rfl
  obtain ⟨i0, hi, hx⟩ := Option.map_eq_some_iff.1 hi5
  simp only [Prod.mk.injEq] at hx
  obtain ⟨hz0, hz1, hz2⟩ := hx
  have HV := Lib.hid hv
  clear hi5 hv
  go_enter Try.func63, Try.ntmps63
  go_wp2_with fail
  go_loopw [3, 4] (fun v i wr => ∃ k : Nat, k ≤ L.length ∧ i = .int .i64 k ∧ Hid (wr.ownsRow w.heap.size 5 1 v (L.take k).flatten.length (bv (L.take k).flatten)) ∧ Hid (Below w.heap.size w wr)) (fun _ i _ => L.length - (intOf i).toNat)
  case atStart => exact ⟨0, Nat.zero_le _, rfl, World.ownsRow_nil w _ _ _, Below.refl _ _⟩
  case round =>
    obtain ⟨k, hk, rfl, HW, HB⟩ := hrel
    rcases Nat.lt_or_ge k L.length with hlt | hge
    · have g1 : (k : Int) < L.length := by omega
      obtain ⟨bl, bo, rfl, hbl, x, d, he, hbe⟩ := HV.out.at hlt
      have he' := cell_later' HB.out hbl he
      have b1 : bl < wr.heap.size := Nat.lt_of_lt_of_le hbl HB.out.size
      have hbw := hbe.later HB.out
      have hsz := lsum_take L (k + 1) (by omega)
      have hsz2 := lsum_mono L (i := k + 1) (k := L.length) (by omega)
      rw [lsum_all, hsz] at hsz2
      have hfl : (L.take (k + 1)).flatten = (L.take k).flatten ++ L[k] := by rw [List.take_succ_eq_append_getElem hlt, List.flatten_append, List.flatten_singleton]
      have hfn : (L.take (k + 1)).flatten.length = (L.take k).flatten.length + L[k].length := by rw [hfl, List.length_append]
      have Hfl := Lib.hid hfl
      obtain ⟨F, hF⟩ : ∃ F, F = (L.take k).flatten := ⟨_, rfl⟩
      rw [← hF] at HW hfn Hfl
      obtain ⟨l, hl⟩ : ∃ l, l = L[k] := ⟨_, rfl⟩
      rw [← hl] at he he' hbe hbw hfn Hfl
      have hb2 : F.length + l.length ≤ 10000 := by omega
      have Hbw := Lib.hid hbw
      have Hfn := Lib.hid hfn
      clear hl hF hfn hfl hsz hsz2 hbe he hbw
      cases x with
      | none =>
        obtain ⟨e1, e2, e3⟩ := Hbw.out.noaddr
        subst e2 e3
        have Hl : Hid (F = (L.take (k + 1)).flatten) := by show _ = _; rw [Hfl.out]; simp
        clear e1
        go_wp2_with (at_builtin; refine wpList_append_own_none rfl _ _ 22 rfl w.heap.size 5 i0 1 Try.underlying22 hi _ _ _ rfl HW.out rfl ?_)
        go_wp2_with fail
        go_roundw
        case rel => exact ⟨k + 1, by omega, by go_num, by rw [← Hl.out]; exact HW, HB⟩
        case measure => simp [intOf]; omega
      | some x =>
        go_wp2_with (at_builtin; refine wpList_append_own _ rfl _ _ 22 rfl w.heap.size 5 i0 (.int .u8 0) 1 1 Try.underlying22 hi hz0 hz1 hz2 rfl (by decide) _ _ _ rfl HW.out x l.length d (bv l) rfl (by simp [bv]) (Hbw.out.news) (bv_one l) (by unfold maxLen; omega) (by omega) HB.out.size ?_)
        intro v' w1 hown' hgrow _
        have hown2 : Hid (w1.ownsRow w.heap.size 5 1 v' (L.take (k + 1)).flatten.length (bv (L.take (k + 1)).flatten)) := by
          show World.ownsRow _ _ _ _ _ _ _
          rw [Hfn.out, Hfl.out, bv_append]; exact hown'
        have hB2 : Hid (Below w.heap.size w w1) := HB.out.grown hgrow HB.out.size (fun j hj => own_base HW.out hj)
        clear hown' hgrow
        go_wp2_with fail
        go_roundw
        case rel => exact ⟨k + 1, by omega, by go_num, hown2, hB2⟩
        case measure => simp [intOf]; omega
    · have e : k = L.length := by omega
      subst e
      rw [List.take_length] at HW
      go_wp2_with fail
      go_ret
      exact ⟨_, rfl, HW.out, HB.out⟩
theorem joinRO_any (v : Value) (L : List (List UInt8)) (w : World) (hv : Lists w v L) (hL : L.length ≤ 10000) (hS : L.flatten.length ≤ 10000) :
    Calls Try.prog 63 #[v] w fun e w' => ∃ v, e = .returned v ∧ OwnB w' w.heap.size v L.flatten ∧ Below w.heap.size w w' := by
  obtain ⟨b, c, rfl⟩ := hv.form
  exact joinRO_some b c L w hv hL hS
end Go.Proofs.Ytnhkkpcepppgoaa
