/- The walk of the law FrameBytes. -/
import Derived.Test.YtcahfapffhcceaaZ12
import Derived.Test.YtcahfapffhcceaaZ14
import Derived.Test.YtcahfapffhcceaaZ15

set_option linter.unusedSimpArgs false
set_option linter.unusedVariables false
namespace Go.Proofs.Ytcahfapffhcceaa
open Go.RowKit
attribute [local go_sem ↓] Go.wp_at_zero Go.wp_at_succ

theorem own_block0 {w : World} {B g n c : Nat} {l : List UInt8} (h : OwnB w B (.slice (some ⟨g, 0, none⟩) n c) l) (hl : 0 < l.length) : B ≤ g ∧ g < w.heap.size ∧ (∀ j, w.frozen? ⟨g, j, none⟩ = false) := by
  obtain ⟨g', cap, cur, e, hb, hg, _, _⟩ := h.row hl
  simp only [Value.slice.injEq, Option.some.injEq, Addr.mk.injEq, and_true] at e
  obtain ⟨rfl, _, rfl⟩ := e
  exact ⟨hb, (Array.getElem?_eq_some_iff.1 hg).1, fun j => by unfold World.frozen?; simp [hg]⟩
set_option maxHeartbeats 16000000 in
set_option maxRecDepth 100000 in
theorem hv_long (f : Fr) (a pa : Option Addr) (c m pc pn : Nat) (w : World) (h : (5000 : Int) < m) :
    Calls Try.prog 3 #[.agg #[.int .i64 f.k, .int .i64 f.n, .int .u64 (f.mb : Nat), .int .u64 (f.mt : Nat), .int .u64 (f.tb : Nat), .int .u64 (f.tt : Nat), .int .u64 (f.s : Nat), .int .u64 (f.a : Nat), .slice a m c], .slice pa pn pc] w fun e w' => e = .returned (.bool true) ∧ Below w.heap.size w w' := by
  obtain ⟨wz, hwz⟩ : ∃ wz, wz = (w.alloc (.cells #[.int .i64 f.k, .int .i64 f.n, .int .u64 (f.mb : Nat), .int .u64 (f.mt : Nat), .int .u64 (f.tb : Nat), .int .u64 (f.tt : Nat), .int .u64 (f.s : Nat), .int .u64 (f.a : Nat), .slice a m c] 28)) := ⟨_, rfl⟩
  have HB := Lib.hid (show Below w.heap.size w wz by rw [hwz]; go_grown)
  have HF := Lib.hid (show BlkAt 28 (w.heap.size) [.int .i64 f.k, .int .i64 f.n, .int .u64 (f.mb : Nat), .int .u64 (f.mt : Nat), .int .u64 (f.tb : Nat), .int .u64 (f.tt : Nat), .int .u64 (f.s : Nat), .int .u64 (f.a : Nat), .slice a m c] wz by
    have h9 := BlkAt.new (t := 28) w [.int .i64 f.k, .int .i64 f.n, .int .u64 (f.mb : Nat), .int .u64 (f.mt : Nat), .int .u64 (f.tb : Nat), .int .u64 (f.tt : Nat), .int .u64 (f.s : Nat), .int .u64 (f.a : Nat), .slice a m c]
    rw [hwz]; simpa using h9)
  go_enter Try.func3, Try.ntmps3
  go_wp2_with fail
  rw [← hwz]
  clear hwz
  have c0 := BlkAt.cell HF.out (j := 0) rfl
  have c1 := BlkAt.cell HF.out (j := 1) rfl
  have c2 := BlkAt.cell HF.out (j := 2) rfl
  have c3 := BlkAt.cell HF.out (j := 3) rfl
  have c4 := BlkAt.cell HF.out (j := 4) rfl
  have c5 := BlkAt.cell HF.out (j := 5) rfl
  have c6 := BlkAt.cell HF.out (j := 6) rfl
  have c7 := BlkAt.cell HF.out (j := 7) rfl
  have c8 := BlkAt.cell HF.out (j := 8) rfl
  go_wp2_with fail
  refine (known6_any _).mono ?_
  rintro e w1 ⟨rfl, hb⟩
  have HB := Lib.hid (below_of HB.out hb)
  go_wp2_with fail
  go_ret
  exact ⟨rfl, HB.out⟩
set_option maxHeartbeats 16000000 in
set_option maxRecDepth 100000 in
theorem hv_long2 (f : Fr) (a pa : Option Addr) (c m pc pn : Nat) (w : World) (h0 : (m : Int) ≤ 5000) (h : (5000 : Int) < pn) :
    Calls Try.prog 3 #[.agg #[.int .i64 f.k, .int .i64 f.n, .int .u64 (f.mb : Nat), .int .u64 (f.mt : Nat), .int .u64 (f.tb : Nat), .int .u64 (f.tt : Nat), .int .u64 (f.s : Nat), .int .u64 (f.a : Nat), .slice a m c], .slice pa pn pc] w fun e w' => e = .returned (.bool true) ∧ Below w.heap.size w w' := by
  obtain ⟨wz, hwz⟩ : ∃ wz, wz = (w.alloc (.cells #[.int .i64 f.k, .int .i64 f.n, .int .u64 (f.mb : Nat), .int .u64 (f.mt : Nat), .int .u64 (f.tb : Nat), .int .u64 (f.tt : Nat), .int .u64 (f.s : Nat), .int .u64 (f.a : Nat), .slice a m c] 28)) := ⟨_, rfl⟩
  have HB := Lib.hid (show Below w.heap.size w wz by rw [hwz]; go_grown)
  have HF := Lib.hid (show BlkAt 28 (w.heap.size) [.int .i64 f.k, .int .i64 f.n, .int .u64 (f.mb : Nat), .int .u64 (f.mt : Nat), .int .u64 (f.tb : Nat), .int .u64 (f.tt : Nat), .int .u64 (f.s : Nat), .int .u64 (f.a : Nat), .slice a m c] wz by
    have h9 := BlkAt.new (t := 28) w [.int .i64 f.k, .int .i64 f.n, .int .u64 (f.mb : Nat), .int .u64 (f.mt : Nat), .int .u64 (f.tb : Nat), .int .u64 (f.tt : Nat), .int .u64 (f.s : Nat), .int .u64 (f.a : Nat), .slice a m c]
    rw [hwz]; simpa using h9)
  go_enter Try.func3, Try.ntmps3
  go_wp2_with fail
  rw [← hwz]
  clear hwz
  have c0 := BlkAt.cell HF.out (j := 0) rfl
  have c1 := BlkAt.cell HF.out (j := 1) rfl
  have c2 := BlkAt.cell HF.out (j := 2) rfl
  have c3 := BlkAt.cell HF.out (j := 3) rfl
  have c4 := BlkAt.cell HF.out (j := 4) rfl
  have c5 := BlkAt.cell HF.out (j := 5) rfl
  have c6 := BlkAt.cell HF.out (j := 6) rfl
  have c7 := BlkAt.cell HF.out (j := 7) rfl
  have c8 := BlkAt.cell HF.out (j := 8) rfl
  go_wp2_with fail
  refine (known6_any _).mono ?_
  rintro e w1 ⟨rfl, hb⟩
  have HB := Lib.hid (below_of HB.out hb)
  go_wp2_with fail
  go_ret
  exact ⟨rfl, HB.out⟩
set_option maxHeartbeats 16000000 in
set_option maxRecDepth 100000 in
theorem hv_yy (f : Fr) (a pa : Option Addr) (c m pc pn : Nat) (ho : f.Ok) (B l : List UInt8) (w : World) (hm : m = B.length) (hpn : pn = l.length) (hB : Bytes w (.slice a B.length c) B) (hl : B.length ≤ 5000) (hv : Bytes w (.slice pa l.length pc) l) (hl2 : l.length ≤ 5000) (hmay : mayF f B = true) (hok : okF l = true) :
    Calls Try.prog 3 #[.agg #[.int .i64 f.k, .int .i64 f.n, .int .u64 (f.mb : Nat), .int .u64 (f.mt : Nat), .int .u64 (f.tb : Nat), .int .u64 (f.tt : Nat), .int .u64 (f.s : Nat), .int .u64 (f.a : Nat), .slice a m c], .slice pa pn pc] w fun e w' => e = .returned (.bool true) ∧ Below w.heap.size w w' := by
  obtain ⟨wz, hwz⟩ : ∃ wz, wz = (w.alloc (.cells #[.int .i64 f.k, .int .i64 f.n, .int .u64 (f.mb : Nat), .int .u64 (f.mt : Nat), .int .u64 (f.tb : Nat), .int .u64 (f.tt : Nat), .int .u64 (f.s : Nat), .int .u64 (f.a : Nat), .slice a m c] 28)) := ⟨_, rfl⟩
  have HB := Lib.hid (show Below w.heap.size w wz by rw [hwz]; go_grown)
  have HF := Lib.hid (show BlkAt 28 (w.heap.size) [.int .i64 f.k, .int .i64 f.n, .int .u64 (f.mb : Nat), .int .u64 (f.mt : Nat), .int .u64 (f.tb : Nat), .int .u64 (f.tt : Nat), .int .u64 (f.s : Nat), .int .u64 (f.a : Nat), .slice a m c] wz by
    have h9 := BlkAt.new (t := 28) w [.int .i64 f.k, .int .i64 f.n, .int .u64 (f.mb : Nat), .int .u64 (f.mt : Nat), .int .u64 (f.tb : Nat), .int .u64 (f.tt : Nat), .int .u64 (f.s : Nat), .int .u64 (f.a : Nat), .slice a m c]
    rw [hwz]; simpa using h9)
  have k1 : (m : Int) ≤ 5000 := by omega
  have k2 : (pn : Int) ≤ 5000 := by omega
  have HMW : Hid (∀ W, Below w.heap.size w W → Calls Try.prog 10 #[.agg #[.int .i64 f.k, .int .i64 f.n, .int .u64 (f.mb : Nat), .int .u64 (f.mt : Nat), .int .u64 (f.tb : Nat), .int .u64 (f.tt : Nat), .int .u64 (f.s : Nat), .int .u64 (f.a : Nat), .slice a m c]] W fun e w' => e = .returned (.bool true) ∧ Below W.heap.size W w') := fun W hW => by
    have h9 := mayW6_any f _ B W (hB.later hW) (by omega)
    rw [hmay, ← hm] at h9; exact h9
  have HMR : Hid (∀ W, Below w.heap.size w W → Calls Try.prog 11 #[.agg #[.int .i64 f.k, .int .i64 f.n, .int .u64 (f.mb : Nat), .int .u64 (f.mt : Nat), .int .u64 (f.tb : Nat), .int .u64 (f.tt : Nat), .int .u64 (f.s : Nat), .int .u64 (f.a : Nat), .slice a m c]] W fun e w' => e = .returned (.bool true) ∧ Below W.heap.size W w') := fun W hW => by
    have h9 := mayR6_any f _ B W (hB.later hW) (by omega)
    rw [hmay, ← hm] at h9; exact h9
  have hfl := frL_length f B
  obtain ⟨K, hK⟩ : ∃ K, K = frL f B := ⟨_, rfl⟩
  have HBW : Hid (∀ W, Below w.heap.size w W → Calls Try.prog 9 #[.agg #[.int .i64 f.k, .int .i64 f.n, .int .u64 (f.mb : Nat), .int .u64 (f.mt : Nat), .int .u64 (f.tb : Nat), .int .u64 (f.tt : Nat), .int .u64 (f.s : Nat), .int .u64 (f.a : Nat), .slice a m c]] W fun e w' => ∃ v, e = .returned (.tuple #[v, .int .i64 0]) ∧ OwnB w' W.heap.size v K ∧ Below W.heap.size W w') := fun W hW => by
    have h9 := bytesF_yes f ho _ B W (hB.later hW) hmay
    rw [← hK, ← hm] at h9; exact h9
  have HBR : Hid (∀ W, Below w.heap.size w W → Calls Try.prog 12 #[.agg #[.int .i64 f.k, .int .i64 f.n, .int .u64 (f.mb : Nat), .int .u64 (f.mt : Nat), .int .u64 (f.tb : Nat), .int .u64 (f.tt : Nat), .int .u64 (f.s : Nat), .int .u64 (f.a : Nat), .slice a m c]] W fun e w' => ∃ v, e = .returned v ∧ OwnB w' W.heap.size v K ∧ Below W.heap.size W w') := fun W hW => by
    have h9 := bytesR6_any f ho _ B W (hB.later hW) hmay
    rw [← hK, ← hm] at h9; exact h9
  have hoe : oE l = 0 := by unfold oE; rw [hok]; rfl
  obtain ⟨F0, hF0⟩ : ∃ F0, F0 = oF l := ⟨_, rfl⟩
  obtain ⟨B0, hB0⟩ : ∃ x, x = oB l := ⟨_, rfl⟩
  have hbl : B0.length ≤ 5000 := by rw [hB0]; unfold oB; split <;> simp <;> omega
  have HOW : Hid (∀ W, Below w.heap.size w W → Calls Try.prog 14 #[.slice pa pn pc] W fun e w' => ∃ u, e = .returned (.tuple #[.agg #[.int .i64 F0.k, .int .i64 F0.n, .int .u64 (F0.mb : Nat), .int .u64 (F0.mt : Nat), .int .u64 (F0.tb : Nat), .int .u64 (F0.tt : Nat), .int .u64 (F0.s : Nat), .int .u64 (F0.a : Nat), u], .int .i64 0]) ∧ OwnB w' W.heap.size u B0 ∧ Below W.heap.size W w') := fun W hW => by
    have h9 := of6W_any _ l W (hv.later hW) (by omega)
    unfold OfA at h9
    rw [← hF0, ← hB0, hoe, ← hpn] at h9; exact h9
  have HOR : Hid (∀ W, Below w.heap.size w W → Calls Try.prog 15 #[.slice pa pn pc] W fun e w' => ∃ u, e = .returned (.tuple #[.agg #[.int .i64 F0.k, .int .i64 F0.n, .int .u64 (F0.mb : Nat), .int .u64 (F0.mt : Nat), .int .u64 (F0.tb : Nat), .int .u64 (F0.tt : Nat), .int .u64 (F0.s : Nat), .int .u64 (F0.a : Nat), u], .bool true]) ∧ Bytes w' u B0 ∧ Below W.heap.size W w') := fun W hW => by
    have h9 := of6R_any _ l W (hv.later hW) (by omega)
    unfold OfR at h9
    rw [← hF0, ← hB0, hok, ← hpn] at h9; exact h9
  have HBV : Hid (∀ W, Below w.heap.size w W → Bytes W (.slice pa pn pc) l) := fun W hW => by rw [hpn]; exact hv.later hW
  have HBL : Hid (B0.length ≤ 5000) := hbl
  clear ho hm hpn hB hl hv hl2 hmay hok hoe hF0 hB0 hbl hK hfl
  go_enter Try.func3, Try.ntmps3
  go_wp2_with fail
  rw [← hwz]
  clear hwz
  have c0 := BlkAt.cell HF.out (j := 0) rfl
  have c1 := BlkAt.cell HF.out (j := 1) rfl
  have c2 := BlkAt.cell HF.out (j := 2) rfl
  have c3 := BlkAt.cell HF.out (j := 3) rfl
  have c4 := BlkAt.cell HF.out (j := 4) rfl
  have c5 := BlkAt.cell HF.out (j := 5) rfl
  have c6 := BlkAt.cell HF.out (j := 6) rfl
  have c7 := BlkAt.cell HF.out (j := 7) rfl
  have c8 := BlkAt.cell HF.out (j := 8) rfl
  go_wp2_with fail
  refine (HBW.out _ HB.out).mono ?_
  rintro e w1 ⟨x, rfl, hx, hb⟩
  obtain ⟨xa, xc, rfl⟩ := hx.form
  have HX := Lib.hid hx.bytes
  obtain ⟨xn, hxn⟩ : ∃ n, n = K.length := ⟨_, rfl⟩
  rw [← hxn] at HX ⊢
  clear hx hxn
  have HF := Lib.hid (HF.out.later hb)
  have HB := Lib.hid (below_of HB.out hb)
  clear hb
  clear c0 c1 c2 c3 c4 c5 c6 c7 c8
  go_wp2_with fail
  (refine wp_region_held_drew (S := (fun w' => Below w1.heap.size w1 w')) (by kernel_rfl) ?_ (fun hHeld => ?_); (focus ((try dsimp only); (exact (Below.refl _ _).drew))))
  (try dsimp only at hHeld)
  obtain ⟨w0, hw0⟩ : ∃ W0, W0 = World.drew w1 := ⟨_, rfl⟩
  rw [← hw0]
  rw [← hw0] at hHeld
  clear hw0
  (refine wpAnyH_take (i := 0) (v := ?_) rfl (by kernel_rfl) (by kernel_rfl) (by kernel_rfl) (fun _ _ _ h => h) (Or.inl ⟨by rfl, ?_⟩) hHeld ?_; rotate_left; (focus (intro w hSw; (try dsimp only at hSw); go_simp; (have hq := BlkAt.later HF.out hSw; have c0 := BlkAt.cell hq (j := 0) rfl; have c1 := BlkAt.cell hq (j := 1) rfl; have c2 := BlkAt.cell hq (j := 2) rfl; have c3 := BlkAt.cell hq (j := 3) rfl; have c4 := BlkAt.cell hq (j := 4) rfl; have c5 := BlkAt.cell hq (j := 5) rfl; have c6 := BlkAt.cell hq (j := 6) rfl; have c7 := BlkAt.cell hq (j := 7) rfl; have c8 := BlkAt.cell hq (j := 8) rfl; go_simp; try with_reducible rfl))); (try simp only [Act.put, List.setIfInBounds_toArray, List.set_cons_zero, List.set_cons_succ, List.getElem_toArray, List.getElem_cons_zero]))
  (refine wpAnyH_take (i := 2) (v := ?_) rfl (by kernel_rfl) (by kernel_rfl) (by kernel_rfl) (fun _ _ _ h => h) (Or.inl ⟨by rfl, ?_⟩) hHeld ?_; rotate_left; (focus (intro w hSw; (try dsimp only at hSw); go_simp; (have hq := BlkAt.later HF.out hSw; have c0 := BlkAt.cell hq (j := 0) rfl; have c1 := BlkAt.cell hq (j := 1) rfl; have c2 := BlkAt.cell hq (j := 2) rfl; have c3 := BlkAt.cell hq (j := 3) rfl; have c4 := BlkAt.cell hq (j := 4) rfl; have c5 := BlkAt.cell hq (j := 5) rfl; have c6 := BlkAt.cell hq (j := 6) rfl; have c7 := BlkAt.cell hq (j := 7) rfl; have c8 := BlkAt.cell hq (j := 8) rfl; go_simp; try with_reducible rfl))); (try simp only [Act.put, List.setIfInBounds_toArray, List.set_cons_zero, List.set_cons_succ, List.getElem_toArray, List.getElem_cons_zero, List.getElem_cons_succ]))
  refine wpAnyH_at (m := #[true, false, true, false, false]) (by kernel_rfl) ?_
  (refine wpAnyH_ready (rs := [1]) (by kernel_rfl) (by simp) ?_; refine AllReadyH.cons rfl (fun K hK => ?_) AllReadyH.nil; go_simp; refine (HMW.out _ (below_of HB.out hHeld)).mono ?_; rintro e y1 ⟨rfl, hs⟩; refine hK.out _ _ ?_ (fun hHeldN => ?_); (focus ((try dsimp only); (exact hHeld.trans (hs.mono hHeld.size)))); clear hK K hHeld; have hHeld := hHeldN; clear hHeldN; (try simp only [Act.put, List.setIfInBounds_toArray, List.set_cons_zero, List.set_cons_succ, List.getElem_toArray, List.getElem_cons_zero, List.getElem_cons_succ]))
  clear hs
  refine wpAnyH_at (m := #[true, true, true, false, false]) (by kernel_rfl) ?_
  (refine wpAnyH_ready (rs := [3]) (by kernel_rfl) (by simp) ?_; refine AllReadyH.cons rfl (fun K hK => ?_) AllReadyH.nil; go_simp; refine (HMR.out _ (below_of HB.out hHeld)).mono ?_; rintro e y3 ⟨rfl, hs⟩; refine hK.out _ _ ?_ (fun hHeldN => ?_); (focus ((try dsimp only); (exact hHeld.trans (hs.mono hHeld.size)))); clear hK K hHeld; have hHeld := hHeldN; clear hHeldN; (try simp only [Act.put, List.setIfInBounds_toArray, List.set_cons_zero, List.set_cons_succ, List.getElem_toArray, List.getElem_cons_zero, List.getElem_cons_succ]))
  clear hs
  (refine wpAnyH_take (i := 4) (v := ?_) rfl (by kernel_rfl) (by kernel_rfl) (by kernel_rfl) (fun _ _ _ h => h) (Or.inl ⟨by rfl, ?_⟩) hHeld ?_; rotate_left; (focus (intro w hSw; (try dsimp only at hSw); go_simp; try with_reducible rfl)); (try simp only [Act.put, List.setIfInBounds_toArray, List.set_cons_zero, List.set_cons_succ, List.getElem_toArray, List.getElem_cons_zero, List.getElem_cons_succ]))
  refine wpAnyH_done (by kernel_rfl) ?_ _
  have hb := hHeld
  have HF := Lib.hid (HF.out.later hb)
  have HB := Lib.hid (below_of HB.out hb)
  have HX := Lib.hid (Bytes.later HX.out hb)
  clear hb hHeld
  have c0 := BlkAt.cell HF.out (j := 0) rfl
  have c1 := BlkAt.cell HF.out (j := 1) rfl
  have c2 := BlkAt.cell HF.out (j := 2) rfl
  have c3 := BlkAt.cell HF.out (j := 3) rfl
  have c4 := BlkAt.cell HF.out (j := 4) rfl
  have c5 := BlkAt.cell HF.out (j := 5) rfl
  have c6 := BlkAt.cell HF.out (j := 6) rfl
  have c7 := BlkAt.cell HF.out (j := 7) rfl
  have c8 := BlkAt.cell HF.out (j := 8) rfl
  go_wp2_with fail
  refine (HMR.out _ HB.out).mono ?_
  rintro e w2 ⟨rfl, hb⟩
  have HF := Lib.hid (HF.out.later hb)
  have HB := Lib.hid (below_of HB.out hb)
  have HX := Lib.hid (Bytes.later HX.out hb)
  clear hb
  clear c0 c1 c2 c3 c4 c5 c6 c7 c8
  go_wp2_with fail
  (refine wp_region_held_drew (S := (fun w' => Below w2.heap.size w2 w')) (by kernel_rfl) ?_ (fun hHeld => ?_); (focus ((try dsimp only); (exact (Below.refl _ _).drew))))
  (try dsimp only at hHeld)
  obtain ⟨w0', hw0⟩ : ∃ W0, W0 = World.drew w2 := ⟨_, rfl⟩
  rw [← hw0]
  rw [← hw0] at hHeld
  clear hw0
  (refine wpAnyH_take (i := 0) (v := ?_) rfl (by kernel_rfl) (by kernel_rfl) (by kernel_rfl) (fun _ _ _ h => h) (Or.inl ⟨by rfl, ?_⟩) hHeld ?_; rotate_left; (focus (intro w hSw; (try dsimp only at hSw); go_simp; try with_reducible rfl)); (try simp only [Act.put, List.setIfInBounds_toArray, List.set_cons_zero, List.set_cons_succ, List.getElem_toArray, List.getElem_cons_zero]))
  (refine wpAnyH_take (i := 1) (v := ?_) rfl (by kernel_rfl) (by kernel_rfl) (by kernel_rfl) (fun _ _ _ h => h) (Or.inl ⟨by rfl, ?_⟩) hHeld ?_; rotate_left; (focus (intro w hSw; (try dsimp only at hSw); go_simp; (have hz := (Bytes.later HX.out hSw).str (P := Try.prog) (src := 26) (dst := 9) Try.underlying26 Try.underlying5 Try.underlying9; go_simp; try with_reducible rfl))); (try simp only [Act.put, List.setIfInBounds_toArray, List.set_cons_zero, List.set_cons_succ, List.getElem_toArray, List.getElem_cons_zero, List.getElem_cons_succ]))
  (refine wpAnyH_take (i := 2) (v := ?_) rfl (by kernel_rfl) (by kernel_rfl) (by kernel_rfl) (fun _ _ _ h => h) (Or.inl ⟨by rfl, ?_⟩) hHeld ?_; rotate_left; (focus (intro w hSw; (try dsimp only at hSw); go_simp; (have hq := BlkAt.later HF.out hSw; have c0 := BlkAt.cell hq (j := 0) rfl; have c1 := BlkAt.cell hq (j := 1) rfl; have c2 := BlkAt.cell hq (j := 2) rfl; have c3 := BlkAt.cell hq (j := 3) rfl; have c4 := BlkAt.cell hq (j := 4) rfl; have c5 := BlkAt.cell hq (j := 5) rfl; have c6 := BlkAt.cell hq (j := 6) rfl; have c7 := BlkAt.cell hq (j := 7) rfl; have c8 := BlkAt.cell hq (j := 8) rfl; go_simp; try with_reducible rfl))); (try simp only [Act.put, List.setIfInBounds_toArray, List.set_cons_zero, List.set_cons_succ, List.getElem_toArray, List.getElem_cons_zero, List.getElem_cons_succ]))
  refine wpAnyH_at (m := #[true, true, true, false, false, false, false, false, false, false, false]) (by kernel_rfl) ?_
  (refine wpAnyH_ready (rs := [3]) (by kernel_rfl) (by simp) ?_; refine AllReadyH.cons rfl (fun K hK => ?_) AllReadyH.nil; go_simp; refine (HBR.out _ (below_of HB.out hHeld)).mono ?_; rintro e y5 ⟨y, rfl, hoy, hs⟩; refine hK.out _ _ ?_ (fun hHeldN => ?_); (focus ((try dsimp only); (exact hHeld.trans (hs.mono hHeld.size)))); clear hK K hHeld; have hHeld := hHeldN; clear hHeldN; (try simp only [Act.put, List.setIfInBounds_toArray, List.set_cons_zero, List.set_cons_succ, List.getElem_toArray, List.getElem_cons_zero, List.getElem_cons_succ]))
  have HY5 := Lib.hid hoy.bytes
  clear hoy
  have HHB := Lib.hid hHeld
  clear hs hHeld
  refine wpAnyH_str (S' := fun w' => Below y5.heap.size y5 w') (fun w' h => HHB.out.trans (h.mono HHB.out.size)) _ _ _ _ ?_
  have hHeld := Below.refl y5.heap.size y5
  refine wpAnyH_at (m := #[true, true, true, true, false, false, false, false, false, false, false]) (by kernel_rfl) ?_
  (refine wpAnyH_take (i := 4) (v := ?_) rfl (by kernel_rfl) (by kernel_rfl) (by kernel_rfl) (fun _ _ _ h => h) (Or.inl ⟨by rfl, ?_⟩) hHeld ?_; rotate_left; (focus (intro w hSw; (try dsimp only at hSw); go_simp; (have hz := (Bytes.later HY5.out hSw).str (P := Try.prog) (src := 26) (dst := 9) Try.underlying26 Try.underlying5 Try.underlying9; go_simp; try with_reducible rfl))); (try simp only [Act.put, List.setIfInBounds_toArray, List.set_cons_zero, List.set_cons_succ, List.getElem_toArray, List.getElem_cons_zero, List.getElem_cons_succ]))
  (refine wpAnyH_take (i := 5) (v := ?_) rfl (by kernel_rfl) (by kernel_rfl) (by kernel_rfl) (fun _ _ _ h => h) (Or.inl ⟨by rfl, ?_⟩) hHeld ?_; rotate_left; (focus (intro w hSw; (try dsimp only at hSw); go_simp; try with_reducible rfl)); (try simp only [Act.put, List.setIfInBounds_toArray, List.set_cons_zero, List.set_cons_succ, List.getElem_toArray, List.getElem_cons_zero, List.getElem_cons_succ])); (refine wpAnyH_take (i := 6) (v := ?_) rfl (by kernel_rfl) (by kernel_rfl) (by kernel_rfl) (fun _ _ _ h => h) (Or.inl ⟨by rfl, ?_⟩) hHeld ?_; rotate_left; (focus (intro w hSw; (try dsimp only at hSw); go_simp; try with_reducible rfl)); (try simp only [Act.put, List.setIfInBounds_toArray, List.set_cons_zero, List.set_cons_succ, List.getElem_toArray, List.getElem_cons_zero, List.getElem_cons_succ])); (refine wpAnyH_take (i := 7) (v := ?_) rfl (by kernel_rfl) (by kernel_rfl) (by kernel_rfl) (fun _ _ _ h => h) (Or.inl ⟨by rfl, ?_⟩) hHeld ?_; rotate_left; (focus (intro w hSw; (try dsimp only at hSw); go_simp; try with_reducible rfl)); (try simp only [Act.put, List.setIfInBounds_toArray, List.set_cons_zero, List.set_cons_succ, List.getElem_toArray, List.getElem_cons_zero, List.getElem_cons_succ]))
  refine wpAnyH_at (m := #[true, true, true, true, true, true, true, true, false, false, false]) (by kernel_rfl) ?_
  (refine wpAnyH_ready (rs := [8]) (by kernel_rfl) (by simp) ?_; refine AllReadyH.cons rfl (fun K hK => ?_) AllReadyH.nil; go_simp; refine (num6_any 0 _).mono ?_; rintro e y6 ⟨rfl, rfl⟩; refine hK.out _ _ ?_ (fun hHeldN => ?_); (focus ((try dsimp only); (exact hHeld))); clear hK K hHeld; have hHeld := hHeldN; clear hHeldN; (try simp only [Act.put, List.setIfInBounds_toArray, List.set_cons_zero, List.set_cons_succ, List.getElem_toArray, List.getElem_cons_zero, List.getElem_cons_succ]))
  refine wpAnyH_at (m := #[true, true, true, true, true, true, true, true, true, false, false]) (by kernel_rfl) ?_
  (refine wpAnyH_take (i := 9) (v := ?_) rfl (by kernel_rfl) (by kernel_rfl) (by kernel_rfl) (fun _ _ _ h => h) (Or.inl ⟨by rfl, ?_⟩) hHeld ?_; rotate_left; (focus (intro w hSw; (try dsimp only at hSw); go_simp; try with_reducible rfl)); (try simp only [Act.put, List.setIfInBounds_toArray, List.set_cons_zero, List.set_cons_succ, List.getElem_toArray, List.getElem_cons_zero, List.getElem_cons_succ])); (refine wpAnyH_take (i := 10) (v := ?_) rfl (by kernel_rfl) (by kernel_rfl) (by kernel_rfl) (fun _ _ _ h => h) (Or.inl ⟨by rfl, ?_⟩) hHeld ?_; rotate_left; (focus (intro w hSw; (try dsimp only at hSw); go_simp; try with_reducible rfl)); (try simp only [Act.put, List.setIfInBounds_toArray, List.set_cons_zero, List.set_cons_succ, List.getElem_toArray, List.getElem_cons_zero, List.getElem_cons_succ]))
  refine wpAnyH_done (by kernel_rfl) ?_ _
  have hb := HHB.out
  have HF := Lib.hid (HF.out.later hb)
  have HB := Lib.hid (below_of HB.out hb)
  clear hb hHeld HHB HX HY5
  have hst := (HBV.out _ HB.out).str (P := Try.prog) (src := 26) (dst := 9) Try.underlying26 Try.underlying5 Try.underlying9
  go_wp2_with fail
  refine (HOW.out _ HB.out).mono ?_
  rintro e w3 ⟨u, rfl, hu, hb⟩
  obtain ⟨ua, uc, rfl⟩ := hu.form
  obtain ⟨un, hun⟩ : ∃ n, n = B0.length := ⟨_, rfl⟩
  rw [← hun] at hu ⊢
  have q := hb.alloc hb.size (.cells #[.int .i64 F0.k, .int .i64 F0.n, .int .u64 (F0.mb : Nat), .int .u64 (F0.mt : Nat), .int .u64 (F0.tb : Nat), .int .u64 (F0.tt : Nat), .int .u64 (F0.s : Nat), .int .u64 (F0.a : Nat), .slice ua un uc] 28)
  have hu1 := OwnB.weak hu HB.out.size
  have HUO := Lib.hid (OwnB.later hu1 (ba1 _ (.cells #[.int .i64 F0.k, .int .i64 F0.n, .int .u64 (F0.mb : Nat), .int .u64 (F0.mt : Nat), .int .u64 (F0.tb : Nat), .int .u64 (F0.tt : Nat), .int .u64 (F0.s : Nat), .int .u64 (F0.a : Nat), .slice ua un uc] 28)))
  have HY := Lib.hid (show BlkAt 28 w3.heap.size [.int .i64 F0.k, .int .i64 F0.n, .int .u64 (F0.mb : Nat), .int .u64 (F0.mt : Nat), .int .u64 (F0.tb : Nat), .int .u64 (F0.tt : Nat), .int .u64 (F0.s : Nat), .int .u64 (F0.a : Nat), .slice ua un uc] (w3.alloc (.cells #[.int .i64 F0.k, .int .i64 F0.n, .int .u64 (F0.mb : Nat), .int .u64 (F0.mt : Nat), .int .u64 (F0.tb : Nat), .int .u64 (F0.tt : Nat), .int .u64 (F0.s : Nat), .int .u64 (F0.a : Nat), .slice ua un uc] 28)) from BlkAt.new w3 _)
  have HYL : Hid (w.heap.size ≤ w3.heap.size ∧ un = B0.length) := ⟨(below_of HB.out hb).size, hun⟩
  have HB := Lib.hid (below_of HB.out q)
  clear hb q hu hu1 hst hun
  go_wp2_with fail
  refine (HOR.out _ HB.out).mono ?_
  rintro e w4 ⟨z, rfl, hz, hb⟩
  obtain ⟨za, zc, rfl⟩ := hz.form
  rw [← HYL.out.2] at hz ⊢
  have q := hb.alloc hb.size (.cells #[.int .i64 F0.k, .int .i64 F0.n, .int .u64 (F0.mb : Nat), .int .u64 (F0.mt : Nat), .int .u64 (F0.tb : Nat), .int .u64 (F0.tt : Nat), .int .u64 (F0.s : Nat), .int .u64 (F0.a : Nat), .slice za un zc] 28)
  have HZ := Lib.hid (show BlkAt 28 w4.heap.size [.int .i64 F0.k, .int .i64 F0.n, .int .u64 (F0.mb : Nat), .int .u64 (F0.mt : Nat), .int .u64 (F0.tb : Nat), .int .u64 (F0.tt : Nat), .int .u64 (F0.s : Nat), .int .u64 (F0.a : Nat), .slice za un zc] (w4.alloc (.cells #[.int .i64 F0.k, .int .i64 F0.n, .int .u64 (F0.mb : Nat), .int .u64 (F0.mt : Nat), .int .u64 (F0.tb : Nat), .int .u64 (F0.tt : Nat), .int .u64 (F0.s : Nat), .int .u64 (F0.a : Nat), .slice za un zc] 28)) from BlkAt.new w4 _)
  have HZB := Lib.hid (hz.later (ba1 _ (.cells #[.int .i64 F0.k, .int .i64 F0.n, .int .u64 (F0.mb : Nat), .int .u64 (F0.mt : Nat), .int .u64 (F0.tb : Nat), .int .u64 (F0.tt : Nat), .int .u64 (F0.s : Nat), .int .u64 (F0.a : Nat), .slice za un zc] 28)))
  have HUO := Lib.hid (OwnB.later HUO.out q)
  have HY := Lib.hid (HY.out.later q)
  have HB := Lib.hid (below_of HB.out q)
  clear hb q hz
  have c0 := BlkAt.cell HY.out (j := 0) rfl
  have c1 := BlkAt.cell HY.out (j := 1) rfl
  have c2 := BlkAt.cell HY.out (j := 2) rfl
  have c3 := BlkAt.cell HY.out (j := 3) rfl
  have c4 := BlkAt.cell HY.out (j := 4) rfl
  have c5 := BlkAt.cell HY.out (j := 5) rfl
  have c6 := BlkAt.cell HY.out (j := 6) rfl
  have c7 := BlkAt.cell HY.out (j := 7) rfl
  have c8 := BlkAt.cell HY.out (j := 8) rfl
  have d0 := BlkAt.cell HZ.out (j := 0) rfl
  have d1 := BlkAt.cell HZ.out (j := 1) rfl
  have d2 := BlkAt.cell HZ.out (j := 2) rfl
  have d3 := BlkAt.cell HZ.out (j := 3) rfl
  have d4 := BlkAt.cell HZ.out (j := 4) rfl
  have d5 := BlkAt.cell HZ.out (j := 5) rfl
  have d6 := BlkAt.cell HZ.out (j := 6) rfl
  have d7 := BlkAt.cell HZ.out (j := 7) rfl
  have d8 := BlkAt.cell HZ.out (j := 8) rfl
  go_wp2_with fail
  obtain ⟨wy, hwy⟩ : ∃ W, W = w4.alloc (.cells #[.int .i64 F0.k, .int .i64 F0.n, .int .u64 (F0.mb : Nat), .int .u64 (F0.mt : Nat), .int .u64 (F0.tb : Nat), .int .u64 (F0.tt : Nat), .int .u64 (F0.s : Nat), .int .u64 (F0.a : Nat), .slice za un zc] 28) := ⟨_, rfl⟩
  rw [← hwy] at HB HZ HZB HUO HY ⊢
  clear hwy
  have hsm := sameFR_any F0 F0 (.slice ua un uc) (.slice za un zc) B0 B0 wy HUO.out.bytes HZB.out
  rw [sameF_refl] at hsm
  refine hsm.mono ?_
  rintro e w5 ⟨rfl, hb⟩
  have HUO := Lib.hid (OwnB.later HUO.out hb)
  have HY := Lib.hid (HY.out.later hb)
  have HB := Lib.hid (below_of HB.out hb)
  clear hb hsm c0 c1 c2 c3 c4 c5 c6 c7 c8 d0 d1 d2 d3 d4 d5 d6 d7 d8
  go_wp2_with (go_at_call 13; refine (num6_any _ _).mono ?_; rintro e wn ⟨rfl, rfl⟩)
  have kun : (un : Int) ≤ 5000 := by have := HBL.out; have := HYL.out; omega
  go_loopw [12] (fun i wr => ∃ k : Nat, k ≤ un ∧ i = .int .i64 k ∧ Hid (∃ l' : List UInt8, l'.length = un ∧ OwnB wr w.heap.size (.slice ua un uc) l') ∧ Hid (BlkAt 28 w3.heap.size [.int .i64 F0.k, .int .i64 F0.n, .int .u64 (F0.mb : Nat), .int .u64 (F0.mt : Nat), .int .u64 (F0.tb : Nat), .int .u64 (F0.tt : Nat), .int .u64 (F0.s : Nat), .int .u64 (F0.a : Nat), .slice ua un uc] wr) ∧ Hid (Below w.heap.size w wr)) (fun i _ => un - (intOf i).toNat)
  case atStart => exact ⟨0, Nat.zero_le _, rfl, ⟨B0, HYL.out.2.symm, HUO.out⟩, HY.out, HB.out⟩
  case round =>
    obtain ⟨k, hk, rfl, HLr, HYr, HBr⟩ := hrel
    obtain ⟨l', hl1, hl2⟩ := HLr.out
    have q8 := BlkAt.cell HYr.out (j := 8) rfl
    rcases Nat.lt_or_ge k un with hlt | hge
    · have g1 : (k : Int) < un := by omega
      obtain ⟨g, cap, cur, e1, _⟩ := hl2.row (by omega)
      simp only [Value.slice.injEq] at e1
      obtain ⟨rfl, e2, rfl⟩ := e1
      obtain ⟨p1, p2, p3⟩ := own_block0 hl2 (by omega)
      obtain ⟨bx, ox, e3, _, hcx⟩ := hl2.bytes.at (i := k) (by omega)
      simp only [Option.some.injEq, Addr.mk.injEq] at e3
      obtain ⟨rfl, rfl, _⟩ := e3
      rw [Nat.zero_add] at hcx
      obtain ⟨cv, hcv⟩ : ∃ v, wr.cell? ⟨g, k, none⟩ = some v := ⟨_, hcx⟩
      clear hcx
      have hne : g ≠ w3.heap.size := BlkAt.ne_own HYr.out (by decide) hl2 rfl
      have hset := OwnB.set hl2 hl1.symm k 9
      have HL2 : Hid (∃ l'' : List UInt8, l''.length = un ∧ OwnB (wr.setCell ⟨g, k, none⟩ (.int .u8 9)) w.heap.size (.slice (some ⟨g, 0, none⟩) un uc) l'') := ⟨l'.set k 9, by rw [List.length_set]; exact hl1, hset⟩
      have HY2 := Lib.hid (BlkAt.other HYr.out (Ne.symm hne) k (.int .u8 9))
      have HB2 := Lib.hid (HBr.out.setCell (p := ⟨g, k, none⟩) p1 (.int .u8 9))
      have hfz : wr.frozen? ⟨g, k, none⟩ = false := p3 k
      have kk : k < un := hlt
      clear hset hl1 hl2 p1 p2 p3 hne e2 HLr
      go_wp2_with fail
      go_roundw
      case rel => exact ⟨k + 1, by omega, by go_num, HL2, HY2, HB2⟩
      case measure => simp [intOf]; omega
    · have e : k = un := by omega
      subst e
      have hst := (HBV.out _ HBr.out).str (P := Try.prog) (src := 26) (dst := 9) Try.underlying26 Try.underlying5 Try.underlying9
      clear hl1 hl2
      go_wp2_with fail
      refine (known6_any _).mono ?_
      rintro e w9 ⟨rfl, hb⟩
      have HBr := Lib.hid (below_of HBr.out hb)
      clear hb
      go_wp2_with fail
      go_ret
      exact ⟨rfl, HBr.out⟩
set_option maxHeartbeats 16000000 in
set_option maxRecDepth 100000 in
theorem hv_yn (f : Fr) (a pa : Option Addr) (c m pc pn : Nat) (ho : f.Ok) (B l : List UInt8) (w : World) (hm : m = B.length) (hpn : pn = l.length) (hB : Bytes w (.slice a B.length c) B) (hl : B.length ≤ 5000) (hv : Bytes w (.slice pa l.length pc) l) (hl2 : l.length ≤ 5000) (hmay : mayF f B = true) (hok : okF l = false) :
    Calls Try.prog 3 #[.agg #[.int .i64 f.k, .int .i64 f.n, .int .u64 (f.mb : Nat), .int .u64 (f.mt : Nat), .int .u64 (f.tb : Nat), .int .u64 (f.tt : Nat), .int .u64 (f.s : Nat), .int .u64 (f.a : Nat), .slice a m c], .slice pa pn pc] w fun e w' => e = .returned (.bool true) ∧ Below w.heap.size w w' := by
  obtain ⟨wz, hwz⟩ : ∃ wz, wz = (w.alloc (.cells #[.int .i64 f.k, .int .i64 f.n, .int .u64 (f.mb : Nat), .int .u64 (f.mt : Nat), .int .u64 (f.tb : Nat), .int .u64 (f.tt : Nat), .int .u64 (f.s : Nat), .int .u64 (f.a : Nat), .slice a m c] 28)) := ⟨_, rfl⟩
  have HB := Lib.hid (show Below w.heap.size w wz by rw [hwz]; go_grown)
  have HF := Lib.hid (show BlkAt 28 (w.heap.size) [.int .i64 f.k, .int .i64 f.n, .int .u64 (f.mb : Nat), .int .u64 (f.mt : Nat), .int .u64 (f.tb : Nat), .int .u64 (f.tt : Nat), .int .u64 (f.s : Nat), .int .u64 (f.a : Nat), .slice a m c] wz by
    have h9 := BlkAt.new (t := 28) w [.int .i64 f.k, .int .i64 f.n, .int .u64 (f.mb : Nat), .int .u64 (f.mt : Nat), .int .u64 (f.tb : Nat), .int .u64 (f.tt : Nat), .int .u64 (f.s : Nat), .int .u64 (f.a : Nat), .slice a m c]
    rw [hwz]; simpa using h9)
  have k1 : (m : Int) ≤ 5000 := by omega
  have k2 : (pn : Int) ≤ 5000 := by omega
  have HMW : Hid (∀ W, Below w.heap.size w W → Calls Try.prog 10 #[.agg #[.int .i64 f.k, .int .i64 f.n, .int .u64 (f.mb : Nat), .int .u64 (f.mt : Nat), .int .u64 (f.tb : Nat), .int .u64 (f.tt : Nat), .int .u64 (f.s : Nat), .int .u64 (f.a : Nat), .slice a m c]] W fun e w' => e = .returned (.bool true) ∧ Below W.heap.size W w') := fun W hW => by
    have h9 := mayW6_any f _ B W (hB.later hW) (by omega)
    rw [hmay, ← hm] at h9; exact h9
  have HMR : Hid (∀ W, Below w.heap.size w W → Calls Try.prog 11 #[.agg #[.int .i64 f.k, .int .i64 f.n, .int .u64 (f.mb : Nat), .int .u64 (f.mt : Nat), .int .u64 (f.tb : Nat), .int .u64 (f.tt : Nat), .int .u64 (f.s : Nat), .int .u64 (f.a : Nat), .slice a m c]] W fun e w' => e = .returned (.bool true) ∧ Below W.heap.size W w') := fun W hW => by
    have h9 := mayR6_any f _ B W (hB.later hW) (by omega)
    rw [hmay, ← hm] at h9; exact h9
  have hfl := frL_length f B
  obtain ⟨K, hK⟩ : ∃ K, K = frL f B := ⟨_, rfl⟩
  have HBW : Hid (∀ W, Below w.heap.size w W → Calls Try.prog 9 #[.agg #[.int .i64 f.k, .int .i64 f.n, .int .u64 (f.mb : Nat), .int .u64 (f.mt : Nat), .int .u64 (f.tb : Nat), .int .u64 (f.tt : Nat), .int .u64 (f.s : Nat), .int .u64 (f.a : Nat), .slice a m c]] W fun e w' => ∃ v, e = .returned (.tuple #[v, .int .i64 0]) ∧ OwnB w' W.heap.size v K ∧ Below W.heap.size W w') := fun W hW => by
    have h9 := bytesF_yes f ho _ B W (hB.later hW) hmay
    rw [← hK, ← hm] at h9; exact h9
  have HBR : Hid (∀ W, Below w.heap.size w W → Calls Try.prog 12 #[.agg #[.int .i64 f.k, .int .i64 f.n, .int .u64 (f.mb : Nat), .int .u64 (f.mt : Nat), .int .u64 (f.tb : Nat), .int .u64 (f.tt : Nat), .int .u64 (f.s : Nat), .int .u64 (f.a : Nat), .slice a m c]] W fun e w' => ∃ v, e = .returned v ∧ OwnB w' W.heap.size v K ∧ Below W.heap.size W w') := fun W hW => by
    have h9 := bytesR6_any f ho _ B W (hB.later hW) hmay
    rw [← hK, ← hm] at h9; exact h9
  have hoe : oE l = 4 := by unfold oE; rw [hok]; rfl
  obtain ⟨F0, hF0⟩ : ∃ F0, F0 = oF l := ⟨_, rfl⟩
  obtain ⟨B0, hB0⟩ : ∃ x, x = oB l := ⟨_, rfl⟩
  have hbl : B0.length ≤ 5000 := by rw [hB0]; unfold oB; split <;> simp <;> omega
  have HOW : Hid (∀ W, Below w.heap.size w W → Calls Try.prog 14 #[.slice pa pn pc] W fun e w' => ∃ u, e = .returned (.tuple #[.agg #[.int .i64 F0.k, .int .i64 F0.n, .int .u64 (F0.mb : Nat), .int .u64 (F0.mt : Nat), .int .u64 (F0.tb : Nat), .int .u64 (F0.tt : Nat), .int .u64 (F0.s : Nat), .int .u64 (F0.a : Nat), u], .int .i64 4]) ∧ OwnB w' W.heap.size u B0 ∧ Below W.heap.size W w') := fun W hW => by
    have h9 := of6W_any _ l W (hv.later hW) (by omega)
    unfold OfA at h9
    rw [← hF0, ← hB0, hoe, ← hpn] at h9; exact h9
  have HOR : Hid (∀ W, Below w.heap.size w W → Calls Try.prog 15 #[.slice pa pn pc] W fun e w' => ∃ u, e = .returned (.tuple #[.agg #[.int .i64 F0.k, .int .i64 F0.n, .int .u64 (F0.mb : Nat), .int .u64 (F0.mt : Nat), .int .u64 (F0.tb : Nat), .int .u64 (F0.tt : Nat), .int .u64 (F0.s : Nat), .int .u64 (F0.a : Nat), u], .bool false]) ∧ Bytes w' u B0 ∧ Below W.heap.size W w') := fun W hW => by
    have h9 := of6R_any _ l W (hv.later hW) (by omega)
    unfold OfR at h9
    rw [← hF0, ← hB0, hok, ← hpn] at h9; exact h9
  have HBV : Hid (∀ W, Below w.heap.size w W → Bytes W (.slice pa pn pc) l) := fun W hW => by rw [hpn]; exact hv.later hW
  have HBL : Hid (B0.length ≤ 5000) := hbl
  clear ho hm hpn hB hl hv hl2 hmay hok hoe hF0 hB0 hbl hK hfl
  go_enter Try.func3, Try.ntmps3
  go_wp2_with fail
  rw [← hwz]
  clear hwz
  have c0 := BlkAt.cell HF.out (j := 0) rfl
  have c1 := BlkAt.cell HF.out (j := 1) rfl
  have c2 := BlkAt.cell HF.out (j := 2) rfl
  have c3 := BlkAt.cell HF.out (j := 3) rfl
  have c4 := BlkAt.cell HF.out (j := 4) rfl
  have c5 := BlkAt.cell HF.out (j := 5) rfl
  have c6 := BlkAt.cell HF.out (j := 6) rfl
  have c7 := BlkAt.cell HF.out (j := 7) rfl
  have c8 := BlkAt.cell HF.out (j := 8) rfl
  go_wp2_with fail
  refine (HBW.out _ HB.out).mono ?_
  rintro e w1 ⟨x, rfl, hx, hb⟩
  obtain ⟨xa, xc, rfl⟩ := hx.form
  have HX := Lib.hid hx.bytes
  obtain ⟨xn, hxn⟩ : ∃ n, n = K.length := ⟨_, rfl⟩
  rw [← hxn] at HX ⊢
  clear hx hxn
  have HF := Lib.hid (HF.out.later hb)
  have HB := Lib.hid (below_of HB.out hb)
  clear hb
  clear c0 c1 c2 c3 c4 c5 c6 c7 c8
  go_wp2_with fail
  (refine wp_region_held_drew (S := (fun w' => Below w1.heap.size w1 w')) (by kernel_rfl) ?_ (fun hHeld => ?_); (focus ((try dsimp only); (exact (Below.refl _ _).drew))))
  (try dsimp only at hHeld)
  obtain ⟨w0, hw0⟩ : ∃ W0, W0 = World.drew w1 := ⟨_, rfl⟩
  rw [← hw0]
  rw [← hw0] at hHeld
  clear hw0
  (refine wpAnyH_take (i := 0) (v := ?_) rfl (by kernel_rfl) (by kernel_rfl) (by kernel_rfl) (fun _ _ _ h => h) (Or.inl ⟨by rfl, ?_⟩) hHeld ?_; rotate_left; (focus (intro w hSw; (try dsimp only at hSw); go_simp; (have hq := BlkAt.later HF.out hSw; have c0 := BlkAt.cell hq (j := 0) rfl; have c1 := BlkAt.cell hq (j := 1) rfl; have c2 := BlkAt.cell hq (j := 2) rfl; have c3 := BlkAt.cell hq (j := 3) rfl; have c4 := BlkAt.cell hq (j := 4) rfl; have c5 := BlkAt.cell hq (j := 5) rfl; have c6 := BlkAt.cell hq (j := 6) rfl; have c7 := BlkAt.cell hq (j := 7) rfl; have c8 := BlkAt.cell hq (j := 8) rfl; go_simp; try with_reducible rfl))); (try simp only [Act.put, List.setIfInBounds_toArray, List.set_cons_zero, List.set_cons_succ, List.getElem_toArray, List.getElem_cons_zero]))
  (refine wpAnyH_take (i := 2) (v := ?_) rfl (by kernel_rfl) (by kernel_rfl) (by kernel_rfl) (fun _ _ _ h => h) (Or.inl ⟨by rfl, ?_⟩) hHeld ?_; rotate_left; (focus (intro w hSw; (try dsimp only at hSw); go_simp; (have hq := BlkAt.later HF.out hSw; have c0 := BlkAt.cell hq (j := 0) rfl; have c1 := BlkAt.cell hq (j := 1) rfl; have c2 := BlkAt.cell hq (j := 2) rfl; have c3 := BlkAt.cell hq (j := 3) rfl; have c4 := BlkAt.cell hq (j := 4) rfl; have c5 := BlkAt.cell hq (j := 5) rfl; have c6 := BlkAt.cell hq (j := 6) rfl; have c7 := BlkAt.cell hq (j := 7) rfl; have c8 := BlkAt.cell hq (j := 8) rfl; go_simp; try with_reducible rfl))); (try simp only [Act.put, List.setIfInBounds_toArray, List.set_cons_zero, List.set_cons_succ, List.getElem_toArray, List.getElem_cons_zero, List.getElem_cons_succ]))
  refine wpAnyH_at (m := #[true, false, true, false, false]) (by kernel_rfl) ?_
  (refine wpAnyH_ready (rs := [1]) (by kernel_rfl) (by simp) ?_; refine AllReadyH.cons rfl (fun K hK => ?_) AllReadyH.nil; go_simp; refine (HMW.out _ (below_of HB.out hHeld)).mono ?_; rintro e y1 ⟨rfl, hs⟩; refine hK.out _ _ ?_ (fun hHeldN => ?_); (focus ((try dsimp only); (exact hHeld.trans (hs.mono hHeld.size)))); clear hK K hHeld; have hHeld := hHeldN; clear hHeldN; (try simp only [Act.put, List.setIfInBounds_toArray, List.set_cons_zero, List.set_cons_succ, List.getElem_toArray, List.getElem_cons_zero, List.getElem_cons_succ]))
  clear hs
  refine wpAnyH_at (m := #[true, true, true, false, false]) (by kernel_rfl) ?_
  (refine wpAnyH_ready (rs := [3]) (by kernel_rfl) (by simp) ?_; refine AllReadyH.cons rfl (fun K hK => ?_) AllReadyH.nil; go_simp; refine (HMR.out _ (below_of HB.out hHeld)).mono ?_; rintro e y3 ⟨rfl, hs⟩; refine hK.out _ _ ?_ (fun hHeldN => ?_); (focus ((try dsimp only); (exact hHeld.trans (hs.mono hHeld.size)))); clear hK K hHeld; have hHeld := hHeldN; clear hHeldN; (try simp only [Act.put, List.setIfInBounds_toArray, List.set_cons_zero, List.set_cons_succ, List.getElem_toArray, List.getElem_cons_zero, List.getElem_cons_succ]))
  clear hs
  (refine wpAnyH_take (i := 4) (v := ?_) rfl (by kernel_rfl) (by kernel_rfl) (by kernel_rfl) (fun _ _ _ h => h) (Or.inl ⟨by rfl, ?_⟩) hHeld ?_; rotate_left; (focus (intro w hSw; (try dsimp only at hSw); go_simp; try with_reducible rfl)); (try simp only [Act.put, List.setIfInBounds_toArray, List.set_cons_zero, List.set_cons_succ, List.getElem_toArray, List.getElem_cons_zero, List.getElem_cons_succ]))
  refine wpAnyH_done (by kernel_rfl) ?_ _
  have hb := hHeld
  have HF := Lib.hid (HF.out.later hb)
  have HB := Lib.hid (below_of HB.out hb)
  have HX := Lib.hid (Bytes.later HX.out hb)
  clear hb hHeld
  have c0 := BlkAt.cell HF.out (j := 0) rfl
  have c1 := BlkAt.cell HF.out (j := 1) rfl
  have c2 := BlkAt.cell HF.out (j := 2) rfl
  have c3 := BlkAt.cell HF.out (j := 3) rfl
  have c4 := BlkAt.cell HF.out (j := 4) rfl
  have c5 := BlkAt.cell HF.out (j := 5) rfl
  have c6 := BlkAt.cell HF.out (j := 6) rfl
  have c7 := BlkAt.cell HF.out (j := 7) rfl
  have c8 := BlkAt.cell HF.out (j := 8) rfl
  go_wp2_with fail
  refine (HMR.out _ HB.out).mono ?_
  rintro e w2 ⟨rfl, hb⟩
  have HF := Lib.hid (HF.out.later hb)
  have HB := Lib.hid (below_of HB.out hb)
  have HX := Lib.hid (Bytes.later HX.out hb)
  clear hb
  clear c0 c1 c2 c3 c4 c5 c6 c7 c8
  go_wp2_with fail
  (refine wp_region_held_drew (S := (fun w' => Below w2.heap.size w2 w')) (by kernel_rfl) ?_ (fun hHeld => ?_); (focus ((try dsimp only); (exact (Below.refl _ _).drew))))
  (try dsimp only at hHeld)
  obtain ⟨w0', hw0⟩ : ∃ W0, W0 = World.drew w2 := ⟨_, rfl⟩
  rw [← hw0]
  rw [← hw0] at hHeld
  clear hw0
  (refine wpAnyH_take (i := 0) (v := ?_) rfl (by kernel_rfl) (by kernel_rfl) (by kernel_rfl) (fun _ _ _ h => h) (Or.inl ⟨by rfl, ?_⟩) hHeld ?_; rotate_left; (focus (intro w hSw; (try dsimp only at hSw); go_simp; try with_reducible rfl)); (try simp only [Act.put, List.setIfInBounds_toArray, List.set_cons_zero, List.set_cons_succ, List.getElem_toArray, List.getElem_cons_zero]))
  (refine wpAnyH_take (i := 1) (v := ?_) rfl (by kernel_rfl) (by kernel_rfl) (by kernel_rfl) (fun _ _ _ h => h) (Or.inl ⟨by rfl, ?_⟩) hHeld ?_; rotate_left; (focus (intro w hSw; (try dsimp only at hSw); go_simp; (have hz := (Bytes.later HX.out hSw).str (P := Try.prog) (src := 26) (dst := 9) Try.underlying26 Try.underlying5 Try.underlying9; go_simp; try with_reducible rfl))); (try simp only [Act.put, List.setIfInBounds_toArray, List.set_cons_zero, List.set_cons_succ, List.getElem_toArray, List.getElem_cons_zero, List.getElem_cons_succ]))
  (refine wpAnyH_take (i := 2) (v := ?_) rfl (by kernel_rfl) (by kernel_rfl) (by kernel_rfl) (fun _ _ _ h => h) (Or.inl ⟨by rfl, ?_⟩) hHeld ?_; rotate_left; (focus (intro w hSw; (try dsimp only at hSw); go_simp; (have hq := BlkAt.later HF.out hSw; have c0 := BlkAt.cell hq (j := 0) rfl; have c1 := BlkAt.cell hq (j := 1) rfl; have c2 := BlkAt.cell hq (j := 2) rfl; have c3 := BlkAt.cell hq (j := 3) rfl; have c4 := BlkAt.cell hq (j := 4) rfl; have c5 := BlkAt.cell hq (j := 5) rfl; have c6 := BlkAt.cell hq (j := 6) rfl; have c7 := BlkAt.cell hq (j := 7) rfl; have c8 := BlkAt.cell hq (j := 8) rfl; go_simp; try with_reducible rfl))); (try simp only [Act.put, List.setIfInBounds_toArray, List.set_cons_zero, List.set_cons_succ, List.getElem_toArray, List.getElem_cons_zero, List.getElem_cons_succ]))
  refine wpAnyH_at (m := #[true, true, true, false, false, false, false, false, false, false, false]) (by kernel_rfl) ?_
  (refine wpAnyH_ready (rs := [3]) (by kernel_rfl) (by simp) ?_; refine AllReadyH.cons rfl (fun K hK => ?_) AllReadyH.nil; go_simp; refine (HBR.out _ (below_of HB.out hHeld)).mono ?_; rintro e y5 ⟨y, rfl, hoy, hs⟩; refine hK.out _ _ ?_ (fun hHeldN => ?_); (focus ((try dsimp only); (exact hHeld.trans (hs.mono hHeld.size)))); clear hK K hHeld; have hHeld := hHeldN; clear hHeldN; (try simp only [Act.put, List.setIfInBounds_toArray, List.set_cons_zero, List.set_cons_succ, List.getElem_toArray, List.getElem_cons_zero, List.getElem_cons_succ]))
  have HY5 := Lib.hid hoy.bytes
  clear hoy
  have HHB := Lib.hid hHeld
  clear hs hHeld
  refine wpAnyH_str (S' := fun w' => Below y5.heap.size y5 w') (fun w' h => HHB.out.trans (h.mono HHB.out.size)) _ _ _ _ ?_
  have hHeld := Below.refl y5.heap.size y5
  refine wpAnyH_at (m := #[true, true, true, true, false, false, false, false, false, false, false]) (by kernel_rfl) ?_
  (refine wpAnyH_take (i := 4) (v := ?_) rfl (by kernel_rfl) (by kernel_rfl) (by kernel_rfl) (fun _ _ _ h => h) (Or.inl ⟨by rfl, ?_⟩) hHeld ?_; rotate_left; (focus (intro w hSw; (try dsimp only at hSw); go_simp; (have hz := (Bytes.later HY5.out hSw).str (P := Try.prog) (src := 26) (dst := 9) Try.underlying26 Try.underlying5 Try.underlying9; go_simp; try with_reducible rfl))); (try simp only [Act.put, List.setIfInBounds_toArray, List.set_cons_zero, List.set_cons_succ, List.getElem_toArray, List.getElem_cons_zero, List.getElem_cons_succ]))
  (refine wpAnyH_take (i := 5) (v := ?_) rfl (by kernel_rfl) (by kernel_rfl) (by kernel_rfl) (fun _ _ _ h => h) (Or.inl ⟨by rfl, ?_⟩) hHeld ?_; rotate_left; (focus (intro w hSw; (try dsimp only at hSw); go_simp; try with_reducible rfl)); (try simp only [Act.put, List.setIfInBounds_toArray, List.set_cons_zero, List.set_cons_succ, List.getElem_toArray, List.getElem_cons_zero, List.getElem_cons_succ])); (refine wpAnyH_take (i := 6) (v := ?_) rfl (by kernel_rfl) (by kernel_rfl) (by kernel_rfl) (fun _ _ _ h => h) (Or.inl ⟨by rfl, ?_⟩) hHeld ?_; rotate_left; (focus (intro w hSw; (try dsimp only at hSw); go_simp; try with_reducible rfl)); (try simp only [Act.put, List.setIfInBounds_toArray, List.set_cons_zero, List.set_cons_succ, List.getElem_toArray, List.getElem_cons_zero, List.getElem_cons_succ])); (refine wpAnyH_take (i := 7) (v := ?_) rfl (by kernel_rfl) (by kernel_rfl) (by kernel_rfl) (fun _ _ _ h => h) (Or.inl ⟨by rfl, ?_⟩) hHeld ?_; rotate_left; (focus (intro w hSw; (try dsimp only at hSw); go_simp; try with_reducible rfl)); (try simp only [Act.put, List.setIfInBounds_toArray, List.set_cons_zero, List.set_cons_succ, List.getElem_toArray, List.getElem_cons_zero, List.getElem_cons_succ]))
  refine wpAnyH_at (m := #[true, true, true, true, true, true, true, true, false, false, false]) (by kernel_rfl) ?_
  (refine wpAnyH_ready (rs := [8]) (by kernel_rfl) (by simp) ?_; refine AllReadyH.cons rfl (fun K hK => ?_) AllReadyH.nil; go_simp; refine (num6_any 0 _).mono ?_; rintro e y6 ⟨rfl, rfl⟩; refine hK.out _ _ ?_ (fun hHeldN => ?_); (focus ((try dsimp only); (exact hHeld))); clear hK K hHeld; have hHeld := hHeldN; clear hHeldN; (try simp only [Act.put, List.setIfInBounds_toArray, List.set_cons_zero, List.set_cons_succ, List.getElem_toArray, List.getElem_cons_zero, List.getElem_cons_succ]))
  refine wpAnyH_at (m := #[true, true, true, true, true, true, true, true, true, false, false]) (by kernel_rfl) ?_
  (refine wpAnyH_take (i := 9) (v := ?_) rfl (by kernel_rfl) (by kernel_rfl) (by kernel_rfl) (fun _ _ _ h => h) (Or.inl ⟨by rfl, ?_⟩) hHeld ?_; rotate_left; (focus (intro w hSw; (try dsimp only at hSw); go_simp; try with_reducible rfl)); (try simp only [Act.put, List.setIfInBounds_toArray, List.set_cons_zero, List.set_cons_succ, List.getElem_toArray, List.getElem_cons_zero, List.getElem_cons_succ])); (refine wpAnyH_take (i := 10) (v := ?_) rfl (by kernel_rfl) (by kernel_rfl) (by kernel_rfl) (fun _ _ _ h => h) (Or.inl ⟨by rfl, ?_⟩) hHeld ?_; rotate_left; (focus (intro w hSw; (try dsimp only at hSw); go_simp; try with_reducible rfl)); (try simp only [Act.put, List.setIfInBounds_toArray, List.set_cons_zero, List.set_cons_succ, List.getElem_toArray, List.getElem_cons_zero, List.getElem_cons_succ]))
  refine wpAnyH_done (by kernel_rfl) ?_ _
  have hb := HHB.out
  have HF := Lib.hid (HF.out.later hb)
  have HB := Lib.hid (below_of HB.out hb)
  clear hb hHeld HHB HX HY5
  have hst := (HBV.out _ HB.out).str (P := Try.prog) (src := 26) (dst := 9) Try.underlying26 Try.underlying5 Try.underlying9
  go_wp2_with fail
  refine (HOW.out _ HB.out).mono ?_
  rintro e w3 ⟨u, rfl, hu, hb⟩
  obtain ⟨ua, uc, rfl⟩ := hu.form
  obtain ⟨un, hun⟩ : ∃ n, n = B0.length := ⟨_, rfl⟩
  rw [← hun] at hu ⊢
  have q := hb.alloc hb.size (.cells #[.int .i64 F0.k, .int .i64 F0.n, .int .u64 (F0.mb : Nat), .int .u64 (F0.mt : Nat), .int .u64 (F0.tb : Nat), .int .u64 (F0.tt : Nat), .int .u64 (F0.s : Nat), .int .u64 (F0.a : Nat), .slice ua un uc] 28)
  have hu1 := OwnB.weak hu HB.out.size
  have HUO := Lib.hid (OwnB.later hu1 (ba1 _ (.cells #[.int .i64 F0.k, .int .i64 F0.n, .int .u64 (F0.mb : Nat), .int .u64 (F0.mt : Nat), .int .u64 (F0.tb : Nat), .int .u64 (F0.tt : Nat), .int .u64 (F0.s : Nat), .int .u64 (F0.a : Nat), .slice ua un uc] 28)))
  have HY := Lib.hid (show BlkAt 28 w3.heap.size [.int .i64 F0.k, .int .i64 F0.n, .int .u64 (F0.mb : Nat), .int .u64 (F0.mt : Nat), .int .u64 (F0.tb : Nat), .int .u64 (F0.tt : Nat), .int .u64 (F0.s : Nat), .int .u64 (F0.a : Nat), .slice ua un uc] (w3.alloc (.cells #[.int .i64 F0.k, .int .i64 F0.n, .int .u64 (F0.mb : Nat), .int .u64 (F0.mt : Nat), .int .u64 (F0.tb : Nat), .int .u64 (F0.tt : Nat), .int .u64 (F0.s : Nat), .int .u64 (F0.a : Nat), .slice ua un uc] 28)) from BlkAt.new w3 _)
  have HYL : Hid (w.heap.size ≤ w3.heap.size ∧ un = B0.length) := ⟨(below_of HB.out hb).size, hun⟩
  have HB := Lib.hid (below_of HB.out q)
  clear hb q hu hu1 hst hun
  go_wp2_with fail
  refine (HOR.out _ HB.out).mono ?_
  rintro e w4 ⟨z, rfl, hz, hb⟩
  obtain ⟨za, zc, rfl⟩ := hz.form
  rw [← HYL.out.2] at hz ⊢
  have q := hb.alloc hb.size (.cells #[.int .i64 F0.k, .int .i64 F0.n, .int .u64 (F0.mb : Nat), .int .u64 (F0.mt : Nat), .int .u64 (F0.tb : Nat), .int .u64 (F0.tt : Nat), .int .u64 (F0.s : Nat), .int .u64 (F0.a : Nat), .slice za un zc] 28)
  have HZ := Lib.hid (show BlkAt 28 w4.heap.size [.int .i64 F0.k, .int .i64 F0.n, .int .u64 (F0.mb : Nat), .int .u64 (F0.mt : Nat), .int .u64 (F0.tb : Nat), .int .u64 (F0.tt : Nat), .int .u64 (F0.s : Nat), .int .u64 (F0.a : Nat), .slice za un zc] (w4.alloc (.cells #[.int .i64 F0.k, .int .i64 F0.n, .int .u64 (F0.mb : Nat), .int .u64 (F0.mt : Nat), .int .u64 (F0.tb : Nat), .int .u64 (F0.tt : Nat), .int .u64 (F0.s : Nat), .int .u64 (F0.a : Nat), .slice za un zc] 28)) from BlkAt.new w4 _)
  have HZB := Lib.hid (hz.later (ba1 _ (.cells #[.int .i64 F0.k, .int .i64 F0.n, .int .u64 (F0.mb : Nat), .int .u64 (F0.mt : Nat), .int .u64 (F0.tb : Nat), .int .u64 (F0.tt : Nat), .int .u64 (F0.s : Nat), .int .u64 (F0.a : Nat), .slice za un zc] 28)))
  have HUO := Lib.hid (OwnB.later HUO.out q)
  have HY := Lib.hid (HY.out.later q)
  have HB := Lib.hid (below_of HB.out q)
  clear hb q hz
  have c0 := BlkAt.cell HY.out (j := 0) rfl
  have c1 := BlkAt.cell HY.out (j := 1) rfl
  have c2 := BlkAt.cell HY.out (j := 2) rfl
  have c3 := BlkAt.cell HY.out (j := 3) rfl
  have c4 := BlkAt.cell HY.out (j := 4) rfl
  have c5 := BlkAt.cell HY.out (j := 5) rfl
  have c6 := BlkAt.cell HY.out (j := 6) rfl
  have c7 := BlkAt.cell HY.out (j := 7) rfl
  have c8 := BlkAt.cell HY.out (j := 8) rfl
  have d0 := BlkAt.cell HZ.out (j := 0) rfl
  have d1 := BlkAt.cell HZ.out (j := 1) rfl
  have d2 := BlkAt.cell HZ.out (j := 2) rfl
  have d3 := BlkAt.cell HZ.out (j := 3) rfl
  have d4 := BlkAt.cell HZ.out (j := 4) rfl
  have d5 := BlkAt.cell HZ.out (j := 5) rfl
  have d6 := BlkAt.cell HZ.out (j := 6) rfl
  have d7 := BlkAt.cell HZ.out (j := 7) rfl
  have d8 := BlkAt.cell HZ.out (j := 8) rfl
  go_wp2_with fail
  obtain ⟨wy, hwy⟩ : ∃ W, W = w4.alloc (.cells #[.int .i64 F0.k, .int .i64 F0.n, .int .u64 (F0.mb : Nat), .int .u64 (F0.mt : Nat), .int .u64 (F0.tb : Nat), .int .u64 (F0.tt : Nat), .int .u64 (F0.s : Nat), .int .u64 (F0.a : Nat), .slice za un zc] 28) := ⟨_, rfl⟩
  rw [← hwy] at HB HZ HZB HUO HY ⊢
  clear hwy
  have hsm := sameFR_any F0 F0 (.slice ua un uc) (.slice za un zc) B0 B0 wy HUO.out.bytes HZB.out
  rw [sameF_refl] at hsm
  refine hsm.mono ?_
  rintro e w5 ⟨rfl, hb⟩
  have HUO := Lib.hid (OwnB.later HUO.out hb)
  have HY := Lib.hid (HY.out.later hb)
  have HB := Lib.hid (below_of HB.out hb)
  clear hb hsm c0 c1 c2 c3 c4 c5 c6 c7 c8 d0 d1 d2 d3 d4 d5 d6 d7 d8
  go_wp2_with (go_at_call 13; refine (num6_any _ _).mono ?_; rintro e wn ⟨rfl, rfl⟩)
  have kun : (un : Int) ≤ 5000 := by have := HBL.out; have := HYL.out; omega
  go_loopw [12] (fun i wr => ∃ k : Nat, k ≤ un ∧ i = .int .i64 k ∧ Hid (∃ l' : List UInt8, l'.length = un ∧ OwnB wr w.heap.size (.slice ua un uc) l') ∧ Hid (BlkAt 28 w3.heap.size [.int .i64 F0.k, .int .i64 F0.n, .int .u64 (F0.mb : Nat), .int .u64 (F0.mt : Nat), .int .u64 (F0.tb : Nat), .int .u64 (F0.tt : Nat), .int .u64 (F0.s : Nat), .int .u64 (F0.a : Nat), .slice ua un uc] wr) ∧ Hid (Below w.heap.size w wr)) (fun i _ => un - (intOf i).toNat)
  case atStart => exact ⟨0, Nat.zero_le _, rfl, ⟨B0, HYL.out.2.symm, HUO.out⟩, HY.out, HB.out⟩
  case round =>
    obtain ⟨k, hk, rfl, HLr, HYr, HBr⟩ := hrel
    obtain ⟨l', hl1, hl2⟩ := HLr.out
    have q8 := BlkAt.cell HYr.out (j := 8) rfl
    rcases Nat.lt_or_ge k un with hlt | hge
    · have g1 : (k : Int) < un := by omega
      obtain ⟨g, cap, cur, e1, _⟩ := hl2.row (by omega)
      simp only [Value.slice.injEq] at e1
      obtain ⟨rfl, e2, rfl⟩ := e1
      obtain ⟨p1, p2, p3⟩ := own_block0 hl2 (by omega)
      obtain ⟨bx, ox, e3, _, hcx⟩ := hl2.bytes.at (i := k) (by omega)
      simp only [Option.some.injEq, Addr.mk.injEq] at e3
      obtain ⟨rfl, rfl, _⟩ := e3
      rw [Nat.zero_add] at hcx
      obtain ⟨cv, hcv⟩ : ∃ v, wr.cell? ⟨g, k, none⟩ = some v := ⟨_, hcx⟩
      clear hcx
      have hne : g ≠ w3.heap.size := BlkAt.ne_own HYr.out (by decide) hl2 rfl
      have hset := OwnB.set hl2 hl1.symm k 9
      have HL2 : Hid (∃ l'' : List UInt8, l''.length = un ∧ OwnB (wr.setCell ⟨g, k, none⟩ (.int .u8 9)) w.heap.size (.slice (some ⟨g, 0, none⟩) un uc) l'') := ⟨l'.set k 9, by rw [List.length_set]; exact hl1, hset⟩
      have HY2 := Lib.hid (BlkAt.other HYr.out (Ne.symm hne) k (.int .u8 9))
      have HB2 := Lib.hid (HBr.out.setCell (p := ⟨g, k, none⟩) p1 (.int .u8 9))
      have hfz : wr.frozen? ⟨g, k, none⟩ = false := p3 k
      have kk : k < un := hlt
      clear hset hl1 hl2 p1 p2 p3 hne e2 HLr
      go_wp2_with fail
      go_roundw
      case rel => exact ⟨k + 1, by omega, by go_num, HL2, HY2, HB2⟩
      case measure => simp [intOf]; omega
    · have e : k = un := by omega
      subst e
      have hst := (HBV.out _ HBr.out).str (P := Try.prog) (src := 26) (dst := 9) Try.underlying26 Try.underlying5 Try.underlying9
      clear hl1 hl2
      go_wp2_with fail
      refine (known6_any _).mono ?_
      rintro e w9 ⟨rfl, hb⟩
      have HBr := Lib.hid (below_of HBr.out hb)
      clear hb
      go_wp2_with fail
      go_ret
      exact ⟨rfl, HBr.out⟩
set_option maxHeartbeats 16000000 in
set_option maxRecDepth 100000 in
theorem hv_ny (f : Fr) (a pa : Option Addr) (c m pc pn : Nat) (ho : f.Ok) (B l : List UInt8) (w : World) (hm : m = B.length) (hpn : pn = l.length) (hB : Bytes w (.slice a B.length c) B) (hl : B.length ≤ 5000) (hv : Bytes w (.slice pa l.length pc) l) (hl2 : l.length ≤ 5000) (hmay : mayF f B = false) (hok : okF l = true) :
    Calls Try.prog 3 #[.agg #[.int .i64 f.k, .int .i64 f.n, .int .u64 (f.mb : Nat), .int .u64 (f.mt : Nat), .int .u64 (f.tb : Nat), .int .u64 (f.tt : Nat), .int .u64 (f.s : Nat), .int .u64 (f.a : Nat), .slice a m c], .slice pa pn pc] w fun e w' => e = .returned (.bool true) ∧ Below w.heap.size w w' := by
  obtain ⟨wz, hwz⟩ : ∃ wz, wz = (w.alloc (.cells #[.int .i64 f.k, .int .i64 f.n, .int .u64 (f.mb : Nat), .int .u64 (f.mt : Nat), .int .u64 (f.tb : Nat), .int .u64 (f.tt : Nat), .int .u64 (f.s : Nat), .int .u64 (f.a : Nat), .slice a m c] 28)) := ⟨_, rfl⟩
  have HB := Lib.hid (show Below w.heap.size w wz by rw [hwz]; go_grown)
  have HF := Lib.hid (show BlkAt 28 (w.heap.size) [.int .i64 f.k, .int .i64 f.n, .int .u64 (f.mb : Nat), .int .u64 (f.mt : Nat), .int .u64 (f.tb : Nat), .int .u64 (f.tt : Nat), .int .u64 (f.s : Nat), .int .u64 (f.a : Nat), .slice a m c] wz by
    have h9 := BlkAt.new (t := 28) w [.int .i64 f.k, .int .i64 f.n, .int .u64 (f.mb : Nat), .int .u64 (f.mt : Nat), .int .u64 (f.tb : Nat), .int .u64 (f.tt : Nat), .int .u64 (f.s : Nat), .int .u64 (f.a : Nat), .slice a m c]
    rw [hwz]; simpa using h9)
  have k1 : (m : Int) ≤ 5000 := by omega
  have k2 : (pn : Int) ≤ 5000 := by omega
  have HMW : Hid (∀ W, Below w.heap.size w W → Calls Try.prog 10 #[.agg #[.int .i64 f.k, .int .i64 f.n, .int .u64 (f.mb : Nat), .int .u64 (f.mt : Nat), .int .u64 (f.tb : Nat), .int .u64 (f.tt : Nat), .int .u64 (f.s : Nat), .int .u64 (f.a : Nat), .slice a m c]] W fun e w' => e = .returned (.bool false) ∧ Below W.heap.size W w') := fun W hW => by
    have h9 := mayW6_any f _ B W (hB.later hW) (by omega)
    rw [hmay, ← hm] at h9; exact h9
  have HMR : Hid (∀ W, Below w.heap.size w W → Calls Try.prog 11 #[.agg #[.int .i64 f.k, .int .i64 f.n, .int .u64 (f.mb : Nat), .int .u64 (f.mt : Nat), .int .u64 (f.tb : Nat), .int .u64 (f.tt : Nat), .int .u64 (f.s : Nat), .int .u64 (f.a : Nat), .slice a m c]] W fun e w' => e = .returned (.bool false) ∧ Below W.heap.size W w') := fun W hW => by
    have h9 := mayR6_any f _ B W (hB.later hW) (by omega)
    rw [hmay, ← hm] at h9; exact h9
  have HBW : Hid (∀ W, Below w.heap.size w W → Calls Try.prog 9 #[.agg #[.int .i64 f.k, .int .i64 f.n, .int .u64 (f.mb : Nat), .int .u64 (f.mt : Nat), .int .u64 (f.tb : Nat), .int .u64 (f.tt : Nat), .int .u64 (f.s : Nat), .int .u64 (f.a : Nat), .slice a m c]] W fun e w' => e = .returned (.tuple #[.slice none 0 0, .int .i64 2]) ∧ Below W.heap.size W w') := fun W hW => by
    have h9 := bytesF_no f _ B W (hB.later hW) (by omega) hmay
    rw [← hm] at h9; exact h9
  have hoe : oE l = 0 := by unfold oE; rw [hok]; rfl
  obtain ⟨F0, hF0⟩ : ∃ F0, F0 = oF l := ⟨_, rfl⟩
  obtain ⟨B0, hB0⟩ : ∃ x, x = oB l := ⟨_, rfl⟩
  have hbl : B0.length ≤ 5000 := by rw [hB0]; unfold oB; split <;> simp <;> omega
  have HOW : Hid (∀ W, Below w.heap.size w W → Calls Try.prog 14 #[.slice pa pn pc] W fun e w' => ∃ u, e = .returned (.tuple #[.agg #[.int .i64 F0.k, .int .i64 F0.n, .int .u64 (F0.mb : Nat), .int .u64 (F0.mt : Nat), .int .u64 (F0.tb : Nat), .int .u64 (F0.tt : Nat), .int .u64 (F0.s : Nat), .int .u64 (F0.a : Nat), u], .int .i64 0]) ∧ OwnB w' W.heap.size u B0 ∧ Below W.heap.size W w') := fun W hW => by
    have h9 := of6W_any _ l W (hv.later hW) (by omega)
    unfold OfA at h9
    rw [← hF0, ← hB0, hoe, ← hpn] at h9; exact h9
  have HOR : Hid (∀ W, Below w.heap.size w W → Calls Try.prog 15 #[.slice pa pn pc] W fun e w' => ∃ u, e = .returned (.tuple #[.agg #[.int .i64 F0.k, .int .i64 F0.n, .int .u64 (F0.mb : Nat), .int .u64 (F0.mt : Nat), .int .u64 (F0.tb : Nat), .int .u64 (F0.tt : Nat), .int .u64 (F0.s : Nat), .int .u64 (F0.a : Nat), u], .bool true]) ∧ Bytes w' u B0 ∧ Below W.heap.size W w') := fun W hW => by
    have h9 := of6R_any _ l W (hv.later hW) (by omega)
    unfold OfR at h9
    rw [← hF0, ← hB0, hok, ← hpn] at h9; exact h9
  have HBV : Hid (∀ W, Below w.heap.size w W → Bytes W (.slice pa pn pc) l) := fun W hW => by rw [hpn]; exact hv.later hW
  have HBL : Hid (B0.length ≤ 5000) := hbl
  clear ho hm hpn hB hl hv hl2 hmay hok hoe hF0 hB0 hbl
  go_enter Try.func3, Try.ntmps3
  go_wp2_with fail
  rw [← hwz]
  clear hwz
  have c0 := BlkAt.cell HF.out (j := 0) rfl
  have c1 := BlkAt.cell HF.out (j := 1) rfl
  have c2 := BlkAt.cell HF.out (j := 2) rfl
  have c3 := BlkAt.cell HF.out (j := 3) rfl
  have c4 := BlkAt.cell HF.out (j := 4) rfl
  have c5 := BlkAt.cell HF.out (j := 5) rfl
  have c6 := BlkAt.cell HF.out (j := 6) rfl
  have c7 := BlkAt.cell HF.out (j := 7) rfl
  have c8 := BlkAt.cell HF.out (j := 8) rfl
  go_wp2_with fail
  refine (HBW.out _ HB.out).mono ?_
  rintro e w1 ⟨rfl, hb⟩
  have HF := Lib.hid (HF.out.later hb)
  have HB := Lib.hid (below_of HB.out hb)
  clear hb
  clear c0 c1 c2 c3 c4 c5 c6 c7 c8
  go_wp2_with fail
  (refine wp_region_held_drew (S := (fun w' => Below w1.heap.size w1 w')) (by kernel_rfl) ?_ (fun hHeld => ?_); (focus ((try dsimp only); (exact (Below.refl _ _).drew))))
  (try dsimp only at hHeld)
  obtain ⟨w0, hw0⟩ : ∃ W0, W0 = World.drew w1 := ⟨_, rfl⟩
  rw [← hw0]
  rw [← hw0] at hHeld
  clear hw0
  (refine wpAnyH_take (i := 0) (v := ?_) rfl (by kernel_rfl) (by kernel_rfl) (by kernel_rfl) (fun _ _ _ h => h) (Or.inl ⟨by rfl, ?_⟩) hHeld ?_; rotate_left; (focus (intro w hSw; (try dsimp only at hSw); go_simp; (have hq := BlkAt.later HF.out hSw; have c0 := BlkAt.cell hq (j := 0) rfl; have c1 := BlkAt.cell hq (j := 1) rfl; have c2 := BlkAt.cell hq (j := 2) rfl; have c3 := BlkAt.cell hq (j := 3) rfl; have c4 := BlkAt.cell hq (j := 4) rfl; have c5 := BlkAt.cell hq (j := 5) rfl; have c6 := BlkAt.cell hq (j := 6) rfl; have c7 := BlkAt.cell hq (j := 7) rfl; have c8 := BlkAt.cell hq (j := 8) rfl; go_simp; try with_reducible rfl))); (try simp only [Act.put, List.setIfInBounds_toArray, List.set_cons_zero, List.set_cons_succ, List.getElem_toArray, List.getElem_cons_zero]))
  (refine wpAnyH_take (i := 2) (v := ?_) rfl (by kernel_rfl) (by kernel_rfl) (by kernel_rfl) (fun _ _ _ h => h) (Or.inl ⟨by rfl, ?_⟩) hHeld ?_; rotate_left; (focus (intro w hSw; (try dsimp only at hSw); go_simp; (have hq := BlkAt.later HF.out hSw; have c0 := BlkAt.cell hq (j := 0) rfl; have c1 := BlkAt.cell hq (j := 1) rfl; have c2 := BlkAt.cell hq (j := 2) rfl; have c3 := BlkAt.cell hq (j := 3) rfl; have c4 := BlkAt.cell hq (j := 4) rfl; have c5 := BlkAt.cell hq (j := 5) rfl; have c6 := BlkAt.cell hq (j := 6) rfl; have c7 := BlkAt.cell hq (j := 7) rfl; have c8 := BlkAt.cell hq (j := 8) rfl; go_simp; try with_reducible rfl))); (try simp only [Act.put, List.setIfInBounds_toArray, List.set_cons_zero, List.set_cons_succ, List.getElem_toArray, List.getElem_cons_zero, List.getElem_cons_succ]))
  refine wpAnyH_at (m := #[true, false, true, false, false]) (by kernel_rfl) ?_
  (refine wpAnyH_ready (rs := [1]) (by kernel_rfl) (by simp) ?_; refine AllReadyH.cons rfl (fun K hK => ?_) AllReadyH.nil; go_simp; refine (HMW.out _ (below_of HB.out hHeld)).mono ?_; rintro e y1 ⟨rfl, hs⟩; refine hK.out _ _ ?_ (fun hHeldN => ?_); (focus ((try dsimp only); (exact hHeld.trans (hs.mono hHeld.size)))); clear hK K hHeld; have hHeld := hHeldN; clear hHeldN; (try simp only [Act.put, List.setIfInBounds_toArray, List.set_cons_zero, List.set_cons_succ, List.getElem_toArray, List.getElem_cons_zero, List.getElem_cons_succ]))
  clear hs
  refine wpAnyH_at (m := #[true, true, true, false, false]) (by kernel_rfl) ?_
  (refine wpAnyH_ready (rs := [3]) (by kernel_rfl) (by simp) ?_; refine AllReadyH.cons rfl (fun K hK => ?_) AllReadyH.nil; go_simp; refine (HMR.out _ (below_of HB.out hHeld)).mono ?_; rintro e y3 ⟨rfl, hs⟩; refine hK.out _ _ ?_ (fun hHeldN => ?_); (focus ((try dsimp only); (exact hHeld.trans (hs.mono hHeld.size)))); clear hK K hHeld; have hHeld := hHeldN; clear hHeldN; (try simp only [Act.put, List.setIfInBounds_toArray, List.set_cons_zero, List.set_cons_succ, List.getElem_toArray, List.getElem_cons_zero, List.getElem_cons_succ]))
  clear hs
  (refine wpAnyH_take (i := 4) (v := ?_) rfl (by kernel_rfl) (by kernel_rfl) (by kernel_rfl) (fun _ _ _ h => h) (Or.inl ⟨by rfl, ?_⟩) hHeld ?_; rotate_left; (focus (intro w hSw; (try dsimp only at hSw); go_simp; try with_reducible rfl)); (try simp only [Act.put, List.setIfInBounds_toArray, List.set_cons_zero, List.set_cons_succ, List.getElem_toArray, List.getElem_cons_zero, List.getElem_cons_succ]))
  refine wpAnyH_done (by kernel_rfl) ?_ _
  have hb := hHeld
  have HF := Lib.hid (HF.out.later hb)
  have HB := Lib.hid (below_of HB.out hb)
  clear hb hHeld
  have c0 := BlkAt.cell HF.out (j := 0) rfl
  have c1 := BlkAt.cell HF.out (j := 1) rfl
  have c2 := BlkAt.cell HF.out (j := 2) rfl
  have c3 := BlkAt.cell HF.out (j := 3) rfl
  have c4 := BlkAt.cell HF.out (j := 4) rfl
  have c5 := BlkAt.cell HF.out (j := 5) rfl
  have c6 := BlkAt.cell HF.out (j := 6) rfl
  have c7 := BlkAt.cell HF.out (j := 7) rfl
  have c8 := BlkAt.cell HF.out (j := 8) rfl
  go_wp2_with fail
  refine (HMR.out _ HB.out).mono ?_
  rintro e w2 ⟨rfl, hb⟩
  have HF := Lib.hid (HF.out.later hb)
  have HB := Lib.hid (below_of HB.out hb)
  clear hb
  clear c0 c1 c2 c3 c4 c5 c6 c7 c8
  go_wp2_with fail
  refine (num6_any 2 _).mono ?_
  rintro e wn ⟨rfl, rfl⟩
  have hst := (HBV.out _ HB.out).str (P := Try.prog) (src := 26) (dst := 9) Try.underlying26 Try.underlying5 Try.underlying9
  go_wp2_with fail
  refine (HOW.out _ HB.out).mono ?_
  rintro e w3 ⟨u, rfl, hu, hb⟩
  obtain ⟨ua, uc, rfl⟩ := hu.form
  obtain ⟨un, hun⟩ : ∃ n, n = B0.length := ⟨_, rfl⟩
  rw [← hun] at hu ⊢
  have q := hb.alloc hb.size (.cells #[.int .i64 F0.k, .int .i64 F0.n, .int .u64 (F0.mb : Nat), .int .u64 (F0.mt : Nat), .int .u64 (F0.tb : Nat), .int .u64 (F0.tt : Nat), .int .u64 (F0.s : Nat), .int .u64 (F0.a : Nat), .slice ua un uc] 28)
  have hu1 := OwnB.weak hu HB.out.size
  have HUO := Lib.hid (OwnB.later hu1 (ba1 _ (.cells #[.int .i64 F0.k, .int .i64 F0.n, .int .u64 (F0.mb : Nat), .int .u64 (F0.mt : Nat), .int .u64 (F0.tb : Nat), .int .u64 (F0.tt : Nat), .int .u64 (F0.s : Nat), .int .u64 (F0.a : Nat), .slice ua un uc] 28)))
  have HY := Lib.hid (show BlkAt 28 w3.heap.size [.int .i64 F0.k, .int .i64 F0.n, .int .u64 (F0.mb : Nat), .int .u64 (F0.mt : Nat), .int .u64 (F0.tb : Nat), .int .u64 (F0.tt : Nat), .int .u64 (F0.s : Nat), .int .u64 (F0.a : Nat), .slice ua un uc] (w3.alloc (.cells #[.int .i64 F0.k, .int .i64 F0.n, .int .u64 (F0.mb : Nat), .int .u64 (F0.mt : Nat), .int .u64 (F0.tb : Nat), .int .u64 (F0.tt : Nat), .int .u64 (F0.s : Nat), .int .u64 (F0.a : Nat), .slice ua un uc] 28)) from BlkAt.new w3 _)
  have HYL : Hid (w.heap.size ≤ w3.heap.size ∧ un = B0.length) := ⟨(below_of HB.out hb).size, hun⟩
  have HB := Lib.hid (below_of HB.out q)
  clear hb q hu hu1 hst hun
  go_wp2_with fail
  refine (HOR.out _ HB.out).mono ?_
  rintro e w4 ⟨z, rfl, hz, hb⟩
  obtain ⟨za, zc, rfl⟩ := hz.form
  rw [← HYL.out.2] at hz ⊢
  have q := hb.alloc hb.size (.cells #[.int .i64 F0.k, .int .i64 F0.n, .int .u64 (F0.mb : Nat), .int .u64 (F0.mt : Nat), .int .u64 (F0.tb : Nat), .int .u64 (F0.tt : Nat), .int .u64 (F0.s : Nat), .int .u64 (F0.a : Nat), .slice za un zc] 28)
  have HZ := Lib.hid (show BlkAt 28 w4.heap.size [.int .i64 F0.k, .int .i64 F0.n, .int .u64 (F0.mb : Nat), .int .u64 (F0.mt : Nat), .int .u64 (F0.tb : Nat), .int .u64 (F0.tt : Nat), .int .u64 (F0.s : Nat), .int .u64 (F0.a : Nat), .slice za un zc] (w4.alloc (.cells #[.int .i64 F0.k, .int .i64 F0.n, .int .u64 (F0.mb : Nat), .int .u64 (F0.mt : Nat), .int .u64 (F0.tb : Nat), .int .u64 (F0.tt : Nat), .int .u64 (F0.s : Nat), .int .u64 (F0.a : Nat), .slice za un zc] 28)) from BlkAt.new w4 _)
  have HZB := Lib.hid (hz.later (ba1 _ (.cells #[.int .i64 F0.k, .int .i64 F0.n, .int .u64 (F0.mb : Nat), .int .u64 (F0.mt : Nat), .int .u64 (F0.tb : Nat), .int .u64 (F0.tt : Nat), .int .u64 (F0.s : Nat), .int .u64 (F0.a : Nat), .slice za un zc] 28)))
  have HUO := Lib.hid (OwnB.later HUO.out q)
  have HY := Lib.hid (HY.out.later q)
  have HB := Lib.hid (below_of HB.out q)
  clear hb q hz
  have c0 := BlkAt.cell HY.out (j := 0) rfl
  have c1 := BlkAt.cell HY.out (j := 1) rfl
  have c2 := BlkAt.cell HY.out (j := 2) rfl
  have c3 := BlkAt.cell HY.out (j := 3) rfl
  have c4 := BlkAt.cell HY.out (j := 4) rfl
  have c5 := BlkAt.cell HY.out (j := 5) rfl
  have c6 := BlkAt.cell HY.out (j := 6) rfl
  have c7 := BlkAt.cell HY.out (j := 7) rfl
  have c8 := BlkAt.cell HY.out (j := 8) rfl
  have d0 := BlkAt.cell HZ.out (j := 0) rfl
  have d1 := BlkAt.cell HZ.out (j := 1) rfl
  have d2 := BlkAt.cell HZ.out (j := 2) rfl
  have d3 := BlkAt.cell HZ.out (j := 3) rfl
  have d4 := BlkAt.cell HZ.out (j := 4) rfl
  have d5 := BlkAt.cell HZ.out (j := 5) rfl
  have d6 := BlkAt.cell HZ.out (j := 6) rfl
  have d7 := BlkAt.cell HZ.out (j := 7) rfl
  have d8 := BlkAt.cell HZ.out (j := 8) rfl
  go_wp2_with fail
  obtain ⟨wy, hwy⟩ : ∃ W, W = w4.alloc (.cells #[.int .i64 F0.k, .int .i64 F0.n, .int .u64 (F0.mb : Nat), .int .u64 (F0.mt : Nat), .int .u64 (F0.tb : Nat), .int .u64 (F0.tt : Nat), .int .u64 (F0.s : Nat), .int .u64 (F0.a : Nat), .slice za un zc] 28) := ⟨_, rfl⟩
  rw [← hwy] at HB HZ HZB HUO HY ⊢
  clear hwy
  have hsm := sameFR_any F0 F0 (.slice ua un uc) (.slice za un zc) B0 B0 wy HUO.out.bytes HZB.out
  rw [sameF_refl] at hsm
  refine hsm.mono ?_
  rintro e w5 ⟨rfl, hb⟩
  have HUO := Lib.hid (OwnB.later HUO.out hb)
  have HY := Lib.hid (HY.out.later hb)
  have HB := Lib.hid (below_of HB.out hb)
  clear hb hsm c0 c1 c2 c3 c4 c5 c6 c7 c8 d0 d1 d2 d3 d4 d5 d6 d7 d8
  go_wp2_with (go_at_call 13; refine (num6_any _ _).mono ?_; rintro e wn ⟨rfl, rfl⟩)
  have kun : (un : Int) ≤ 5000 := by have := HBL.out; have := HYL.out; omega
  go_loopw [12] (fun i wr => ∃ k : Nat, k ≤ un ∧ i = .int .i64 k ∧ Hid (∃ l' : List UInt8, l'.length = un ∧ OwnB wr w.heap.size (.slice ua un uc) l') ∧ Hid (BlkAt 28 w3.heap.size [.int .i64 F0.k, .int .i64 F0.n, .int .u64 (F0.mb : Nat), .int .u64 (F0.mt : Nat), .int .u64 (F0.tb : Nat), .int .u64 (F0.tt : Nat), .int .u64 (F0.s : Nat), .int .u64 (F0.a : Nat), .slice ua un uc] wr) ∧ Hid (Below w.heap.size w wr)) (fun i _ => un - (intOf i).toNat)
  case atStart => exact ⟨0, Nat.zero_le _, rfl, ⟨B0, HYL.out.2.symm, HUO.out⟩, HY.out, HB.out⟩
  case round =>
    obtain ⟨k, hk, rfl, HLr, HYr, HBr⟩ := hrel
    obtain ⟨l', hl1, hl2⟩ := HLr.out
    have q8 := BlkAt.cell HYr.out (j := 8) rfl
    rcases Nat.lt_or_ge k un with hlt | hge
    · have g1 : (k : Int) < un := by omega
      obtain ⟨g, cap, cur, e1, _⟩ := hl2.row (by omega)
      simp only [Value.slice.injEq] at e1
      obtain ⟨rfl, e2, rfl⟩ := e1
      obtain ⟨p1, p2, p3⟩ := own_block0 hl2 (by omega)
      obtain ⟨bx, ox, e3, _, hcx⟩ := hl2.bytes.at (i := k) (by omega)
      simp only [Option.some.injEq, Addr.mk.injEq] at e3
      obtain ⟨rfl, rfl, _⟩ := e3
      rw [Nat.zero_add] at hcx
      obtain ⟨cv, hcv⟩ : ∃ v, wr.cell? ⟨g, k, none⟩ = some v := ⟨_, hcx⟩
      clear hcx
      have hne : g ≠ w3.heap.size := BlkAt.ne_own HYr.out (by decide) hl2 rfl
      have hset := OwnB.set hl2 hl1.symm k 9
      have HL2 : Hid (∃ l'' : List UInt8, l''.length = un ∧ OwnB (wr.setCell ⟨g, k, none⟩ (.int .u8 9)) w.heap.size (.slice (some ⟨g, 0, none⟩) un uc) l'') := ⟨l'.set k 9, by rw [List.length_set]; exact hl1, hset⟩
      have HY2 := Lib.hid (BlkAt.other HYr.out (Ne.symm hne) k (.int .u8 9))
      have HB2 := Lib.hid (HBr.out.setCell (p := ⟨g, k, none⟩) p1 (.int .u8 9))
      have hfz : wr.frozen? ⟨g, k, none⟩ = false := p3 k
      have kk : k < un := hlt
      clear hset hl1 hl2 p1 p2 p3 hne e2 HLr
      go_wp2_with fail
      go_roundw
      case rel => exact ⟨k + 1, by omega, by go_num, HL2, HY2, HB2⟩
      case measure => simp [intOf]; omega
    · have e : k = un := by omega
      subst e
      have hst := (HBV.out _ HBr.out).str (P := Try.prog) (src := 26) (dst := 9) Try.underlying26 Try.underlying5 Try.underlying9
      clear hl1 hl2
      go_wp2_with fail
      refine (known6_any _).mono ?_
      rintro e w9 ⟨rfl, hb⟩
      have HBr := Lib.hid (below_of HBr.out hb)
      clear hb
      go_wp2_with fail
      go_ret
      exact ⟨rfl, HBr.out⟩
set_option maxHeartbeats 16000000 in
set_option maxRecDepth 100000 in
theorem hv_nn (f : Fr) (a pa : Option Addr) (c m pc pn : Nat) (ho : f.Ok) (B l : List UInt8) (w : World) (hm : m = B.length) (hpn : pn = l.length) (hB : Bytes w (.slice a B.length c) B) (hl : B.length ≤ 5000) (hv : Bytes w (.slice pa l.length pc) l) (hl2 : l.length ≤ 5000) (hmay : mayF f B = false) (hok : okF l = false) :
    Calls Try.prog 3 #[.agg #[.int .i64 f.k, .int .i64 f.n, .int .u64 (f.mb : Nat), .int .u64 (f.mt : Nat), .int .u64 (f.tb : Nat), .int .u64 (f.tt : Nat), .int .u64 (f.s : Nat), .int .u64 (f.a : Nat), .slice a m c], .slice pa pn pc] w fun e w' => e = .returned (.bool true) ∧ Below w.heap.size w w' := by
  obtain ⟨wz, hwz⟩ : ∃ wz, wz = (w.alloc (.cells #[.int .i64 f.k, .int .i64 f.n, .int .u64 (f.mb : Nat), .int .u64 (f.mt : Nat), .int .u64 (f.tb : Nat), .int .u64 (f.tt : Nat), .int .u64 (f.s : Nat), .int .u64 (f.a : Nat), .slice a m c] 28)) := ⟨_, rfl⟩
  have HB := Lib.hid (show Below w.heap.size w wz by rw [hwz]; go_grown)
  have HF := Lib.hid (show BlkAt 28 (w.heap.size) [.int .i64 f.k, .int .i64 f.n, .int .u64 (f.mb : Nat), .int .u64 (f.mt : Nat), .int .u64 (f.tb : Nat), .int .u64 (f.tt : Nat), .int .u64 (f.s : Nat), .int .u64 (f.a : Nat), .slice a m c] wz by
    have h9 := BlkAt.new (t := 28) w [.int .i64 f.k, .int .i64 f.n, .int .u64 (f.mb : Nat), .int .u64 (f.mt : Nat), .int .u64 (f.tb : Nat), .int .u64 (f.tt : Nat), .int .u64 (f.s : Nat), .int .u64 (f.a : Nat), .slice a m c]
    rw [hwz]; simpa using h9)
  have k1 : (m : Int) ≤ 5000 := by omega
  have k2 : (pn : Int) ≤ 5000 := by omega
  have HMW : Hid (∀ W, Below w.heap.size w W → Calls Try.prog 10 #[.agg #[.int .i64 f.k, .int .i64 f.n, .int .u64 (f.mb : Nat), .int .u64 (f.mt : Nat), .int .u64 (f.tb : Nat), .int .u64 (f.tt : Nat), .int .u64 (f.s : Nat), .int .u64 (f.a : Nat), .slice a m c]] W fun e w' => e = .returned (.bool false) ∧ Below W.heap.size W w') := fun W hW => by
    have h9 := mayW6_any f _ B W (hB.later hW) (by omega)
    rw [hmay, ← hm] at h9; exact h9
  have HMR : Hid (∀ W, Below w.heap.size w W → Calls Try.prog 11 #[.agg #[.int .i64 f.k, .int .i64 f.n, .int .u64 (f.mb : Nat), .int .u64 (f.mt : Nat), .int .u64 (f.tb : Nat), .int .u64 (f.tt : Nat), .int .u64 (f.s : Nat), .int .u64 (f.a : Nat), .slice a m c]] W fun e w' => e = .returned (.bool false) ∧ Below W.heap.size W w') := fun W hW => by
    have h9 := mayR6_any f _ B W (hB.later hW) (by omega)
    rw [hmay, ← hm] at h9; exact h9
  have HBW : Hid (∀ W, Below w.heap.size w W → Calls Try.prog 9 #[.agg #[.int .i64 f.k, .int .i64 f.n, .int .u64 (f.mb : Nat), .int .u64 (f.mt : Nat), .int .u64 (f.tb : Nat), .int .u64 (f.tt : Nat), .int .u64 (f.s : Nat), .int .u64 (f.a : Nat), .slice a m c]] W fun e w' => e = .returned (.tuple #[.slice none 0 0, .int .i64 2]) ∧ Below W.heap.size W w') := fun W hW => by
    have h9 := bytesF_no f _ B W (hB.later hW) (by omega) hmay
    rw [← hm] at h9; exact h9
  have hoe : oE l = 4 := by unfold oE; rw [hok]; rfl
  obtain ⟨F0, hF0⟩ : ∃ F0, F0 = oF l := ⟨_, rfl⟩
  obtain ⟨B0, hB0⟩ : ∃ x, x = oB l := ⟨_, rfl⟩
  have hbl : B0.length ≤ 5000 := by rw [hB0]; unfold oB; split <;> simp <;> omega
  have HOW : Hid (∀ W, Below w.heap.size w W → Calls Try.prog 14 #[.slice pa pn pc] W fun e w' => ∃ u, e = .returned (.tuple #[.agg #[.int .i64 F0.k, .int .i64 F0.n, .int .u64 (F0.mb : Nat), .int .u64 (F0.mt : Nat), .int .u64 (F0.tb : Nat), .int .u64 (F0.tt : Nat), .int .u64 (F0.s : Nat), .int .u64 (F0.a : Nat), u], .int .i64 4]) ∧ OwnB w' W.heap.size u B0 ∧ Below W.heap.size W w') := fun W hW => by
    have h9 := of6W_any _ l W (hv.later hW) (by omega)
    unfold OfA at h9
    rw [← hF0, ← hB0, hoe, ← hpn] at h9; exact h9
  have HOR : Hid (∀ W, Below w.heap.size w W → Calls Try.prog 15 #[.slice pa pn pc] W fun e w' => ∃ u, e = .returned (.tuple #[.agg #[.int .i64 F0.k, .int .i64 F0.n, .int .u64 (F0.mb : Nat), .int .u64 (F0.mt : Nat), .int .u64 (F0.tb : Nat), .int .u64 (F0.tt : Nat), .int .u64 (F0.s : Nat), .int .u64 (F0.a : Nat), u], .bool false]) ∧ Bytes w' u B0 ∧ Below W.heap.size W w') := fun W hW => by
    have h9 := of6R_any _ l W (hv.later hW) (by omega)
    unfold OfR at h9
    rw [← hF0, ← hB0, hok, ← hpn] at h9; exact h9
  have HBV : Hid (∀ W, Below w.heap.size w W → Bytes W (.slice pa pn pc) l) := fun W hW => by rw [hpn]; exact hv.later hW
  have HBL : Hid (B0.length ≤ 5000) := hbl
  clear ho hm hpn hB hl hv hl2 hmay hok hoe hF0 hB0 hbl
  go_enter Try.func3, Try.ntmps3
  go_wp2_with fail
  rw [← hwz]
  clear hwz
  have c0 := BlkAt.cell HF.out (j := 0) rfl
  have c1 := BlkAt.cell HF.out (j := 1) rfl
  have c2 := BlkAt.cell HF.out (j := 2) rfl
  have c3 := BlkAt.cell HF.out (j := 3) rfl
  have c4 := BlkAt.cell HF.out (j := 4) rfl
  have c5 := BlkAt.cell HF.out (j := 5) rfl
  have c6 := BlkAt.cell HF.out (j := 6) rfl
  have c7 := BlkAt.cell HF.out (j := 7) rfl
  have c8 := BlkAt.cell HF.out (j := 8) rfl
  go_wp2_with fail
  refine (HBW.out _ HB.out).mono ?_
  rintro e w1 ⟨rfl, hb⟩
  have HF := Lib.hid (HF.out.later hb)
  have HB := Lib.hid (below_of HB.out hb)
  clear hb
  clear c0 c1 c2 c3 c4 c5 c6 c7 c8
  go_wp2_with fail
  (refine wp_region_held_drew (S := (fun w' => Below w1.heap.size w1 w')) (by kernel_rfl) ?_ (fun hHeld => ?_); (focus ((try dsimp only); (exact (Below.refl _ _).drew))))
  (try dsimp only at hHeld)
  obtain ⟨w0, hw0⟩ : ∃ W0, W0 = World.drew w1 := ⟨_, rfl⟩
  rw [← hw0]
  rw [← hw0] at hHeld
  clear hw0
  (refine wpAnyH_take (i := 0) (v := ?_) rfl (by kernel_rfl) (by kernel_rfl) (by kernel_rfl) (fun _ _ _ h => h) (Or.inl ⟨by rfl, ?_⟩) hHeld ?_; rotate_left; (focus (intro w hSw; (try dsimp only at hSw); go_simp; (have hq := BlkAt.later HF.out hSw; have c0 := BlkAt.cell hq (j := 0) rfl; have c1 := BlkAt.cell hq (j := 1) rfl; have c2 := BlkAt.cell hq (j := 2) rfl; have c3 := BlkAt.cell hq (j := 3) rfl; have c4 := BlkAt.cell hq (j := 4) rfl; have c5 := BlkAt.cell hq (j := 5) rfl; have c6 := BlkAt.cell hq (j := 6) rfl; have c7 := BlkAt.cell hq (j := 7) rfl; have c8 := BlkAt.cell hq (j := 8) rfl; go_simp; try with_reducible rfl))); (try simp only [Act.put, List.setIfInBounds_toArray, List.set_cons_zero, List.set_cons_succ, List.getElem_toArray, List.getElem_cons_zero]))
  (refine wpAnyH_take (i := 2) (v := ?_) rfl (by kernel_rfl) (by kernel_rfl) (by kernel_rfl) (fun _ _ _ h => h) (Or.inl ⟨by rfl, ?_⟩) hHeld ?_; rotate_left; (focus (intro w hSw; (try dsimp only at hSw); go_simp; (have hq := BlkAt.later HF.out hSw; have c0 := BlkAt.cell hq (j := 0) rfl; have c1 := BlkAt.cell hq (j := 1) rfl; have c2 := BlkAt.cell hq (j := 2) rfl; have c3 := BlkAt.cell hq (j := 3) rfl; have c4 := BlkAt.cell hq (j := 4) rfl; have c5 := BlkAt.cell hq (j := 5) rfl; have c6 := BlkAt.cell hq (j := 6) rfl; have c7 := BlkAt.cell hq (j := 7) rfl; have c8 := BlkAt.cell hq (j := 8) rfl; go_simp; try with_reducible rfl))); (try simp only [Act.put, List.setIfInBounds_toArray, List.set_cons_zero, List.set_cons_succ, List.getElem_toArray, List.getElem_cons_zero, List.getElem_cons_succ]))
  refine wpAnyH_at (m := #[true, false, true, false, false]) (by kernel_rfl) ?_
  (refine wpAnyH_ready (rs := [1]) (by kernel_rfl) (by simp) ?_; refine AllReadyH.cons rfl (fun K hK => ?_) AllReadyH.nil; go_simp; refine (HMW.out _ (below_of HB.out hHeld)).mono ?_; rintro e y1 ⟨rfl, hs⟩; refine hK.out _ _ ?_ (fun hHeldN => ?_); (focus ((try dsimp only); (exact hHeld.trans (hs.mono hHeld.size)))); clear hK K hHeld; have hHeld := hHeldN; clear hHeldN; (try simp only [Act.put, List.setIfInBounds_toArray, List.set_cons_zero, List.set_cons_succ, List.getElem_toArray, List.getElem_cons_zero, List.getElem_cons_succ]))
  clear hs
  refine wpAnyH_at (m := #[true, true, true, false, false]) (by kernel_rfl) ?_
  (refine wpAnyH_ready (rs := [3]) (by kernel_rfl) (by simp) ?_; refine AllReadyH.cons rfl (fun K hK => ?_) AllReadyH.nil; go_simp; refine (HMR.out _ (below_of HB.out hHeld)).mono ?_; rintro e y3 ⟨rfl, hs⟩; refine hK.out _ _ ?_ (fun hHeldN => ?_); (focus ((try dsimp only); (exact hHeld.trans (hs.mono hHeld.size)))); clear hK K hHeld; have hHeld := hHeldN; clear hHeldN; (try simp only [Act.put, List.setIfInBounds_toArray, List.set_cons_zero, List.set_cons_succ, List.getElem_toArray, List.getElem_cons_zero, List.getElem_cons_succ]))
  clear hs
  (refine wpAnyH_take (i := 4) (v := ?_) rfl (by kernel_rfl) (by kernel_rfl) (by kernel_rfl) (fun _ _ _ h => h) (Or.inl ⟨by rfl, ?_⟩) hHeld ?_; rotate_left; (focus (intro w hSw; (try dsimp only at hSw); go_simp; try with_reducible rfl)); (try simp only [Act.put, List.setIfInBounds_toArray, List.set_cons_zero, List.set_cons_succ, List.getElem_toArray, List.getElem_cons_zero, List.getElem_cons_succ]))
  refine wpAnyH_done (by kernel_rfl) ?_ _
  have hb := hHeld
  have HF := Lib.hid (HF.out.later hb)
  have HB := Lib.hid (below_of HB.out hb)
  clear hb hHeld
  have c0 := BlkAt.cell HF.out (j := 0) rfl
  have c1 := BlkAt.cell HF.out (j := 1) rfl
  have c2 := BlkAt.cell HF.out (j := 2) rfl
  have c3 := BlkAt.cell HF.out (j := 3) rfl
  have c4 := BlkAt.cell HF.out (j := 4) rfl
  have c5 := BlkAt.cell HF.out (j := 5) rfl
  have c6 := BlkAt.cell HF.out (j := 6) rfl
  have c7 := BlkAt.cell HF.out (j := 7) rfl
  have c8 := BlkAt.cell HF.out (j := 8) rfl
  go_wp2_with fail
  refine (HMR.out _ HB.out).mono ?_
  rintro e w2 ⟨rfl, hb⟩
  have HF := Lib.hid (HF.out.later hb)
  have HB := Lib.hid (below_of HB.out hb)
  clear hb
  clear c0 c1 c2 c3 c4 c5 c6 c7 c8
  go_wp2_with fail
  refine (num6_any 2 _).mono ?_
  rintro e wn ⟨rfl, rfl⟩
  have hst := (HBV.out _ HB.out).str (P := Try.prog) (src := 26) (dst := 9) Try.underlying26 Try.underlying5 Try.underlying9
  go_wp2_with fail
  refine (HOW.out _ HB.out).mono ?_
  rintro e w3 ⟨u, rfl, hu, hb⟩
  obtain ⟨ua, uc, rfl⟩ := hu.form
  obtain ⟨un, hun⟩ : ∃ n, n = B0.length := ⟨_, rfl⟩
  rw [← hun] at hu ⊢
  have q := hb.alloc hb.size (.cells #[.int .i64 F0.k, .int .i64 F0.n, .int .u64 (F0.mb : Nat), .int .u64 (F0.mt : Nat), .int .u64 (F0.tb : Nat), .int .u64 (F0.tt : Nat), .int .u64 (F0.s : Nat), .int .u64 (F0.a : Nat), .slice ua un uc] 28)
  have hu1 := OwnB.weak hu HB.out.size
  have HUO := Lib.hid (OwnB.later hu1 (ba1 _ (.cells #[.int .i64 F0.k, .int .i64 F0.n, .int .u64 (F0.mb : Nat), .int .u64 (F0.mt : Nat), .int .u64 (F0.tb : Nat), .int .u64 (F0.tt : Nat), .int .u64 (F0.s : Nat), .int .u64 (F0.a : Nat), .slice ua un uc] 28)))
  have HY := Lib.hid (show BlkAt 28 w3.heap.size [.int .i64 F0.k, .int .i64 F0.n, .int .u64 (F0.mb : Nat), .int .u64 (F0.mt : Nat), .int .u64 (F0.tb : Nat), .int .u64 (F0.tt : Nat), .int .u64 (F0.s : Nat), .int .u64 (F0.a : Nat), .slice ua un uc] (w3.alloc (.cells #[.int .i64 F0.k, .int .i64 F0.n, .int .u64 (F0.mb : Nat), .int .u64 (F0.mt : Nat), .int .u64 (F0.tb : Nat), .int .u64 (F0.tt : Nat), .int .u64 (F0.s : Nat), .int .u64 (F0.a : Nat), .slice ua un uc] 28)) from BlkAt.new w3 _)
  have HYL : Hid (w.heap.size ≤ w3.heap.size ∧ un = B0.length) := ⟨(below_of HB.out hb).size, hun⟩
  have HB := Lib.hid (below_of HB.out q)
  clear hb q hu hu1 hst hun
  go_wp2_with fail
  refine (HOR.out _ HB.out).mono ?_
  rintro e w4 ⟨z, rfl, hz, hb⟩
  obtain ⟨za, zc, rfl⟩ := hz.form
  rw [← HYL.out.2] at hz ⊢
  have q := hb.alloc hb.size (.cells #[.int .i64 F0.k, .int .i64 F0.n, .int .u64 (F0.mb : Nat), .int .u64 (F0.mt : Nat), .int .u64 (F0.tb : Nat), .int .u64 (F0.tt : Nat), .int .u64 (F0.s : Nat), .int .u64 (F0.a : Nat), .slice za un zc] 28)
  have HZ := Lib.hid (show BlkAt 28 w4.heap.size [.int .i64 F0.k, .int .i64 F0.n, .int .u64 (F0.mb : Nat), .int .u64 (F0.mt : Nat), .int .u64 (F0.tb : Nat), .int .u64 (F0.tt : Nat), .int .u64 (F0.s : Nat), .int .u64 (F0.a : Nat), .slice za un zc] (w4.alloc (.cells #[.int .i64 F0.k, .int .i64 F0.n, .int .u64 (F0.mb : Nat), .int .u64 (F0.mt : Nat), .int .u64 (F0.tb : Nat), .int .u64 (F0.tt : Nat), .int .u64 (F0.s : Nat), .int .u64 (F0.a : Nat), .slice za un zc] 28)) from BlkAt.new w4 _)
  have HZB := Lib.hid (hz.later (ba1 _ (.cells #[.int .i64 F0.k, .int .i64 F0.n, .int .u64 (F0.mb : Nat), .int .u64 (F0.mt : Nat), .int .u64 (F0.tb : Nat), .int .u64 (F0.tt : Nat), .int .u64 (F0.s : Nat), .int .u64 (F0.a : Nat), .slice za un zc] 28)))
  have HUO := Lib.hid (OwnB.later HUO.out q)
  have HY := Lib.hid (HY.out.later q)
  have HB := Lib.hid (below_of HB.out q)
  clear hb q hz
  have c0 := BlkAt.cell HY.out (j := 0) rfl
  have c1 := BlkAt.cell HY.out (j := 1) rfl
  have c2 := BlkAt.cell HY.out (j := 2) rfl
  have c3 := BlkAt.cell HY.out (j := 3) rfl
  have c4 := BlkAt.cell HY.out (j := 4) rfl
  have c5 := BlkAt.cell HY.out (j := 5) rfl
  have c6 := BlkAt.cell HY.out (j := 6) rfl
  have c7 := BlkAt.cell HY.out (j := 7) rfl
  have c8 := BlkAt.cell HY.out (j := 8) rfl
  have d0 := BlkAt.cell HZ.out (j := 0) rfl
  have d1 := BlkAt.cell HZ.out (j := 1) rfl
  have d2 := BlkAt.cell HZ.out (j := 2) rfl
  have d3 := BlkAt.cell HZ.out (j := 3) rfl
  have d4 := BlkAt.cell HZ.out (j := 4) rfl
  have d5 := BlkAt.cell HZ.out (j := 5) rfl
  have d6 := BlkAt.cell HZ.out (j := 6) rfl
  have d7 := BlkAt.cell HZ.out (j := 7) rfl
  have d8 := BlkAt.cell HZ.out (j := 8) rfl
  go_wp2_with fail
  obtain ⟨wy, hwy⟩ : ∃ W, W = w4.alloc (.cells #[.int .i64 F0.k, .int .i64 F0.n, .int .u64 (F0.mb : Nat), .int .u64 (F0.mt : Nat), .int .u64 (F0.tb : Nat), .int .u64 (F0.tt : Nat), .int .u64 (F0.s : Nat), .int .u64 (F0.a : Nat), .slice za un zc] 28) := ⟨_, rfl⟩
  rw [← hwy] at HB HZ HZB HUO HY ⊢
  clear hwy
  have hsm := sameFR_any F0 F0 (.slice ua un uc) (.slice za un zc) B0 B0 wy HUO.out.bytes HZB.out
  rw [sameF_refl] at hsm
  refine hsm.mono ?_
  rintro e w5 ⟨rfl, hb⟩
  have HUO := Lib.hid (OwnB.later HUO.out hb)
  have HY := Lib.hid (HY.out.later hb)
  have HB := Lib.hid (below_of HB.out hb)
  clear hb hsm c0 c1 c2 c3 c4 c5 c6 c7 c8 d0 d1 d2 d3 d4 d5 d6 d7 d8
  go_wp2_with (go_at_call 13; refine (num6_any _ _).mono ?_; rintro e wn ⟨rfl, rfl⟩)
  have kun : (un : Int) ≤ 5000 := by have := HBL.out; have := HYL.out; omega
  go_loopw [12] (fun i wr => ∃ k : Nat, k ≤ un ∧ i = .int .i64 k ∧ Hid (∃ l' : List UInt8, l'.length = un ∧ OwnB wr w.heap.size (.slice ua un uc) l') ∧ Hid (BlkAt 28 w3.heap.size [.int .i64 F0.k, .int .i64 F0.n, .int .u64 (F0.mb : Nat), .int .u64 (F0.mt : Nat), .int .u64 (F0.tb : Nat), .int .u64 (F0.tt : Nat), .int .u64 (F0.s : Nat), .int .u64 (F0.a : Nat), .slice ua un uc] wr) ∧ Hid (Below w.heap.size w wr)) (fun i _ => un - (intOf i).toNat)
  case atStart => exact ⟨0, Nat.zero_le _, rfl, ⟨B0, HYL.out.2.symm, HUO.out⟩, HY.out, HB.out⟩
  case round =>
    obtain ⟨k, hk, rfl, HLr, HYr, HBr⟩ := hrel
    obtain ⟨l', hl1, hl2⟩ := HLr.out
    have q8 := BlkAt.cell HYr.out (j := 8) rfl
    rcases Nat.lt_or_ge k un with hlt | hge
    · have g1 : (k : Int) < un := by omega
      obtain ⟨g, cap, cur, e1, _⟩ := hl2.row (by omega)
      simp only [Value.slice.injEq] at e1
      obtain ⟨rfl, e2, rfl⟩ := e1
      obtain ⟨p1, p2, p3⟩ := own_block0 hl2 (by omega)
      obtain ⟨bx, ox, e3, _, hcx⟩ := hl2.bytes.at (i := k) (by omega)
      simp only [Option.some.injEq, Addr.mk.injEq] at e3
      obtain ⟨rfl, rfl, _⟩ := e3
      rw [Nat.zero_add] at hcx
      obtain ⟨cv, hcv⟩ : ∃ v, wr.cell? ⟨g, k, none⟩ = some v := ⟨_, hcx⟩
      clear hcx
      have hne : g ≠ w3.heap.size := BlkAt.ne_own HYr.out (by decide) hl2 rfl
      have hset := OwnB.set hl2 hl1.symm k 9
      have HL2 : Hid (∃ l'' : List UInt8, l''.length = un ∧ OwnB (wr.setCell ⟨g, k, none⟩ (.int .u8 9)) w.heap.size (.slice (some ⟨g, 0, none⟩) un uc) l'') := ⟨l'.set k 9, by rw [List.length_set]; exact hl1, hset⟩
      have HY2 := Lib.hid (BlkAt.other HYr.out (Ne.symm hne) k (.int .u8 9))
      have HB2 := Lib.hid (HBr.out.setCell (p := ⟨g, k, none⟩) p1 (.int .u8 9))
      have hfz : wr.frozen? ⟨g, k, none⟩ = false := p3 k
      have kk : k < un := hlt
      clear hset hl1 hl2 p1 p2 p3 hne e2 HLr
      go_wp2_with fail
      go_roundw
      case rel => exact ⟨k + 1, by omega, by go_num, HL2, HY2, HB2⟩
      case measure => simp [intOf]; omega
    · have e : k = un := by omega
      subst e
      have hst := (HBV.out _ HBr.out).str (P := Try.prog) (src := 26) (dst := 9) Try.underlying26 Try.underlying5 Try.underlying9
      clear hl1 hl2
      go_wp2_with fail
      refine (known6_any _).mono ?_
      rintro e w9 ⟨rfl, hb⟩
      have HBr := Lib.hid (below_of HBr.out hb)
      clear hb
      go_wp2_with fail
      go_ret
      exact ⟨rfl, HBr.out⟩
theorem frameBytes_walk (f : Fr) (u : Value) (B : List UInt8) (v : Value) (l : List UInt8) (w : World) (hk : f.Ok) (hB : Bytes w u B) (_hl : B.length ≤ 9223372036854775807) (hv : Bytes w v l) (_hl2 : l.length ≤ 9223372036854775807) :
    Calls Try.prog 3 #[.agg #[.int .i64 f.k, .int .i64 f.n, .int .u64 (f.mb : Nat), .int .u64 (f.mt : Nat), .int .u64 (f.tb : Nat), .int .u64 (f.tt : Nat), .int .u64 (f.s : Nat), .int .u64 (f.a : Nat), u], v] w fun e w' => e = .returned (.bool true) ∧ Below w.heap.size w w' := by
  obtain ⟨a, c, rfl⟩ := hB.form
  obtain ⟨pa, pc, rfl⟩ := hv.form
  rcases Nat.lt_or_ge 5000 B.length with h | h
  · exact hv_long f a pa c _ pc _ w (by omega)
  · rcases Nat.lt_or_ge 5000 l.length with h' | h'
    · exact hv_long2 f a pa c _ pc _ w (by omega) (by omega)
    · cases e1 : mayF f B with
      | true =>
        cases e2 : okF l with
        | true => exact hv_yy f a pa c _ pc _ hk B l w rfl rfl hB h hv h' e1 e2
        | false => exact hv_yn f a pa c _ pc _ hk B l w rfl rfl hB h hv h' e1 e2
      | false =>
        cases e2 : okF l with
        | true => exact hv_ny f a pa c _ pc _ hk B l w rfl rfl hB h hv h' e1 e2
        | false => exact hv_nn f a pa c _ pc _ hk B l w rfl rfl hB h hv h' e1 e2
end Go.Proofs.Ytcahfapffhcceaa
