/- The walk of the law on numbers. -/
import Derived.Test.YtnihjchhbggkiaaDoorWk
namespace Go.Proofs.YtnihjchhbggkiaaDoor
open Go.RowKit
attribute [local go_sem ↓] Go.wp_at_zero Go.wp_at_succ


theorem getW_good (v : Value) (l : List UInt8) (w : World) (hv : Bytes w v l) (h1 : 1 ≤ l.length) (h2 : l.length ≤ 8) :
    Calls Tryd.prog 14 #[v] w fun e w' => e = .returned (.tuple #[.int .u64 ((getL l : Nat) : Int), .int .i64 0]) ∧ w = w' :=
  (getW_any v l w hv (by omega)).mono fun _ _ ⟨he, hw⟩ => ⟨he.trans (ret_ii (get_yes h1 h2).1 (get_yes h1 h2).2), hw⟩
theorem getW_bad (v : Value) (l : List UInt8) (w : World) (hv : Bytes w v l) (hl : l.length ≤ 9000) (h : ¬ (1 ≤ l.length ∧ l.length ≤ 8)) :
    Calls Tryd.prog 14 #[v] w fun e w' => e = .returned (.tuple #[.int .u64 0, .int .i64 2]) ∧ w = w' :=
  (getW_any v l w hv (by omega)).mono fun _ _ ⟨he, hw⟩ => ⟨he.trans (ret_ii (get_no h).1 (get_no h).2), hw⟩

set_option maxHeartbeats 4000000 in
set_option maxRecDepth 100000 in
theorem numbers_room_good (n size : Nat) (a2 : Option Addr) (c2 : Nat) (l : List UInt8) (w : World) (g : Gl w) (hn : n < 18446744073709551616) (hb : Bytes w (.slice a2 l.length c2) l) (hl : l.length ≤ 9000)
    (h1 : 1 ≤ size) (h2 : size ≤ 8) (h3 : n < 256 ^ size) (k1 : 1 ≤ l.length) (k2 : l.length ≤ 8) :
    Calls Tryd.prog 3 #[.int .u64 (n : Int), .int .i64 (size : Int), .slice a2 l.length c2] w fun e w' => e = .returned (.bool true) ∧ Below w.heap.size w w' := by
  have hroom : room n (size : Int) = true := by
    have e1 : (1 : Int) ≤ size := by omega
    have e2 : (size : Int) ≤ 8 := by omega
    simp [room, e1, e2, h3]
  have hle : (l.length : Int) ≤ 9000 := by omega
  have Hroom := Lib.hid hroom
  have H3 := Lib.hid h3
  have Hb := Lib.hid hb
  clear hroom h3 hb
  go_enter Tryd.func3, Tryd.ntmps3
  go_wp2_with fail
  refine (putW_yes n size _ h1 h2 H3.out).mono ?_
  rintro e w1 ⟨v1, rfl, hv1, hb1⟩
  go_wp2_with fail
  refine (roomR_any n size _ hn).mono ?_
  rintro e w2 ⟨rfl, rfl⟩
  rw [Hroom.out]
  go_wp2_with fail
  (refine wp_region_held_drew (S := (fun w' => Bytes w' v1 (putL n size) ∧ Below w1.heap.size w1 w')) (by kernel_rfl) ?_ (fun hHeld => ?_); (focus ((try dsimp only); (exact ⟨hv1.later (Below.refl _ _).drew, (Below.refl _ _).drew⟩))))
  (refine wpAnyH_take (i := 0) (v := ?_) rfl (by kernel_rfl) (by kernel_rfl) (by kernel_rfl) (fun _ _ _ h => h) (Or.inl ⟨by rfl, ?_⟩) hHeld ?_; rotate_left; (focus (intro w hSw; (try dsimp only at hSw); go_simp; try with_reducible rfl)); (try simp only [Act.put, List.setIfInBounds_toArray, List.set_cons_zero, List.set_cons_succ, List.getElem_toArray, List.getElem_cons_zero])); (refine wpAnyH_take (i := 2) (v := ?_) rfl (by kernel_rfl) (by kernel_rfl) (by kernel_rfl) (fun _ _ _ h => h) (Or.inl ⟨by rfl, ?_⟩) hHeld ?_; rotate_left; (focus (intro w hSw; (try dsimp only at hSw); go_simp; try with_reducible rfl)); (try simp only [Act.put, List.setIfInBounds_toArray, List.set_cons_zero, List.set_cons_succ, List.getElem_toArray, List.getElem_cons_zero, List.getElem_cons_succ])); (refine wpAnyH_take (i := 3) (v := ?_) rfl (by kernel_rfl) (by kernel_rfl) (by kernel_rfl) (fun _ _ _ h => h) (Or.inl ⟨by rfl, ?_⟩) hHeld ?_; rotate_left; (focus (intro w hSw; (try dsimp only at hSw); go_simp; try with_reducible rfl)); (try simp only [Act.put, List.setIfInBounds_toArray, List.set_cons_zero, List.set_cons_succ, List.getElem_toArray, List.getElem_cons_zero, List.getElem_cons_succ]))
  (refine wpAnyH_take (i := 1) (v := ?_) rfl (by kernel_rfl) (by kernel_rfl) (by kernel_rfl) (fun _ _ _ h => h) (Or.inl ⟨by rfl, ?_⟩) hHeld ?_; rotate_left; (focus (intro w hSw; (try dsimp only at hSw); go_simp; rw [hSw.1.str Tryd.underlying23 Tryd.underlying5 Tryd.underlying9]; rfl)); (try simp only [Act.put, List.setIfInBounds_toArray, List.set_cons_zero, List.set_cons_succ, List.getElem_toArray, List.getElem_cons_zero, List.getElem_cons_succ]))
  (refine wpAnyH_ready (rs := [4]) (by kernel_rfl) (by simp) ?_; refine AllReadyH.cons rfl (fun K hK => ?_) AllReadyH.nil; go_simp; refine (putR_any n size _ hn h2).mono ?_; rintro e w3 ⟨v3, rfl, hv3, hb3⟩; simp only []; refine hK.out _ _ ?_ (fun hHeldN => ?_); (focus ((try dsimp only); exact ⟨hHeld.1.later hb3, hHeld.2.trans (hb3.mono hHeld.2.size)⟩)); clear hK K hHeld; have hHeld := hHeldN; clear hHeldN; (try simp only [Act.put, List.setIfInBounds_toArray, List.set_cons_zero, List.set_cons_succ, List.getElem_toArray, List.getElem_cons_zero, List.getElem_cons_succ]))
  (refine wpAnyH_ready (rs := [5]) (by kernel_rfl) (by simp) ?_; refine AllReadyH.cons rfl (fun K hK => ?_) AllReadyH.nil; go_simp; rw [hv3.str Tryd.underlying23 Tryd.underlying5 Tryd.underlying9]; go_simp; refine hK.out _ _ ?_ (fun hHeldN => ?_); (focus ((try dsimp only); exact hHeld)); clear hK K hHeld; have hHeld := hHeldN; clear hHeldN; (try simp only [Act.put, List.setIfInBounds_toArray, List.set_cons_zero, List.set_cons_succ, List.getElem_toArray, List.getElem_cons_zero, List.getElem_cons_succ]))
  (refine wpAnyH_take (i := 6) (v := ?_) rfl (by kernel_rfl) (by kernel_rfl) (by kernel_rfl) (fun _ _ _ h => h) (Or.inl ⟨by rfl, ?_⟩) hHeld ?_; rotate_left; (focus (intro w hSw; (try dsimp only at hSw); go_simp; try with_reducible rfl)); (try simp only [Act.put, List.setIfInBounds_toArray, List.set_cons_zero, List.set_cons_succ, List.getElem_toArray, List.getElem_cons_zero, List.getElem_cons_succ])); (refine wpAnyH_take (i := 7) (v := ?_) rfl (by kernel_rfl) (by kernel_rfl) (by kernel_rfl) (fun _ _ _ h => h) (Or.inl ⟨by rfl, ?_⟩) hHeld ?_; rotate_left; (focus (intro w hSw; (try dsimp only at hSw); go_simp; try with_reducible rfl)); (try simp only [Act.put, List.setIfInBounds_toArray, List.set_cons_zero, List.set_cons_succ, List.getElem_toArray, List.getElem_cons_zero, List.getElem_cons_succ])); (refine wpAnyH_take (i := 8) (v := ?_) rfl (by kernel_rfl) (by kernel_rfl) (by kernel_rfl) (fun _ _ _ h => h) (Or.inl ⟨by rfl, ?_⟩) hHeld ?_; rotate_left; (focus (intro w hSw; (try dsimp only at hSw); go_simp; try with_reducible rfl)); (try simp only [Act.put, List.setIfInBounds_toArray, List.set_cons_zero, List.set_cons_succ, List.getElem_toArray, List.getElem_cons_zero, List.getElem_cons_succ]))
  (refine wpAnyH_ready (rs := [9]) (by kernel_rfl) (by simp) ?_; refine AllReadyH.cons rfl (fun K hK => ?_) AllReadyH.nil; go_simp; refine (num_any _ _).mono ?_; rintro e wn ⟨rfl, rfl⟩; simp only []; refine hK.out _ _ ?_ (fun hHeldN => ?_); (focus ((try dsimp only); exact hHeld)); clear hK K hHeld; have hHeld := hHeldN; clear hHeldN; (try simp only [Act.put, List.setIfInBounds_toArray, List.set_cons_zero, List.set_cons_succ, List.getElem_toArray, List.getElem_cons_zero, List.getElem_cons_succ]))
  (refine wpAnyH_take (i := 10) (v := ?_) rfl (by kernel_rfl) (by kernel_rfl) (by kernel_rfl) (fun _ _ _ h => h) (Or.inl ⟨by rfl, ?_⟩) hHeld ?_; rotate_left; (focus (intro w hSw; (try dsimp only at hSw); go_simp; try with_reducible rfl)); (try simp only [Act.put, List.setIfInBounds_toArray, List.set_cons_zero, List.set_cons_succ, List.getElem_toArray, List.getElem_cons_zero, List.getElem_cons_succ])); (refine wpAnyH_take (i := 11) (v := ?_) rfl (by kernel_rfl) (by kernel_rfl) (by kernel_rfl) (fun _ _ _ h => h) (Or.inl ⟨by rfl, ?_⟩) hHeld ?_; rotate_left; (focus (intro w hSw; (try dsimp only at hSw); go_simp; try with_reducible rfl)); (try simp only [Act.put, List.setIfInBounds_toArray, List.set_cons_zero, List.set_cons_succ, List.getElem_toArray, List.getElem_cons_zero, List.getElem_cons_succ]))
  refine wpAnyH_done (by kernel_rfl) ?_ _
  have hB := Lib.hid (hb1.trans (hHeld.2.mono hb1.size))
  have hg := g.below hB.out
  have Hl := Lib.hid (Hb.out.later hB.out)
  clear hHeld hb1 hv1 hv3 hb3
  go_wp2_with (first | (go_at_call 14; refine (getW_good _ l _ Hl.out k1 k2).mono ?_; rintro e wa ⟨rfl, rfl⟩) | (go_at_call 15; refine (getR_any _ l _ Hl.out k2).mono ?_; rintro e wc ⟨rfl, rfl⟩) | (go_at_call 13; refine (num_any _ _).mono ?_; rintro e wn ⟨rfl, rfl⟩) | (go_at_call 9; refine (known_any _ hg).mono ?_; rintro e wk ⟨rfl, hbk⟩))
  go_ret
  exact ⟨rfl, hB.out.trans (hbk.mono hB.out.size)⟩

set_option maxHeartbeats 4000000 in
set_option maxRecDepth 100000 in
theorem numbers_room_bad (n size : Nat) (a2 : Option Addr) (c2 : Nat) (l : List UInt8) (w : World) (g : Gl w) (hn : n < 18446744073709551616) (hb : Bytes w (.slice a2 l.length c2) l) (hl : l.length ≤ 9000)
    (h1 : 1 ≤ size) (h2 : size ≤ 8) (h3 : n < 256 ^ size) (k : ¬ (1 ≤ l.length ∧ l.length ≤ 8)) :
    Calls Tryd.prog 3 #[.int .u64 (n : Int), .int .i64 (size : Int), .slice a2 l.length c2] w fun e w' => e = .returned (.bool true) ∧ Below w.heap.size w w' := by
  have hroom : room n (size : Int) = true := by
    have e1 : (1 : Int) ≤ size := by omega
    have e2 : (size : Int) ≤ 8 := by omega
    simp [room, e1, e2, h3]
  have hle : (l.length : Int) ≤ 9000 := by omega
  have Hroom := Lib.hid hroom
  have H3 := Lib.hid h3
  have Hb := Lib.hid hb
  have HK := Lib.hid k
  have kd : (l.length : Int) < 1 ∨ 8 < (l.length : Int) := by omega
  clear k
  clear hroom h3 hb
  go_enter Tryd.func3, Tryd.ntmps3
  go_wp2_with fail
  refine (putW_yes n size _ h1 h2 H3.out).mono ?_
  rintro e w1 ⟨v1, rfl, hv1, hb1⟩
  go_wp2_with fail
  refine (roomR_any n size _ hn).mono ?_
  rintro e w2 ⟨rfl, rfl⟩
  rw [Hroom.out]
  go_wp2_with fail
  (refine wp_region_held_drew (S := (fun w' => Bytes w' v1 (putL n size) ∧ Below w1.heap.size w1 w')) (by kernel_rfl) ?_ (fun hHeld => ?_); (focus ((try dsimp only); (exact ⟨hv1.later (Below.refl _ _).drew, (Below.refl _ _).drew⟩))))
  (refine wpAnyH_take (i := 0) (v := ?_) rfl (by kernel_rfl) (by kernel_rfl) (by kernel_rfl) (fun _ _ _ h => h) (Or.inl ⟨by rfl, ?_⟩) hHeld ?_; rotate_left; (focus (intro w hSw; (try dsimp only at hSw); go_simp; try with_reducible rfl)); (try simp only [Act.put, List.setIfInBounds_toArray, List.set_cons_zero, List.set_cons_succ, List.getElem_toArray, List.getElem_cons_zero])); (refine wpAnyH_take (i := 2) (v := ?_) rfl (by kernel_rfl) (by kernel_rfl) (by kernel_rfl) (fun _ _ _ h => h) (Or.inl ⟨by rfl, ?_⟩) hHeld ?_; rotate_left; (focus (intro w hSw; (try dsimp only at hSw); go_simp; try with_reducible rfl)); (try simp only [Act.put, List.setIfInBounds_toArray, List.set_cons_zero, List.set_cons_succ, List.getElem_toArray, List.getElem_cons_zero, List.getElem_cons_succ])); (refine wpAnyH_take (i := 3) (v := ?_) rfl (by kernel_rfl) (by kernel_rfl) (by kernel_rfl) (fun _ _ _ h => h) (Or.inl ⟨by rfl, ?_⟩) hHeld ?_; rotate_left; (focus (intro w hSw; (try dsimp only at hSw); go_simp; try with_reducible rfl)); (try simp only [Act.put, List.setIfInBounds_toArray, List.set_cons_zero, List.set_cons_succ, List.getElem_toArray, List.getElem_cons_zero, List.getElem_cons_succ]))
  (refine wpAnyH_take (i := 1) (v := ?_) rfl (by kernel_rfl) (by kernel_rfl) (by kernel_rfl) (fun _ _ _ h => h) (Or.inl ⟨by rfl, ?_⟩) hHeld ?_; rotate_left; (focus (intro w hSw; (try dsimp only at hSw); go_simp; rw [hSw.1.str Tryd.underlying23 Tryd.underlying5 Tryd.underlying9]; rfl)); (try simp only [Act.put, List.setIfInBounds_toArray, List.set_cons_zero, List.set_cons_succ, List.getElem_toArray, List.getElem_cons_zero, List.getElem_cons_succ]))
  (refine wpAnyH_ready (rs := [4]) (by kernel_rfl) (by simp) ?_; refine AllReadyH.cons rfl (fun K hK => ?_) AllReadyH.nil; go_simp; refine (putR_any n size _ hn h2).mono ?_; rintro e w3 ⟨v3, rfl, hv3, hb3⟩; simp only []; refine hK.out _ _ ?_ (fun hHeldN => ?_); (focus ((try dsimp only); exact ⟨hHeld.1.later hb3, hHeld.2.trans (hb3.mono hHeld.2.size)⟩)); clear hK K hHeld; have hHeld := hHeldN; clear hHeldN; (try simp only [Act.put, List.setIfInBounds_toArray, List.set_cons_zero, List.set_cons_succ, List.getElem_toArray, List.getElem_cons_zero, List.getElem_cons_succ]))
  (refine wpAnyH_ready (rs := [5]) (by kernel_rfl) (by simp) ?_; refine AllReadyH.cons rfl (fun K hK => ?_) AllReadyH.nil; go_simp; rw [hv3.str Tryd.underlying23 Tryd.underlying5 Tryd.underlying9]; go_simp; refine hK.out _ _ ?_ (fun hHeldN => ?_); (focus ((try dsimp only); exact hHeld)); clear hK K hHeld; have hHeld := hHeldN; clear hHeldN; (try simp only [Act.put, List.setIfInBounds_toArray, List.set_cons_zero, List.set_cons_succ, List.getElem_toArray, List.getElem_cons_zero, List.getElem_cons_succ]))
  (refine wpAnyH_take (i := 6) (v := ?_) rfl (by kernel_rfl) (by kernel_rfl) (by kernel_rfl) (fun _ _ _ h => h) (Or.inl ⟨by rfl, ?_⟩) hHeld ?_; rotate_left; (focus (intro w hSw; (try dsimp only at hSw); go_simp; try with_reducible rfl)); (try simp only [Act.put, List.setIfInBounds_toArray, List.set_cons_zero, List.set_cons_succ, List.getElem_toArray, List.getElem_cons_zero, List.getElem_cons_succ])); (refine wpAnyH_take (i := 7) (v := ?_) rfl (by kernel_rfl) (by kernel_rfl) (by kernel_rfl) (fun _ _ _ h => h) (Or.inl ⟨by rfl, ?_⟩) hHeld ?_; rotate_left; (focus (intro w hSw; (try dsimp only at hSw); go_simp; try with_reducible rfl)); (try simp only [Act.put, List.setIfInBounds_toArray, List.set_cons_zero, List.set_cons_succ, List.getElem_toArray, List.getElem_cons_zero, List.getElem_cons_succ])); (refine wpAnyH_take (i := 8) (v := ?_) rfl (by kernel_rfl) (by kernel_rfl) (by kernel_rfl) (fun _ _ _ h => h) (Or.inl ⟨by rfl, ?_⟩) hHeld ?_; rotate_left; (focus (intro w hSw; (try dsimp only at hSw); go_simp; try with_reducible rfl)); (try simp only [Act.put, List.setIfInBounds_toArray, List.set_cons_zero, List.set_cons_succ, List.getElem_toArray, List.getElem_cons_zero, List.getElem_cons_succ]))
  (refine wpAnyH_ready (rs := [9]) (by kernel_rfl) (by simp) ?_; refine AllReadyH.cons rfl (fun K hK => ?_) AllReadyH.nil; go_simp; refine (num_any _ _).mono ?_; rintro e wn ⟨rfl, rfl⟩; simp only []; refine hK.out _ _ ?_ (fun hHeldN => ?_); (focus ((try dsimp only); exact hHeld)); clear hK K hHeld; have hHeld := hHeldN; clear hHeldN; (try simp only [Act.put, List.setIfInBounds_toArray, List.set_cons_zero, List.set_cons_succ, List.getElem_toArray, List.getElem_cons_zero, List.getElem_cons_succ]))
  (refine wpAnyH_take (i := 10) (v := ?_) rfl (by kernel_rfl) (by kernel_rfl) (by kernel_rfl) (fun _ _ _ h => h) (Or.inl ⟨by rfl, ?_⟩) hHeld ?_; rotate_left; (focus (intro w hSw; (try dsimp only at hSw); go_simp; try with_reducible rfl)); (try simp only [Act.put, List.setIfInBounds_toArray, List.set_cons_zero, List.set_cons_succ, List.getElem_toArray, List.getElem_cons_zero, List.getElem_cons_succ])); (refine wpAnyH_take (i := 11) (v := ?_) rfl (by kernel_rfl) (by kernel_rfl) (by kernel_rfl) (fun _ _ _ h => h) (Or.inl ⟨by rfl, ?_⟩) hHeld ?_; rotate_left; (focus (intro w hSw; (try dsimp only at hSw); go_simp; try with_reducible rfl)); (try simp only [Act.put, List.setIfInBounds_toArray, List.set_cons_zero, List.set_cons_succ, List.getElem_toArray, List.getElem_cons_zero, List.getElem_cons_succ]))
  refine wpAnyH_done (by kernel_rfl) ?_ _
  have hB := Lib.hid (hb1.trans (hHeld.2.mono hb1.size))
  have hg := g.below hB.out
  have Hl := Lib.hid (Hb.out.later hB.out)
  clear hHeld hb1 hv1 hv3 hb3
  rcases kd with kd | kd
  · go_wp2_with (first | (go_at_call 14; refine (getW_bad _ l _ Hl.out hl HK.out).mono ?_; rintro e wa ⟨rfl, rfl⟩) | (go_at_call 13; refine (num_any _ _).mono ?_; rintro e wn ⟨rfl, rfl⟩) | (go_at_call 9; refine (known_any _ hg).mono ?_; rintro e wk ⟨rfl, hbk⟩))
    all_goals go_ret
    all_goals exact ⟨rfl, hB.out.trans (hbk.mono hB.out.size)⟩
  · go_wp2_with (first | (go_at_call 14; refine (getW_bad _ l _ Hl.out hl HK.out).mono ?_; rintro e wa ⟨rfl, rfl⟩) | (go_at_call 13; refine (num_any _ _).mono ?_; rintro e wn ⟨rfl, rfl⟩) | (go_at_call 9; refine (known_any _ hg).mono ?_; rintro e wk ⟨rfl, hbk⟩))
    all_goals go_ret
    all_goals exact ⟨rfl, hB.out.trans (hbk.mono hB.out.size)⟩

set_option maxHeartbeats 4000000 in
set_option maxRecDepth 100000 in
theorem numbers_none_good (n : Nat) (size : Int) (a2 : Option Addr) (c2 : Nat) (l : List UInt8) (w : World) (g : Gl w) (hn : n < 18446744073709551616) (hb : Bytes w (.slice a2 l.length c2) l) (hl : l.length ≤ 9000)
    (hroom : room n size = false) (k1 : 1 ≤ l.length) (k2 : l.length ≤ 8) :
    Calls Tryd.prog 3 #[.int .u64 (n : Int), .int .i64 size, .slice a2 l.length c2] w fun e w' => e = .returned (.bool true) ∧ Below w.heap.size w w' := by
  have hle : (l.length : Int) ≤ 9000 := by omega
  have Hroom := Lib.hid hroom
  have Hb := Lib.hid hb
  clear hroom hb
  go_enter Tryd.func3, Tryd.ntmps3
  go_wp2_with fail
  refine (putW_no n size _ Hroom.out).mono ?_
  rintro e w1 ⟨v1, rfl, hv1, hb1⟩
  obtain ⟨a1, c1, rfl⟩ := hv1.form
  go_wp2_with fail
  refine (roomR_any n size _ hn).mono ?_
  rintro e w2 ⟨rfl, rfl⟩
  rw [Hroom.out]
  have hB := Lib.hid hb1
  have hg := g.below hB.out
  have Hl := Lib.hid (Hb.out.later hB.out)
  clear hb1 hv1
  go_wp2_with (first | (go_at_call 14; refine (getW_good _ l _ Hl.out k1 k2).mono ?_; rintro e wa ⟨rfl, rfl⟩) | (go_at_call 15; refine (getR_any _ l _ Hl.out k2).mono ?_; rintro e wc ⟨rfl, rfl⟩) | (go_at_call 13; refine (num_any _ _).mono ?_; rintro e wn ⟨rfl, rfl⟩) | (go_at_call 9; refine (known_any _ hg).mono ?_; rintro e wk ⟨rfl, hbk⟩))
  go_ret
  exact ⟨rfl, hB.out.trans (hbk.mono hB.out.size)⟩

set_option maxHeartbeats 4000000 in
set_option maxRecDepth 100000 in
theorem numbers_none_bad (n : Nat) (size : Int) (a2 : Option Addr) (c2 : Nat) (l : List UInt8) (w : World) (g : Gl w) (hn : n < 18446744073709551616) (hb : Bytes w (.slice a2 l.length c2) l) (hl : l.length ≤ 9000)
    (hroom : room n size = false) (k : ¬ (1 ≤ l.length ∧ l.length ≤ 8)) :
    Calls Tryd.prog 3 #[.int .u64 (n : Int), .int .i64 size, .slice a2 l.length c2] w fun e w' => e = .returned (.bool true) ∧ Below w.heap.size w w' := by
  have hle : (l.length : Int) ≤ 9000 := by omega
  have Hroom := Lib.hid hroom
  have Hb := Lib.hid hb
  have HK := Lib.hid k
  have kd : (l.length : Int) < 1 ∨ 8 < (l.length : Int) := by omega
  clear k
  clear hroom hb
  go_enter Tryd.func3, Tryd.ntmps3
  go_wp2_with fail
  refine (putW_no n size _ Hroom.out).mono ?_
  rintro e w1 ⟨v1, rfl, hv1, hb1⟩
  obtain ⟨a1, c1, rfl⟩ := hv1.form
  go_wp2_with fail
  refine (roomR_any n size _ hn).mono ?_
  rintro e w2 ⟨rfl, rfl⟩
  rw [Hroom.out]
  have hB := Lib.hid hb1
  have hg := g.below hB.out
  have Hl := Lib.hid (Hb.out.later hB.out)
  clear hb1 hv1
  rcases kd with kd | kd
  · go_wp2_with (first | (go_at_call 14; refine (getW_bad _ l _ Hl.out hl HK.out).mono ?_; rintro e wa ⟨rfl, rfl⟩) | (go_at_call 13; refine (num_any _ _).mono ?_; rintro e wn ⟨rfl, rfl⟩) | (go_at_call 9; refine (known_any _ hg).mono ?_; rintro e wk ⟨rfl, hbk⟩))
    all_goals go_ret
    all_goals exact ⟨rfl, hB.out.trans (hbk.mono hB.out.size)⟩
  · go_wp2_with (first | (go_at_call 14; refine (getW_bad _ l _ Hl.out hl HK.out).mono ?_; rintro e wa ⟨rfl, rfl⟩) | (go_at_call 13; refine (num_any _ _).mono ?_; rintro e wn ⟨rfl, rfl⟩) | (go_at_call 9; refine (known_any _ hg).mono ?_; rintro e wk ⟨rfl, hbk⟩))
    all_goals go_ret
    all_goals exact ⟨rfl, hB.out.trans (hbk.mono hB.out.size)⟩

set_option maxHeartbeats 1000000 in
theorem numbers_great (n size : Int) (a2 : Option Addr) (c2 m : Nat) (w : World) (g : Gl w) (hl : 9000 < m) :
    Calls Tryd.prog 3 #[.int .u64 n, .int .i64 size, .slice a2 m c2] w fun e w' => e = .returned (.bool true) ∧ Below w.heap.size w w' := by
  have hle : (9000 : Int) < m := by omega
  go_enter Tryd.func3, Tryd.ntmps3
  go_wp2_with (go_at_call 9; refine (known_any _ g).mono ?_; rintro e wk ⟨rfl, hbk⟩)
  go_ret
  exact ⟨rfl, hbk⟩

theorem wireNumbers_walk (n size : Int) (v : Value) (l : List UInt8) (w : World) (g : Gl w) (h0 : 0 ≤ n) (hn : n < 18446744073709551616) (hb : Bytes w v l) (_hl : l.length ≤ 9223372036854775807) :
    Calls Tryd.prog 3 #[.int .u64 n, .int .i64 size, v] w fun e w' => e = .returned (.bool true) ∧ Below w.heap.size w w' := by
  obtain ⟨m, rfl⟩ := Int.eq_ofNat_of_zero_le h0
  have hm : m < 18446744073709551616 := by omega
  obtain ⟨a2, c2, rfl⟩ := hb.form
  by_cases h9 : l.length ≤ 9000
  · rcases hr : room m size with _ | _
    · by_cases hk : 1 ≤ l.length ∧ l.length ≤ 8
      · exact numbers_none_good m size a2 c2 l w g hm hb h9 hr hk.1 hk.2
      · exact numbers_none_bad m size a2 c2 l w g hm hb h9 hr hk
    · have h3 : 1 ≤ size ∧ size ≤ 8 ∧ m < 256 ^ size.toNat := by simpa [room] using hr
      obtain ⟨s, rfl⟩ := Int.eq_ofNat_of_zero_le (show 0 ≤ size by omega)
      have h4 : m < 256 ^ s := by have := h3.2.2; rwa [Int.toNat_natCast] at this
      by_cases hk : 1 ≤ l.length ∧ l.length ≤ 8
      · exact numbers_room_good m s a2 c2 l w g hm hb h9 (by omega) (by omega) h4 hk.1 hk.2
      · exact numbers_room_bad m s a2 c2 l w g hm hb h9 (by omega) (by omega) h4 hk
  · exact numbers_great m size a2 c2 l.length w g (by omega)
end Go.Proofs.YtnihjchhbggkiaaDoor
