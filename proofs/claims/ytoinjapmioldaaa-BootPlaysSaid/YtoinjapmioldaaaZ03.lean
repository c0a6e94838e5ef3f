/- The walk of the program's Read.
   The walk of the program's Write.
   Which stores are the same: the walks of slices.Equal of cells, and of Same.
   A copy: the walks of slices.Clone of cells, and of both Copy.
   A fuse laid, a byte spoilt; the reference's New, SetFuse, Raise: the walks.
   Bytes of noughts, made. -/
import Derived.Laws.OwnMore
import Derived.Lib.SliceRun
import Derived.Test.YtoinjapmioldaaaZ01
import Derived.Test.YtoinjapmioldaaaZ02

set_option linter.unusedSimpArgs false
set_option linter.unusedVariables false
namespace Go.Proofs.Ytoinjapmioldaaa
open Go.RowKit

theorem zeros_bv (n : Nat) : (madeCells (Value.int IntKind.u8 0).cells (n * 1)).toList = bv (List.replicate n 0) := by
  rw [Nat.mul_one]; show (madeCells #[.int .u8 0] n).toList = _
  rw [toList_madeCells_one]; simp [bv]
theorem make_zeros (n : Nat) (w : World) (hn : n ≤ 1000000) :
    ∃ w1, (Instr.makeSlice 22 (.int .i64 (n : Int)) (.int .i64 (n : Int))).run Try.prog w = .ok (.slice (some ⟨w.heap.size, 0, none⟩) n n) w1 ∧ OwnB w1 w.heap.size (.slice (some ⟨w.heap.size, 0, none⟩) n n) (List.replicate n 0) ∧ Below w.heap.size w w1 := by
  obtain ⟨i0, hi, hz0, hz1, hz2⟩ := info8
  obtain ⟨w1, hmk, hown0, hg0⟩ := run_make_full (P := Try.prog) (w := w) w.heap.size 22 5 i0 (.int .u8 0) 1 Try.underlying22 hi hz0 hz1 .i64 .i64 n (by rw [hz2]; omega) (by unfold maxLen; omega) (Nat.le_refl _)
  refine ⟨w1, hmk, ?_, (Below.refl _ _).grown hg0 (Nat.le_refl _) (by simp)⟩
  rw [zeros_bv] at hown0
  show World.ownsRow _ _ _ _ _ _ _
  rw [List.length_replicate]; exact hown0
end Go.Proofs.Ytoinjapmioldaaa

namespace Go.Proofs.Ytoinjapmioldaaa
open Go.RowKit
attribute [local go_sem ↓] Go.wp_at_zero Go.wp_at_succ

set_option maxRecDepth 100000 in
theorem fuseS {p g cap : Nat} {s : St} {w : World} (h : PSt p g cap s w) (n : Int) (x : UInt8) (u : Bool) (hn : n ≤ 9223372036854775807) :
    Calls Try.prog 15 #[.pointer (some ⟨p, 0, none⟩), .int .i64 n, .int .u8 (x.toNat : Int), .bool u] w fun e w' => (∃ v, e = .returned v) ∧ PSt p g cap (fuS s n x u) w' ∧ Chg [p] w w' := by
  have H := Lib.hid (noneS h)
  obtain ⟨c0, c1, c2, c3, c4⟩ := h.cells
  have hfz : ∀ j, w.frozen? ⟨p, j, none⟩ = false := fun j => h.blk.frozen j
  have HP := Lib.hid h
  have HN := Lib.hid hn
  obtain ⟨y, hy⟩ : ∃ y : Int, y = (x.toNat : Int) := ⟨_, rfl⟩
  rw [← hy]
  have HY := Lib.hid hy
  clear h hn hy
  go_enter Try.func15, Try.ntmps15
  go_wp2_with fail
  refine H.out.mono ?_
  rintro e w1 ⟨rfl, rfl⟩
  go_wp2_with fail
  go_end0
  have hc : Chg [p] w (((w.setCell ⟨p, 2, none⟩ (.int .i64 n)).setCell ⟨p, 3, none⟩ (.int .u8 y)).setCell ⟨p, 4, none⟩ (.bool u)) := (((Chg.refl [p] w).set (by simp) 2 _).set (by simp) 3 _).set (by simp) 4 _
  refine ⟨⟨_, rfl⟩, ⟨?_, hc.owns HP.out.row (fun k hk => ?_), HP.out.ne, HP.out.pos, HP.out.few, HP.out.cap, HN.out⟩, hc⟩
  · have := ((HP.out.blk.set 2 (.int .i64 n)).set 3 (.int .u8 y)).set 4 (.bool u)
    rw [HY.out] at this ⊢
    exact this
  · simp [Value.ownBlock] at hk
    have := HP.out.ne
    simp; omega

theorem PSt.put {p g cap : Nat} {s : St} {w : World} (h : PSt p g cap s w) (k : Nat) (c : Ce) (hk : k < s.c.length) :
    PSt p g cap { s with c := s.c.set k c } ((w.setCell ⟨g, k * 2, none⟩ (.int .u8 (c.1.toNat : Int))).setCell ⟨g, k * 2 + 1, none⟩ (.bool c.2)) ∧ Chg [g] w ((w.setCell ⟨g, k * 2, none⟩ (.int .u8 (c.1.toNat : Int))).setCell ⟨g, k * 2 + 1, none⟩ (.bool c.2)) := by
  have hc : Chg [g] w ((w.setCell ⟨g, k * 2, none⟩ (.int .u8 (c.1.toNat : Int))).setCell ⟨g, k * 2 + 1, none⟩ (.bool c.2)) := ((Chg.refl [g] w).set (by simp) _ _).set (by simp) _ _
  have h1 := (World.ownsRow.stored h.row (k * 2) (.int .u8 (c.1.toNat : Int))).1
  have h2 := (World.ownsRow.stored h1 (k * 2 + 1) (.bool c.2)).1
  rw [cc_set] at h2
  refine ⟨⟨?_, ?_, h.ne, ?_, ?_, ?_, h.fu⟩, hc⟩
  · have := hc.blk h.blk (by have := h.ne; simp; omega)
    unfold pcs at this ⊢
    simp only [List.length_set]
    exact this
  · simp only [List.length_set]; exact h2
  · have := h.pos; simp only [List.length_set]; omega
  · have := h.few; simp only [List.length_set]; omega
  · have := h.cap; simp only [List.length_set]; omega

set_option maxHeartbeats 1000000 in
set_option maxRecDepth 100000 in
theorem spoilS {p g cap : Nat} {s : St} {w : World} (h : PSt p g cap s w) (a : Int) (x : UInt8) (u : Bool) (ha : a ≤ 9223372036854775807) :
    Calls Try.prog 10 #[.pointer (some ⟨p, 0, none⟩), .int .i64 a, .int .u8 (x.toNat : Int), .bool u] w fun e w' => e = .returned (.int .i64 (spE s a)) ∧ PSt p g cap (spS s a x u) w' ∧ Chg [g] w w' := by
  have H := Lib.hid (lieS h a 1 ha)
  unfold lieE at H
  unfold spE spS
  by_cases hi : inn s.c.length a 1 = true
  · rw [if_pos hi] at H
    rw [if_pos hi, if_pos hi]
    have hi2 := inn_iff.1 hi
    obtain ⟨k, rfl⟩ := Int.eq_ofNat_of_zero_le hi2.1
    have hk : k < s.c.length := by omega
    obtain ⟨c0, c1, c2, c3, c4⟩ := h.cells
    obtain ⟨d0, d1, hfz⟩ := h.at (List.getElem?_eq_getElem hk)
    have HP := Lib.hid (h.put k (x, u) hk)
    obtain ⟨y, hy⟩ : ∃ y : Int, y = (x.toNat : Int) := ⟨_, rfl⟩
    simp only at HP
    rw [← hy] at HP ⊢
    obtain ⟨n, hn⟩ : ∃ n, n = s.c.length := ⟨_, rfl⟩
    rw [← hn] at c0 hk
    have k1 : (k : Int) < n := by omega
    simp only [Int.toNat_natCast]
    clear h ha hi hi2 hy hn c1 c2 c3 c4
    go_enter Try.func10, Try.ntmps10
    go_wp2_with fail
    refine H.out.mono ?_
    rintro e w1 ⟨rfl, rfl⟩
    go_wp2_with fail
    go_ret
    exact ⟨rfl, HP.out.1, HP.out.2⟩
  · rw [if_neg hi] at H
    rw [if_neg hi, if_neg hi]
    have HP := Lib.hid h
    clear h ha hi
    go_enter Try.func10, Try.ntmps10
    go_wp2_with fail
    refine H.out.mono ?_
    rintro e w1 ⟨rfl, rfl⟩
    go_wp2_with fail
    go_ret
    exact ⟨rfl, HP.out, Chg.refl _ _⟩

set_option maxRecDepth 100000 in
theorem fuseR {q b u cb cu : Nat} {s : St} {w : World} (h : RSt q b u cb cu s w) (n : Int) (x : UInt8) (t : Bool) (hn : n ≤ 9223372036854775807) :
    Calls Try.prog 16 #[.pointer (some ⟨q, 0, none⟩), .int .i64 n, .int .u8 (x.toNat : Int), .bool t] w fun e w' => (∃ v, e = .returned v) ∧ RSt q b u cb cu (fuS s (nfu n) x t) w' ∧ Chg [q] w w' := by
  obtain ⟨c0, c1, c2, c3, c4, c5⟩ := h.cells
  have hfz : ∀ j, w.frozen? ⟨q, j, none⟩ = false := fun j => h.blk.frozen j
  have HP := Lib.hid h
  have HN := Lib.hid (show nfu n ≤ 9223372036854775807 by unfold nfu; split <;> omega)
  obtain ⟨y, hy⟩ : ∃ y : Int, y = (x.toNat : Int) := ⟨_, rfl⟩
  rw [← hy]
  have HY := Lib.hid hy
  obtain ⟨m, hm⟩ : ∃ m, m = nfu n := ⟨_, rfl⟩
  rw [← hm] at HN ⊢
  have hfin : ∃ v, v = (((w.setCell ⟨q, 2, none⟩ (.int .i64 m)).setCell ⟨q, 3, none⟩ (.int .u8 y)).setCell ⟨q, 4, none⟩ (.bool t)) := ⟨_, rfl⟩
  obtain ⟨wz, hz⟩ := hfin
  have HZ : Hid (RSt q b u cb cu (fuS s m x t) wz ∧ Chg [q] w wz) := by
    have hc : Chg [q] w wz := by rw [hz]; exact (((Chg.refl [q] w).set (by simp) 2 _).set (by simp) 3 _).set (by simp) 4 _
    refine ⟨⟨?_, hc.owns HP.out.row (fun k hk => ?_), hc.owns HP.out.flg (fun k hk => ?_), HP.out.n1, HP.out.n2, HP.out.n3, HP.out.pos, HP.out.few, HP.out.cb, HP.out.cu, HN.out⟩, hc⟩
    · have := ((HP.out.blk.set 2 (.int .i64 m)).set 3 (.int .u8 y)).set 4 (.bool t)
      rw [hz, HY.out]
      rw [HY.out] at this
      exact this
    · simp [Value.ownBlock] at hk; have := HP.out.n1; simp; omega
    · simp [Value.ownBlock] at hk; have := HP.out.n2; simp; omega
  have HZZ := Lib.hid hz
  clear h hn hy hz
  by_cases hl : n < 0
  · have k : decide (n < 0) = true := by simp; omega
    have e : m = -1 := by rw [hm]; unfold nfu; rw [if_pos hl]
    subst e
    clear hl hm
    go_enter Try.func16, Try.ntmps16
    go_wp2_with fail
    go_end0
    rw [← HZZ.out]
    exact ⟨⟨_, rfl⟩, HZ.out.1, HZ.out.2⟩
  · have k : decide (n < 0) = false := by simp; omega
    have e : m = n := by rw [hm]; unfold nfu; rw [if_neg hl]
    subst e
    clear hl hm
    go_enter Try.func16, Try.ntmps16
    go_wp2_with fail
    go_end0
    rw [← HZZ.out]
    exact ⟨⟨_, rfl⟩, HZ.out.1, HZ.out.2⟩

/-- What the reference's New leaves. -/
def NewR (n : Nat) (w : World) (e : Ending) (w' : World) : Prop :=
  ∃ q b u, e = .returned (.pointer (some ⟨q, 0, none⟩)) ∧ w.heap.size ≤ q ∧ w.heap.size ≤ b ∧ w.heap.size ≤ u ∧ RSt q b u n n (nw n) w' ∧ Below w.heap.size w w'
theorem newR_end {n b u B1 B2 : Nat} {w w2 : World} (h1 : 1 ≤ n) (h2 : n ≤ 4096) (hb : w.heap.size ≤ b) (hu : w.heap.size ≤ u) (hbu : b ≠ u) (hB : Below w.heap.size w w2)
    (h3 : w2.ownsRow B1 5 1 (.slice (some ⟨b, 0, none⟩) n n) n (bv (List.replicate n 0))) (h4 : w2.ownsRow B2 4 1 (.slice (some ⟨u, 0, none⟩) n n) n (List.replicate n (.bool false))) :
    NewR n w (.returned (.pointer (some ⟨w2.heap.size, 0, none⟩))) (w2.alloc (.cells #[.slice (some ⟨b, 0, none⟩) n n, .slice (some ⟨u, 0, none⟩) n n, .int .i64 (-1), .int .u8 0, .bool false, .bool false] 35)) := by
  have hl : (nw n).c.length = n := by simp [nw]
  have hq := (Below.refl w2.heap.size w2).alloc (Nat.le_refl _) (.cells #[.slice (some ⟨b, 0, none⟩) n n, .slice (some ⟨u, 0, none⟩) n n, .int .i64 (-1), .int .u8 0, .bool false, .bool false] 35)
  have hs := hB.size
  have base : ∀ {B : Nat} {W : World} {e : TypeId} {v : Value} {xs : List Value}, W.ownsRow B e 1 v n xs → W.ownsRow 0 e 1 v n xs := by
    rintro B W e v xs ⟨e1, e2 | ⟨g, cap, cur, e3, _, e4⟩⟩
    · exact ⟨e1, .inl e2⟩
    · exact ⟨e1, .inr ⟨g, cap, cur, e3, Nat.zero_le _, e4⟩⟩
  refine ⟨w2.heap.size, b, u, rfl, hs, hb, hu, ⟨?_, ?_, ?_, ?_, ?_, hbu, ?_, ?_, ?_, ?_, ?_⟩, hB.trans (hq.mono hs)⟩
  · have := BlkAt.new (t := 35) w2 (rcs b u n n (nw n))
    unfold rcs at this ⊢
    rw [hl] at this ⊢
    exact this
  · rw [hl, show (nw n).c.map (fun c => c.1) = List.replicate n 0 by simp [nw]]
    exact base (ownsRow_later h3 hq)
  · rw [hl, show fv (nw n).c = List.replicate n (.bool false) by simp [nw, fv]]
    exact base (ownsRow_later h4 hq)
  · have := (h3.lt b rfl).2; omega
  · have := (h4.lt u rfl).2; omega
  · omega
  · omega
  · omega
  · omega
  · simp [nw]
set_option maxHeartbeats 1000000 in
set_option maxRecDepth 100000 in
theorem newRef (n : Nat) (w : World) (h1 : 1 ≤ n) (h2 : n ≤ 4096) : Calls Try.prog 9 #[.int .i64 (n : Int)] w (NewR n w) := by
  have HH := Lib.hid (And.intro h1 h2)
  clear h1 h2
  go_enter Try.func9, Try.ntmps9
  go_wp2_with fail
  (refine wp_region_held_drew (S := (fun w' => Below w.heap.size w w')) (by kernel_rfl) ?_ (fun hHeld => ?_); (focus ((try dsimp only); (exact (Below.refl _ _).drew))))
  (try dsimp only at hHeld)
  obtain ⟨w0, hw0⟩ : ∃ W0, W0 = World.drew w := ⟨_, rfl⟩
  rw [← hw0]
  rw [← hw0] at hHeld
  clear hw0
  (refine wpAnyH_take (i := 0) (v := ?_) rfl (by kernel_rfl) (by kernel_rfl) (by kernel_rfl) (fun _ _ _ h => h) (Or.inl ⟨by rfl, ?_⟩) hHeld ?_; rotate_left; (focus (intro w hSw; (try dsimp only at hSw); go_simp; try with_reducible rfl)); (try simp only [Act.put, List.setIfInBounds_toArray, List.set_cons_zero, List.set_cons_succ, List.getElem_toArray, List.getElem_cons_zero])); (refine wpAnyH_take (i := 2) (v := ?_) rfl (by kernel_rfl) (by kernel_rfl) (by kernel_rfl) (fun _ _ _ h => h) (Or.inl ⟨by rfl, ?_⟩) hHeld ?_; rotate_left; (focus (intro w hSw; (try dsimp only at hSw); go_simp; try with_reducible rfl)); (try simp only [Act.put, List.setIfInBounds_toArray, List.set_cons_zero, List.set_cons_succ, List.getElem_toArray, List.getElem_cons_zero, List.getElem_cons_succ]))
  have HS0 := Lib.hid hHeld.size
  obtain ⟨w1, hm1, ho1, hb1⟩ := make_zeros n w0 (by have := HH.out; omega)
  obtain ⟨w2, hm2, ho2, hb2⟩ := make_flags n w1 (by have := HH.out; omega)
  obtain ⟨w3, hm3, ho3, hb3⟩ := make_flags n w0 (by have := HH.out; omega)
  obtain ⟨w4, hm4, ho4, hb4⟩ := make_zeros n w3 (by have := HH.out; omega)
  have X1 : Hid (w1.ownsRow w0.heap.size 5 1 (.slice (some ⟨w0.heap.size, 0, none⟩) n n) n (bv (List.replicate n 0))) := by
    have : w1.ownsRow w0.heap.size 5 1 (.slice (some ⟨w0.heap.size, 0, none⟩) n n) (List.replicate n (0 : UInt8)).length (bv (List.replicate n 0)) := ho1
    rw [List.length_replicate] at this; exact this
  have X4 : Hid (w4.ownsRow w3.heap.size 5 1 (.slice (some ⟨w3.heap.size, 0, none⟩) n n) n (bv (List.replicate n 0))) := by
    have : w4.ownsRow w3.heap.size 5 1 (.slice (some ⟨w3.heap.size, 0, none⟩) n n) (List.replicate n (0 : UInt8)).length (bv (List.replicate n 0)) := ho4
    rw [List.length_replicate] at this; exact this
  have X2 := Lib.hid ho2
  have X3 := Lib.hid ho3
  have B1 := Lib.hid hb1
  have B2 := Lib.hid hb2
  have B3 := Lib.hid hb3
  have B4 := Lib.hid hb4
  clear ho1 ho2 ho3 ho4 hb1 hb2 hb3 hb4
  refine wpAnyH_ready (rs := [1, 3]) (by kernel_rfl) (by simp) ?_
  refine AllReadyH.cons rfl (fun K hK => ?_) (AllReadyH.cons rfl (fun K hK => ?_) AllReadyH.nil)
  · go_simp
    refine hK.out _ _ (below_of hHeld (B1.out.mono (Nat.le_refl _))) (fun hHeldN => ?_)
    clear hK K
    (try simp only [Act.put, List.setIfInBounds_toArray, List.set_cons_zero, List.set_cons_succ, List.getElem_toArray, List.getElem_cons_zero, List.getElem_cons_succ])
    (refine wpAnyH_ready (rs := [3]) (by kernel_rfl) (by simp) ?_; refine AllReadyH.cons rfl (fun K hK => ?_) AllReadyH.nil; go_simp; skip; refine hK.out _ _ ?_ (fun hHeldN => ?_); (focus ((try dsimp only); (exact hHeldN.trans (B2.out.mono hHeldN.size)))); clear hK K hHeld; have hHeld := hHeldN; clear hHeldN; (try simp only [Act.put, List.setIfInBounds_toArray, List.set_cons_zero, List.set_cons_succ, List.getElem_toArray, List.getElem_cons_zero, List.getElem_cons_succ]))
    (refine wpAnyH_take (i := 4) (v := ?_) rfl (by kernel_rfl) (by kernel_rfl) (by kernel_rfl) (fun _ _ _ h => h) (Or.inl ⟨by rfl, ?_⟩) hHeld ?_; rotate_left; (focus (intro w hSw; (try dsimp only at hSw); go_simp; try with_reducible rfl)); (try simp only [Act.put, List.setIfInBounds_toArray, List.set_cons_zero, List.set_cons_succ, List.getElem_toArray, List.getElem_cons_zero, List.getElem_cons_succ]))
    have HB2 := Lib.hid hHeld
    (refine wpAnyH_ready (rs := [5]) (by kernel_rfl) (by simp) ?_; refine AllReadyH.cons rfl (fun K hK => ?_) AllReadyH.nil; go_simp; skip; refine hK.out _ _ ?_ (fun hHeldN => ?_); (focus ((try dsimp only); (exact hHeld.alloc hHeld.size _))); clear hK K hHeld; have hHeld := hHeldN; clear hHeldN; (try simp only [Act.put, List.setIfInBounds_toArray, List.set_cons_zero, List.set_cons_succ, List.getElem_toArray, List.getElem_cons_zero, List.getElem_cons_succ]))
    (refine wpAnyH_take (i := 6) (v := ?_) rfl (by kernel_rfl) (by kernel_rfl) (by kernel_rfl) (fun _ _ _ h => h) (Or.inl ⟨by rfl, ?_⟩) hHeld ?_; rotate_left; (focus (intro w hSw; (try dsimp only at hSw); go_simp; try with_reducible rfl)); (try simp only [Act.put, List.setIfInBounds_toArray, List.set_cons_zero, List.set_cons_succ, List.getElem_toArray, List.getElem_cons_zero, List.getElem_cons_succ]))
    refine wpAnyH_done (by kernel_rfl) ?_ _
    go_wp2_with fail
    go_ret
    exact newR_end HH.out.1 HH.out.2 HS0.out hHeldN.size (by have := (X1.out.lt w0.heap.size rfl).2; omega) HB2.out (ownsRow_later X1.out B2.out) X2.out
  · go_simp
    refine hK.out _ _ (below_of hHeld (B3.out.mono (Nat.le_refl _))) (fun hHeldN => ?_)
    clear hK K
    (try simp only [Act.put, List.setIfInBounds_toArray, List.set_cons_zero, List.set_cons_succ, List.getElem_toArray, List.getElem_cons_zero, List.getElem_cons_succ])
    (refine wpAnyH_ready (rs := [1]) (by kernel_rfl) (by simp) ?_; refine AllReadyH.cons rfl (fun K hK => ?_) AllReadyH.nil; go_simp; skip; refine hK.out _ _ ?_ (fun hHeldN => ?_); (focus ((try dsimp only); (exact hHeldN.trans (B4.out.mono hHeldN.size)))); clear hK K hHeld; have hHeld := hHeldN; clear hHeldN; (try simp only [Act.put, List.setIfInBounds_toArray, List.set_cons_zero, List.set_cons_succ, List.getElem_toArray, List.getElem_cons_zero, List.getElem_cons_succ]))
    (refine wpAnyH_take (i := 4) (v := ?_) rfl (by kernel_rfl) (by kernel_rfl) (by kernel_rfl) (fun _ _ _ h => h) (Or.inl ⟨by rfl, ?_⟩) hHeld ?_; rotate_left; (focus (intro w hSw; (try dsimp only at hSw); go_simp; try with_reducible rfl)); (try simp only [Act.put, List.setIfInBounds_toArray, List.set_cons_zero, List.set_cons_succ, List.getElem_toArray, List.getElem_cons_zero, List.getElem_cons_succ]))
    have HB2 := Lib.hid hHeld
    (refine wpAnyH_ready (rs := [5]) (by kernel_rfl) (by simp) ?_; refine AllReadyH.cons rfl (fun K hK => ?_) AllReadyH.nil; go_simp; skip; refine hK.out _ _ ?_ (fun hHeldN => ?_); (focus ((try dsimp only); (exact hHeld.alloc hHeld.size _))); clear hK K hHeld; have hHeld := hHeldN; clear hHeldN; (try simp only [Act.put, List.setIfInBounds_toArray, List.set_cons_zero, List.set_cons_succ, List.getElem_toArray, List.getElem_cons_zero, List.getElem_cons_succ]))
    (refine wpAnyH_take (i := 6) (v := ?_) rfl (by kernel_rfl) (by kernel_rfl) (by kernel_rfl) (fun _ _ _ h => h) (Or.inl ⟨by rfl, ?_⟩) hHeld ?_; rotate_left; (focus (intro w hSw; (try dsimp only at hSw); go_simp; try with_reducible rfl)); (try simp only [Act.put, List.setIfInBounds_toArray, List.set_cons_zero, List.set_cons_succ, List.getElem_toArray, List.getElem_cons_zero, List.getElem_cons_succ]))
    refine wpAnyH_done (by kernel_rfl) ?_ _
    go_wp2_with fail
    go_ret
    exact newR_end HH.out.1 HH.out.2 hHeldN.size HS0.out (by have := (X3.out.lt w0.heap.size rfl).2; omega) HB2.out X4.out (ownsRow_later X3.out B4.out)
end Go.Proofs.Ytoinjapmioldaaa

namespace Go.Proofs.Ytoinjapmioldaaa
open Go.RowKit
attribute [local go_sem ↓] Go.wp_at_zero Go.wp_at_succ

theorem cc_one (l : List Ce) : ∀ u ∈ cc l, u.oneCell' = true := by
  intro u hu
  simp only [cc, List.mem_flatMap] at hu
  obtain ⟨c, _, h⟩ := hu
  simp at h
  rcases h with rfl | rfl <;> rfl
theorem add0 (g k : Nat) : (⟨g, 0, none⟩ : Addr).add k = ⟨g, k, none⟩ := by cases k <;> simp [Addr.add]
/-- append of whatever comes, by what its run leaves. -/
theorem wpList_appG {w : World} {ops : Array Oper} {rest : List Oper} {o : Oper} {a : Act} {Q : Exit → Act → World → Prop} (hgd : o.guard = none) (s x : Operand) (t t' : TypeId)
    (ho : o.op = .call { callee := .builtin .append, args := #[s, x], argTypes := #[t, t'] }) (v u : Value) (R : Value → World → Prop) (hs : a.eval s = v) (hx : a.eval x = u)
    (hr : ∀ ty, ∃ v' w', (Builtin.append_ #[t, t'] ty #[v, u]).run Try.prog w = .ok v' w' ∧ R v' w') (h : ∀ v' w', R v' w' → wpList Try.prog ops Q rest (a.put o.dst v') w') : wpList Try.prog ops Q (o :: rest) a w :=
  wpList_plain hgd fun K hK => by
    obtain ⟨v', w', hr, h2⟩ := hr o.type
    unfold Oper.wp execOp
    simp only [ho, resolve, invoke, builtin, Sem.run_bind, Sem.run_pure, Result.andThen_ok, List.map_toArray, List.map_cons, List.map_nil, hs, hx, hr]
    exact hK _ _ (h v' w' h2)
/-- What is appended to nothing. -/
def Cpy (t : TypeId) (size : Nat) (n : Nat) (xs : List Value) (w0 : World) (v : Value) (w : World) : Prop :=
  ∃ g' cap', v = .slice (some ⟨g', 0, none⟩) n cap' ∧ n ≤ cap' ∧ w0.heap.size ≤ g' ∧ w.ownsRow w0.heap.size t size (.slice (some ⟨g', 0, none⟩) n cap') n xs ∧ Below w0.heap.size w0 w
theorem Cpy.of {t : TypeId} {size n : Nat} {xs : List Value} {w0 w1 w : World} {row : Option Nat} {v : Value} (h0 : 0 < n) (hb : Below w0.heap.size w0 w1) (hr : ∀ k, row = some k → w0.heap.size ≤ k) (hown : w.ownsRow w0.heap.size t size v (0 + n) ([] ++ xs)) (hg : w1.grownBy w row) : Cpy t size n xs w0 v w := by
  rw [Nat.zero_add, List.nil_append] at hown
  have hown' := hown
  obtain ⟨e1, ⟨rfl, e2⟩ | ⟨g, cap, cur, rfl, e3, _, e5, _⟩⟩ := hown
  · omega
  · exact ⟨g, cap, rfl, e5, e3, hown', hb.grown hg hb.size hr⟩
set_option maxHeartbeats 1000000 in
set_option maxRecDepth 100000 in
theorem cloneS {g cap : Nat} {l : List Ce} {w : World} (h : w.ownsRow 0 56 2 (.slice (some ⟨g, 0, none⟩) l.length cap) l.length (cc l)) (h0 : 0 < l.length) (h4 : l.length ≤ 4096) :
    Calls Try.prog 30 #[.slice (some ⟨g, 0, none⟩) l.length cap] w fun e w' => ∃ v, e = .returned v ∧ Cpy 56 2 l.length (cc l) w v w' := by
  obtain ⟨i0, hi, hz0, hz1, hz2⟩ := infoC
  obtain ⟨w1, hw1⟩ : ∃ w1, w1 = w.alloc (.cells #[] 56) := ⟨_, rfl⟩
  have hb1 : Below w.heap.size w w1 := by rw [hw1]; exact ba1 _ _
  have hown1 : w1.ownsRow w.heap.size 56 2 (.slice (some ⟨w.heap.size, 0, none⟩) 0 0) 0 [] := by rw [hw1]; exact World.ownsRow_made w #[] 0 (Nat.le_refl _) (by decide) rfl
  have h1 := ownsRow_later h hb1
  have HR : Hid (∀ ty, ∃ v' w', (Builtin.append_ #[54, 54] ty #[.slice (some ⟨w.heap.size, 0, none⟩) 0 0, .slice (some ⟨g, 0, none⟩) l.length cap]).run Try.prog w1 = .ok v' w' ∧ Cpy 56 2 l.length (cc l) w v' w') := fun ty => by
    obtain ⟨v', w2, hr, hown2, hg2, _⟩ := run_append_own (P := Try.prog) (w := w1) w.heap.size 54 ty 56 i0 _ 2 2 Try.underlying54 hi hz0 hz1 hz2 rfl (by decide) _ 0 [] hown1 ⟨g, 0, none⟩ l.length cap (cc l) (cc_length l) (fun j u hj => by
      rw [add0]; exact (h1.cellAt j (by have := (List.getElem?_eq_some_iff.1 hj).1; rw [cc_length] at this; exact this)).trans hj) (cc_one l) (by unfold maxLen; omega) (by omega) hb1.size
    exact ⟨v', w2, hr, Cpy.of h0 hb1 (fun k hk => by simp [Value.ownBlock] at hk; omega) hown2 hg2⟩
  have hnil : ∀ (w : World) (a : Option Addr) (n c n' c' : Nat), (binOp .eql 54 (.slice a n c) (.slice none n' c')).run Try.prog w = .ok (.bool a.isNone) w := fun w a n c n' c' => Lib.run_eql_slice_nil w _ _ a n c n' c' Try.underlying54
  obtain ⟨n, hn⟩ : ∃ n, n = l.length := ⟨_, rfl⟩
  rw [← hn] at HR ⊢
  clear h h1 hown1 hb1 hn h0 h4 hi hz0 hz1 hz2
  go_enter Try.func30, Try.ntmps30
  go_wp2_with (at_builtin; refine wpList_appG rfl (.tmp 5) (.tmp 6) _ _ rfl _ _ _ rfl rfl (by rw [← hw1]; exact HR.out) ?_; intro v' w' hc)
  go_ret
  exact ⟨_, rfl, hc⟩

/-- What Copy leaves. -/
def CopyA (s : St) (w : World) (e : Ending) (w' : World) : Prop :=
  ∃ p g cap, e = .returned (.pointer (some ⟨p, 0, none⟩)) ∧ w.heap.size ≤ p ∧ w.heap.size ≤ g ∧ PSt p g cap s w' ∧ Below w.heap.size w w'
set_option maxHeartbeats 1000000 in
set_option maxRecDepth 100000 in
theorem copyS {p g cap : Nat} {s : St} {w : World} (h : PSt p g cap s w) : Calls Try.prog 11 #[.pointer (some ⟨p, 0, none⟩)] w (CopyA s w) := by
  have H := Lib.hid (noneS h)
  obtain ⟨c0, c1, c2, c3, c4⟩ := h.cells
  obtain ⟨w1, hw1⟩ : ∃ w1, w1 = w.alloc (.cells #[.slice (some ⟨g, 0, none⟩) s.c.length cap, .bool s.dead, .int .i64 s.fuse, .int .u8 (s.by_.toNat : Int), .bool s.torn] 58) := ⟨_, rfl⟩
  have hb1 : Below w.heap.size w w1 := by rw [hw1]; exact ba1 _ _
  have HC := Lib.hid (cloneS (h.later hb1).row h.pos h.few)
  have HQ : Hid (BlkAt 58 w.heap.size (pcs g cap s) w1) := by rw [hw1]; exact BlkAt.new w _
  have HP := Lib.hid h
  have HB1 := Lib.hid hb1
  have hlt := h.lt.1
  have HW := Lib.hid hw1
  obtain ⟨n, hn⟩ : ∃ n, n = s.c.length := ⟨_, rfl⟩
  obtain ⟨y, hy⟩ : ∃ y : Int, y = (s.by_.toNat : Int) := ⟨_, rfl⟩
  rw [← hn] at c0 HC HW
  rw [← hy] at c3 HW
  have HN := Lib.hid hn
  have HY := Lib.hid hy
  clear h hb1 hn hy hw1
  go_enter Try.func11, Try.ntmps11
  go_wp2_with fail
  refine H.out.mono ?_
  rintro e w2 ⟨rfl, rfl⟩
  go_wp2_with fail
  rw [← HW.out]
  refine HC.out.mono ?_
  rintro e w2 ⟨v, rfl, g', cap', rfl, hcap, hg', hown, hb2⟩
  have HO := Lib.hid hown
  have HB2 := Lib.hid hb2
  have HQ2 := Lib.hid (HQ.out.later hb2)
  have HG := Lib.hid (And.intro hcap hg')
  have q0 := BlkAt.cell HQ2.out (j := 0) rfl
  have hfz : ∀ j, w2.frozen? ⟨w.heap.size, j, none⟩ = false := fun j => BlkAt.frozen HQ2.out j
  clear hown hb2 hcap hg' c0 c1 c2 c3 c4
  go_wp2_with fail
  go_ret
  have hs1 : w1.heap.size = w.heap.size + 1 := by rw [HW.out]; simp
  have hlt2 := HB2.out.size
  have hg2 : w1.heap.size ≤ g' ∧ g' < w2.heap.size := ⟨HG.out.2, (HO.out.lt g' rfl).2⟩
  have hbs : Below w.heap.size w w2 := HB1.out.trans (HB2.out.mono (by omega))
  have hc : Chg [w.heap.size] w2 (w2.setCell ⟨w.heap.size, 0, none⟩ (.slice (some ⟨g', 0, none⟩) n cap')) := (Chg.refl _ _).set (by simp) _ _
  refine ⟨w.heap.size, g', cap', rfl, Nat.le_refl _, by omega, ⟨?_, ?_, by omega, HP.out.pos, HP.out.few, by rw [← HN.out]; exact HG.out.1, HP.out.fu⟩, hbs.trans (hc.below hbs.size (by simp))⟩
  · have := HQ2.out.set 0 (.slice (some ⟨g', 0, none⟩) n cap')
    rw [HN.out] at this ⊢
    exact this
  · rw [← HN.out]
    refine hc.owns ?_ (fun k hk => by simp [Value.ownBlock] at hk; simp; omega)
    obtain ⟨e1, e2 | ⟨g, cap, cur, e3, _, e4⟩⟩ := HO.out
    · exact ⟨e1, .inl e2⟩
    · exact ⟨e1, .inr ⟨g, cap, cur, e3, Nat.zero_le _, e4⟩⟩

theorem base0 {B : Nat} {W : World} {e : TypeId} {size n : Nat} {v : Value} {xs : List Value} (h : W.ownsRow B e size v n xs) : W.ownsRow 0 e size v n xs := by
  obtain ⟨e1, e2 | ⟨g, cap, cur, e3, _, e4⟩⟩ := h
  · exact ⟨e1, .inl e2⟩
  · exact ⟨e1, .inr ⟨g, cap, cur, e3, Nat.zero_le _, e4⟩⟩
theorem cpyB {g cap : Nat} {l : List UInt8} {w : World} (h : w.ownsRow 0 5 1 (.slice (some ⟨g, 0, none⟩) l.length cap) l.length (bv l)) (h0 : 0 < l.length) (h4 : l.length ≤ 4096) :
    ∀ ty, ∃ v' w', (Builtin.append_ #[22, 22] ty #[.slice none 0 0, .slice (some ⟨g, 0, none⟩) l.length cap]).run Try.prog w = .ok v' w' ∧ Cpy 5 1 l.length (bv l) w v' w' := fun ty => by
  obtain ⟨i0, hi, hz0, hz1, hz2⟩ := info8
  obtain ⟨v', w2, hr, hown2, hg2, _⟩ := run_append_own (P := Try.prog) (w := w) w.heap.size 22 ty 5 i0 _ 1 1 Try.underlying22 hi hz0 hz1 hz2 rfl (by decide) _ 0 [] (World.ownsRow_nil w _ _ _) ⟨g, 0, none⟩ l.length cap (bv l) (by simp [bv]) (fun j u hj => by
    rw [add0]; exact (h.cellAt j (by have := (List.getElem?_eq_some_iff.1 hj).1; simpa [bv] using this)).trans hj) (bv_one l) (by unfold maxLen; omega) (by omega) (Nat.le_refl _)
  exact ⟨v', w2, hr, Cpy.of h0 (Below.refl _ _) (fun k hk => by simp [Value.ownBlock] at hk) hown2 hg2⟩
theorem fv_one (l : List Ce) : ∀ u ∈ fv l, u.oneCell' = true := by
  intro u hu
  simp only [fv, List.mem_map] at hu
  obtain ⟨b, _, rfl⟩ := hu
  rfl
theorem cpyF {g cap : Nat} {l : List Ce} {w : World} (h : w.ownsRow 0 4 1 (.slice (some ⟨g, 0, none⟩) l.length cap) l.length (fv l)) (h0 : 0 < l.length) (h4 : l.length ≤ 4096) :
    ∀ ty, ∃ v' w', (Builtin.append_ #[23, 23] ty #[.slice none 0 0, .slice (some ⟨g, 0, none⟩) l.length cap]).run Try.prog w = .ok v' w' ∧ Cpy 4 1 l.length (fv l) w v' w' := fun ty => by
  obtain ⟨i0, hi, hz0, hz1, hz2⟩ := infoB
  obtain ⟨v', w2, hr, hown2, hg2, _⟩ := run_append_own (P := Try.prog) (w := w) w.heap.size 23 ty 4 i0 _ 1 1 Try.underlying23 hi hz0 hz1 hz2 rfl (by decide) _ 0 [] (World.ownsRow_nil w _ _ _) ⟨g, 0, none⟩ l.length cap (fv l) (by simp [fv]) (fun j u hj => by
    rw [add0]; exact (h.cellAt j (by have := (List.getElem?_eq_some_iff.1 hj).1; simpa [fv] using this)).trans hj) (fv_one l) (by unfold maxLen; omega) (by omega) (Nat.le_refl _)
  exact ⟨v', w2, hr, Cpy.of h0 (Below.refl _ _) (fun k hk => by simp [Value.ownBlock] at hk) hown2 hg2⟩
/-- What the reference's Copy leaves. -/
def CopyR (s : St) (w : World) (e : Ending) (w' : World) : Prop :=
  ∃ q b u cb cu, e = .returned (.pointer (some ⟨q, 0, none⟩)) ∧ w.heap.size ≤ q ∧ w.heap.size ≤ b ∧ w.heap.size ≤ u ∧ RSt q b u cb cu s w' ∧ Below w.heap.size w w'
end Go.Proofs.Ytoinjapmioldaaa

namespace Go.Proofs.Ytoinjapmioldaaa
open Go.RowKit
attribute [local go_sem ↓] Go.wp_at_zero Go.wp_at_succ

theorem cellsRow {B g cap : Nat} {l : List Ce} {w : World} (h : w.ownsRow B 56 2 (.slice (some ⟨g, 0, none⟩) l.length cap) l.length (cc l)) {j : Nat} (hj : j < l.length) :
    w.cell? ⟨g, j * 2, none⟩ = some (.int .u8 (l[j].1.toNat : Int)) ∧ w.cell? ⟨g, j * 2 + 1, none⟩ = some (.bool l[j].2) := by
  obtain ⟨e1, e2⟩ := cc_at l j _ (List.getElem?_eq_getElem hj)
  exact ⟨(h.cellAt (j * 2) (by omega)).trans e1, (h.cellAt (j * 2 + 1) (by omega)).trans e2⟩
theorem take_ne {l m : List Ce} {k : Nat} (h1 : k < l.length) (h2 : k < m.length) (h : l[k] ≠ m[k]) : (l == m) = false := by
  rw [beq_eq_false_iff_ne]
  rintro rfl
  exact h rfl
theorem take_ext {l m : List Ce} {n k : Nat} (hl : l.length = n) (hm : m.length = n) (hk : k = n) (h : l.take k = m.take k) : (l == m) = true := by
  subst hk
  rw [← hl, List.take_length, hl, ← hm, List.take_length] at h
  simp [h]
theorem take_step {l m : List Ce} {k : Nat} (h1 : k < l.length) (h2 : k < m.length) (h : l[k] = m[k]) (ht : l.take k = m.take k) : l.take (k + 1) = m.take (k + 1) := by
  rw [List.take_succ_eq_append_getElem h1, List.take_succ_eq_append_getElem h2, ht, h]
set_option maxHeartbeats 2000000 in
set_option maxRecDepth 100000 in
theorem equalS {B B' g cap g' cap' : Nat} {l m : List Ce} {w : World} (h : w.ownsRow B 56 2 (.slice (some ⟨g, 0, none⟩) l.length cap) l.length (cc l)) (h' : w.ownsRow B' 56 2 (.slice (some ⟨g', 0, none⟩) m.length cap') m.length (cc m)) (hl : l.length ≤ 4096) :
    Calls Try.prog 33 #[.slice (some ⟨g, 0, none⟩) l.length cap, .slice (some ⟨g', 0, none⟩) m.length cap'] w fun e w' => e = .returned (.bool (l == m)) ∧ Below w.heap.size w w' := by
  by_cases hlm : l.length = m.length
  · have H1 := Lib.hid h
    have H2 := Lib.hid h'
    obtain ⟨n, hn⟩ : ∃ n, n = l.length := ⟨_, rfl⟩
    rw [← hlm, ← hn]
    have HN : Hid (n = l.length ∧ n = m.length ∧ n ≤ 4096) := ⟨hn, by omega, by omega⟩
    have k0 : (n : Int) ≤ 4096 := by omega
    have k1 : ((n : Int) != n) = false := by simp
    obtain ⟨r, hr⟩ : ∃ r, r = (l == m) := ⟨_, rfl⟩
    rw [← hr]
    have HR := Lib.hid hr
    clear h h' hlm hl hn hr
    go_enter Try.func33, Try.ntmps33
    go_wp2_with fail
    go_loopw [5, 13] (fun _ i wr => ∃ k : Nat, k ≤ n ∧ i = .int .i64 k ∧ Hid (Below w.heap.size w wr) ∧ Hid (l.take k = m.take k)) (fun _ i _ => n - (intOf i).toNat)
    case atStart => exact ⟨0, Nat.zero_le _, rfl, Below.refl _ _, rfl⟩
    case round =>
      obtain ⟨k, hk, rfl, HB, HT⟩ := hrel
      rcases Nat.lt_or_ge k n with hlt | hge
      · have g1 : (k : Int) < n := by omega
        have hl1 : k < l.length := by have := HN.out; omega
        have hl2 : k < m.length := by have := HN.out; omega
        obtain ⟨c0, c1⟩ := cellsRow (ownsRow_later H1.out HB.out) hl1
        obtain ⟨d0, d1⟩ := cellsRow (ownsRow_later H2.out HB.out) hl2
        by_cases he : l[k] = m[k]
        · have HT2 : Hid (l.take (k + 1) = m.take (k + 1)) := take_step hl1 hl2 he HT.out
          rw [← he] at d0 d1
          obtain ⟨x, hx⟩ : ∃ x, x = l[k] := ⟨_, rfl⟩
          rw [← hx] at c0 c1 d0 d1
          clear he hl1 hl2 hx
          go_wp2_with fail
          go_quiet (fail)
          have HB2 := Lib.hid (below_drewN HB.out nq)
          go_wp2_with fail
          go_roundw
          case rel => exact ⟨k + 1, by omega, by go_num, HB2, HT2⟩
          case measure => simp [intOf]; omega
        · have HF : Hid (r = false) := HR.out.trans (take_ne hl1 hl2 he)
          obtain ⟨x, hx⟩ : ∃ x, x = l[k] := ⟨_, rfl⟩
          obtain ⟨y, hy⟩ : ∃ x, x = m[k] := ⟨_, rfl⟩
          rw [← hx] at c0 c1 he
          rw [← hy] at d0 d1 he
          clear hl1 hl2 hx hy
          by_cases h1 : x.1 = y.1
          · have h2 : y.2 = !x.2 := by
              rcases x with ⟨x1, x2⟩
              rcases y with ⟨y1, y2⟩
              simp only at h1 ⊢
              subst h1
              cases x2 <;> cases y2 <;> simp at he ⊢
            rw [← h1] at d0
            rw [h2] at d1
            obtain ⟨b, hb⟩ : ∃ b, b = x.2 := ⟨_, rfl⟩
            rw [← hb] at c1 d1
            clear he h1 h2 hb
            cases b
            all_goals
              simp only [Bool.not_false, Bool.not_true] at d1
              go_wp2_with fail
              go_quiet (fail)
              have HB2 := Lib.hid (below_drewN HB.out nq)
              go_wp2_with fail
              go_ret
              exact ⟨ret_b HF.out.symm, HB2.out⟩
          · have q1 : ¬ ((x.1.toNat : Int) = (y.1.toNat : Int)) := fun e => h1 (UInt8.toNat_inj.1 (by omega))
            clear he h1
            go_wp2_with fail
            go_quiet (fail)
            have HB2 := Lib.hid (below_drewN HB.out nq)
            go_wp2_with fail
            go_ret
            exact ⟨ret_b HF.out.symm, HB2.out⟩
      · have e : k = n := by omega
        subst e
        have HF : Hid (r = true) := HR.out.trans (take_ext HN.out.1.symm HN.out.2.1.symm rfl HT.out)
        go_wp2_with fail
        go_ret
        exact ⟨ret_b HF.out.symm, HB.out⟩
  · have k1 : ((l.length : Int) != m.length) = true := by rw [bne_iff_ne]; omega
    have HF : Hid ((l == m) = false) := by
      show _ = _
      rw [beq_eq_false_iff_ne]; rintro rfl; exact hlm rfl
    obtain ⟨r, hr⟩ : ∃ r, r = (l == m) := ⟨_, rfl⟩
    rw [← hr] at HF ⊢
    clear h h' hlm hl hr
    go_enter Try.func33, Try.ntmps33
    go_wp2_with fail
    go_ret
    exact ⟨ret_b HF.out.symm, Below.refl _ _⟩
set_option maxRecDepth 100000 in
theorem sameS {p g cap p' g' cap' : Nat} {s t : St} {w : World} (h : PSt p g cap s w) (h' : PSt p' g' cap' t w) :
    Calls Try.prog 14 #[.pointer (some ⟨p, 0, none⟩), .pointer (some ⟨p', 0, none⟩)] w fun e w' => e = .returned (.bool (s.c == t.c)) ∧ Below w.heap.size w w' := by
  have H1 := Lib.hid (allS h)
  have H2 := Lib.hid (allS h')
  have H3 := Lib.hid (equalS h.row h'.row h.few)
  obtain ⟨r, hr⟩ : ∃ r, r = (s.c == t.c) := ⟨_, rfl⟩
  rw [← hr] at H3 ⊢
  obtain ⟨n, hn⟩ : ∃ n, n = s.c.length := ⟨_, rfl⟩
  obtain ⟨m, hm⟩ : ∃ n, n = t.c.length := ⟨_, rfl⟩
  rw [← hn] at H1 H3
  rw [← hm] at H2 H3
  clear h h' hr hn hm
  go_enter Try.func14, Try.ntmps14
  go_wp2_with fail
  refine H1.out.mono ?_
  rintro e w1 ⟨rfl, rfl⟩
  go_wp2_with fail
  refine H2.out.mono ?_
  rintro e w1 ⟨rfl, rfl⟩
  go_wp2_with fail
  refine H3.out.mono ?_
  rintro e w1 ⟨rfl, hb⟩
  go_wp2_with fail
  go_ret
  exact ⟨rfl, hb⟩
end Go.Proofs.Ytoinjapmioldaaa

namespace Go.Proofs.Ytoinjapmioldaaa
open Go.RowKit
attribute [local go_sem ↓] Go.wp_at_zero Go.wp_at_succ

theorem cellsC : (Try.prog.underlying 54) = some (.slice (Try.prog.elem 54)) := by kernel_rfl
theorem sizeC (w : World) : (sizeOf (Try.prog.elem 54)).run Try.prog w = .ok 2 w := by kernel_rfl
theorem cut_c (g n c k : Nat) (h1 : k ≤ n) : ∃ A c', (∀ w, (Instr.slice 54 (.slice (some ⟨g, 0, none⟩) n c) (some (.int .i64 (k : Int))) none none).run Try.prog w = .ok (.slice A (n - k) c') w) ∧ (k < c → A = some ⟨g, k * 2, none⟩) := by
  by_cases h : k = c
  · refine ⟨some ⟨g, 0, none⟩, c - k, fun w => ?_, fun h2 => by omega⟩
    rw [run_slice_l w _ _ _ _ cellsC _ _ (by omega) (by omega), sizeC]
    show Result.ok (Go.sliced _ _ _ _ 2) w = _
    unfold Go.sliced
    rw [if_pos (by simp; omega)]
    simp
  · refine ⟨some ⟨g, k * 2, none⟩, c - k, fun w => ?_, fun _ => rfl⟩
    rw [run_slice_l w _ _ _ _ cellsC _ _ (by omega) (by omega), sizeC]
    show Result.ok (Go.sliced _ _ _ _ 2) w = _
    unfold Go.sliced
    rw [if_neg (by simp; omega)]
    simp [add0]
theorem PSt.die {p g cap : Nat} {s : St} {w : World} (h : PSt p g cap s w) : PSt p g cap { s with dead := true } (w.setCell ⟨p, 1, none⟩ (.bool true)) ∧ Chg [p] w (w.setCell ⟨p, 1, none⟩ (.bool true)) := by
  have hc : Chg [p] w (w.setCell ⟨p, 1, none⟩ (.bool true)) := (Chg.refl _ _).set (by simp) _ _
  exact ⟨⟨h.blk.set 1 _, hc.owns h.row (fun k hk => by simp [Value.ownBlock] at hk; have := h.ne; simp; omega), h.ne, h.pos, h.few, h.cap, h.fu⟩, hc⟩
theorem PSt.burn {p g cap : Nat} {s : St} {w : World} (h : PSt p g cap s w) (f : Int) (hf : f ≤ 9223372036854775807) : PSt p g cap { s with fuse := f } (w.setCell ⟨p, 2, none⟩ (.int .i64 f)) ∧ Chg [p] w (w.setCell ⟨p, 2, none⟩ (.int .i64 f)) := by
  have hc : Chg [p] w (w.setCell ⟨p, 2, none⟩ (.int .i64 f)) := (Chg.refl _ _).set (by simp) _ _
  exact ⟨⟨h.blk.set 2 _, hc.owns h.row (fun k hk => by simp [Value.ownBlock] at hk; have := h.ne; simp; omega), h.ne, h.pos, h.few, h.cap, hf⟩, hc⟩
theorem wr_no {s : St} {a : Int} {b : List UInt8} (h : redE s a b.length ≠ 0) : wrE s a b = redE s a b.length ∧ wrS s a b = s := by
  unfold redE at h ⊢
  unfold wrE wrS
  by_cases h1 : inn s.c.length a b.length = true
  · rw [if_pos h1] at h ⊢
    rw [if_pos h1]
    by_cases h2 : s.dead = true
    · rw [if_pos h2, if_pos h2, if_neg (by rw [h2]; simp)]; exact ⟨rfl, rfl⟩
    · rw [if_neg h2] at h; exact absurd rfl h
  · rw [if_neg h1, if_neg h1, if_neg (fun h3 => h1 h3.1)]; exact ⟨rfl, rfl⟩
theorem wr_yes {s : St} {a : Int} {b : List UInt8} (h : redE s a b.length = 0) : 0 ≤ a ∧ a.toNat + b.length ≤ s.c.length ∧ s.dead = false ∧ wrE s a b = pe (wgo b a.toNat s) ∧ wrS s a b = wgo b a.toNat s := by
  unfold redE at h
  unfold wrE wrS pe
  by_cases h1 : inn s.c.length a b.length = true
  · rw [if_pos h1] at h
    rw [if_pos h1]
    cases h2 : s.dead with
    | true => rw [h2] at h; simp at h
    | false =>
      have := inn_iff.1 h1
      refine ⟨this.1, by omega, rfl, by simp, by rw [if_pos ⟨h1, rfl⟩]⟩
  · rw [if_neg h1] at h; simp at h
theorem wgo_at {b : List UInt8} {i k : Nat} {s : St} (hi : i < b.length) : wgo (b.drop i) k s = if s.fuse = 0 then s.tear k else wgo (b.drop (i + 1)) (k + 1) (s.step k b[i]) := by
  rw [List.drop_eq_getElem_cons hi]; rfl

/-- What Write leaves. -/
def WrA (p g cap : Nat) (s : St) (a : Int) (b : List UInt8) (w : World) (e : Ending) (w' : World) : Prop :=
  e = .returned (.int .i64 (wrE s a b)) ∧ PSt p g cap (wrS s a b) w' ∧ Chg [p, g] w w'
set_option maxHeartbeats 4000000 in
set_option maxRecDepth 100000 in
theorem writeS {p g cap : Nat} {s : St} {w : World} (h : PSt p g cap s w) (a : Int) (ha : a ≤ 9223372036854775807) (v : Value) (b : List UInt8) (hv : ∀ W, Chg [p, g] w W → Bytes W v b) :
    Calls Try.prog 26 #[.pointer (some ⟨p, 0, none⟩), .int .i64 a, v] w (WrA p g cap s a b w) := by
  obtain ⟨va, vc, rfl⟩ := (hv w (Chg.refl _ _)).form
  have H := Lib.hid (readyS h a b.length ha)
  by_cases hr : redE s a b.length = 0
  · obtain ⟨h0, h1, h2, h3, h4⟩ := wr_yes hr
    obtain ⟨k, rfl⟩ := Int.eq_ofNat_of_zero_le h0
    simp only [Int.toNat_natCast] at h1 h3 h4
    obtain ⟨A, c', hcut, hA⟩ := cut_c g s.c.length cap k (by omega)
    obtain ⟨c0, c1, c2, c3, c4⟩ := h.cells
    have HP := Lib.hid h
    have HV := Lib.hid hv
    rw [hr] at H
    obtain ⟨R, hR⟩ : ∃ R, R = wgo b k s := ⟨_, rfl⟩
    unfold WrA
    rw [h3, h4, ← hR]
    have HR := Lib.hid hR.symm
    have HD := Lib.hid h2
    have HA : Hid (k < cap → A = some ⟨g, k * 2, none⟩) := hA
    obtain ⟨n, hn⟩ : ∃ n, n = s.c.length := ⟨_, rfl⟩
    have HL : Hid (n = s.c.length ∧ k + b.length ≤ n ∧ n ≤ cap ∧ n ≤ 4096) := ⟨hn, by omega, by have := h.cap; omega, by have := h.few; omega⟩
    rw [← hn] at c0 hcut
    have g0 : (k : Int) + b.length ≤ n := by omega
    have g9 : (n : Int) ≤ 4096 := by have := h.few; omega
    clear h hv hr h0 h1 h2 h3 h4 hR hA hn ha
    go_enter Try.func26, Try.ntmps26
    go_wp2_with fail
    go_step3
    go_wp2_with fail
    refine H.out.mono ?_
    rintro e w1 ⟨rfl, rfl⟩
    go_wp2_with fail
    go_step3
    go_wp2_with fail
    clear c0 c1 c2 c3 c4 hcut H
    go_loopw [27] (fun x wr => ∃ (i : Nat) (si : St), i ≤ b.length ∧ x = .int .i64 i ∧ Hid (PSt p g cap si wr) ∧ Hid (Chg [p, g] w wr) ∧ Hid (si.dead = false) ∧ Hid (si.c.length = n) ∧ Hid (wgo (b.drop i) (k + i) si = R)) (fun x _ => b.length - (intOf x).toNat)
    case atStart => exact ⟨0, s, Nat.zero_le _, rfl, HP.out, Chg.refl _ _, HD.out, HL.out.1.symm, by rw [List.drop_zero, Nat.add_zero]; exact HR.out⟩
    case round =>
      obtain ⟨i, si, hi, rfl, HP, HC, HD, HN, HW⟩ := hrel
      rcases Nat.lt_or_ge i b.length with hlt | hge
      · have g1 : (i : Int) < b.length := by omega
        have hw := HW.out
        rw [wgo_at hlt] at hw
        obtain ⟨bl, bo, hva, hbl, hcell⟩ := (show Bytes wr (.slice va b.length vc) b from HV.out _ HC.out).at hlt
        have hA := HA.out (by have := HL.out; omega)
        subst hva hA
        have hki : k + i < si.c.length := by have := HL.out; have := HN.out; omega
        obtain ⟨d0, d1, hfg⟩ := HP.out.at (List.getElem?_eq_getElem hki)
        obtain ⟨c0, c1, c2, c3, c4⟩ := HP.out.cells
        have hfp : ∀ j, wr.frozen? ⟨p, j, none⟩ = false := fun j => HP.out.blk.frozen j
        rw [show (k + i) * 2 = k * 2 + i * 2 by omega] at d0 d1
        have g2 : (i : Int) < (n - k : Nat) := by have := HL.out; omega
        have hnl : ((n - k : Nat) : Int) = n - k := by have := HL.out; omega
        have hpg := HP.out.ne
        have hgp : g ≠ p := fun e => hpg e.symm
        obtain ⟨x, hx⟩ : ∃ x, x = b[i] := ⟨_, rfl⟩
        rw [← hx] at hcell hw
        obtain ⟨y, hy⟩ : ∃ y, y = si.c[k + i] := ⟨_, rfl⟩
        rw [← hy] at d0 d1
        clear hy hx
        have HKI := Lib.hid hki
        by_cases hf : si.fuse = 0
        · rw [if_pos hf] at hw
          have k1 : (si.fuse == 0) = true := by simp [hf]
          rw [HN.out] at c0
          obtain ⟨q1, q2⟩ := HP.out.put (k + i) (si.by_, si.torn) hki
          obtain ⟨q3, q4⟩ := q1.die
          rw [show (k + i) * 2 = k * 2 + i * 2 by omega] at q1 q2 q3 q4
          have hcp : Chg [p, g] wr _ := (q2.mono (by simp)).trans (q4.mono (by simp))
          have q5 : PSt p g cap (si.tear (k + i)) _ := q3
          rw [hw] at q5
          have HZ := Lib.hid q5
          have HZC := Lib.hid (HC.out.trans hcp)
          clear hlt hki hf q1 q2 q3 q4 q5 hw hcp
          go_wp2_with fail
          refine (powerS HZ.out).mono ?_
          rintro e w2 ⟨rfl, rfl⟩
          go_wp2_with fail
          rw [Exit.noGoto_ret]
          go_ret
          exact ⟨rfl, HZ.out, HZC.out⟩
        · rw [if_neg hf] at hw
          have k1 : (si.fuse == 0) = false := by simp [hf]
          rw [HN.out] at c0
          by_cases hp : 0 < si.fuse
          · have k2 : decide (0 < si.fuse) = true := by simp [hp]
            have hfu := HP.out.fu
            have e1 : wrap64 (si.fuse - 1) = si.fuse - 1 := IntWalk.wrap64_in _ ⟨by omega, by omega⟩
            obtain ⟨q1, q2⟩ := HP.out.burn (si.fuse - 1) (by omega)
            obtain ⟨q3, q4⟩ := q1.put (k + i) (x, false) hki
            rw [show (k + i) * 2 = k * 2 + i * 2 by omega] at q3 q4
            have hcp : Chg [p, g] wr _ := (q2.mono (by simp)).trans (q4.mono (by simp))
            have es : si.step (k + i) x = { si with c := si.c.set (k + i) (x, false), fuse := si.fuse - 1 } := by unfold St.step; rw [if_pos hp]
            have q5 := (show PSt p g cap { si with c := si.c.set (k + i) (x, false), fuse := si.fuse - 1 } _ from q3)
            rw [← es] at q5
            have HZ := Lib.hid q5
            have HZC := Lib.hid (HC.out.trans hcp)
            have HZW := Lib.hid hw
            clear hki hf hp q1 q2 q3 q4 q5 hw hcp hfu es
            go_wp2_with fail
            go_roundw
            case rel => exact ⟨i + 1, si.step (k + i) x, by omega, by go_num, HZ, HZC, HD.out, by show _ = _; unfold St.step; simp only [List.length_set]; exact HN.out, by rw [← Nat.add_assoc]; exact HZW.out⟩
            case measure => simp [intOf]; omega
          · have k2 : decide (0 < si.fuse) = false := by simp; omega
            obtain ⟨q3, q4⟩ := HP.out.put (k + i) (x, false) hki
            rw [show (k + i) * 2 = k * 2 + i * 2 by omega] at q3 q4
            have hcp : Chg [p, g] wr _ := q4.mono (by simp)
            have es : si.step (k + i) x = { si with c := si.c.set (k + i) (x, false) } := by unfold St.step; rw [if_neg hp]
            have q5 := (show PSt p g cap { si with c := si.c.set (k + i) (x, false) } _ from q3)
            rw [← es] at q5
            have HZ := Lib.hid q5
            have HZC := Lib.hid (HC.out.trans hcp)
            have HZW := Lib.hid hw
            clear hki hf hp q3 q4 q5 hw hcp es
            go_wp2_with fail
            go_roundw
            case rel => exact ⟨i + 1, si.step (k + i) x, by omega, by go_num, HZ, HZC, HD.out, by show _ = _; unfold St.step; simp only [List.length_set]; exact HN.out, by rw [← Nat.add_assoc]; exact HZW.out⟩
            case measure => simp [intOf]; omega
      · have e : i = b.length := by omega
        have hw := HW.out
        rw [List.drop_eq_nil_of_le hge] at hw
        have hw2 : si = R := hw
        subst hw2
        have g1 : ¬ (i : Int) < b.length := by omega
        clear hw
        go_wp2_with fail
        refine (powerS HP.out).mono ?_
        rintro e w2 ⟨rfl, rfl⟩
        go_wp2_with fail
        rw [Exit.noGoto_ret]
        go_ret
        exact ⟨rfl, HP.out, HC.out⟩
  · have hr2 := wr_no hr
    unfold WrA
    rw [hr2.1, hr2.2]
    have HP := Lib.hid h
    obtain ⟨x, hx⟩ : ∃ x, x = redE s a b.length := ⟨_, rfl⟩
    rw [← hx] at H hr ⊢
    have hx2 : (x != 0) = true := by simpa using hr
    clear hr hr2 hx ha hv h
    go_enter Try.func26, Try.ntmps26
    go_wp2_with fail
    go_step3
    go_wp2_with fail
    refine H.out.mono ?_
    rintro e w1 ⟨rfl, rfl⟩
    go_wp2_with fail
    rw [Exit.noGoto_ret]
    go_ret
    exact ⟨rfl, HP.out, Chg.refl _ _⟩
end Go.Proofs.Ytoinjapmioldaaa

namespace Go.Proofs.Ytoinjapmioldaaa
open Go.RowKit
attribute [local go_sem ↓] Go.wp_at_zero Go.wp_at_succ

theorem cut_c2 (g n c k m q : Nat) (hq : q = k + m) (h1 : q ≤ n) (h2 : n ≤ c) : ∃ A c', (∀ w, (Instr.slice 54 (.slice (some ⟨g, 0, none⟩) n c) (some (.int .i64 (k : Int))) (some (.int .i64 (q : Int))) none).run Try.prog w = .ok (.slice A m c') w) ∧ (k < c → A = some ⟨g, k * 2, none⟩) := by
  by_cases h : k = c
  · refine ⟨some ⟨g, 0, none⟩, c - k, fun w => ?_, fun h2 => by omega⟩
    rw [run_slice_lh w _ _ _ _ cellsC _ _ _ _ (by omega) (by omega) (by omega), sizeC]
    show Result.ok (Go.sliced _ _ _ _ 2) w = _
    unfold Go.sliced
    rw [if_pos (by simp; omega)]
    simp; omega
  · refine ⟨some ⟨g, k * 2, none⟩, c - k, fun w => ?_, fun _ => rfl⟩
    rw [run_slice_lh w _ _ _ _ cellsC _ _ _ _ (by omega) (by omega) (by omega), sizeC]
    show Result.ok (Go.sliced _ _ _ _ 2) w = _
    unfold Go.sliced
    rw [if_neg (by simp; omega)]
    simp [add0]; omega
theorem bv_put (l : List UInt8) (i : Nat) (x : UInt8) : (bv l).set i (.int .u8 (x.toNat : Int)) = bv (l.set i x) := by unfold bv; rw [List.map_set]
theorem OwnB.put {w : World} {B g cap : Nat} {l : List UInt8} (h : OwnB w B (.slice (some ⟨g, 0, none⟩) l.length cap) l) (i : Nat) (x : UInt8) :
    OwnB (w.setCell ⟨g, i, none⟩ (.int .u8 (x.toNat : Int))) B (.slice (some ⟨g, 0, none⟩) l.length cap) (l.set i x) := by
  have := (World.ownsRow.stored h i (.int .u8 (x.toNat : Int))).1
  rw [bv_put l i x] at this
  show World.ownsRow _ _ _ _ _ _ _
  rw [List.length_set]; exact this
/-- What is read so far, of what is read. -/
def rdP (l : List Ce) (i : Nat) : List UInt8 := (l.take i).map (fun c => c.1) ++ List.replicate (l.length - i) 0
theorem rdP_length {l : List Ce} {i : Nat} (h : i ≤ l.length) : (rdP l i).length = l.length := by simp [rdP]; omega
theorem rdP_zero (l : List Ce) : rdP l 0 = List.replicate l.length 0 := by simp [rdP]
theorem rdP_full (l : List Ce) : rdP l l.length = l.map (fun c => c.1) := by simp [rdP]
theorem rdP_set {l : List Ce} {i : Nat} (h : i < l.length) : (rdP l i).set i l[i].1 = rdP l (i + 1) := by
  unfold rdP
  rw [List.take_succ_eq_append_getElem h, List.map_append, List.set_append_right _ _ (by simp; omega)]
  have e : ((l.take i).map fun c => c.1).length = i := by simp; omega
  rw [e, Nat.sub_self, show l.length - i = (l.length - (i + 1)) + 1 by omega, List.replicate_succ]
  simp
theorem any_step {l : List Ce} {i : Nat} (h : i < l.length) (h2 : (l.take i).any (fun c => c.2) = false) (h3 : l[i].2 = false) : (l.take (i + 1)).any (fun c => c.2) = false := by
  rw [List.take_succ_eq_append_getElem h, List.any_append, h2]
  simp [h3]
theorem any_hit {l : List Ce} {i : Nat} (h : i < l.length) (h3 : l[i].2 = true) : l.any (fun c => c.2) = true := List.any_eq_true.2 ⟨l[i], List.getElem_mem h, h3⟩
theorem rd_no {s : St} {a n : Int} (h : redE s a n ≠ 0) : rdE s a n = redE s a n ∧ rdB s a n = [] := by
  have e : rdE s a n = redE s a n := by
    unfold redE at h ⊢
    unfold rdE
    by_cases h1 : inn s.c.length a n = true
    · rw [if_pos h1] at h ⊢
      rw [if_pos h1]
      by_cases h2 : s.dead = true
      · rw [if_pos h2, if_pos h2]
      · rw [if_neg h2] at h; exact absurd rfl h
    · rw [if_neg h1, if_neg h1]
  exact ⟨e, by unfold rdB; rw [if_neg (by rw [e]; exact h)]⟩
/-- What is answered, of what lies there. -/
def ndE (l : List Ce) : Int := if l.any (fun c => c.2) = true then 8 else 0
def ndB (l : List Ce) : List UInt8 := if l.any (fun c => c.2) = true then [] else l.map (fun c => c.1)
theorem rd_yes {s : St} {a n : Int} (h : redE s a n = 0) : 0 ≤ a ∧ 0 ≤ n ∧ a.toNat + n.toNat ≤ s.c.length ∧ s.dead = false ∧ (rdL s a n).length = n.toNat ∧ rdE s a n = ndE (rdL s a n) ∧ rdB s a n = ndB (rdL s a n) := by
  unfold redE at h
  unfold rdB rdE ndE ndB
  by_cases h1 : inn s.c.length a n = true
  · rw [if_pos h1] at h
    rw [if_pos h1]
    cases h2 : s.dead with
    | true => rw [h2] at h; simp at h
    | false =>
      have := inn_iff.1 h1
      refine ⟨this.1, this.2.1, by omega, rfl, by simp [rdL]; omega, by simp, ?_⟩
      cases hx : (rdL s a n).any (fun c => c.2) <;> simp
  · rw [if_neg h1] at h; simp at h
/-- What Read leaves. -/
def RdA (s : St) (a n : Int) (w : World) (e : Ending) (w' : World) : Prop :=
  ∃ v, e = .returned (.tuple #[v, .int .i64 (rdE s a n)]) ∧ Bytes w' v (rdB s a n) ∧ Below w.heap.size w w'
set_option maxHeartbeats 4000000 in
set_option maxRecDepth 100000 in
theorem readS {p g cap : Nat} {s : St} {w : World} (h : PSt p g cap s w) (a n : Int) (ha : a ≤ 9223372036854775807) :
    Calls Try.prog 21 #[.pointer (some ⟨p, 0, none⟩), .int .i64 a, .int .i64 n] w (RdA s a n w) := by
  have H := Lib.hid (readyS h a n ha)
  by_cases hr : redE s a n = 0
  · obtain ⟨h0, h1, h2, h3, h4, h5, h6⟩ := rd_yes hr
    obtain ⟨k, rfl⟩ := Int.eq_ofNat_of_zero_le h0
    obtain ⟨m, rfl⟩ := Int.eq_ofNat_of_zero_le h1
    simp only [Int.toNat_natCast] at h2 h4
    obtain ⟨q, hq⟩ : ∃ q, q = k + m := ⟨_, rfl⟩
    obtain ⟨A, c', hcut, hA⟩ := cut_c2 g s.c.length cap k m q hq (by omega) h.cap
    obtain ⟨w1, hmk, hown, hb1⟩ := make_zeros m w (by have := h.few; omega)
    have h' := h.later hb1
    obtain ⟨c0, c1, c2, c3, c4⟩ := h'.cells
    rw [hr] at H
    obtain ⟨L, hL⟩ : ∃ L, L = rdL s k m := ⟨_, rfl⟩
    have hat : ∀ i (hi : i < L.length), s.c[k + i]? = some L[i] := fun i hi => by
      subst hL
      have h7 : i < (s.c.drop k).length ∧ i < m := by simp only [rdL, Int.toNat_natCast, List.length_take, List.length_drop] at hi; simp; omega
      have e2 : (rdL s k m)[i]? = s.c[k + i]? := by simp only [rdL, Int.toNat_natCast, List.getElem?_take, List.getElem?_drop]; rw [if_pos h7.2]
      rw [← e2, List.getElem?_eq_getElem hi]
    unfold RdA
    rw [h5, h6]
    rw [← hL] at h4 ⊢
    have HP : Hid (PSt p g cap s w) := h
    have HAT := Lib.hid hat
    have HA : Hid (k < cap → A = some ⟨g, k * 2, none⟩) := hA
    have HL : Hid (L.length = m ∧ k + m ≤ s.c.length ∧ s.c.length ≤ cap ∧ s.c.length ≤ 4096) := ⟨h4, h2, h.cap, h.few⟩
    obtain ⟨N, hN⟩ : ∃ N, N = s.c.length := ⟨_, rfl⟩
    rw [← hN] at c0 hcut
    have e1 : wrap64 ((k : Int) + m) = (q : Int) := by rw [IntWalk.wrap64_in _ ⟨by omega, by have := h.few; omega⟩]; omega
    have HB1 := Lib.hid hb1
    have HO : Hid (OwnB w1 w.heap.size (.slice (some ⟨w.heap.size, 0, none⟩) m m) (rdP L 0)) := by
      show OwnB _ _ _ _
      rw [rdP_zero, h4]; exact hown
    have g9 : (m : Int) ≤ 4096 := by have := h.few; omega
    clear h h' hr h0 h1 h2 h3 h4 h5 h6 hA hat hb1 hown hL hN hq ha c1 c2 c3 c4
    go_enter Try.func21, Try.ntmps21
    go_wp2_with fail
    refine H.out.mono ?_
    rintro e w2 ⟨rfl, rfl⟩
    go_wp2_with fail
    clear c0 hcut e1 hmk H
    go_loopw [31] (fun x wr => ∃ (i : Nat), i ≤ m ∧ x = .int .i64 i ∧ Hid (Below w.heap.size w wr) ∧ Hid (OwnB wr w.heap.size (.slice (some ⟨w.heap.size, 0, none⟩) m m) (rdP L i)) ∧ Hid ((L.take i).any (fun c => c.2) = false)) (fun x _ => m - (intOf x).toNat)
    case atStart => exact ⟨0, Nat.zero_le _, rfl, HB1.out, HO.out, rfl⟩
    case round =>
      obtain ⟨i, hi, rfl, HB, HO, HN⟩ := hrel
      rcases Nat.lt_or_ge i m with hlt | hge
      · have g1 : (i : Int) < m := by omega
        have hiL : i < L.length := by have := HL.out; omega
        have hA := HA.out (by have := HL.out; omega)
        subst hA
        have hS := HP.out.later HB.out
        obtain ⟨d0, d1, hfg⟩ := hS.at (HAT.out i hiL)
        rw [show (k + i) * 2 = k * 2 + i * 2 by omega] at d0 d1
        obtain ⟨x, hx⟩ : ∃ x, x = L[i] := ⟨_, rfl⟩
        rw [← hx] at d0 d1
        obtain ⟨u, hu⟩ : ∃ u, u = x.2 := ⟨_, rfl⟩
        rw [← hu] at d1
        have HXO : Hid (i < L.length ∧ L[i]? = some x) := ⟨hiL, by rw [List.getElem?_eq_getElem hiL, hx]⟩
        have HU := Lib.hid hu
        clear hiL hx hu hS
        cases u
        · obtain ⟨O, hO⟩ : ∃ O, O = (Obj.cells #[.int .u8 (x.1.toNat : Int), .bool false] 56) := ⟨_, rfl⟩
          have ho : OwnB (wr.alloc O) w.heap.size (.slice (some ⟨w.heap.size, 0, none⟩) (rdP L i).length m) (rdP L i) := by rw [rdP_length (by have := HL.out; omega), HL.out.1]; exact OwnB.alloc HO.out O
          have hl : (rdP L i).length = m := by rw [rdP_length (by have := HL.out; omega), HL.out.1]
          have hfo : (wr.alloc O).frozen? ⟨w.heap.size, i, none⟩ = false := World.ownsRow.frozenAt ho i
          have hco : ∃ y, (wr.alloc O).cell? ⟨w.heap.size, i, none⟩ = some y := by
            refine ⟨.int .u8 ((rdP L i)[i]'(by omega)).toNat, ?_⟩
            rw [World.ownsRow.cellAt ho i (by omega)]
            simp [bv, List.getElem?_eq_getElem (show i < (rdP L i).length by omega)]
          obtain ⟨y, hco⟩ := hco
          have ho2 := OwnB.put ho i x.1
          rw [hl] at ho2
          have HO2 : Hid (OwnB ((wr.alloc O).setCell ⟨w.heap.size, i, none⟩ (.int .u8 (x.1.toNat : Int))) w.heap.size (.slice (some ⟨w.heap.size, 0, none⟩) m m) (rdP L (i + 1))) := by
            have hxo := HXO.out
            have e : L[i] = x := by have := hxo.2; rw [List.getElem?_eq_getElem hxo.1] at this; exact Option.some.inj this
            rw [← rdP_set hxo.1, e]; exact ho2
          have HN2 : Hid ((L.take (i + 1)).any (fun c => c.2) = false) := by
            have hxo := HXO.out
            have e : L[i] = x := by have := hxo.2; rw [List.getElem?_eq_getElem hxo.1] at this; exact Option.some.inj this
            exact any_step hxo.1 HN.out (by rw [e]; exact HU.out.symm)
          have HB2 : Hid (Below w.heap.size w ((wr.alloc O).setCell ⟨w.heap.size, i, none⟩ (.int .u8 (x.1.toNat : Int)))) := (HB.out.alloc HB.out.size O).setCell (p := ⟨w.heap.size, i, none⟩) (Nat.le_refl _) _
          subst hO
          clear ho ho2 hl
          go_wp2_with fail
          go_roundw
          case rel => exact ⟨i + 1, by omega, by go_num, HB2, HO2, HN2⟩
          case measure => simp [intOf]; omega
        · have hh : L.any (fun c => c.2) = true := by
            have hxo := HXO.out
            have e : L[i] = x := by have := hxo.2; rw [List.getElem?_eq_getElem hxo.1] at this; exact Option.some.inj this
            exact any_hit hxo.1 (by rw [e]; exact HU.out.symm)
          have HH := Lib.hid hh
          obtain ⟨O, hO⟩ : ∃ O, O = (Obj.cells #[.int .u8 (x.1.toNat : Int), .bool true] 56) := ⟨_, rfl⟩
          have HB2 : Hid (Below w.heap.size w (wr.alloc O)) := HB.out.alloc HB.out.size O
          subst hO
          clear hh
          go_wp2_with fail
          go_ret2
          exact ⟨_, by unfold ndE; rw [if_pos HH.out]; rfl, by unfold ndB; rw [if_pos HH.out]; exact Bytes.nil _ _ _, HB2.out⟩
      · have e : i = m := by omega
        subst e
        have hn : ¬ L.any (fun c => c.2) = true := by
          have := HN.out
          rw [← HL.out.1, List.take_length] at this
          rw [this]; simp
        have HH := Lib.hid hn
        have g1 : ¬ (i : Int) < i := by omega
        clear hn
        go_wp2_with fail
        go_ret2
        refine ⟨_, by unfold ndE; rw [if_neg HH.out]; rfl, ?_, HB.out⟩
        unfold ndB
        rw [if_neg HH.out]
        have h := OwnB.bytes HO.out
        rw [← HL.out.1, rdP_full] at h
        rw [← HL.out.1]
        exact h
  · obtain ⟨h1, h2⟩ := rd_no hr
    unfold RdA
    rw [h1, h2]
    obtain ⟨x, hx⟩ : ∃ x, x = redE s a n := ⟨_, rfl⟩
    rw [← hx] at H hr ⊢
    have hx2 : (x != 0) = true := by simpa using hr
    clear hr h1 h2 hx ha h
    go_enter Try.func21, Try.ntmps21
    go_wp2_with fail
    refine H.out.mono ?_
    rintro e w1 ⟨rfl, rfl⟩
    go_wp2_with fail
    go_ret2
    exact ⟨_, rfl, Bytes.nil _ _ _, Below.refl _ _⟩
end Go.Proofs.Ytoinjapmioldaaa
