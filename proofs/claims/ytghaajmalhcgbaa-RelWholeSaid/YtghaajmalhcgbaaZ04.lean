/- The walk of Take.
   The walks of Send and Take. -/
import Derived.Test.YtghaajmalhcgbaaZ03

set_option linter.unusedSimpArgs false
set_option linter.unusedVariables false
namespace Go.Proofs.Ytghaajmalhcgbaa
open Go.RowKit
attribute [local go_sem ↓] Go.wp_at_zero Go.wp_at_succ

/-- What Send leaves. -/
def SnA (p g : Nat) (X : List Nat) (s : Sm) (b : List UInt8) (w : World) (e : Ending) (w' : World) : Prop :=
  e = .returned (.tuple #[.int .u64 ((s.ac + s.line.length + 1 : Nat) : Int), .int .i64 0]) ∧ ∃ g', PSm p g' X (sendM s b) w' ∧ (g' = g ∨ w.heap.size ≤ g') ∧ Chg [p, g] w w'
set_option maxHeartbeats 2000000 in
set_option maxRecDepth 100000 in
theorem sendLong {p n : Nat} {s : Sm} {w : World} (h : SmB p n s w) (a : Option Addr) (m c : Nat) (hm : (m : Int) ≤ 9223372036854775807) (hl : 1024 < m) :
    Calls Try.prog 31 #[.pointer (some ⟨p, 0, none⟩), .slice a m c] w fun e w' => e = .returned (.tuple #[.int .u64 0, .int .i64 3]) ∧ w = w' := by
  have H := readyM h a m c hm
  unfold rdyE at H
  rw [if_pos hl] at H
  have H := Lib.hid H
  clear h hm hl
  go_enter Try.func31, Try.ntmps31
  go_wp2_with fail
  refine H.out.mono ?_
  rintro e w1 ⟨rfl, rfl⟩
  go_wp2_with fail
  go_ret2
  exact ⟨rfl, rfl⟩
set_option maxHeartbeats 4000000 in
set_option maxRecDepth 100000 in
theorem sendC {p g : Nat} {X : List Nat} {s : Sm} {w : World} {N : Nat} (h : PSm p g X s w) (ok : s.Ok N) (hX : ∀ k ∈ X, k < w.heap.size) (v : Value) (b : List UInt8) (hv : Bytes w v b) (hl : b.length ≤ 1024) (hN : s.line.length < 65536) :
    Calls Try.prog 31 #[.pointer (some ⟨p, 0, none⟩), v] w (SnA p g X s b w) := by
  obtain ⟨va, vc, rfl⟩ := hv.form
  have H := readyM (h.smB ok.ag1) va b.length vc (by omega)
  unfold rdyE at H
  rw [if_neg (by omega)] at H
  have H := Lib.hid H
  obtain ⟨x, hb, hln⟩ := h
  obtain ⟨a, c, rfl⟩ := hln.form
  have b3 := ok.few
  have b4 := ok.NN
  obtain ⟨n, hn⟩ : ∃ n, n = s.line.length := ⟨_, rfl⟩
  have HLN := Lib.hid hln
  have HBK := Lib.hid hb
  have HV : Hid (Bytes w (.slice va b.length vc) b) := hv
  have HX := Lib.hid hX
  have HL := Lib.hid hl
  have HLB := Lib.hid hl
  have HB : Hid (s.ac + n ≤ 1000000 ∧ n < 65536) := ⟨by omega, by omega⟩
  have HN := Lib.hid hn
  have c1 := BlkAt.cell hb (j := 1) rfl
  rw [← hn] at HLN HBK c1
  have k1 : ((n : Int) == 65536) = false := by rw [beq_eq_false_iff_ne]; omega
  have hlt := hb.lt
  have HLT := Lib.hid hlt
  obtain ⟨m, hm⟩ : ∃ m, m = b.length := ⟨_, rfl⟩
  rw [← hm] at H HV HL ⊢
  have HM := Lib.hid hm
  clear hb hln hn hl hX hv ok b3 b4 hN hlt hm
  go_enter Try.func31, Try.ntmps31
  go_wp2_with fail
  refine H.out.mono ?_
  rintro e w1 ⟨rfl, rfl⟩
  go_wp2_with fail
  refine wp_region_last (S := fun w' => Chg [g] w w' ∧ BlkAt 137 p (pcs (.slice a n c) s) w') (by simp only [List.pop_toArray, List.dropLast]; exact rfl) (by kernel_rfl) (by kernel_rfl) ⟨(Chg.refl _ _).drew, HBK.out⟩ (fun hHeld => ?_)
  (refine wpAnyH_take (i := 0) (v := ?_) rfl (by kernel_rfl) (by kernel_rfl) (by kernel_rfl) (fun _ _ _ h => h) (Or.inl ⟨by rfl, ?_⟩) hHeld ?_; rotate_left; (focus (intro w hSw; (try dsimp only at hSw); go_simp; try with_reducible rfl)); (try simp only [Act.put, List.setIfInBounds_toArray, List.set_cons_zero, List.set_cons_succ, List.getElem_toArray, List.getElem_cons_zero])); (refine wpAnyH_take (i := 1) (v := ?_) rfl (by kernel_rfl) (by kernel_rfl) (by kernel_rfl) (fun _ _ _ h => h) (Or.inl ⟨by rfl, ?_⟩) hHeld ?_; rotate_left; (focus (intro w hSw; (try dsimp only at hSw); go_simp; try with_reducible rfl)); (try simp only [Act.put, List.setIfInBounds_toArray, List.set_cons_zero, List.set_cons_succ, List.getElem_toArray, List.getElem_cons_zero, List.getElem_cons_succ])); (refine wpAnyH_take (i := 2) (v := ?_) rfl (by kernel_rfl) (by kernel_rfl) (by kernel_rfl) (fun _ _ _ h => h) (Or.inl ⟨by rfl, ?_⟩) hHeld ?_; rotate_left; (focus (intro w hSw; (try dsimp only at hSw); go_simp; try with_reducible rfl)); (try simp only [Act.put, List.setIfInBounds_toArray, List.set_cons_zero, List.set_cons_succ, List.getElem_toArray, List.getElem_cons_zero, List.getElem_cons_succ])); (refine wpAnyH_take (i := 3) (v := ?_) rfl (by kernel_rfl) (by kernel_rfl) (by kernel_rfl) (fun _ _ _ h => h) (Or.inl ⟨by rfl, ?_⟩) hHeld ?_; rotate_left; (focus (intro w hSw; (try dsimp only at hSw); go_simp; try with_reducible rfl)); (try simp only [Act.put, List.setIfInBounds_toArray, List.set_cons_zero, List.set_cons_succ, List.getElem_toArray, List.getElem_cons_zero, List.getElem_cons_succ]))
  (refine wpAnyH_take (i := 4) (v := ?_) rfl (by kernel_rfl) (by kernel_rfl) (by kernel_rfl) (fun _ _ _ h => h) (Or.inl ⟨by rfl, ?_⟩) hHeld ?_; rotate_left; (focus (intro w hSw; (try dsimp only at hSw); go_simp; (have hcc := BlkAt.cell hSw.2 (j := 1) rfl; go_simp; try with_reducible rfl))); (try simp only [Act.put, List.setIfInBounds_toArray, List.set_cons_zero, List.set_cons_succ, List.getElem_toArray, List.getElem_cons_zero, List.getElem_cons_succ]))
  (refine wpAnyH_take (i := 5) (v := ?_) rfl (by kernel_rfl) (by kernel_rfl) (by kernel_rfl) (fun _ _ _ h => h) (Or.inl ⟨by rfl, ?_⟩) hHeld ?_; rotate_left; (focus (intro w hSw; (try dsimp only at hSw); go_simp; try with_reducible rfl)); (try simp only [Act.put, List.setIfInBounds_toArray, List.set_cons_zero, List.set_cons_succ, List.getElem_toArray, List.getElem_cons_zero, List.getElem_cons_succ]))
  have HV0 : Hid (Bytes w.drew (.slice va m vc) b) := HV.out.later (Below.refl _ _).drew
  have HL0 : Hid (LnAt w.drew p g X (.slice a n c) s.line) := HLN.out.later (Below.refl _ _).drew
  (refine wpAnyH_ready (rs := [6]) (by kernel_rfl) (by simp) ?_; refine AllReadyH.cons rfl (fun K hK => ?_) AllReadyH.nil; go_simp; refine (cloneB _ b _ HV0.out (by have := HLB.out; omega)).mono ?_; rintro e w3 ⟨u, rfl, ho, hs⟩; obtain ⟨ua, uc, rfl⟩ := OwnB.form ho; rw [← HM.out] at ho ⊢; refine hK.out _ _ ?_ (fun hHeldN => ?_); (focus ((try dsimp only); (exact ⟨hHeld.1.trans (Chg.of_below _ hs), hHeld.2.later hs⟩))); clear hK K hHeld; have hHeld := hHeldN; clear hHeldN; (try simp only [Act.put, List.setIfInBounds_toArray, List.set_cons_zero, List.set_cons_succ, List.getElem_toArray, List.getElem_cons_zero, List.getElem_cons_succ]))
  have HBO : Hid (Bod w3 X (.slice ua m uc) b) := Bod.own (show OwnB w3 w.drew.heap.size (.slice ua m uc) b by rw [HM.out] at ho ⊢; exact ho) (fun j hj => HX.out j hj)
  have HL3 := Lib.hid (HL0.out.later hs)
  have HSZ : Hid (w.heap.size ≤ w3.heap.size) := hs.size
  clear ho hs
  (refine wpAnyH_ready (rs := [7]) (by kernel_rfl) (by simp) ?_; refine AllReadyH.cons rfl (fun K hK => ?_) AllReadyH.nil; go_simp; skip; refine hK.out _ _ ?_ (fun hHeldN => ?_); (focus ((try dsimp only); (exact ⟨hHeld.1.alloc _, hHeld.2.later (ba1 _ _)⟩))); clear hK K hHeld; have hHeld := hHeldN; clear hHeldN; (try simp only [Act.put, List.setIfInBounds_toArray, List.set_cons_zero, List.set_cons_succ, List.getElem_toArray, List.getElem_cons_zero, List.getElem_cons_succ]))
  have HR : Hid (∀ ty, ∃ v' w', (Builtin.append_ #[135, 135] ty #[.slice a n c, .slice (some ⟨w3.heap.size, 0, none⟩) 1 1]).run Try.prog (w3.alloc (.cells #[.slice ua m uc] 90)) = .ok v' w' ∧ ∃ g', LnAt w' p g' X v' (s.line ++ [b]) ∧ Chg [g] (w3.alloc (.cells #[.slice ua m uc] 90)) w' ∧ w'.heap[p]? = (w3.alloc (.cells #[.slice ua m uc] 90)).heap[p]? ∧ (g' = g ∨ (w3.alloc (.cells #[.slice ua m uc] 90)).heap.size ≤ g')) := fun ty =>
    ln_app (HL3.out.later (ba1 _ _)) (by have := HSZ.out; have := HLT.out; simp; omega) (HBO.out.later (ba1 _ _)) (BlkAt.cell (BlkAt.new (t := 90) w3 [.slice ua m uc]) (j := 0) rfl) (by have := HN.out; have := HB.out; omega) ty
  (refine wpAnyH_ready (rs := [8]) (by kernel_rfl) (by simp) ?_; refine AllReadyH.cons rfl (fun K hK => ?_) AllReadyH.nil; refine step_appG rfl (.tmp 23) (.tmp 26) _ _ rfl _ _ _ rfl rfl HR.out ?_; rintro v4 w4 ⟨g4, hl4, hc4, hp4, hg4⟩; refine hK.out _ _ ?_ (fun hHeldN => ?_); (focus ((try dsimp only); (exact ⟨(hHeld.1).trans hc4, hp4.trans hHeld.2⟩))); clear hK K hHeld; have hHeld := hHeldN; clear hHeldN; (try simp only [Act.put, List.setIfInBounds_toArray, List.set_cons_zero, List.set_cons_succ, List.getElem_toArray, List.getElem_cons_zero, List.getElem_cons_succ]))
  (refine wpAnyH_take (i := 9) (v := ?_) rfl (by kernel_rfl) (by kernel_rfl) (by kernel_rfl) (fun _ _ _ h => h) (Or.inl ⟨by rfl, ?_⟩) hHeld ?_; rotate_left; (focus (intro w hSw; (try dsimp only at hSw); go_simp; try with_reducible rfl)); (try simp only [Act.put, List.setIfInBounds_toArray, List.set_cons_zero, List.set_cons_succ, List.getElem_toArray, List.getElem_cons_zero, List.getElem_cons_succ])); (refine wpAnyH_take (i := 10) (v := ?_) rfl (by kernel_rfl) (by kernel_rfl) (by kernel_rfl) (fun _ _ _ h => h) (Or.inl ⟨by rfl, ?_⟩) hHeld ?_; rotate_left; (focus (intro w hSw; (try dsimp only at hSw); go_simp; try with_reducible rfl)); (try simp only [Act.put, List.setIfInBounds_toArray, List.set_cons_zero, List.set_cons_succ, List.getElem_toArray, List.getElem_cons_zero, List.getElem_cons_succ]))
  refine wpAnyH_done (by kernel_rfl) ?_ _
  obtain ⟨a4, c4, rfl⟩ := hl4.form
  obtain ⟨n1, hn1⟩ : ∃ n1, n1 = (s.line ++ [b]).length := ⟨_, rfl⟩
  rw [← hn1] at hl4 ⊢
  have HN1 : Hid (n1 = n + 1) := by
    show _ = _
    rw [hn1, HN.out]; simp
  clear hn1
  have d1 := BlkAt.cell hHeld.2 (j := 1) rfl
  have hfz : ∀ j, w4.frozen? ⟨p, j, none⟩ = false := fun j => BlkAt.frozen hHeld.2 j
  obtain ⟨w5, hw5⟩ : ∃ w5, w5 = w4.setCell ⟨p, 1, none⟩ (.slice a4 n1 c4) := ⟨_, rfl⟩
  have hq : Chg [p] w4 w5 := by rw [hw5]; exact (Chg.refl _ _).set (by simp) _ _
  have hb5 : BlkAt 137 p (pcs (.slice a4 n1 c4) (sendM s b)) w5 := by rw [hw5]; exact BlkAt.set hHeld.2 1 _
  have hnb := noB_blk hHeld.2 (by decide)
  have hgp : g4 ≠ p → g4 ∉ [p] := fun h => by simpa using h
  have HP5 : Hid (PSm p g4 X (sendM s b) w5) := ⟨_, hb5, hl4.chg hq hgp (fun j hj => by simp at hj; subst hj; exact .inl hnb)⟩
  have HC5 : Hid (Chg [p, g] w w5) := (hHeld.1.mono (by simp)).trans (hq.mono (by simp))
  have HG5 : Hid (g4 = g ∨ w.heap.size ≤ g4) := by
    rcases hg4 with e | e
    · exact .inl e
    · exact .inr (Nat.le_trans HSZ.out (Nat.le_trans (by simp) e))
  obtain ⟨x, hx⟩ : ∃ x : Int, x = s.ac := ⟨_, rfl⟩
  obtain ⟨y, hy⟩ : ∃ y : Int, y = ((s.ac + s.line.length + 1 : Nat) : Int) := ⟨_, rfl⟩
  have HCE : Hid (∀ W, Below w5.heap.size w5 W → W.cell? ⟨p, 4, none⟩ = some (.int .u64 x) ∧ W.cell? ⟨p, 1, none⟩ = some (.slice a4 n1 c4)) := by
    have : ∀ W, Below w5.heap.size w5 W → W.cell? ⟨p, 4, none⟩ = some (.int .u64 x) ∧ W.cell? ⟨p, 1, none⟩ = some (.slice a4 n1 c4) := fun W hW => by
      rw [hx]
      exact ⟨BlkAt.cell (hb5.later hW) (j := 4) rfl, BlkAt.cell (hb5.later hW) (j := 1) rfl⟩
    exact this
  have e0 : IntKind.u64.wrap (n1 : Int) = n1 := IntWalk.u64_in _ ⟨by omega, by have := HN1.out; have := HB.out; omega⟩
  have e1 : IntKind.u64.wrap (x + (n1 : Int)) = y := by
    rw [IntWalk.u64_in _ ⟨by omega, by have := HN1.out; have := HB.out; omega⟩]
    have := HN1.out; have := HN.out; omega
  have HY := Lib.hid hy
  have HW5 := Lib.hid hw5
  clear hl4 hc4 hp4 hg4 hHeld hw5 hq hb5 hnb hgp hx hy c1 k1
  refine lastQ_at rfl ?_
  go_simp
  go_wp2_with fail
  rw [← HW5.out]
  clear d1 hfz
  (refine wp_region_held_drew (S := (fun w' => Below w5.heap.size w5 w')) (by kernel_rfl) ?_ (fun hHeld => ?_); (focus ((try dsimp only); (exact (Below.refl _ _).drew))))
  (try dsimp only at hHeld)
  (refine wpAnyH_take (i := 0) (v := ?_) rfl (by kernel_rfl) (by kernel_rfl) (by kernel_rfl) (fun _ _ _ h => h) (Or.inl ⟨by rfl, ?_⟩) hHeld ?_; rotate_left; (focus (intro w hSw; (try dsimp only at hSw); go_simp; try with_reducible rfl)); (try simp only [Act.put, List.setIfInBounds_toArray, List.set_cons_zero, List.set_cons_succ, List.getElem_toArray, List.getElem_cons_zero])); (refine wpAnyH_take (i := 1) (v := ?_) rfl (by kernel_rfl) (by kernel_rfl) (by kernel_rfl) (fun _ _ _ h => h) (Or.inl ⟨by rfl, ?_⟩) hHeld ?_; rotate_left; (focus (intro w hSw; (try dsimp only at hSw); go_simp; try with_reducible rfl)); (try simp only [Act.put, List.setIfInBounds_toArray, List.set_cons_zero, List.set_cons_succ, List.getElem_toArray, List.getElem_cons_zero, List.getElem_cons_succ])); (refine wpAnyH_take (i := 2) (v := ?_) rfl (by kernel_rfl) (by kernel_rfl) (by kernel_rfl) (fun _ _ _ h => h) (Or.inl ⟨by rfl, ?_⟩) hHeld ?_; rotate_left; (focus (intro w hSw; (try dsimp only at hSw); go_simp; try with_reducible rfl)); (try simp only [Act.put, List.setIfInBounds_toArray, List.set_cons_zero, List.set_cons_succ, List.getElem_toArray, List.getElem_cons_zero, List.getElem_cons_succ]))
  (refine wpAnyH_take (i := 3) (v := ?_) rfl (by kernel_rfl) (by kernel_rfl) (by kernel_rfl) (fun _ _ _ h => h) (Or.inl ⟨by rfl, ?_⟩) hHeld ?_; rotate_left; (focus (intro w hSw; (try dsimp only at hSw); go_simp; (have c0 := (HCE.out _ hSw).1; go_simp; try with_reducible rfl))); (try simp only [Act.put, List.setIfInBounds_toArray, List.set_cons_zero, List.set_cons_succ, List.getElem_toArray, List.getElem_cons_zero, List.getElem_cons_succ]))
  (refine wpAnyH_take (i := 4) (v := ?_) rfl (by kernel_rfl) (by kernel_rfl) (by kernel_rfl) (fun _ _ _ h => h) (Or.inl ⟨by rfl, ?_⟩) hHeld ?_; rotate_left; (focus (intro w hSw; (try dsimp only at hSw); go_simp; try with_reducible rfl)); (try simp only [Act.put, List.setIfInBounds_toArray, List.set_cons_zero, List.set_cons_succ, List.getElem_toArray, List.getElem_cons_zero, List.getElem_cons_succ])); (refine wpAnyH_take (i := 5) (v := ?_) rfl (by kernel_rfl) (by kernel_rfl) (by kernel_rfl) (fun _ _ _ h => h) (Or.inl ⟨by rfl, ?_⟩) hHeld ?_; rotate_left; (focus (intro w hSw; (try dsimp only at hSw); go_simp; try with_reducible rfl)); (try simp only [Act.put, List.setIfInBounds_toArray, List.set_cons_zero, List.set_cons_succ, List.getElem_toArray, List.getElem_cons_zero, List.getElem_cons_succ])); (refine wpAnyH_take (i := 6) (v := ?_) rfl (by kernel_rfl) (by kernel_rfl) (by kernel_rfl) (fun _ _ _ h => h) (Or.inl ⟨by rfl, ?_⟩) hHeld ?_; rotate_left; (focus (intro w hSw; (try dsimp only at hSw); go_simp; try with_reducible rfl)); (try simp only [Act.put, List.setIfInBounds_toArray, List.set_cons_zero, List.set_cons_succ, List.getElem_toArray, List.getElem_cons_zero, List.getElem_cons_succ]))
  (refine wpAnyH_take (i := 7) (v := ?_) rfl (by kernel_rfl) (by kernel_rfl) (by kernel_rfl) (fun _ _ _ h => h) (Or.inl ⟨by rfl, ?_⟩) hHeld ?_; rotate_left; (focus (intro w hSw; (try dsimp only at hSw); go_simp; (have c0 := (HCE.out _ hSw).2; go_simp; try with_reducible rfl))); (try simp only [Act.put, List.setIfInBounds_toArray, List.set_cons_zero, List.set_cons_succ, List.getElem_toArray, List.getElem_cons_zero, List.getElem_cons_succ]))
  (refine wpAnyH_take (i := 8) (v := ?_) rfl (by kernel_rfl) (by kernel_rfl) (by kernel_rfl) (fun _ _ _ h => h) (Or.inl ⟨by rfl, ?_⟩) hHeld ?_; rotate_left; (focus (intro w hSw; (try dsimp only at hSw); go_simp; try with_reducible rfl)); (try simp only [Act.put, List.setIfInBounds_toArray, List.set_cons_zero, List.set_cons_succ, List.getElem_toArray, List.getElem_cons_zero, List.getElem_cons_succ])); (refine wpAnyH_take (i := 9) (v := ?_) rfl (by kernel_rfl) (by kernel_rfl) (by kernel_rfl) (fun _ _ _ h => h) (Or.inl ⟨by rfl, ?_⟩) hHeld ?_; rotate_left; (focus (intro w hSw; (try dsimp only at hSw); go_simp; try with_reducible rfl)); (try simp only [Act.put, List.setIfInBounds_toArray, List.set_cons_zero, List.set_cons_succ, List.getElem_toArray, List.getElem_cons_zero, List.getElem_cons_succ])); (refine wpAnyH_take (i := 10) (v := ?_) rfl (by kernel_rfl) (by kernel_rfl) (by kernel_rfl) (fun _ _ _ h => h) (Or.inl ⟨by rfl, ?_⟩) hHeld ?_; rotate_left; (focus (intro w hSw; (try dsimp only at hSw); go_simp; try with_reducible rfl)); (try simp only [Act.put, List.setIfInBounds_toArray, List.set_cons_zero, List.set_cons_succ, List.getElem_toArray, List.getElem_cons_zero, List.getElem_cons_succ])); (refine wpAnyH_take (i := 11) (v := ?_) rfl (by kernel_rfl) (by kernel_rfl) (by kernel_rfl) (fun _ _ _ h => h) (Or.inl ⟨by rfl, ?_⟩) hHeld ?_; rotate_left; (focus (intro w hSw; (try dsimp only at hSw); go_simp; try with_reducible rfl)); (try simp only [Act.put, List.setIfInBounds_toArray, List.set_cons_zero, List.set_cons_succ, List.getElem_toArray, List.getElem_cons_zero, List.getElem_cons_succ])); (refine wpAnyH_take (i := 12) (v := ?_) rfl (by kernel_rfl) (by kernel_rfl) (by kernel_rfl) (fun _ _ _ h => h) (Or.inl ⟨by rfl, ?_⟩) hHeld ?_; rotate_left; (focus (intro w hSw; (try dsimp only at hSw); go_simp; try with_reducible rfl)); (try simp only [Act.put, List.setIfInBounds_toArray, List.set_cons_zero, List.set_cons_succ, List.getElem_toArray, List.getElem_cons_zero, List.getElem_cons_succ]))
  refine wpAnyH_done (by kernel_rfl) ?_ _
  go_wp2_with fail
  go_ret2
  refine ⟨by rw [← HY.out]; rfl, g4, HP5.out.later hHeld, HG5.out, HC5.out.trans (Chg.of_below _ hHeld)⟩
end Go.Proofs.Ytghaajmalhcgbaa

namespace Go.Proofs.Ytghaajmalhcgbaa
open Go.RowKit
attribute [local go_sem ↓] Go.wp_at_zero Go.wp_at_succ

theorem results_tmp4 {fn : Func} {t u v x : Tmp} (h : fn.results = #[.tmp t, .tmp u, .tmp v, .tmp x]) (tmps : Array Value) (P : Program) (w : World) :
    (results fn tmps).run P w = .ok (.tuple #[tmps.getD t undef, tmps.getD u undef, tmps.getD v undef, tmps.getD x undef]) w := by
  simp [results, h]
/-- What Take leaves. -/
def TkA (p g : Nat) (X : List Nat) (s : Sm) (q a : Nat) (b : List UInt8) (w : World) (e : Ending) (w' : World) : Prop :=
  ∃ u, e = .returned (.tuple #[u, .int .u64 ((takeM s q a).ac : Int), .bool (decide (q = s.tk + 1)), .int .i64 0]) ∧ Bod w' X u (if q = s.tk + 1 then b else []) ∧ PSm p g X (takeM s q a) w' ∧ Chg [p, g] w w'
set_option maxHeartbeats 2000000 in
set_option maxRecDepth 100000 in
theorem takeLong {p n : Nat} {s : Sm} {w : World} (h : SmB p n s w) (q a : Int) (x : Option Addr) (m c : Nat) (hm : (m : Int) ≤ 9223372036854775807) (hl : 1024 < m) :
    Calls Try.prog 29 #[.pointer (some ⟨p, 0, none⟩), .agg #[.int .u64 q, .int .u64 a, .slice x m c]] w fun e w' => e = .returned (.tuple #[.slice none 0 0, .int .u64 0, .bool false, .int .i64 3]) ∧ Below w.heap.size w w' := by
  obtain ⟨w1, hw1⟩ : ∃ w1, w1 = w.alloc (.cells #[.int .u64 q, .int .u64 a, .slice x m c] 94) := ⟨_, rfl⟩
  have hb1 : Below w.heap.size w w1 := by rw [hw1]; exact ba1 _ _
  have H := readyM (h.chg (Chg.of_below [] hb1) (by simp)) x m c hm
  unfold rdyE at H
  rw [if_pos hl] at H
  have H := Lib.hid H
  have HW := Lib.hid hw1
  have HB := Lib.hid hb1
  clear h hm hl hb1 hw1
  go_enter Try.func29, Try.ntmps29
  go_wp2_with fail
  rw [← HW.out]
  refine H.out.mono ?_
  rintro e w2 ⟨rfl, rfl⟩
  go_wp2_with fail
  ((try simp only [Exit.inBlock, Exit.then]); refine bodyPost_ret (results_tmp4 rfl _ _ _) rfl ?_)
  exact ⟨rfl, HB.out⟩
set_option maxHeartbeats 8000000 in
set_option maxRecDepth 100000 in
theorem takeC {p g : Nat} {X : List Nat} {s : Sm} {w : World} {N : Nat} (h : PSm p g X s w) (ok : s.Ok N) (hX : ∀ k ∈ X, k < w.heap.size) (q a : Nat) (hq : (q : Int) ≤ 18446744073709551615) (ha : (a : Int) ≤ 18446744073709551615) (v : Value) (b : List UInt8) (hv : ∀ W, Chg [p, g] w W → Bytes W v b) (hl : b.length ≤ 1024) :
    Calls Try.prog 29 #[.pointer (some ⟨p, 0, none⟩), .agg #[.int .u64 (q : Int), .int .u64 (a : Int), v]] w (TkA p g X s q a b w) := by
  obtain ⟨va, vc, rfl⟩ := (hv w (Chg.refl _ _)).form
  obtain ⟨m, hm⟩ : ∃ m, m = b.length := ⟨_, rfl⟩
  rw [← hm] at hv ⊢
  obtain ⟨w1, hw1⟩ : ∃ w1, w1 = w.alloc (.cells #[.int .u64 (q : Int), .int .u64 (a : Int), .slice va m vc] 94) := ⟨_, rfl⟩
  have hb1 : Below w.heap.size w w1 := by rw [hw1]; exact ba1 _ _
  have hbk : BlkAt 94 w.heap.size [.int .u64 (q : Int), .int .u64 (a : Int), .slice va m vc] w1 := by rw [hw1]; exact BlkAt.new w _
  have H := readyM ((h.later hb1).smB ok.ag1) va m vc (by omega)
  unfold rdyE at H
  rw [if_neg (by omega)] at H
  have HR := Lib.hid H
  have HA := Lib.hid (ackC (h.later hb1) ok a ha)
  have HW := Lib.hid hw1
  have HB := Lib.hid hb1
  have HBK := Lib.hid hbk
  have HLT := Lib.hid h.lt
  have HX := Lib.hid hX
  have HV := Lib.hid hv
  have HM := Lib.hid hm
  have HL := Lib.hid hl
  have HT : Hid (s.tk ≤ 1000000) := by have := ok.tkN; have := ok.NN; show _ ≤ _; omega
  have HSZ1 : Hid (w1.heap.size = w.heap.size + 1) := by show _ = _; rw [hw1]; simp
  have d0 := BlkAt.cell hbk (j := 0) rfl
  have d1 := BlkAt.cell hbk (j := 1) rfl
  have d2 := BlkAt.cell hbk (j := 2) rfl
  clear h ok hX ha hv hl hm hw1 hb1 hbk H
  go_enter Try.func29, Try.ntmps29
  go_wp2_with fail
  rw [← HW.out]
  refine HR.out.mono ?_
  rintro e w2 ⟨rfl, rfl⟩
  go_wp2_with fail
  refine HA.out.mono ?_
  rintro e w2 ⟨⟨_, rfl⟩, hP, hC⟩
  have hbk2 := hC.blk HBK.out (by have := HLT.out; simp; omega)
  have HBK2 := Lib.hid hbk2
  have HP2 := Lib.hid hP
  have HC2 : Hid (Chg [p, g] w w2) := (Chg.of_below _ HB.out).trans hC
  have d0 := BlkAt.cell hbk2 (j := 0) rfl
  clear hP hC hbk2 d1 d2 HA HR
  obtain ⟨s1, hs1⟩ : ∃ s1, s1 = ackM s a := ⟨_, rfl⟩
  have h1t : s1.tk = s.tk := by rw [hs1]; exact ackM_tk s a
  have h1o : s1.ow = s.ow := by rw [hs1]; exact ackM_ow s a
  rw [← hs1] at HP2
  have HAC : Hid ((takeM s q a).ac = s1.ac) := by show _ = _; rw [hs1]; rfl
  have HFIN : Hid (takeM s q a = { s1 with ow := (s1.ow || decide (q ≠ 0)), tk := if q = s.tk + 1 then s.tk + 1 else s1.tk }) := by show _ = _; rw [h1t, h1o, hs1]; rfl
  obtain ⟨x, hb2, hln⟩ := HP2.out
  obtain ⟨xa, xc, rfl⟩ := hln.form
  have hnb := noB_blk hb2 (by decide)
  have HBB := Lib.hid hb2
  have HLN := Lib.hid hln
  have HNB := Lib.hid hnb
  obtain ⟨n, hn⟩ : ∃ n, n = s1.line.length := ⟨_, rfl⟩
  rw [← hn] at hb2 HBB HLN
  obtain ⟨T, hT⟩ : ∃ T : Int, T = s1.tk := ⟨_, rfl⟩
  obtain ⟨A, hA⟩ : ∃ A : Int, A = s1.ac := ⟨_, rfl⟩
  obtain ⟨Q, hQ⟩ : ∃ Q : Int, Q = q := ⟨_, rfl⟩
  rw [← hQ] at HW HBK HBK2 d0
  have HTT : Hid (T = s1.tk ∧ s1.tk = s.tk ∧ s.tk ≤ 1000000 ∧ A = s1.ac ∧ Q = q ∧ 0 ≤ T) := ⟨hT, h1t, HT.out, hA, hQ, by omega⟩
  have e1 : IntKind.u64.wrap (T + 1) = T + 1 := IntWalk.u64_in _ ⟨by have := HTT.out; omega, by have := HTT.out; omega⟩
  have c4 : w2.cell? ⟨p, 4, none⟩ = some (.int .u64 A) := by rw [hA]; exact BlkAt.cell hb2 (j := 4) rfl
  have c5 : w2.cell? ⟨p, 5, none⟩ = some (.int .u64 T) := by rw [hT]; exact BlkAt.cell hb2 (j := 5) rfl
  have c6 := BlkAt.cell hb2 (j := 6) rfl
  have hfz : ∀ j, w2.frozen? ⟨p, j, none⟩ = false := fun j => hb2.frozen j
  have HNE : Hid (w.heap.size ≠ p) := by have := HLT.out; show _ ≠ _; omega
  clear hb2 hln hnb hs1 h1t h1o hn hT hA hQ
  by_cases h0 : q = 0
  · have k0 : (Q != 0) = false := by have := HTT.out; rw [bne_eq_false_iff_eq]; omega
    have k1 : (Q != T + 1) = true := by have := HTT.out; rw [bne_iff_ne]; omega
    have hne : ¬ q = s.tk + 1 := by omega
    have HCEA : Hid (∀ W, Below w2.heap.size w2 W → W.cell? ⟨p, 4, none⟩ = some (.int .u64 A) ∧ W.cell? ⟨p, 5, none⟩ = some (.int .u64 T) ∧ W.cell? ⟨w.heap.size, 0, none⟩ = some (.int .u64 Q) ∧ W.cell? ⟨w.heap.size, 2, none⟩ = some (.slice va m vc)) := by
        have : ∀ W, Below w2.heap.size w2 W → W.cell? ⟨p, 4, none⟩ = some (.int .u64 A) ∧ W.cell? ⟨p, 5, none⟩ = some (.int .u64 T) ∧ W.cell? ⟨w.heap.size, 0, none⟩ = some (.int .u64 Q) ∧ W.cell? ⟨w.heap.size, 2, none⟩ = some (.slice va m vc) := fun W hW => by
          have h4 := BlkAt.cell (BlkAt.later HBB.out hW) (j := 4) rfl
          have h5 := BlkAt.cell (BlkAt.later HBB.out hW) (j := 5) rfl
          exact ⟨by rw [HTT.out.2.2.2.1]; exact h4, by rw [HTT.out.1]; exact h5, BlkAt.cell (BlkAt.later HBK2.out hW) (j := 0) rfl, BlkAt.cell (BlkAt.later HBK2.out hW) (j := 2) rfl⟩
        exact this
    have HP : Hid (PSm p g X (takeM s q a) w2) := by
      have e9 : takeM s q a = s1 := by rw [HFIN.out, if_neg hne, h0]; simp
      rw [e9]; exact HP2.out
    have HFF : Hid (decide (q = s.tk + 1) = false ∧ (if q = s.tk + 1 then b else []) = []) := ⟨decide_eq_false hne, if_neg hne⟩
    clear h0 hne c4 c5 c6 hfz
    go_wp2_with fail
    (refine wp_region_held_drew (S := (fun w' => Below w2.heap.size w2 w')) (by kernel_rfl) ?_ (fun hHeld => ?_); (focus ((try dsimp only); (exact (Below.refl _ _).drew))))
    (try dsimp only at hHeld)
    (refine wpAnyH_take (i := 0) (v := ?_) rfl (by kernel_rfl) (by kernel_rfl) (by kernel_rfl) (fun _ _ _ h => h) (Or.inl ⟨by rfl, ?_⟩) hHeld ?_; rotate_left; (focus (intro w hSw; (try dsimp only at hSw); go_simp; try with_reducible rfl)); (try simp only [Act.put, List.setIfInBounds_toArray, List.set_cons_zero, List.set_cons_succ, List.getElem_toArray, List.getElem_cons_zero]))
    (refine wpAnyH_take (i := 1) (v := ?_) rfl (by kernel_rfl) (by kernel_rfl) (by kernel_rfl) (fun _ _ _ h => h) (Or.inl ⟨by rfl, ?_⟩) hHeld ?_; rotate_left; (focus (intro w hSw; (try dsimp only at hSw); go_simp; (have c0 := (HCEA.out _ hSw).2.2.1; go_simp; try with_reducible rfl))); (try simp only [Act.put, List.setIfInBounds_toArray, List.set_cons_zero, List.set_cons_succ, List.getElem_toArray, List.getElem_cons_zero, List.getElem_cons_succ]))
    (refine wpAnyH_take (i := 2) (v := ?_) rfl (by kernel_rfl) (by kernel_rfl) (by kernel_rfl) (fun _ _ _ h => h) (Or.inl ⟨by rfl, ?_⟩) hHeld ?_; rotate_left; (focus (intro w hSw; (try dsimp only at hSw); go_simp; try with_reducible rfl)); (try simp only [Act.put, List.setIfInBounds_toArray, List.set_cons_zero, List.set_cons_succ, List.getElem_toArray, List.getElem_cons_zero, List.getElem_cons_succ])); (refine wpAnyH_take (i := 3) (v := ?_) rfl (by kernel_rfl) (by kernel_rfl) (by kernel_rfl) (fun _ _ _ h => h) (Or.inl ⟨by rfl, ?_⟩) hHeld ?_; rotate_left; (focus (intro w hSw; (try dsimp only at hSw); go_simp; try with_reducible rfl)); (try simp only [Act.put, List.setIfInBounds_toArray, List.set_cons_zero, List.set_cons_succ, List.getElem_toArray, List.getElem_cons_zero, List.getElem_cons_succ])); (refine wpAnyH_take (i := 4) (v := ?_) rfl (by kernel_rfl) (by kernel_rfl) (by kernel_rfl) (fun _ _ _ h => h) (Or.inl ⟨by rfl, ?_⟩) hHeld ?_; rotate_left; (focus (intro w hSw; (try dsimp only at hSw); go_simp; try with_reducible rfl)); (try simp only [Act.put, List.setIfInBounds_toArray, List.set_cons_zero, List.set_cons_succ, List.getElem_toArray, List.getElem_cons_zero, List.getElem_cons_succ]))
    (refine wpAnyH_take (i := 5) (v := ?_) rfl (by kernel_rfl) (by kernel_rfl) (by kernel_rfl) (fun _ _ _ h => h) (Or.inl ⟨by rfl, ?_⟩) hHeld ?_; rotate_left; (focus (intro w hSw; (try dsimp only at hSw); go_simp; (have c0 := (HCEA.out _ hSw).2.1; go_simp; try with_reducible rfl))); (try simp only [Act.put, List.setIfInBounds_toArray, List.set_cons_zero, List.set_cons_succ, List.getElem_toArray, List.getElem_cons_zero, List.getElem_cons_succ]))
    (refine wpAnyH_take (i := 6) (v := ?_) rfl (by kernel_rfl) (by kernel_rfl) (by kernel_rfl) (fun _ _ _ h => h) (Or.inl ⟨by rfl, ?_⟩) hHeld ?_; rotate_left; (focus (intro w hSw; (try dsimp only at hSw); go_simp; try with_reducible rfl)); (try simp only [Act.put, List.setIfInBounds_toArray, List.set_cons_zero, List.set_cons_succ, List.getElem_toArray, List.getElem_cons_zero, List.getElem_cons_succ])); (refine wpAnyH_take (i := 7) (v := ?_) rfl (by kernel_rfl) (by kernel_rfl) (by kernel_rfl) (fun _ _ _ h => h) (Or.inl ⟨by rfl, ?_⟩) hHeld ?_; rotate_left; (focus (intro w hSw; (try dsimp only at hSw); go_simp; try with_reducible rfl)); (try simp only [Act.put, List.setIfInBounds_toArray, List.set_cons_zero, List.set_cons_succ, List.getElem_toArray, List.getElem_cons_zero, List.getElem_cons_succ]))
    refine wpAnyH_done (by kernel_rfl) ?_ _
    obtain ⟨wd, hwd⟩ : ∃ wd, wd = World.drew w2 := ⟨_, rfl⟩
    rw [← hwd]
    rw [← hwd] at hHeld
    have HB7 := Lib.hid hHeld
    clear hwd hHeld
    go_wp2_with fail
    (refine wp_region_held_drew (S := (fun w' => Below w2.heap.size w2 w')) (by kernel_rfl) ?_ (fun hHeld => ?_); (focus ((try dsimp only); (exact HB7.out.drew))))
    (try dsimp only at hHeld)
    (refine wpAnyH_take (i := 0) (v := ?_) rfl (by kernel_rfl) (by kernel_rfl) (by kernel_rfl) (fun _ _ _ h => h) (Or.inl ⟨by rfl, ?_⟩) hHeld ?_; rotate_left; (focus (intro w hSw; (try dsimp only at hSw); go_simp; try with_reducible rfl)); (try simp only [Act.put, List.setIfInBounds_toArray, List.set_cons_zero, List.set_cons_succ, List.getElem_toArray, List.getElem_cons_zero])); (refine wpAnyH_take (i := 1) (v := ?_) rfl (by kernel_rfl) (by kernel_rfl) (by kernel_rfl) (fun _ _ _ h => h) (Or.inl ⟨by rfl, ?_⟩) hHeld ?_; rotate_left; (focus (intro w hSw; (try dsimp only at hSw); go_simp; try with_reducible rfl)); (try simp only [Act.put, List.setIfInBounds_toArray, List.set_cons_zero, List.set_cons_succ, List.getElem_toArray, List.getElem_cons_zero, List.getElem_cons_succ])); (refine wpAnyH_take (i := 2) (v := ?_) rfl (by kernel_rfl) (by kernel_rfl) (by kernel_rfl) (fun _ _ _ h => h) (Or.inl ⟨by rfl, ?_⟩) hHeld ?_; rotate_left; (focus (intro w hSw; (try dsimp only at hSw); go_simp; try with_reducible rfl)); (try simp only [Act.put, List.setIfInBounds_toArray, List.set_cons_zero, List.set_cons_succ, List.getElem_toArray, List.getElem_cons_zero, List.getElem_cons_succ]))
    (refine wpAnyH_take (i := 3) (v := ?_) rfl (by kernel_rfl) (by kernel_rfl) (by kernel_rfl) (fun _ _ _ h => h) (Or.inl ⟨by rfl, ?_⟩) hHeld ?_; rotate_left; (focus (intro w hSw; (try dsimp only at hSw); go_simp; (have c0 := (HCEA.out _ hSw).1; go_simp; try with_reducible rfl))); (try simp only [Act.put, List.setIfInBounds_toArray, List.set_cons_zero, List.set_cons_succ, List.getElem_toArray, List.getElem_cons_zero, List.getElem_cons_succ]))
    (refine wpAnyH_take (i := 4) (v := ?_) rfl (by kernel_rfl) (by kernel_rfl) (by kernel_rfl) (fun _ _ _ h => h) (Or.inl ⟨by rfl, ?_⟩) hHeld ?_; rotate_left; (focus (intro w hSw; (try dsimp only at hSw); go_simp; try with_reducible rfl)); (try simp only [Act.put, List.setIfInBounds_toArray, List.set_cons_zero, List.set_cons_succ, List.getElem_toArray, List.getElem_cons_zero, List.getElem_cons_succ])); (refine wpAnyH_take (i := 5) (v := ?_) rfl (by kernel_rfl) (by kernel_rfl) (by kernel_rfl) (fun _ _ _ h => h) (Or.inl ⟨by rfl, ?_⟩) hHeld ?_; rotate_left; (focus (intro w hSw; (try dsimp only at hSw); go_simp; try with_reducible rfl)); (try simp only [Act.put, List.setIfInBounds_toArray, List.set_cons_zero, List.set_cons_succ, List.getElem_toArray, List.getElem_cons_zero, List.getElem_cons_succ])); (refine wpAnyH_take (i := 6) (v := ?_) rfl (by kernel_rfl) (by kernel_rfl) (by kernel_rfl) (fun _ _ _ h => h) (Or.inl ⟨by rfl, ?_⟩) hHeld ?_; rotate_left; (focus (intro w hSw; (try dsimp only at hSw); go_simp; try with_reducible rfl)); (try simp only [Act.put, List.setIfInBounds_toArray, List.set_cons_zero, List.set_cons_succ, List.getElem_toArray, List.getElem_cons_zero, List.getElem_cons_succ])); (refine wpAnyH_take (i := 7) (v := ?_) rfl (by kernel_rfl) (by kernel_rfl) (by kernel_rfl) (fun _ _ _ h => h) (Or.inl ⟨by rfl, ?_⟩) hHeld ?_; rotate_left; (focus (intro w hSw; (try dsimp only at hSw); go_simp; try with_reducible rfl)); (try simp only [Act.put, List.setIfInBounds_toArray, List.set_cons_zero, List.set_cons_succ, List.getElem_toArray, List.getElem_cons_zero, List.getElem_cons_succ]))
    refine wpAnyH_done (by kernel_rfl) ?_ _
    go_wp2_with fail
    ((try simp only [Exit.inBlock, Exit.then]); refine bodyPost_ret (results_tmp4 rfl _ _ _) rfl ?_)
    refine ⟨_, by rw [HAC.out, ← HTT.out.2.2.2.1, HFF.out.1]; rfl, by rw [HFF.out.2]; exact .inl ⟨rfl, none, 0, rfl, fun _ => rfl⟩, HP.out.later hHeld, HC2.out.trans (Chg.of_below _ hHeld)⟩
  · have k0 : (Q != 0) = true := by have := HTT.out; rw [bne_iff_ne]; omega
    obtain ⟨w3, hw3⟩ : ∃ w3, w3 = w2.setCell ⟨p, 6, none⟩ (.bool true) := ⟨_, rfl⟩
    have hq3 : Chg [p] w2 w3 := by rw [hw3]; exact (Chg.refl _ _).set (by simp) _ _
    have HB3 : Hid (BlkAt 137 p (pcs (.slice xa n xc) { s1 with ow := true }) w3) := by rw [hw3]; exact BlkAt.set HBB.out 6 (.bool true)
    have HL3 : Hid (LnAt w3 p g X (.slice xa n xc) s1.line) := HLN.out.chg hq3 (fun h => by simpa using h) (fun j hj => by simp at hj; subst hj; exact .inl HNB.out)
    have HK3 : Hid (BlkAt 94 w.heap.size [.int .u64 Q, .int .u64 (a : Int), .slice va m vc] w3) := hq3.blk HBK2.out (by have := HNE.out; simpa using this)
    have HC3 : Hid (Chg [p, g] w w3) := HC2.out.trans (hq3.mono (by simp))
    have HW3 := Lib.hid hw3
    have HCEB : Hid (∀ W, Below w3.heap.size w3 W → W.cell? ⟨p, 4, none⟩ = some (.int .u64 A) ∧ W.cell? ⟨p, 5, none⟩ = some (.int .u64 T) ∧ W.cell? ⟨w.heap.size, 0, none⟩ = some (.int .u64 Q) ∧ W.cell? ⟨w.heap.size, 2, none⟩ = some (.slice va m vc)) := by
        have : ∀ W, Below w3.heap.size w3 W → W.cell? ⟨p, 4, none⟩ = some (.int .u64 A) ∧ W.cell? ⟨p, 5, none⟩ = some (.int .u64 T) ∧ W.cell? ⟨w.heap.size, 0, none⟩ = some (.int .u64 Q) ∧ W.cell? ⟨w.heap.size, 2, none⟩ = some (.slice va m vc) := fun W hW => by
          have h4 := BlkAt.cell (BlkAt.later HB3.out hW) (j := 4) rfl
          have h5 := BlkAt.cell (BlkAt.later HB3.out hW) (j := 5) rfl
          exact ⟨by rw [HTT.out.2.2.2.1]; exact h4, by rw [HTT.out.1]; exact h5, BlkAt.cell (BlkAt.later HK3.out hW) (j := 0) rfl, BlkAt.cell (BlkAt.later HK3.out hW) (j := 2) rfl⟩
        exact this
    clear hw3 hq3
    by_cases hne : q = s.tk + 1
    · have k1 : (Q != T + 1) = false := by have := HTT.out; rw [bne_eq_false_iff_eq]; omega
      have HFF : Hid (decide (q = s.tk + 1) = true ∧ (if q = s.tk + 1 then b else []) = b) := ⟨decide_eq_true hne, if_pos hne⟩
      have HQ : Hid (q = s.tk + 1 ∧ q ≠ 0) := ⟨hne, h0⟩
      clear h0 hne
      go_wp2_with fail
      rw [← HW3.out]
      clear c4 c5 c6 hfz
      (refine wp_region_held_drew (S := (fun w' => Below w3.heap.size w3 w')) (by kernel_rfl) ?_ (fun hHeld => ?_); (focus ((try dsimp only); (exact (Below.refl _ _).drew))))
      (try dsimp only at hHeld)
      (refine wpAnyH_take (i := 0) (v := ?_) rfl (by kernel_rfl) (by kernel_rfl) (by kernel_rfl) (fun _ _ _ h => h) (Or.inl ⟨by rfl, ?_⟩) hHeld ?_; rotate_left; (focus (intro w hSw; (try dsimp only at hSw); go_simp; try with_reducible rfl)); (try simp only [Act.put, List.setIfInBounds_toArray, List.set_cons_zero, List.set_cons_succ, List.getElem_toArray, List.getElem_cons_zero]))
      (refine wpAnyH_take (i := 1) (v := ?_) rfl (by kernel_rfl) (by kernel_rfl) (by kernel_rfl) (fun _ _ _ h => h) (Or.inl ⟨by rfl, ?_⟩) hHeld ?_; rotate_left; (focus (intro w hSw; (try dsimp only at hSw); go_simp; (have c0 := (HCEB.out _ hSw).2.2.1; go_simp; try with_reducible rfl))); (try simp only [Act.put, List.setIfInBounds_toArray, List.set_cons_zero, List.set_cons_succ, List.getElem_toArray, List.getElem_cons_zero, List.getElem_cons_succ]))
      (refine wpAnyH_take (i := 2) (v := ?_) rfl (by kernel_rfl) (by kernel_rfl) (by kernel_rfl) (fun _ _ _ h => h) (Or.inl ⟨by rfl, ?_⟩) hHeld ?_; rotate_left; (focus (intro w hSw; (try dsimp only at hSw); go_simp; try with_reducible rfl)); (try simp only [Act.put, List.setIfInBounds_toArray, List.set_cons_zero, List.set_cons_succ, List.getElem_toArray, List.getElem_cons_zero, List.getElem_cons_succ])); (refine wpAnyH_take (i := 3) (v := ?_) rfl (by kernel_rfl) (by kernel_rfl) (by kernel_rfl) (fun _ _ _ h => h) (Or.inl ⟨by rfl, ?_⟩) hHeld ?_; rotate_left; (focus (intro w hSw; (try dsimp only at hSw); go_simp; try with_reducible rfl)); (try simp only [Act.put, List.setIfInBounds_toArray, List.set_cons_zero, List.set_cons_succ, List.getElem_toArray, List.getElem_cons_zero, List.getElem_cons_succ])); (refine wpAnyH_take (i := 4) (v := ?_) rfl (by kernel_rfl) (by kernel_rfl) (by kernel_rfl) (fun _ _ _ h => h) (Or.inl ⟨by rfl, ?_⟩) hHeld ?_; rotate_left; (focus (intro w hSw; (try dsimp only at hSw); go_simp; try with_reducible rfl)); (try simp only [Act.put, List.setIfInBounds_toArray, List.set_cons_zero, List.set_cons_succ, List.getElem_toArray, List.getElem_cons_zero, List.getElem_cons_succ]))
      (refine wpAnyH_take (i := 5) (v := ?_) rfl (by kernel_rfl) (by kernel_rfl) (by kernel_rfl) (fun _ _ _ h => h) (Or.inl ⟨by rfl, ?_⟩) hHeld ?_; rotate_left; (focus (intro w hSw; (try dsimp only at hSw); go_simp; (have c0 := (HCEB.out _ hSw).2.1; go_simp; try with_reducible rfl))); (try simp only [Act.put, List.setIfInBounds_toArray, List.set_cons_zero, List.set_cons_succ, List.getElem_toArray, List.getElem_cons_zero, List.getElem_cons_succ]))
      (refine wpAnyH_take (i := 6) (v := ?_) rfl (by kernel_rfl) (by kernel_rfl) (by kernel_rfl) (fun _ _ _ h => h) (Or.inl ⟨by rfl, ?_⟩) hHeld ?_; rotate_left; (focus (intro w hSw; (try dsimp only at hSw); go_simp; try with_reducible rfl)); (try simp only [Act.put, List.setIfInBounds_toArray, List.set_cons_zero, List.set_cons_succ, List.getElem_toArray, List.getElem_cons_zero, List.getElem_cons_succ])); (refine wpAnyH_take (i := 7) (v := ?_) rfl (by kernel_rfl) (by kernel_rfl) (by kernel_rfl) (fun _ _ _ h => h) (Or.inl ⟨by rfl, ?_⟩) hHeld ?_; rotate_left; (focus (intro w hSw; (try dsimp only at hSw); go_simp; try with_reducible rfl)); (try simp only [Act.put, List.setIfInBounds_toArray, List.set_cons_zero, List.set_cons_succ, List.getElem_toArray, List.getElem_cons_zero, List.getElem_cons_succ]))
      refine wpAnyH_done (by kernel_rfl) ?_ _
      obtain ⟨wd, hwd⟩ : ∃ wd, wd = World.drew w3 := ⟨_, rfl⟩
      rw [← hwd]
      rw [← hwd] at hHeld
      have hbd := BlkAt.later HB3.out hHeld
      obtain ⟨w4, hw4⟩ : ∃ w4, w4 = wd.setCell ⟨p, 5, none⟩ (.int .u64 (T + 1)) := ⟨_, rfl⟩
      have hq4 : Chg [p] wd w4 := by rw [hw4]; exact (Chg.refl _ _).set (by simp) _ _
      have HB4 : Hid (BlkAt 137 p (pcs (.slice xa n xc) { s1 with ow := true, tk := s.tk + 1 }) w4) := by
        have := BlkAt.set hbd 5 (.int .u64 (T + 1))
        rw [show T + 1 = ((s.tk + 1 : Nat) : Int) by have := HTT.out; omega] at hw4 this
        rw [hw4]; exact this
      have hnbd := noB_blk hbd (by decide)
      have HL4 : Hid (LnAt w4 p g X (.slice xa n xc) s1.line) := (HL3.out.later hHeld).chg hq4 (fun h => by simpa using h) (fun j hj => by simp at hj; subst hj; exact .inl hnbd)
      have HK4 : Hid (BlkAt 94 w.heap.size [.int .u64 Q, .int .u64 (a : Int), .slice va m vc] w4) := hq4.blk (HK3.out.later hHeld) (by have := HNE.out; simpa using this)
      have HC4 : Hid (Chg [p, g] w w4) := (HC3.out.trans (Chg.of_below _ hHeld)).trans (hq4.mono (by simp))
      have HW4 := Lib.hid hw4
      have c5 : wd.cell? ⟨p, 5, none⟩ = some (.int .u64 T) := (HCEB.out _ hHeld).2.1
      have hfz : ∀ j, wd.frozen? ⟨p, j, none⟩ = false := fun j => hbd.frozen j
      have HCEC : Hid (∀ W, Below w4.heap.size w4 W → W.cell? ⟨p, 4, none⟩ = some (.int .u64 A) ∧ W.cell? ⟨p, 5, none⟩ = some (.int .u64 (T + 1)) ∧ W.cell? ⟨w.heap.size, 0, none⟩ = some (.int .u64 Q) ∧ W.cell? ⟨w.heap.size, 2, none⟩ = some (.slice va m vc)) := by
          have : ∀ W, Below w4.heap.size w4 W → W.cell? ⟨p, 4, none⟩ = some (.int .u64 A) ∧ W.cell? ⟨p, 5, none⟩ = some (.int .u64 (T + 1)) ∧ W.cell? ⟨w.heap.size, 0, none⟩ = some (.int .u64 Q) ∧ W.cell? ⟨w.heap.size, 2, none⟩ = some (.slice va m vc) := fun W hW => by
            have h4 := BlkAt.cell (BlkAt.later HB4.out hW) (j := 4) rfl
            have h5 := BlkAt.cell (BlkAt.later HB4.out hW) (j := 5) rfl
            exact ⟨by rw [HTT.out.2.2.2.1]; exact h4, by rw [show T + 1 = ((s.tk + 1 : Nat) : Int) by have := HTT.out; omega]; exact h5, BlkAt.cell (BlkAt.later HK4.out hW) (j := 0) rfl, BlkAt.cell (BlkAt.later HK4.out hW) (j := 2) rfl⟩
          exact this
      have HV4 := Lib.hid (HV.out w4 HC4.out)
      have HP4 : Hid (PSm p g X (takeM s q a) w4) := by
        have e9 : takeM s q a = { s1 with ow := true, tk := s.tk + 1 } := by rw [HFIN.out, if_pos HQ.out.1, decide_eq_true HQ.out.2]; simp
        rw [e9]; exact ⟨_, HB4.out, HL4.out⟩
      clear hwd hHeld hbd hw4 hq4 hnbd
      go_wp2_with fail
      rw [← HW4.out]
      clear c5 hfz
      (refine wp_region_held_drew (S := (fun w' => Below w4.heap.size w4 w')) (by kernel_rfl) ?_ (fun hHeld => ?_); (focus ((try dsimp only); (exact (Below.refl _ _).drew))))
      (try dsimp only at hHeld)
      (refine wpAnyH_take (i := 0) (v := ?_) rfl (by kernel_rfl) (by kernel_rfl) (by kernel_rfl) (fun _ _ _ h => h) (Or.inl ⟨by rfl, ?_⟩) hHeld ?_; rotate_left; (focus (intro w hSw; (try dsimp only at hSw); go_simp; try with_reducible rfl)); (try simp only [Act.put, List.setIfInBounds_toArray, List.set_cons_zero, List.set_cons_succ, List.getElem_toArray, List.getElem_cons_zero]))
      (refine wpAnyH_take (i := 1) (v := ?_) rfl (by kernel_rfl) (by kernel_rfl) (by kernel_rfl) (fun _ _ _ h => h) (Or.inl ⟨by rfl, ?_⟩) hHeld ?_; rotate_left; (focus (intro w hSw; (try dsimp only at hSw); go_simp; (have c0 := (HCEC.out _ hSw).2.2.2; go_simp; try with_reducible rfl))); (try simp only [Act.put, List.setIfInBounds_toArray, List.set_cons_zero, List.set_cons_succ, List.getElem_toArray, List.getElem_cons_zero, List.getElem_cons_succ]))
      (refine wpAnyH_take (i := 3) (v := ?_) rfl (by kernel_rfl) (by kernel_rfl) (by kernel_rfl) (fun _ _ _ h => h) (Or.inl ⟨by rfl, ?_⟩) hHeld ?_; rotate_left; (focus (intro w hSw; (try dsimp only at hSw); go_simp; try with_reducible rfl)); (try simp only [Act.put, List.setIfInBounds_toArray, List.set_cons_zero, List.set_cons_succ, List.getElem_toArray, List.getElem_cons_zero, List.getElem_cons_succ])); (refine wpAnyH_take (i := 4) (v := ?_) rfl (by kernel_rfl) (by kernel_rfl) (by kernel_rfl) (fun _ _ _ h => h) (Or.inl ⟨by rfl, ?_⟩) hHeld ?_; rotate_left; (focus (intro w hSw; (try dsimp only at hSw); go_simp; try with_reducible rfl)); (try simp only [Act.put, List.setIfInBounds_toArray, List.set_cons_zero, List.set_cons_succ, List.getElem_toArray, List.getElem_cons_zero, List.getElem_cons_succ])); (refine wpAnyH_take (i := 5) (v := ?_) rfl (by kernel_rfl) (by kernel_rfl) (by kernel_rfl) (fun _ _ _ h => h) (Or.inl ⟨by rfl, ?_⟩) hHeld ?_; rotate_left; (focus (intro w hSw; (try dsimp only at hSw); go_simp; try with_reducible rfl)); (try simp only [Act.put, List.setIfInBounds_toArray, List.set_cons_zero, List.set_cons_succ, List.getElem_toArray, List.getElem_cons_zero, List.getElem_cons_succ]))
      (refine wpAnyH_take (i := 6) (v := ?_) rfl (by kernel_rfl) (by kernel_rfl) (by kernel_rfl) (fun _ _ _ h => h) (Or.inl ⟨by rfl, ?_⟩) hHeld ?_; rotate_left; (focus (intro w hSw; (try dsimp only at hSw); go_simp; (have c0 := (HCEC.out _ hSw).1; go_simp; try with_reducible rfl))); (try simp only [Act.put, List.setIfInBounds_toArray, List.set_cons_zero, List.set_cons_succ, List.getElem_toArray, List.getElem_cons_zero, List.getElem_cons_succ]))
      (refine wpAnyH_ready (rs := [2]) (by kernel_rfl) (by simp) ?_; refine AllReadyH.cons rfl (fun K hK => ?_) AllReadyH.nil; go_simp; refine (cloneB _ b _ (HV4.out.later hHeld) (by have := HL.out; omega)).mono ?_; rintro e w5 ⟨u, rfl, ho, hs⟩; obtain ⟨ua, uc, rfl⟩ := OwnB.form ho; refine hK.out _ _ ?_ (fun hHeldN => ?_); (focus ((try dsimp only); (exact hHeld.trans (hs.mono hHeld.size)))); clear hK K hHeld; have hHeld := hHeldN; clear hHeldN; (try simp only [Act.put, List.setIfInBounds_toArray, List.set_cons_zero, List.set_cons_succ, List.getElem_toArray, List.getElem_cons_zero, List.getElem_cons_succ]))
      (refine wpAnyH_take (i := 7) (v := ?_) rfl (by kernel_rfl) (by kernel_rfl) (by kernel_rfl) (fun _ _ _ h => h) (Or.inl ⟨by rfl, ?_⟩) hHeld ?_; rotate_left; (focus (intro w hSw; (try dsimp only at hSw); go_simp; try with_reducible rfl)); (try simp only [Act.put, List.setIfInBounds_toArray, List.set_cons_zero, List.set_cons_succ, List.getElem_toArray, List.getElem_cons_zero, List.getElem_cons_succ])); (refine wpAnyH_take (i := 8) (v := ?_) rfl (by kernel_rfl) (by kernel_rfl) (by kernel_rfl) (fun _ _ _ h => h) (Or.inl ⟨by rfl, ?_⟩) hHeld ?_; rotate_left; (focus (intro w hSw; (try dsimp only at hSw); go_simp; try with_reducible rfl)); (try simp only [Act.put, List.setIfInBounds_toArray, List.set_cons_zero, List.set_cons_succ, List.getElem_toArray, List.getElem_cons_zero, List.getElem_cons_succ])); (refine wpAnyH_take (i := 9) (v := ?_) rfl (by kernel_rfl) (by kernel_rfl) (by kernel_rfl) (fun _ _ _ h => h) (Or.inl ⟨by rfl, ?_⟩) hHeld ?_; rotate_left; (focus (intro w hSw; (try dsimp only at hSw); go_simp; try with_reducible rfl)); (try simp only [Act.put, List.setIfInBounds_toArray, List.set_cons_zero, List.set_cons_succ, List.getElem_toArray, List.getElem_cons_zero, List.getElem_cons_succ])); (refine wpAnyH_take (i := 10) (v := ?_) rfl (by kernel_rfl) (by kernel_rfl) (by kernel_rfl) (fun _ _ _ h => h) (Or.inl ⟨by rfl, ?_⟩) hHeld ?_; rotate_left; (focus (intro w hSw; (try dsimp only at hSw); go_simp; try with_reducible rfl)); (try simp only [Act.put, List.setIfInBounds_toArray, List.set_cons_zero, List.set_cons_succ, List.getElem_toArray, List.getElem_cons_zero, List.getElem_cons_succ]))
      refine wpAnyH_done (by kernel_rfl) ?_ _
      have HO5 : Hid (Bod w5 X (.slice ua b.length uc) b) := Bod.own (show OwnB w5 w4.heap.size _ b from ho) (fun j hj => by have h1 := HX.out j hj; have h2 := HC4.out.size; omega)
      clear ho hs
      go_wp2_with fail
      ((try simp only [Exit.inBlock, Exit.then]); refine bodyPost_ret (results_tmp4 rfl _ _ _) rfl ?_)
      refine ⟨_, by rw [HAC.out, ← HTT.out.2.2.2.1, HFF.out.1]; rfl, by rw [HFF.out.2]; exact HO5.out, HP4.out.later hHeld, HC4.out.trans (Chg.of_below _ hHeld)⟩
    · have k1 : (Q != T + 1) = true := by have := HTT.out; rw [bne_iff_ne]; omega
      have HFF : Hid (decide (q = s.tk + 1) = false ∧ (if q = s.tk + 1 then b else []) = []) := ⟨decide_eq_false hne, if_neg hne⟩
      have HP : Hid (PSm p g X (takeM s q a) w3) := by
        have e9 : takeM s q a = { s1 with ow := true } := by rw [HFIN.out, if_neg hne, decide_eq_true h0]; simp
        rw [e9]; exact ⟨_, HB3.out, HL3.out⟩
      clear h0 hne
      go_wp2_with fail
      rw [← HW3.out]
      clear c4 c5 c6 hfz
      (refine wp_region_held_drew (S := (fun w' => Below w3.heap.size w3 w')) (by kernel_rfl) ?_ (fun hHeld => ?_); (focus ((try dsimp only); (exact (Below.refl _ _).drew))))
      (try dsimp only at hHeld)
      (refine wpAnyH_take (i := 0) (v := ?_) rfl (by kernel_rfl) (by kernel_rfl) (by kernel_rfl) (fun _ _ _ h => h) (Or.inl ⟨by rfl, ?_⟩) hHeld ?_; rotate_left; (focus (intro w hSw; (try dsimp only at hSw); go_simp; try with_reducible rfl)); (try simp only [Act.put, List.setIfInBounds_toArray, List.set_cons_zero, List.set_cons_succ, List.getElem_toArray, List.getElem_cons_zero]))
      (refine wpAnyH_take (i := 1) (v := ?_) rfl (by kernel_rfl) (by kernel_rfl) (by kernel_rfl) (fun _ _ _ h => h) (Or.inl ⟨by rfl, ?_⟩) hHeld ?_; rotate_left; (focus (intro w hSw; (try dsimp only at hSw); go_simp; (have c0 := (HCEB.out _ hSw).2.2.1; go_simp; try with_reducible rfl))); (try simp only [Act.put, List.setIfInBounds_toArray, List.set_cons_zero, List.set_cons_succ, List.getElem_toArray, List.getElem_cons_zero, List.getElem_cons_succ]))
      (refine wpAnyH_take (i := 2) (v := ?_) rfl (by kernel_rfl) (by kernel_rfl) (by kernel_rfl) (fun _ _ _ h => h) (Or.inl ⟨by rfl, ?_⟩) hHeld ?_; rotate_left; (focus (intro w hSw; (try dsimp only at hSw); go_simp; try with_reducible rfl)); (try simp only [Act.put, List.setIfInBounds_toArray, List.set_cons_zero, List.set_cons_succ, List.getElem_toArray, List.getElem_cons_zero, List.getElem_cons_succ])); (refine wpAnyH_take (i := 3) (v := ?_) rfl (by kernel_rfl) (by kernel_rfl) (by kernel_rfl) (fun _ _ _ h => h) (Or.inl ⟨by rfl, ?_⟩) hHeld ?_; rotate_left; (focus (intro w hSw; (try dsimp only at hSw); go_simp; try with_reducible rfl)); (try simp only [Act.put, List.setIfInBounds_toArray, List.set_cons_zero, List.set_cons_succ, List.getElem_toArray, List.getElem_cons_zero, List.getElem_cons_succ])); (refine wpAnyH_take (i := 4) (v := ?_) rfl (by kernel_rfl) (by kernel_rfl) (by kernel_rfl) (fun _ _ _ h => h) (Or.inl ⟨by rfl, ?_⟩) hHeld ?_; rotate_left; (focus (intro w hSw; (try dsimp only at hSw); go_simp; try with_reducible rfl)); (try simp only [Act.put, List.setIfInBounds_toArray, List.set_cons_zero, List.set_cons_succ, List.getElem_toArray, List.getElem_cons_zero, List.getElem_cons_succ]))
      (refine wpAnyH_take (i := 5) (v := ?_) rfl (by kernel_rfl) (by kernel_rfl) (by kernel_rfl) (fun _ _ _ h => h) (Or.inl ⟨by rfl, ?_⟩) hHeld ?_; rotate_left; (focus (intro w hSw; (try dsimp only at hSw); go_simp; (have c0 := (HCEB.out _ hSw).2.1; go_simp; try with_reducible rfl))); (try simp only [Act.put, List.setIfInBounds_toArray, List.set_cons_zero, List.set_cons_succ, List.getElem_toArray, List.getElem_cons_zero, List.getElem_cons_succ]))
      (refine wpAnyH_take (i := 6) (v := ?_) rfl (by kernel_rfl) (by kernel_rfl) (by kernel_rfl) (fun _ _ _ h => h) (Or.inl ⟨by rfl, ?_⟩) hHeld ?_; rotate_left; (focus (intro w hSw; (try dsimp only at hSw); go_simp; try with_reducible rfl)); (try simp only [Act.put, List.setIfInBounds_toArray, List.set_cons_zero, List.set_cons_succ, List.getElem_toArray, List.getElem_cons_zero, List.getElem_cons_succ])); (refine wpAnyH_take (i := 7) (v := ?_) rfl (by kernel_rfl) (by kernel_rfl) (by kernel_rfl) (fun _ _ _ h => h) (Or.inl ⟨by rfl, ?_⟩) hHeld ?_; rotate_left; (focus (intro w hSw; (try dsimp only at hSw); go_simp; try with_reducible rfl)); (try simp only [Act.put, List.setIfInBounds_toArray, List.set_cons_zero, List.set_cons_succ, List.getElem_toArray, List.getElem_cons_zero, List.getElem_cons_succ]))
      refine wpAnyH_done (by kernel_rfl) ?_ _
      obtain ⟨wd, hwd⟩ : ∃ wd, wd = World.drew w3 := ⟨_, rfl⟩
      rw [← hwd]
      rw [← hwd] at hHeld
      have HB7 := Lib.hid hHeld
      clear hwd hHeld
      go_wp2_with fail
      (refine wp_region_held_drew (S := (fun w' => Below w3.heap.size w3 w')) (by kernel_rfl) ?_ (fun hHeld => ?_); (focus ((try dsimp only); (exact HB7.out.drew))))
      (try dsimp only at hHeld)
      (refine wpAnyH_take (i := 0) (v := ?_) rfl (by kernel_rfl) (by kernel_rfl) (by kernel_rfl) (fun _ _ _ h => h) (Or.inl ⟨by rfl, ?_⟩) hHeld ?_; rotate_left; (focus (intro w hSw; (try dsimp only at hSw); go_simp; try with_reducible rfl)); (try simp only [Act.put, List.setIfInBounds_toArray, List.set_cons_zero, List.set_cons_succ, List.getElem_toArray, List.getElem_cons_zero])); (refine wpAnyH_take (i := 1) (v := ?_) rfl (by kernel_rfl) (by kernel_rfl) (by kernel_rfl) (fun _ _ _ h => h) (Or.inl ⟨by rfl, ?_⟩) hHeld ?_; rotate_left; (focus (intro w hSw; (try dsimp only at hSw); go_simp; try with_reducible rfl)); (try simp only [Act.put, List.setIfInBounds_toArray, List.set_cons_zero, List.set_cons_succ, List.getElem_toArray, List.getElem_cons_zero, List.getElem_cons_succ])); (refine wpAnyH_take (i := 2) (v := ?_) rfl (by kernel_rfl) (by kernel_rfl) (by kernel_rfl) (fun _ _ _ h => h) (Or.inl ⟨by rfl, ?_⟩) hHeld ?_; rotate_left; (focus (intro w hSw; (try dsimp only at hSw); go_simp; try with_reducible rfl)); (try simp only [Act.put, List.setIfInBounds_toArray, List.set_cons_zero, List.set_cons_succ, List.getElem_toArray, List.getElem_cons_zero, List.getElem_cons_succ]))
      (refine wpAnyH_take (i := 3) (v := ?_) rfl (by kernel_rfl) (by kernel_rfl) (by kernel_rfl) (fun _ _ _ h => h) (Or.inl ⟨by rfl, ?_⟩) hHeld ?_; rotate_left; (focus (intro w hSw; (try dsimp only at hSw); go_simp; (have c0 := (HCEB.out _ hSw).1; go_simp; try with_reducible rfl))); (try simp only [Act.put, List.setIfInBounds_toArray, List.set_cons_zero, List.set_cons_succ, List.getElem_toArray, List.getElem_cons_zero, List.getElem_cons_succ]))
      (refine wpAnyH_take (i := 4) (v := ?_) rfl (by kernel_rfl) (by kernel_rfl) (by kernel_rfl) (fun _ _ _ h => h) (Or.inl ⟨by rfl, ?_⟩) hHeld ?_; rotate_left; (focus (intro w hSw; (try dsimp only at hSw); go_simp; try with_reducible rfl)); (try simp only [Act.put, List.setIfInBounds_toArray, List.set_cons_zero, List.set_cons_succ, List.getElem_toArray, List.getElem_cons_zero, List.getElem_cons_succ])); (refine wpAnyH_take (i := 5) (v := ?_) rfl (by kernel_rfl) (by kernel_rfl) (by kernel_rfl) (fun _ _ _ h => h) (Or.inl ⟨by rfl, ?_⟩) hHeld ?_; rotate_left; (focus (intro w hSw; (try dsimp only at hSw); go_simp; try with_reducible rfl)); (try simp only [Act.put, List.setIfInBounds_toArray, List.set_cons_zero, List.set_cons_succ, List.getElem_toArray, List.getElem_cons_zero, List.getElem_cons_succ])); (refine wpAnyH_take (i := 6) (v := ?_) rfl (by kernel_rfl) (by kernel_rfl) (by kernel_rfl) (fun _ _ _ h => h) (Or.inl ⟨by rfl, ?_⟩) hHeld ?_; rotate_left; (focus (intro w hSw; (try dsimp only at hSw); go_simp; try with_reducible rfl)); (try simp only [Act.put, List.setIfInBounds_toArray, List.set_cons_zero, List.set_cons_succ, List.getElem_toArray, List.getElem_cons_zero, List.getElem_cons_succ])); (refine wpAnyH_take (i := 7) (v := ?_) rfl (by kernel_rfl) (by kernel_rfl) (by kernel_rfl) (fun _ _ _ h => h) (Or.inl ⟨by rfl, ?_⟩) hHeld ?_; rotate_left; (focus (intro w hSw; (try dsimp only at hSw); go_simp; try with_reducible rfl)); (try simp only [Act.put, List.setIfInBounds_toArray, List.set_cons_zero, List.set_cons_succ, List.getElem_toArray, List.getElem_cons_zero, List.getElem_cons_succ]))
      refine wpAnyH_done (by kernel_rfl) ?_ _
      go_wp2_with fail
      ((try simp only [Exit.inBlock, Exit.then]); refine bodyPost_ret (results_tmp4 rfl _ _ _) rfl ?_)
      refine ⟨_, by rw [HAC.out, ← HTT.out.2.2.2.1, HFF.out.1]; rfl, by rw [HFF.out.2]; exact .inl ⟨rfl, none, 0, rfl, fun _ => rfl⟩, HP.out.later hHeld, HC3.out.trans (Chg.of_below _ hHeld)⟩
end Go.Proofs.Ytghaajmalhcgbaa
