/- The walks of the reference's Send and Take. -/
import Derived.Test.YtadcpmfphcapfaaZ05

set_option linter.unusedSimpArgs false
set_option linter.unusedVariables false
namespace Go.Proofs.Ytadcpmfphcapfaa
open Go.RowKit
attribute [local go_sem ↓] Go.wp_at_zero Go.wp_at_succ

set_option maxHeartbeats 4000000 in
set_option maxRecDepth 100000 in
theorem sendR {w0 w : World} {p r : Nat} {s : Sm} {pre : List (List UInt8)} {N : Nat} (h : RSm w0 p r s pre w) (ok : s.Ok N) (u : Value) (b : List UInt8) (hu : Kn w0 u b) (hb0 : Below w0.heap.size w0 w) (hN : s.line.length < 65536) :
    Calls Try.prog 13 #[.pointer (some ⟨p, 0, none⟩), u] w fun e w' => e = .returned (.int .u64 ((s.ac + s.line.length + 1 : Nat) : Int)) ∧ ∃ r', RSm w0 p r' (sendM s b) pre w' ∧ (r' = r ∨ w.heap.size ≤ r') ∧ Chg [p, r] w w' := by
  obtain ⟨ua, uc, rfl⟩ := (hu w hb0).form
  obtain ⟨v, hb, ha, hp⟩ := h
  obtain ⟨a, c, rfl⟩ := ha.form
  have b3 := ok.few
  have b4 := ok.NN
  obtain ⟨m, hm⟩ : ∃ m, m = b.length := ⟨_, rfl⟩
  rw [← hm] at hu ⊢
  have hn0 : (pre ++ s.line).length = s.ac + s.line.length := by simp [hp]
  obtain ⟨n, hn⟩ : ∃ n, n = (pre ++ s.line).length := ⟨_, rfl⟩
  rw [← hn] at hb ha hn0
  obtain ⟨x, hx⟩ : ∃ x : Int, x = s.ac := ⟨_, rfl⟩
  obtain ⟨d, hd⟩ : ∃ d : Int, d = s.line.length := ⟨_, rfl⟩
  have HH : Hid (n = s.ac + s.line.length ∧ n ≤ 1000000 ∧ x = s.ac ∧ d = s.line.length ∧ n = (pre ++ s.line).length) := ⟨hn0, by omega, hx, hd, hn⟩
  have e1 : IntKind.i64.wrap ((n : Int) - x) = d := by rw [IntWalk.i64_in _ ⟨by omega, by omega⟩]; omega
  have k1 : decide ((65536 : Int) ≤ d) = false := by simp; omega
  have HCE : Hid (∀ W, Below w.heap.size w W → W.cell? ⟨p, 1, none⟩ = some (.slice a n c) ∧ W.cell? ⟨p, 2, none⟩ = some (.int .i64 x)) := by
    have : ∀ W, Below w.heap.size w W → W.cell? ⟨p, 1, none⟩ = some (.slice a n c) ∧ W.cell? ⟨p, 2, none⟩ = some (.int .i64 x) := fun W hW => by
      rw [hx]; exact ⟨BlkAt.cell (hb.later hW) (j := 1) rfl, BlkAt.cell (hb.later hW) (j := 2) rfl⟩
    exact this
  have HBK := Lib.hid hb
  have HAL := Lib.hid ha
  have HP := Lib.hid hp
  have HU : Hid (Kn w0 (.slice ua m uc) b) := hu
  clear hb ha hp hn hn0 hx hd ok b3 b4 hN hu hm hb0
  go_enter Try.func13, Try.ntmps13
  go_wp2_with fail
  (refine wp_region_held_drew (S := (fun w' => Below w.heap.size w w')) (by kernel_rfl) ?_ (fun hHeld => ?_); (focus ((try dsimp only); (exact (Below.refl _ _).drew))))
  (try dsimp only at hHeld)
  (refine wpAnyH_take (i := 0) (v := ?_) rfl (by kernel_rfl) (by kernel_rfl) (by kernel_rfl) (fun _ _ _ h => h) (Or.inl ⟨by rfl, ?_⟩) hHeld ?_; rotate_left; (focus (intro w hSw; (try dsimp only at hSw); go_simp; try with_reducible rfl)); (try simp only [Act.put, List.setIfInBounds_toArray, List.set_cons_zero, List.set_cons_succ, List.getElem_toArray, List.getElem_cons_zero])); (refine wpAnyH_take (i := 1) (v := ?_) rfl (by kernel_rfl) (by kernel_rfl) (by kernel_rfl) (fun _ _ _ h => h) (Or.inl ⟨by rfl, ?_⟩) hHeld ?_; rotate_left; (focus (intro w hSw; (try dsimp only at hSw); go_simp; try with_reducible rfl)); (try simp only [Act.put, List.setIfInBounds_toArray, List.set_cons_zero, List.set_cons_succ, List.getElem_toArray, List.getElem_cons_zero, List.getElem_cons_succ])); (refine wpAnyH_take (i := 2) (v := ?_) rfl (by kernel_rfl) (by kernel_rfl) (by kernel_rfl) (fun _ _ _ h => h) (Or.inl ⟨by rfl, ?_⟩) hHeld ?_; rotate_left; (focus (intro w hSw; (try dsimp only at hSw); go_simp; try with_reducible rfl)); (try simp only [Act.put, List.setIfInBounds_toArray, List.set_cons_zero, List.set_cons_succ, List.getElem_toArray, List.getElem_cons_zero, List.getElem_cons_succ]))
  (refine wpAnyH_take (i := 3) (v := ?_) rfl (by kernel_rfl) (by kernel_rfl) (by kernel_rfl) (fun _ _ _ h => h) (Or.inl ⟨by rfl, ?_⟩) hHeld ?_; rotate_left; (focus (intro w hSw; (try dsimp only at hSw); go_simp; (have cc := (HCE.out _ hSw).1; go_simp; try with_reducible rfl))); (try simp only [Act.put, List.setIfInBounds_toArray, List.set_cons_zero, List.set_cons_succ, List.getElem_toArray, List.getElem_cons_zero, List.getElem_cons_succ]))
  (refine wpAnyH_take (i := 4) (v := ?_) rfl (by kernel_rfl) (by kernel_rfl) (by kernel_rfl) (fun _ _ _ h => h) (Or.inl ⟨by rfl, ?_⟩) hHeld ?_; rotate_left; (focus (intro w hSw; (try dsimp only at hSw); go_simp; try with_reducible rfl)); (try simp only [Act.put, List.setIfInBounds_toArray, List.set_cons_zero, List.set_cons_succ, List.getElem_toArray, List.getElem_cons_zero, List.getElem_cons_succ])); (refine wpAnyH_take (i := 5) (v := ?_) rfl (by kernel_rfl) (by kernel_rfl) (by kernel_rfl) (fun _ _ _ h => h) (Or.inl ⟨by rfl, ?_⟩) hHeld ?_; rotate_left; (focus (intro w hSw; (try dsimp only at hSw); go_simp; try with_reducible rfl)); (try simp only [Act.put, List.setIfInBounds_toArray, List.set_cons_zero, List.set_cons_succ, List.getElem_toArray, List.getElem_cons_zero, List.getElem_cons_succ])); (refine wpAnyH_take (i := 6) (v := ?_) rfl (by kernel_rfl) (by kernel_rfl) (by kernel_rfl) (fun _ _ _ h => h) (Or.inl ⟨by rfl, ?_⟩) hHeld ?_; rotate_left; (focus (intro w hSw; (try dsimp only at hSw); go_simp; try with_reducible rfl)); (try simp only [Act.put, List.setIfInBounds_toArray, List.set_cons_zero, List.set_cons_succ, List.getElem_toArray, List.getElem_cons_zero, List.getElem_cons_succ])); (refine wpAnyH_take (i := 7) (v := ?_) rfl (by kernel_rfl) (by kernel_rfl) (by kernel_rfl) (fun _ _ _ h => h) (Or.inl ⟨by rfl, ?_⟩) hHeld ?_; rotate_left; (focus (intro w hSw; (try dsimp only at hSw); go_simp; try with_reducible rfl)); (try simp only [Act.put, List.setIfInBounds_toArray, List.set_cons_zero, List.set_cons_succ, List.getElem_toArray, List.getElem_cons_zero, List.getElem_cons_succ]))
  (refine wpAnyH_take (i := 8) (v := ?_) rfl (by kernel_rfl) (by kernel_rfl) (by kernel_rfl) (fun _ _ _ h => h) (Or.inl ⟨by rfl, ?_⟩) hHeld ?_; rotate_left; (focus (intro w hSw; (try dsimp only at hSw); go_simp; (have cc := (HCE.out _ hSw).2; go_simp; try with_reducible rfl))); (try simp only [Act.put, List.setIfInBounds_toArray, List.set_cons_zero, List.set_cons_succ, List.getElem_toArray, List.getElem_cons_zero, List.getElem_cons_succ]))
  (refine wpAnyH_take (i := 9) (v := ?_) rfl (by kernel_rfl) (by kernel_rfl) (by kernel_rfl) (fun _ _ _ h => h) (Or.inl ⟨by rfl, ?_⟩) hHeld ?_; rotate_left; (focus (intro w hSw; (try dsimp only at hSw); go_simp; try with_reducible rfl)); (try simp only [Act.put, List.setIfInBounds_toArray, List.set_cons_zero, List.set_cons_succ, List.getElem_toArray, List.getElem_cons_zero, List.getElem_cons_succ])); (refine wpAnyH_take (i := 10) (v := ?_) rfl (by kernel_rfl) (by kernel_rfl) (by kernel_rfl) (fun _ _ _ h => h) (Or.inl ⟨by rfl, ?_⟩) hHeld ?_; rotate_left; (focus (intro w hSw; (try dsimp only at hSw); go_simp; try with_reducible rfl)); (try simp only [Act.put, List.setIfInBounds_toArray, List.set_cons_zero, List.set_cons_succ, List.getElem_toArray, List.getElem_cons_zero, List.getElem_cons_succ]))
  refine wpAnyH_done (by kernel_rfl) ?_ _
  obtain ⟨wd, hwd⟩ : ∃ wd, wd = World.drew w := ⟨_, rfl⟩
  rw [← hwd]
  rw [← hwd] at hHeld
  have HBK2 := Lib.hid (BlkAt.later HBK.out hHeld)
  have HAL2 := Lib.hid (HAL.out.chg (Chg.of_below [] hHeld) (by simp))
  have HBD := Lib.hid hHeld
  have c1 := BlkAt.cell HBK2.out (j := 1) rfl
  obtain ⟨w2, hw2⟩ : ∃ w2, w2 = wd.alloc (.cells #[.slice ua m uc] 33) := ⟨_, rfl⟩
  have hb2 : Below wd.heap.size wd w2 := by rw [hw2]; exact ba1 _ _
  have hce : w2.cell? ⟨wd.heap.size, 0, none⟩ = some (.slice ua m uc) := by rw [hw2]; exact BlkAt.cell (BlkAt.new (t := 33) wd [.slice ua m uc]) (j := 0) rfl
  have HB2 : Hid (BlkAt 32 p (rcs (.slice a n c) s) w2) := BlkAt.later HBK2.out hb2
  have HAL3 := HAL2.out.chg (Chg.of_below [] hb2) (by simp)
  have HR : Hid (∀ ty, ∃ v' w', (Builtin.append_ #[29, 29] ty #[.slice a n c, .slice (some ⟨wd.heap.size, 0, none⟩) 1 1]).run Try.prog w2 = .ok v' w' ∧ ∃ r', AlAt w0 w' p r' v' ((pre ++ s.line) ++ [b]) ∧ Chg [r] w2 w' ∧ w'.heap[p]? = w2.heap[p]? ∧ (r' = r ∨ w2.heap.size ≤ r')) := fun ty =>
    al_app HAL3 (BlkAt.lt HB2.out) HU.out rfl hce (by have := HH.out; omega) ty
  have HW2 := Lib.hid hw2
  have HBS2 : Hid (Below w.heap.size w w2) := hHeld.trans (hb2.mono hHeld.size)
  clear hwd hHeld hw2 hb2 hce HAL3
  go_wp2_with (at_builtin; refine wpList_appG rfl (.tmp 20) (.tmp 22) _ _ rfl _ _ _ rfl rfl (by rw [← HW2.out]; exact HR.out) ?_; rintro v4 w4 ⟨r4, hl4, hc4, hp4, hr4⟩; obtain ⟨a4, c4, rfl⟩ := hl4.form; obtain ⟨n1, hn1⟩ : ∃ n1, n1 = ((pre ++ s.line) ++ [b]).length := ⟨_, rfl⟩; rw [← hn1] at hl4 ⊢; have HN1 : Hid (n1 = n + 1) := (by show _ = _; rw [hn1, HH.out.2.2.2.2]; simp; omega); have HL4 := Lib.hid hl4; have HC4 := Lib.hid hc4; have HP4 := Lib.hid hp4; have HR4 := Lib.hid hr4; have HB4 : Hid (BlkAt 32 p (rcs (.slice a n c) s) w4) := hp4.trans HB2.out; have c1 := BlkAt.cell HB4.out (j := 1) rfl; have hfz : ∀ j, w4.frozen? ⟨p, j, none⟩ = false := (fun j => BlkAt.frozen HB4.out j); have g1 : (n1 : Int) ≤ 1000001 := (by have := HN1.out; have := HH.out; omega); clear hl4 hc4 hp4 hr4 hn1)
  go_ret
  have hq : Chg [p] w4 (w4.setCell ⟨p, 1, none⟩ (.slice a4 n1 c4)) := (Chg.refl _ _).set (by simp) _ _
  refine ⟨?_, r4, ⟨_, BlkAt.set HB4.out 1 _, ?_, HP.out⟩, ?_, (((Chg.of_below _ HBS2.out).trans (HC4.out.mono (by simp))).trans (hq.mono (by simp)))⟩
  · have h1 := HN1.out; have h2 := HH.out
    show Ending.returned (.int .u64 _) = _
    congr 2
    omega
  · show AlAt w0 _ p r4 _ (pre ++ (s.line ++ [b]))
    rw [← List.append_assoc]
    exact HL4.out.chg hq (fun h => by simpa using h)
  · rcases HR4.out with e | e
    · exact .inl e
    · exact .inr (by have := HBS2.out.size; omega)
/-- What the reference's Take leaves. -/
def TrA (w0 : World) (p r : Nat) (s : Sm) (pre : List (List UInt8)) (q a : Nat) (b : List UInt8) (w : World) (e : Ending) (w' : World) : Prop :=
  ∃ x, e = .returned (.tuple #[x, .bool (decide (q = s.tk + 1))]) ∧ Kn w0 x (if q = s.tk + 1 then b else []) ∧ ∃ pre', RSm w0 p r (takeM s q a) pre' w' ∧ Chg [p] w w'
theorem kn_nil (w0 : World) : Kn w0 (.slice none 0 0) [] := fun W _ => Bytes.nil _ none 0 (fun _ => rfl)
set_option maxHeartbeats 8000000 in
set_option maxRecDepth 100000 in
theorem takeRA {w0 w : World} {p r : Nat} {s : Sm} {pre : List (List UInt8)} {N : Nat} (h : RSm w0 p r s pre w) (ok : s.Ok N) (q a : Nat) (hq : (q : Int) ≤ 18446744073709551615) (ha : (a : Int) ≤ 18446744073709551615) (u : Value) (b : List UInt8) (hu : Kn w0 u b) (hb0 : Below w0.heap.size w0 w) (hna : a ≤ s.ac) :
    Calls Try.prog 15 #[.pointer (some ⟨p, 0, none⟩), .agg #[.int .u64 (q : Int), .int .u64 (a : Int), u]] w (TrA w0 p r s pre q a b w) := by
  obtain ⟨ua, uc, rfl⟩ := (hu w hb0).form
  have hpl := h.lt
  obtain ⟨v, hb, hal, hp⟩ := h
  obtain ⟨va, vc, rfl⟩ := hal.form
  have b1 := ok.t1
  have b2 := ok.t8
  have b3 := ok.few
  have b4 := ok.NN
  have b5 := ok.tkN
  obtain ⟨m, hm⟩ : ∃ m, m = b.length := ⟨_, rfl⟩
  rw [← hm] at hu ⊢
  obtain ⟨n, hn⟩ : ∃ n, n = (pre ++ s.line).length := ⟨_, rfl⟩
  rw [← hn] at hb hal
  obtain ⟨x, hx⟩ : ∃ x : Int, x = s.ac := ⟨_, rfl⟩
  obtain ⟨z, hz⟩ : ∃ z : Int, z = ((s.ac + s.told : Nat) : Int) := ⟨_, rfl⟩
  obtain ⟨A, hA⟩ : ∃ A : Int, A = a := ⟨_, rfl⟩
  obtain ⟨Q, hQ⟩ : ∃ Q : Int, Q = q := ⟨_, rfl⟩
  obtain ⟨T, hT⟩ : ∃ T : Int, T = s.tk := ⟨_, rfl⟩
  rw [← hA, ← hQ]
  obtain ⟨w1, hw1⟩ : ∃ w1, w1 = w.alloc (.cells #[.int .u64 Q, .int .u64 A, .slice ua m uc] 35) := ⟨_, rfl⟩
  have hb1 : Below w.heap.size w w1 := by rw [hw1]; exact ba1 _ _
  have HK : Hid (BlkAt 35 w.heap.size [.int .u64 Q, .int .u64 A, .slice ua m uc] w1) := by rw [hw1]; exact BlkAt.new w _
  have HBK : Hid (BlkAt 32 p (rcs (.slice va n vc) s) w1) := hb.later hb1
  have HAL : Hid (AlAt w0 w1 p r (.slice va n vc) (pre ++ s.line)) := hal.chg (Chg.of_below [] hb1) (by simp)
  have HCE : Hid (∀ W, Below w1.heap.size w1 W → W.cell? ⟨p, 2, none⟩ = some (.int .i64 x) ∧ W.cell? ⟨p, 3, none⟩ = some (.int .i64 z) ∧ W.cell? ⟨w.heap.size, 1, none⟩ = some (.int .u64 A)) := by
    have : ∀ W, Below w1.heap.size w1 W → W.cell? ⟨p, 2, none⟩ = some (.int .i64 x) ∧ W.cell? ⟨p, 3, none⟩ = some (.int .i64 z) ∧ W.cell? ⟨w.heap.size, 1, none⟩ = some (.int .u64 A) := fun W hW => by
      rw [hx, hz]; exact ⟨BlkAt.cell (BlkAt.later HBK.out hW) (j := 2) rfl, BlkAt.cell (BlkAt.later HBK.out hW) (j := 3) rfl, BlkAt.cell (BlkAt.later HK.out hW) (j := 1) rfl⟩
    exact this
  have HH : Hid (x = s.ac ∧ z = ((s.ac + s.told : Nat) : Int) ∧ A = a ∧ Q = q ∧ T = s.tk ∧ s.tk ≤ 1000000 ∧ pre.length = s.ac ∧ s.ac + s.line.length ≤ 1000000 ∧ s.told ≤ s.line.length ∧ n = (pre ++ s.line).length) := ⟨hx, hz, hA, hQ, hT, by omega, hp, by omega, b1, hn⟩
  have HW1 := Lib.hid hw1
  have HB1 := Lib.hid hb1
  have HPL : Hid (p < w.heap.size ∧ r < w.heap.size) := hpl
  have HU : Hid (Kn w0 (.slice ua m uc) b) := hu
  have HM := Lib.hid hm
  have i1 : IntKind.u64.wrap x = x := IntWalk.u64_in _ ⟨by omega, by omega⟩
  have i2 : IntKind.u64.wrap z = z := IntWalk.u64_in _ ⟨by omega, by omega⟩
  have k9 : decide (x < A) = false := by simp; omega
  have HNA : Hid (¬ (s.ac < a ∧ a ≤ s.ac + s.told)) := by intro h; omega
  clear hna
  clear hb hal hp hm hn hx hz hA hQ hT hw1 hb1 ok b1 b2 b3 b4 b5 hu hb0 hpl ha hq
  go_enter Try.func15, Try.ntmps15
  go_wp2_with fail
  rw [← HW1.out]
  (refine wp_region_held_drew (S := (fun w' => Below w1.heap.size w1 w')) (by kernel_rfl) ?_ (fun hHeld => ?_); (focus ((try dsimp only); (exact (Below.refl _ _).drew))))
  (try dsimp only at hHeld)
  (refine wpAnyH_take (i := 0) (v := ?_) rfl (by kernel_rfl) (by kernel_rfl) (by kernel_rfl) (fun _ _ _ h => h) (Or.inl ⟨by rfl, ?_⟩) hHeld ?_; rotate_left; (focus (intro w hSw; (try dsimp only at hSw); go_simp; try with_reducible rfl)); (try simp only [Act.put, List.setIfInBounds_toArray, List.set_cons_zero, List.set_cons_succ, List.getElem_toArray, List.getElem_cons_zero]))
  (refine wpAnyH_take (i := 1) (v := ?_) rfl (by kernel_rfl) (by kernel_rfl) (by kernel_rfl) (fun _ _ _ h => h) (Or.inl ⟨by rfl, ?_⟩) hHeld ?_; rotate_left; (focus (intro w hSw; (try dsimp only at hSw); go_simp; (have cc := (HCE.out _ hSw).2.2; go_simp; try with_reducible rfl))); (try simp only [Act.put, List.setIfInBounds_toArray, List.set_cons_zero, List.set_cons_succ, List.getElem_toArray, List.getElem_cons_zero, List.getElem_cons_succ]))
  (refine wpAnyH_take (i := 2) (v := ?_) rfl (by kernel_rfl) (by kernel_rfl) (by kernel_rfl) (fun _ _ _ h => h) (Or.inl ⟨by rfl, ?_⟩) hHeld ?_; rotate_left; (focus (intro w hSw; (try dsimp only at hSw); go_simp; try with_reducible rfl)); (try simp only [Act.put, List.setIfInBounds_toArray, List.set_cons_zero, List.set_cons_succ, List.getElem_toArray, List.getElem_cons_zero, List.getElem_cons_succ])); (refine wpAnyH_take (i := 3) (v := ?_) rfl (by kernel_rfl) (by kernel_rfl) (by kernel_rfl) (fun _ _ _ h => h) (Or.inl ⟨by rfl, ?_⟩) hHeld ?_; rotate_left; (focus (intro w hSw; (try dsimp only at hSw); go_simp; try with_reducible rfl)); (try simp only [Act.put, List.setIfInBounds_toArray, List.set_cons_zero, List.set_cons_succ, List.getElem_toArray, List.getElem_cons_zero, List.getElem_cons_succ])); (refine wpAnyH_take (i := 4) (v := ?_) rfl (by kernel_rfl) (by kernel_rfl) (by kernel_rfl) (fun _ _ _ h => h) (Or.inl ⟨by rfl, ?_⟩) hHeld ?_; rotate_left; (focus (intro w hSw; (try dsimp only at hSw); go_simp; try with_reducible rfl)); (try simp only [Act.put, List.setIfInBounds_toArray, List.set_cons_zero, List.set_cons_succ, List.getElem_toArray, List.getElem_cons_zero, List.getElem_cons_succ]))
  (refine wpAnyH_take (i := 5) (v := ?_) rfl (by kernel_rfl) (by kernel_rfl) (by kernel_rfl) (fun _ _ _ h => h) (Or.inl ⟨by rfl, ?_⟩) hHeld ?_; rotate_left; (focus (intro w hSw; (try dsimp only at hSw); go_simp; (have cc := (HCE.out _ hSw).1; go_simp; try with_reducible rfl))); (try simp only [Act.put, List.setIfInBounds_toArray, List.set_cons_zero, List.set_cons_succ, List.getElem_toArray, List.getElem_cons_zero, List.getElem_cons_succ]))
  (refine wpAnyH_take (i := 6) (v := ?_) rfl (by kernel_rfl) (by kernel_rfl) (by kernel_rfl) (fun _ _ _ h => h) (Or.inl ⟨by rfl, ?_⟩) hHeld ?_; rotate_left; (focus (intro w hSw; (try dsimp only at hSw); go_simp; try with_reducible rfl)); (try simp only [Act.put, List.setIfInBounds_toArray, List.set_cons_zero, List.set_cons_succ, List.getElem_toArray, List.getElem_cons_zero, List.getElem_cons_succ])); (refine wpAnyH_take (i := 7) (v := ?_) rfl (by kernel_rfl) (by kernel_rfl) (by kernel_rfl) (fun _ _ _ h => h) (Or.inl ⟨by rfl, ?_⟩) hHeld ?_; rotate_left; (focus (intro w hSw; (try dsimp only at hSw); go_simp; try with_reducible rfl)); (try simp only [Act.put, List.setIfInBounds_toArray, List.set_cons_zero, List.set_cons_succ, List.getElem_toArray, List.getElem_cons_zero, List.getElem_cons_succ])); (refine wpAnyH_take (i := 8) (v := ?_) rfl (by kernel_rfl) (by kernel_rfl) (by kernel_rfl) (fun _ _ _ h => h) (Or.inl ⟨by rfl, ?_⟩) hHeld ?_; rotate_left; (focus (intro w hSw; (try dsimp only at hSw); go_simp; try with_reducible rfl)); (try simp only [Act.put, List.setIfInBounds_toArray, List.set_cons_zero, List.set_cons_succ, List.getElem_toArray, List.getElem_cons_zero, List.getElem_cons_succ]))
  (refine wpAnyH_take (i := 9) (v := undef) rfl (by kernel_rfl) (by kernel_rfl) (by kernel_rfl) (fun _ _ _ h => h) (Or.inr ⟨by rfl, rfl⟩) hHeld ?_; (try simp only [Act.put, List.setIfInBounds_toArray, List.set_cons_zero, List.set_cons_succ, List.getElem_toArray, List.getElem_cons_zero, List.getElem_cons_succ])); (refine wpAnyH_take (i := 10) (v := undef) rfl (by kernel_rfl) (by kernel_rfl) (by kernel_rfl) (fun _ _ _ h => h) (Or.inr ⟨by rfl, rfl⟩) hHeld ?_; (try simp only [Act.put, List.setIfInBounds_toArray, List.set_cons_zero, List.set_cons_succ, List.getElem_toArray, List.getElem_cons_zero, List.getElem_cons_succ])); (refine wpAnyH_take (i := 11) (v := undef) rfl (by kernel_rfl) (by kernel_rfl) (by kernel_rfl) (fun _ _ _ h => h) (Or.inr ⟨by rfl, rfl⟩) hHeld ?_; (try simp only [Act.put, List.setIfInBounds_toArray, List.set_cons_zero, List.set_cons_succ, List.getElem_toArray, List.getElem_cons_zero, List.getElem_cons_succ])); (refine wpAnyH_take (i := 12) (v := undef) rfl (by kernel_rfl) (by kernel_rfl) (by kernel_rfl) (fun _ _ _ h => h) (Or.inr ⟨by rfl, rfl⟩) hHeld ?_; (try simp only [Act.put, List.setIfInBounds_toArray, List.set_cons_zero, List.set_cons_succ, List.getElem_toArray, List.getElem_cons_zero, List.getElem_cons_succ])); (refine wpAnyH_take (i := 13) (v := undef) rfl (by kernel_rfl) (by kernel_rfl) (by kernel_rfl) (fun _ _ _ h => h) (Or.inr ⟨by rfl, rfl⟩) hHeld ?_; (try simp only [Act.put, List.setIfInBounds_toArray, List.set_cons_zero, List.set_cons_succ, List.getElem_toArray, List.getElem_cons_zero, List.getElem_cons_succ])); (refine wpAnyH_take (i := 14) (v := undef) rfl (by kernel_rfl) (by kernel_rfl) (by kernel_rfl) (fun _ _ _ h => h) (Or.inr ⟨by rfl, rfl⟩) hHeld ?_; (try simp only [Act.put, List.setIfInBounds_toArray, List.set_cons_zero, List.set_cons_succ, List.getElem_toArray, List.getElem_cons_zero, List.getElem_cons_succ])); (refine wpAnyH_take (i := 15) (v := undef) rfl (by kernel_rfl) (by kernel_rfl) (by kernel_rfl) (fun _ _ _ h => h) (Or.inr ⟨by rfl, rfl⟩) hHeld ?_; (try simp only [Act.put, List.setIfInBounds_toArray, List.set_cons_zero, List.set_cons_succ, List.getElem_toArray, List.getElem_cons_zero, List.getElem_cons_succ])); (refine wpAnyH_take (i := 16) (v := undef) rfl (by kernel_rfl) (by kernel_rfl) (by kernel_rfl) (fun _ _ _ h => h) (Or.inr ⟨by rfl, rfl⟩) hHeld ?_; (try simp only [Act.put, List.setIfInBounds_toArray, List.set_cons_zero, List.set_cons_succ, List.getElem_toArray, List.getElem_cons_zero, List.getElem_cons_succ]))
  (refine wpAnyH_take (i := 17) (v := ?_) rfl (by kernel_rfl) (by kernel_rfl) (by kernel_rfl) (fun _ _ _ h => h) (Or.inl ⟨by rfl, ?_⟩) hHeld ?_; rotate_left; (focus (intro w hSw; (try dsimp only at hSw); go_simp; try with_reducible rfl)); (try simp only [Act.put, List.setIfInBounds_toArray, List.set_cons_zero, List.set_cons_succ, List.getElem_toArray, List.getElem_cons_zero, List.getElem_cons_succ]))
  refine wpAnyH_done (by kernel_rfl) ?_ _
  obtain ⟨wd, hwd⟩ : ∃ wd, wd = World.drew w1 := ⟨_, rfl⟩
  rw [← hwd]
  rw [← hwd] at hHeld
  have hbd := BlkAt.later HBK.out hHeld
  have hkd := BlkAt.later HK.out hHeld
  have had := HAL.out.chg (Chg.of_below [] hHeld) (by simp)
  have HCD : Hid (Chg [p] w wd) := Chg.of_below _ (HB1.out.trans (hHeld.mono HB1.out.size))
  obtain ⟨s1, hs1⟩ : ∃ s1, s1 = ackM s a := ⟨_, rfl⟩
  have es : s1 = s := by rw [hs1]; unfold ackM; rw [if_neg HNA.out]
  obtain ⟨wa, hwa⟩ : ∃ wa, wa = wd := ⟨_, rfl⟩
  rw [← hwa] at hbd hkd had HCD ⊢
  have HBA : Hid (BlkAt 32 p (rcs (.slice va n vc) s1) wa) := by rw [es]; exact hbd
  have HKA : Hid (BlkAt 35 w.heap.size [.int .u64 Q, .int .u64 A, .slice ua m uc] wa) := hkd
  have HAA : Hid (∃ pre1 : List (List UInt8), AlAt w0 wa p r (.slice va n vc) (pre1 ++ s1.line) ∧ pre1.length = s1.ac) := ⟨pre, by rw [es]; exact had, by rw [es]; exact HH.out.2.2.2.2.2.2.1⟩
  have HCA : Hid (Chg [p] w wa) := HCD.out
  have HS1 := Lib.hid hs1
  have HWA : Hid (wa = wd) := hwa
  clear hwa hs1 es
  clear hwd hHeld hbd hkd had
  have h1t : s1.tk = s.tk := by rw [HS1.out]; exact ackM_tk s a
  have h1o : s1.ow = s.ow := by rw [HS1.out]; exact ackM_ow s a
  have HFIN : Hid (takeM s q a = { s1 with ow := (s1.ow || decide (q ≠ 0)), tk := if q = s.tk + 1 then s.tk + 1 else s1.tk }) := by show _ = _; rw [h1t, h1o, HS1.out]; rfl
  have HT1 : Hid (T = s1.tk) := by show _ = _; rw [h1t]; exact HH.out.2.2.2.2.1
  have hba := HBA.out
  have g0 : wa.cell? ⟨w.heap.size, 0, none⟩ = some (.int .u64 Q) := BlkAt.cell HKA.out (j := 0) rfl
  have g5 := BlkAt.cell hba (j := 5) rfl
  have hfa : ∀ j, wa.frozen? ⟨p, j, none⟩ = false := fun j => hba.frozen j
  clear h1t h1o hba

  by_cases h0 : q = 0
  · have k0 : (Q == 0) = true := by have := HH.out; rw [beq_iff_eq]; omega
    have hne : ¬ q = s.tk + 1 := by omega
    have HRR : Hid (∃ pre', RSm w0 p r (takeM s q a) pre' wa) := by
      obtain ⟨pre1, h1, h2⟩ := HAA.out
      have e9 : takeM s q a = s1 := by rw [HFIN.out, if_neg hne, h0]; simp
      rw [e9]; exact ⟨pre1, _, HBA.out, h1, h2⟩
    have HFF : Hid (decide (q = s.tk + 1) = false ∧ (if q = s.tk + 1 then b else []) = []) := ⟨decide_eq_false hne, if_neg hne⟩
    clear h0 hne
    go_wp2_with fail
    go_ret2
    obtain ⟨pre', h9⟩ := HRR.out
    exact ⟨_, by rw [HFF.out.1]; rfl, by rw [HFF.out.2]; exact kn_nil _, pre', by first | exact h9 | (rw [← HWA.out]; exact h9), by first | exact HCA.out | (rw [← HWA.out]; exact HCA.out)⟩
  · have k0 : (Q == 0) = false := by have := HH.out; rw [beq_eq_false_iff_ne]; omega
    obtain ⟨w3, hw3⟩ : ∃ w3, w3 = wa.setCell ⟨p, 5, none⟩ (.bool true) := ⟨_, rfl⟩
    have hq3 : Chg [p] wa w3 := by rw [hw3]; exact (Chg.refl _ _).set (by simp) _ _
    have HB3 : Hid (BlkAt 32 p (rcs (.slice va n vc) { s1 with ow := true }) w3) := by rw [hw3]; exact BlkAt.set HBA.out 5 (.bool true)
    have HA3 : Hid (∃ pre1 : List (List UInt8), AlAt w0 w3 p r (.slice va n vc) (pre1 ++ s1.line) ∧ pre1.length = s1.ac) := by
      obtain ⟨pre1, h1, h2⟩ := HAA.out
      exact ⟨pre1, h1.chg hq3 (fun h => by simpa using h), h2⟩
    have HK3 : Hid (BlkAt 35 w.heap.size [.int .u64 Q, .int .u64 A, .slice ua m uc] w3) := hq3.blk HKA.out (by have := HPL.out; simp; omega)
    have HC3 : Hid (Chg [p] w w3) := HCA.out.trans hq3
    have HW3 := Lib.hid hw3
    have HCE3 : Hid (∀ W, Below w3.heap.size w3 W → W.cell? ⟨p, 4, none⟩ = some (.int .u64 T) ∧ W.cell? ⟨w.heap.size, 0, none⟩ = some (.int .u64 Q)) := by
      have : ∀ W, Below w3.heap.size w3 W → W.cell? ⟨p, 4, none⟩ = some (.int .u64 T) ∧ W.cell? ⟨w.heap.size, 0, none⟩ = some (.int .u64 Q) := fun W hW => by
        rw [HT1.out]; exact ⟨BlkAt.cell (BlkAt.later HB3.out hW) (j := 4) rfl, BlkAt.cell (BlkAt.later HK3.out hW) (j := 0) rfl⟩
      exact this
    have e1 : IntKind.u64.wrap (T + 1) = T + 1 := IntWalk.u64_in _ ⟨by have := HH.out; omega, by have := HH.out; omega⟩
    clear hw3 hq3
    by_cases hne : q = s.tk + 1
    · have k1 : (Q != T + 1) = false := by have := HH.out; rw [bne_eq_false_iff_eq]; omega
      have HFF : Hid (decide (q = s.tk + 1) = true ∧ (if q = s.tk + 1 then b else []) = b ∧ q = s.tk + 1 ∧ q ≠ 0) := ⟨decide_eq_true hne, if_pos hne, hne, h0⟩
      clear h0 hne
      go_wp2_with fail
      rw [← HW3.out]
      clear g0 g5 hfa
      (refine wp_region_held_drew (S := (fun w' => Below w3.heap.size w3 w')) (by kernel_rfl) ?_ (fun hHeld => ?_); (focus ((try dsimp only); (exact (Below.refl _ _).drew))))
      (try dsimp only at hHeld)
      (refine wpAnyH_take (i := 0) (v := ?_) rfl (by kernel_rfl) (by kernel_rfl) (by kernel_rfl) (fun _ _ _ h => h) (Or.inl ⟨by rfl, ?_⟩) hHeld ?_; rotate_left; (focus (intro w hSw; (try dsimp only at hSw); go_simp; try with_reducible rfl)); (try simp only [Act.put, List.setIfInBounds_toArray, List.set_cons_zero, List.set_cons_succ, List.getElem_toArray, List.getElem_cons_zero]))
      (refine wpAnyH_take (i := 1) (v := ?_) rfl (by kernel_rfl) (by kernel_rfl) (by kernel_rfl) (fun _ _ _ h => h) (Or.inl ⟨by rfl, ?_⟩) hHeld ?_; rotate_left; (focus (intro w hSw; (try dsimp only at hSw); go_simp; (have cc := (HCE3.out _ hSw).2; go_simp; try with_reducible rfl))); (try simp only [Act.put, List.setIfInBounds_toArray, List.set_cons_zero, List.set_cons_succ, List.getElem_toArray, List.getElem_cons_zero, List.getElem_cons_succ]))
      (refine wpAnyH_take (i := 2) (v := ?_) rfl (by kernel_rfl) (by kernel_rfl) (by kernel_rfl) (fun _ _ _ h => h) (Or.inl ⟨by rfl, ?_⟩) hHeld ?_; rotate_left; (focus (intro w hSw; (try dsimp only at hSw); go_simp; try with_reducible rfl)); (try simp only [Act.put, List.setIfInBounds_toArray, List.set_cons_zero, List.set_cons_succ, List.getElem_toArray, List.getElem_cons_zero, List.getElem_cons_succ])); (refine wpAnyH_take (i := 3) (v := ?_) rfl (by kernel_rfl) (by kernel_rfl) (by kernel_rfl) (fun _ _ _ h => h) (Or.inl ⟨by rfl, ?_⟩) hHeld ?_; rotate_left; (focus (intro w hSw; (try dsimp only at hSw); go_simp; try with_reducible rfl)); (try simp only [Act.put, List.setIfInBounds_toArray, List.set_cons_zero, List.set_cons_succ, List.getElem_toArray, List.getElem_cons_zero, List.getElem_cons_succ])); (refine wpAnyH_take (i := 4) (v := ?_) rfl (by kernel_rfl) (by kernel_rfl) (by kernel_rfl) (fun _ _ _ h => h) (Or.inl ⟨by rfl, ?_⟩) hHeld ?_; rotate_left; (focus (intro w hSw; (try dsimp only at hSw); go_simp; try with_reducible rfl)); (try simp only [Act.put, List.setIfInBounds_toArray, List.set_cons_zero, List.set_cons_succ, List.getElem_toArray, List.getElem_cons_zero, List.getElem_cons_succ]))
      (refine wpAnyH_take (i := 5) (v := ?_) rfl (by kernel_rfl) (by kernel_rfl) (by kernel_rfl) (fun _ _ _ h => h) (Or.inl ⟨by rfl, ?_⟩) hHeld ?_; rotate_left; (focus (intro w hSw; (try dsimp only at hSw); go_simp; (have cc := (HCE3.out _ hSw).1; go_simp; try with_reducible rfl))); (try simp only [Act.put, List.setIfInBounds_toArray, List.set_cons_zero, List.set_cons_succ, List.getElem_toArray, List.getElem_cons_zero, List.getElem_cons_succ]))
      (refine wpAnyH_take (i := 6) (v := ?_) rfl (by kernel_rfl) (by kernel_rfl) (by kernel_rfl) (fun _ _ _ h => h) (Or.inl ⟨by rfl, ?_⟩) hHeld ?_; rotate_left; (focus (intro w hSw; (try dsimp only at hSw); go_simp; try with_reducible rfl)); (try simp only [Act.put, List.setIfInBounds_toArray, List.set_cons_zero, List.set_cons_succ, List.getElem_toArray, List.getElem_cons_zero, List.getElem_cons_succ])); (refine wpAnyH_take (i := 7) (v := ?_) rfl (by kernel_rfl) (by kernel_rfl) (by kernel_rfl) (fun _ _ _ h => h) (Or.inl ⟨by rfl, ?_⟩) hHeld ?_; rotate_left; (focus (intro w hSw; (try dsimp only at hSw); go_simp; try with_reducible rfl)); (try simp only [Act.put, List.setIfInBounds_toArray, List.set_cons_zero, List.set_cons_succ, List.getElem_toArray, List.getElem_cons_zero, List.getElem_cons_succ]))
      refine wpAnyH_done (by kernel_rfl) ?_ _
      obtain ⟨we, hwe⟩ : ∃ we, we = World.drew w3 := ⟨_, rfl⟩
      rw [← hwe]
      rw [← hwe] at hHeld
      have hbe := BlkAt.later HB3.out hHeld
      have hke := BlkAt.later HK3.out hHeld
      have c4 : we.cell? ⟨p, 4, none⟩ = some (.int .u64 T) := (HCE3.out _ hHeld).1
      have e2 := BlkAt.cell hke (j := 2) rfl
      have hfe : ∀ j, we.frozen? ⟨p, j, none⟩ = false := fun j => hbe.frozen j
      have hq4 : Chg [p] we (we.setCell ⟨p, 4, none⟩ (.int .u64 (T + 1))) := (Chg.refl _ _).set (by simp) _ _
      have HRR : Hid (∃ pre', RSm w0 p r (takeM s q a) pre' (we.setCell ⟨p, 4, none⟩ (.int .u64 (T + 1)))) := by
        obtain ⟨pre1, h1, h2⟩ := HA3.out
        have e9 : takeM s q a = { s1 with ow := true, tk := s.tk + 1 } := by rw [HFIN.out, if_pos HFF.out.2.2.1, decide_eq_true HFF.out.2.2.2]; simp
        rw [e9]
        have h9 := hbe.set 4 (.int .u64 (T + 1))
        have e8 : T + 1 = ((s.tk + 1 : Nat) : Int) := by have := HH.out; omega
        refine ⟨pre1, _, ?_, (h1.chg (Chg.of_below [] hHeld) (by simp)).chg hq4 (fun h => by simpa using h), h2⟩
        rw [e8] at h9 ⊢
        exact h9
      have HCF : Hid (Chg [p] w (we.setCell ⟨p, 4, none⟩ (.int .u64 (T + 1)))) := (HC3.out.trans (Chg.of_below _ hHeld)).trans hq4
      clear hwe hHeld hbe hke hq4
      go_wp2_with fail
      go_ret2
      obtain ⟨pre', h9⟩ := HRR.out
      exact ⟨_, by rw [HFF.out.1]; rfl, by rw [HFF.out.2.1]; exact HU.out, pre', h9, HCF.out⟩
    · have k1 : (Q != T + 1) = true := by have := HH.out; rw [bne_iff_ne]; omega
      have HFF : Hid (decide (q = s.tk + 1) = false ∧ (if q = s.tk + 1 then b else []) = []) := ⟨decide_eq_false hne, if_neg hne⟩
      have HRR : Hid (∃ pre', RSm w0 p r (takeM s q a) pre' w3) := by
        obtain ⟨pre1, h1, h2⟩ := HA3.out
        have e9 : takeM s q a = { s1 with ow := true } := by rw [HFIN.out, if_neg hne, decide_eq_true h0]; simp
        rw [e9]; exact ⟨pre1, _, HB3.out, h1, h2⟩
      clear h0 hne
      go_wp2_with fail
      rw [← HW3.out]
      clear g0 g5 hfa
      (refine wp_region_held_drew (S := (fun w' => Below w3.heap.size w3 w')) (by kernel_rfl) ?_ (fun hHeld => ?_); (focus ((try dsimp only); (exact (Below.refl _ _).drew))))
      (try dsimp only at hHeld)
      (refine wpAnyH_take (i := 0) (v := ?_) rfl (by kernel_rfl) (by kernel_rfl) (by kernel_rfl) (fun _ _ _ h => h) (Or.inl ⟨by rfl, ?_⟩) hHeld ?_; rotate_left; (focus (intro w hSw; (try dsimp only at hSw); go_simp; try with_reducible rfl)); (try simp only [Act.put, List.setIfInBounds_toArray, List.set_cons_zero, List.set_cons_succ, List.getElem_toArray, List.getElem_cons_zero]))
      (refine wpAnyH_take (i := 1) (v := ?_) rfl (by kernel_rfl) (by kernel_rfl) (by kernel_rfl) (fun _ _ _ h => h) (Or.inl ⟨by rfl, ?_⟩) hHeld ?_; rotate_left; (focus (intro w hSw; (try dsimp only at hSw); go_simp; (have cc := (HCE3.out _ hSw).2; go_simp; try with_reducible rfl))); (try simp only [Act.put, List.setIfInBounds_toArray, List.set_cons_zero, List.set_cons_succ, List.getElem_toArray, List.getElem_cons_zero, List.getElem_cons_succ]))
      (refine wpAnyH_take (i := 2) (v := ?_) rfl (by kernel_rfl) (by kernel_rfl) (by kernel_rfl) (fun _ _ _ h => h) (Or.inl ⟨by rfl, ?_⟩) hHeld ?_; rotate_left; (focus (intro w hSw; (try dsimp only at hSw); go_simp; try with_reducible rfl)); (try simp only [Act.put, List.setIfInBounds_toArray, List.set_cons_zero, List.set_cons_succ, List.getElem_toArray, List.getElem_cons_zero, List.getElem_cons_succ])); (refine wpAnyH_take (i := 3) (v := ?_) rfl (by kernel_rfl) (by kernel_rfl) (by kernel_rfl) (fun _ _ _ h => h) (Or.inl ⟨by rfl, ?_⟩) hHeld ?_; rotate_left; (focus (intro w hSw; (try dsimp only at hSw); go_simp; try with_reducible rfl)); (try simp only [Act.put, List.setIfInBounds_toArray, List.set_cons_zero, List.set_cons_succ, List.getElem_toArray, List.getElem_cons_zero, List.getElem_cons_succ])); (refine wpAnyH_take (i := 4) (v := ?_) rfl (by kernel_rfl) (by kernel_rfl) (by kernel_rfl) (fun _ _ _ h => h) (Or.inl ⟨by rfl, ?_⟩) hHeld ?_; rotate_left; (focus (intro w hSw; (try dsimp only at hSw); go_simp; try with_reducible rfl)); (try simp only [Act.put, List.setIfInBounds_toArray, List.set_cons_zero, List.set_cons_succ, List.getElem_toArray, List.getElem_cons_zero, List.getElem_cons_succ]))
      (refine wpAnyH_take (i := 5) (v := ?_) rfl (by kernel_rfl) (by kernel_rfl) (by kernel_rfl) (fun _ _ _ h => h) (Or.inl ⟨by rfl, ?_⟩) hHeld ?_; rotate_left; (focus (intro w hSw; (try dsimp only at hSw); go_simp; (have cc := (HCE3.out _ hSw).1; go_simp; try with_reducible rfl))); (try simp only [Act.put, List.setIfInBounds_toArray, List.set_cons_zero, List.set_cons_succ, List.getElem_toArray, List.getElem_cons_zero, List.getElem_cons_succ]))
      (refine wpAnyH_take (i := 6) (v := ?_) rfl (by kernel_rfl) (by kernel_rfl) (by kernel_rfl) (fun _ _ _ h => h) (Or.inl ⟨by rfl, ?_⟩) hHeld ?_; rotate_left; (focus (intro w hSw; (try dsimp only at hSw); go_simp; try with_reducible rfl)); (try simp only [Act.put, List.setIfInBounds_toArray, List.set_cons_zero, List.set_cons_succ, List.getElem_toArray, List.getElem_cons_zero, List.getElem_cons_succ])); (refine wpAnyH_take (i := 7) (v := ?_) rfl (by kernel_rfl) (by kernel_rfl) (by kernel_rfl) (fun _ _ _ h => h) (Or.inl ⟨by rfl, ?_⟩) hHeld ?_; rotate_left; (focus (intro w hSw; (try dsimp only at hSw); go_simp; try with_reducible rfl)); (try simp only [Act.put, List.setIfInBounds_toArray, List.set_cons_zero, List.set_cons_succ, List.getElem_toArray, List.getElem_cons_zero, List.getElem_cons_succ]))
      refine wpAnyH_done (by kernel_rfl) ?_ _
      go_wp2_with fail
      go_ret2
      obtain ⟨pre', h9⟩ := HRR.out
      exact ⟨_, by rw [HFF.out.1]; rfl, by rw [HFF.out.2]; exact kn_nil _, pre', h9.later hHeld, HC3.out.trans (Chg.of_below _ hHeld)⟩
set_option maxHeartbeats 8000000 in
set_option maxRecDepth 100000 in
theorem takeRB {w0 w : World} {p r : Nat} {s : Sm} {pre : List (List UInt8)} {N : Nat} (h : RSm w0 p r s pre w) (ok : s.Ok N) (q a : Nat) (hq : (q : Int) ≤ 18446744073709551615) (ha : (a : Int) ≤ 18446744073709551615) (u : Value) (b : List UInt8) (hu : Kn w0 u b) (hb0 : Below w0.heap.size w0 w) (hna : s.ac + s.told < a) :
    Calls Try.prog 15 #[.pointer (some ⟨p, 0, none⟩), .agg #[.int .u64 (q : Int), .int .u64 (a : Int), u]] w (TrA w0 p r s pre q a b w) := by
  obtain ⟨ua, uc, rfl⟩ := (hu w hb0).form
  have hpl := h.lt
  obtain ⟨v, hb, hal, hp⟩ := h
  obtain ⟨va, vc, rfl⟩ := hal.form
  have b1 := ok.t1
  have b2 := ok.t8
  have b3 := ok.few
  have b4 := ok.NN
  have b5 := ok.tkN
  obtain ⟨m, hm⟩ : ∃ m, m = b.length := ⟨_, rfl⟩
  rw [← hm] at hu ⊢
  obtain ⟨n, hn⟩ : ∃ n, n = (pre ++ s.line).length := ⟨_, rfl⟩
  rw [← hn] at hb hal
  obtain ⟨x, hx⟩ : ∃ x : Int, x = s.ac := ⟨_, rfl⟩
  obtain ⟨z, hz⟩ : ∃ z : Int, z = ((s.ac + s.told : Nat) : Int) := ⟨_, rfl⟩
  obtain ⟨A, hA⟩ : ∃ A : Int, A = a := ⟨_, rfl⟩
  obtain ⟨Q, hQ⟩ : ∃ Q : Int, Q = q := ⟨_, rfl⟩
  obtain ⟨T, hT⟩ : ∃ T : Int, T = s.tk := ⟨_, rfl⟩
  rw [← hA, ← hQ]
  obtain ⟨w1, hw1⟩ : ∃ w1, w1 = w.alloc (.cells #[.int .u64 Q, .int .u64 A, .slice ua m uc] 35) := ⟨_, rfl⟩
  have hb1 : Below w.heap.size w w1 := by rw [hw1]; exact ba1 _ _
  have HK : Hid (BlkAt 35 w.heap.size [.int .u64 Q, .int .u64 A, .slice ua m uc] w1) := by rw [hw1]; exact BlkAt.new w _
  have HBK : Hid (BlkAt 32 p (rcs (.slice va n vc) s) w1) := hb.later hb1
  have HAL : Hid (AlAt w0 w1 p r (.slice va n vc) (pre ++ s.line)) := hal.chg (Chg.of_below [] hb1) (by simp)
  have HCE : Hid (∀ W, Below w1.heap.size w1 W → W.cell? ⟨p, 2, none⟩ = some (.int .i64 x) ∧ W.cell? ⟨p, 3, none⟩ = some (.int .i64 z) ∧ W.cell? ⟨w.heap.size, 1, none⟩ = some (.int .u64 A)) := by
    have : ∀ W, Below w1.heap.size w1 W → W.cell? ⟨p, 2, none⟩ = some (.int .i64 x) ∧ W.cell? ⟨p, 3, none⟩ = some (.int .i64 z) ∧ W.cell? ⟨w.heap.size, 1, none⟩ = some (.int .u64 A) := fun W hW => by
      rw [hx, hz]; exact ⟨BlkAt.cell (BlkAt.later HBK.out hW) (j := 2) rfl, BlkAt.cell (BlkAt.later HBK.out hW) (j := 3) rfl, BlkAt.cell (BlkAt.later HK.out hW) (j := 1) rfl⟩
    exact this
  have HH : Hid (x = s.ac ∧ z = ((s.ac + s.told : Nat) : Int) ∧ A = a ∧ Q = q ∧ T = s.tk ∧ s.tk ≤ 1000000 ∧ pre.length = s.ac ∧ s.ac + s.line.length ≤ 1000000 ∧ s.told ≤ s.line.length ∧ n = (pre ++ s.line).length) := ⟨hx, hz, hA, hQ, hT, by omega, hp, by omega, b1, hn⟩
  have HW1 := Lib.hid hw1
  have HB1 := Lib.hid hb1
  have HPL : Hid (p < w.heap.size ∧ r < w.heap.size) := hpl
  have HU : Hid (Kn w0 (.slice ua m uc) b) := hu
  have HM := Lib.hid hm
  have i1 : IntKind.u64.wrap x = x := IntWalk.u64_in _ ⟨by omega, by omega⟩
  have i2 : IntKind.u64.wrap z = z := IntWalk.u64_in _ ⟨by omega, by omega⟩
  have k9 : decide (x < A) = true := by simp; omega
  have k8 : decide (A ≤ z) = false := by simp; omega
  have HNA : Hid (¬ (s.ac < a ∧ a ≤ s.ac + s.told)) := by intro h; omega
  clear hna
  clear hb hal hp hm hn hx hz hA hQ hT hw1 hb1 ok b1 b2 b3 b4 b5 hu hb0 hpl ha hq
  go_enter Try.func15, Try.ntmps15
  go_wp2_with fail
  rw [← HW1.out]
  (refine wp_region_held_drew (S := (fun w' => Below w1.heap.size w1 w')) (by kernel_rfl) ?_ (fun hHeld => ?_); (focus ((try dsimp only); (exact (Below.refl _ _).drew))))
  (try dsimp only at hHeld)
  (refine wpAnyH_take (i := 0) (v := ?_) rfl (by kernel_rfl) (by kernel_rfl) (by kernel_rfl) (fun _ _ _ h => h) (Or.inl ⟨by rfl, ?_⟩) hHeld ?_; rotate_left; (focus (intro w hSw; (try dsimp only at hSw); go_simp; try with_reducible rfl)); (try simp only [Act.put, List.setIfInBounds_toArray, List.set_cons_zero, List.set_cons_succ, List.getElem_toArray, List.getElem_cons_zero]))
  (refine wpAnyH_take (i := 1) (v := ?_) rfl (by kernel_rfl) (by kernel_rfl) (by kernel_rfl) (fun _ _ _ h => h) (Or.inl ⟨by rfl, ?_⟩) hHeld ?_; rotate_left; (focus (intro w hSw; (try dsimp only at hSw); go_simp; (have cc := (HCE.out _ hSw).2.2; go_simp; try with_reducible rfl))); (try simp only [Act.put, List.setIfInBounds_toArray, List.set_cons_zero, List.set_cons_succ, List.getElem_toArray, List.getElem_cons_zero, List.getElem_cons_succ]))
  (refine wpAnyH_take (i := 2) (v := ?_) rfl (by kernel_rfl) (by kernel_rfl) (by kernel_rfl) (fun _ _ _ h => h) (Or.inl ⟨by rfl, ?_⟩) hHeld ?_; rotate_left; (focus (intro w hSw; (try dsimp only at hSw); go_simp; try with_reducible rfl)); (try simp only [Act.put, List.setIfInBounds_toArray, List.set_cons_zero, List.set_cons_succ, List.getElem_toArray, List.getElem_cons_zero, List.getElem_cons_succ])); (refine wpAnyH_take (i := 3) (v := ?_) rfl (by kernel_rfl) (by kernel_rfl) (by kernel_rfl) (fun _ _ _ h => h) (Or.inl ⟨by rfl, ?_⟩) hHeld ?_; rotate_left; (focus (intro w hSw; (try dsimp only at hSw); go_simp; try with_reducible rfl)); (try simp only [Act.put, List.setIfInBounds_toArray, List.set_cons_zero, List.set_cons_succ, List.getElem_toArray, List.getElem_cons_zero, List.getElem_cons_succ])); (refine wpAnyH_take (i := 4) (v := ?_) rfl (by kernel_rfl) (by kernel_rfl) (by kernel_rfl) (fun _ _ _ h => h) (Or.inl ⟨by rfl, ?_⟩) hHeld ?_; rotate_left; (focus (intro w hSw; (try dsimp only at hSw); go_simp; try with_reducible rfl)); (try simp only [Act.put, List.setIfInBounds_toArray, List.set_cons_zero, List.set_cons_succ, List.getElem_toArray, List.getElem_cons_zero, List.getElem_cons_succ]))
  (refine wpAnyH_take (i := 5) (v := ?_) rfl (by kernel_rfl) (by kernel_rfl) (by kernel_rfl) (fun _ _ _ h => h) (Or.inl ⟨by rfl, ?_⟩) hHeld ?_; rotate_left; (focus (intro w hSw; (try dsimp only at hSw); go_simp; (have cc := (HCE.out _ hSw).1; go_simp; try with_reducible rfl))); (try simp only [Act.put, List.setIfInBounds_toArray, List.set_cons_zero, List.set_cons_succ, List.getElem_toArray, List.getElem_cons_zero, List.getElem_cons_succ]))
  (refine wpAnyH_take (i := 6) (v := ?_) rfl (by kernel_rfl) (by kernel_rfl) (by kernel_rfl) (fun _ _ _ h => h) (Or.inl ⟨by rfl, ?_⟩) hHeld ?_; rotate_left; (focus (intro w hSw; (try dsimp only at hSw); go_simp; try with_reducible rfl)); (try simp only [Act.put, List.setIfInBounds_toArray, List.set_cons_zero, List.set_cons_succ, List.getElem_toArray, List.getElem_cons_zero, List.getElem_cons_succ])); (refine wpAnyH_take (i := 7) (v := ?_) rfl (by kernel_rfl) (by kernel_rfl) (by kernel_rfl) (fun _ _ _ h => h) (Or.inl ⟨by rfl, ?_⟩) hHeld ?_; rotate_left; (focus (intro w hSw; (try dsimp only at hSw); go_simp; try with_reducible rfl)); (try simp only [Act.put, List.setIfInBounds_toArray, List.set_cons_zero, List.set_cons_succ, List.getElem_toArray, List.getElem_cons_zero, List.getElem_cons_succ])); (refine wpAnyH_take (i := 8) (v := ?_) rfl (by kernel_rfl) (by kernel_rfl) (by kernel_rfl) (fun _ _ _ h => h) (Or.inl ⟨by rfl, ?_⟩) hHeld ?_; rotate_left; (focus (intro w hSw; (try dsimp only at hSw); go_simp; try with_reducible rfl)); (try simp only [Act.put, List.setIfInBounds_toArray, List.set_cons_zero, List.set_cons_succ, List.getElem_toArray, List.getElem_cons_zero, List.getElem_cons_succ]))
  (refine wpAnyH_take (i := 9) (v := ?_) rfl (by kernel_rfl) (by kernel_rfl) (by kernel_rfl) (fun _ _ _ h => h) (Or.inl ⟨by rfl, ?_⟩) hHeld ?_; rotate_left; (focus (intro w hSw; (try dsimp only at hSw); go_simp; try with_reducible rfl)); (try simp only [Act.put, List.setIfInBounds_toArray, List.set_cons_zero, List.set_cons_succ, List.getElem_toArray, List.getElem_cons_zero, List.getElem_cons_succ]))
  (refine wpAnyH_take (i := 10) (v := ?_) rfl (by kernel_rfl) (by kernel_rfl) (by kernel_rfl) (fun _ _ _ h => h) (Or.inl ⟨by rfl, ?_⟩) hHeld ?_; rotate_left; (focus (intro w hSw; (try dsimp only at hSw); go_simp; (have cc := (HCE.out _ hSw).2.2; go_simp; try with_reducible rfl))); (try simp only [Act.put, List.setIfInBounds_toArray, List.set_cons_zero, List.set_cons_succ, List.getElem_toArray, List.getElem_cons_zero, List.getElem_cons_succ]))
  (refine wpAnyH_take (i := 11) (v := ?_) rfl (by kernel_rfl) (by kernel_rfl) (by kernel_rfl) (fun _ _ _ h => h) (Or.inl ⟨by rfl, ?_⟩) hHeld ?_; rotate_left; (focus (intro w hSw; (try dsimp only at hSw); go_simp; try with_reducible rfl)); (try simp only [Act.put, List.setIfInBounds_toArray, List.set_cons_zero, List.set_cons_succ, List.getElem_toArray, List.getElem_cons_zero, List.getElem_cons_succ])); (refine wpAnyH_take (i := 12) (v := ?_) rfl (by kernel_rfl) (by kernel_rfl) (by kernel_rfl) (fun _ _ _ h => h) (Or.inl ⟨by rfl, ?_⟩) hHeld ?_; rotate_left; (focus (intro w hSw; (try dsimp only at hSw); go_simp; try with_reducible rfl)); (try simp only [Act.put, List.setIfInBounds_toArray, List.set_cons_zero, List.set_cons_succ, List.getElem_toArray, List.getElem_cons_zero, List.getElem_cons_succ])); (refine wpAnyH_take (i := 13) (v := ?_) rfl (by kernel_rfl) (by kernel_rfl) (by kernel_rfl) (fun _ _ _ h => h) (Or.inl ⟨by rfl, ?_⟩) hHeld ?_; rotate_left; (focus (intro w hSw; (try dsimp only at hSw); go_simp; try with_reducible rfl)); (try simp only [Act.put, List.setIfInBounds_toArray, List.set_cons_zero, List.set_cons_succ, List.getElem_toArray, List.getElem_cons_zero, List.getElem_cons_succ]))
  (refine wpAnyH_take (i := 14) (v := ?_) rfl (by kernel_rfl) (by kernel_rfl) (by kernel_rfl) (fun _ _ _ h => h) (Or.inl ⟨by rfl, ?_⟩) hHeld ?_; rotate_left; (focus (intro w hSw; (try dsimp only at hSw); go_simp; (have cc := (HCE.out _ hSw).2.1; go_simp; try with_reducible rfl))); (try simp only [Act.put, List.setIfInBounds_toArray, List.set_cons_zero, List.set_cons_succ, List.getElem_toArray, List.getElem_cons_zero, List.getElem_cons_succ]))
  (refine wpAnyH_take (i := 15) (v := ?_) rfl (by kernel_rfl) (by kernel_rfl) (by kernel_rfl) (fun _ _ _ h => h) (Or.inl ⟨by rfl, ?_⟩) hHeld ?_; rotate_left; (focus (intro w hSw; (try dsimp only at hSw); go_simp; try with_reducible rfl)); (try simp only [Act.put, List.setIfInBounds_toArray, List.set_cons_zero, List.set_cons_succ, List.getElem_toArray, List.getElem_cons_zero, List.getElem_cons_succ])); (refine wpAnyH_take (i := 16) (v := ?_) rfl (by kernel_rfl) (by kernel_rfl) (by kernel_rfl) (fun _ _ _ h => h) (Or.inl ⟨by rfl, ?_⟩) hHeld ?_; rotate_left; (focus (intro w hSw; (try dsimp only at hSw); go_simp; try with_reducible rfl)); (try simp only [Act.put, List.setIfInBounds_toArray, List.set_cons_zero, List.set_cons_succ, List.getElem_toArray, List.getElem_cons_zero, List.getElem_cons_succ]))
  (refine wpAnyH_take (i := 17) (v := ?_) rfl (by kernel_rfl) (by kernel_rfl) (by kernel_rfl) (fun _ _ _ h => h) (Or.inl ⟨by rfl, ?_⟩) hHeld ?_; rotate_left; (focus (intro w hSw; (try dsimp only at hSw); go_simp; try with_reducible rfl)); (try simp only [Act.put, List.setIfInBounds_toArray, List.set_cons_zero, List.set_cons_succ, List.getElem_toArray, List.getElem_cons_zero, List.getElem_cons_succ]))
  refine wpAnyH_done (by kernel_rfl) ?_ _
  obtain ⟨wd, hwd⟩ : ∃ wd, wd = World.drew w1 := ⟨_, rfl⟩
  rw [← hwd]
  rw [← hwd] at hHeld
  have hbd := BlkAt.later HBK.out hHeld
  have hkd := BlkAt.later HK.out hHeld
  have had := HAL.out.chg (Chg.of_below [] hHeld) (by simp)
  have HCD : Hid (Chg [p] w wd) := Chg.of_below _ (HB1.out.trans (hHeld.mono HB1.out.size))
  obtain ⟨s1, hs1⟩ : ∃ s1, s1 = ackM s a := ⟨_, rfl⟩
  have es : s1 = s := by rw [hs1]; unfold ackM; rw [if_neg HNA.out]
  obtain ⟨wa, hwa⟩ : ∃ wa, wa = wd := ⟨_, rfl⟩
  rw [← hwa] at hbd hkd had HCD ⊢
  have HBA : Hid (BlkAt 32 p (rcs (.slice va n vc) s1) wa) := by rw [es]; exact hbd
  have HKA : Hid (BlkAt 35 w.heap.size [.int .u64 Q, .int .u64 A, .slice ua m uc] wa) := hkd
  have HAA : Hid (∃ pre1 : List (List UInt8), AlAt w0 wa p r (.slice va n vc) (pre1 ++ s1.line) ∧ pre1.length = s1.ac) := ⟨pre, by rw [es]; exact had, by rw [es]; exact HH.out.2.2.2.2.2.2.1⟩
  have HCA : Hid (Chg [p] w wa) := HCD.out
  have HS1 := Lib.hid hs1
  have HWA : Hid (wa = wd) := hwa
  clear hwa hs1 es
  clear hwd hHeld hbd hkd had
  have h1t : s1.tk = s.tk := by rw [HS1.out]; exact ackM_tk s a
  have h1o : s1.ow = s.ow := by rw [HS1.out]; exact ackM_ow s a
  have HFIN : Hid (takeM s q a = { s1 with ow := (s1.ow || decide (q ≠ 0)), tk := if q = s.tk + 1 then s.tk + 1 else s1.tk }) := by show _ = _; rw [h1t, h1o, HS1.out]; rfl
  have HT1 : Hid (T = s1.tk) := by show _ = _; rw [h1t]; exact HH.out.2.2.2.2.1
  have hba := HBA.out
  have g0 : wa.cell? ⟨w.heap.size, 0, none⟩ = some (.int .u64 Q) := BlkAt.cell HKA.out (j := 0) rfl
  have g5 := BlkAt.cell hba (j := 5) rfl
  have hfa : ∀ j, wa.frozen? ⟨p, j, none⟩ = false := fun j => hba.frozen j
  clear h1t h1o hba

  by_cases h0 : q = 0
  · have k0 : (Q == 0) = true := by have := HH.out; rw [beq_iff_eq]; omega
    have hne : ¬ q = s.tk + 1 := by omega
    have HRR : Hid (∃ pre', RSm w0 p r (takeM s q a) pre' wa) := by
      obtain ⟨pre1, h1, h2⟩ := HAA.out
      have e9 : takeM s q a = s1 := by rw [HFIN.out, if_neg hne, h0]; simp
      rw [e9]; exact ⟨pre1, _, HBA.out, h1, h2⟩
    have HFF : Hid (decide (q = s.tk + 1) = false ∧ (if q = s.tk + 1 then b else []) = []) := ⟨decide_eq_false hne, if_neg hne⟩
    clear h0 hne
    go_wp2_with fail
    go_ret2
    obtain ⟨pre', h9⟩ := HRR.out
    exact ⟨_, by rw [HFF.out.1]; rfl, by rw [HFF.out.2]; exact kn_nil _, pre', by first | exact h9 | (rw [← HWA.out]; exact h9), by first | exact HCA.out | (rw [← HWA.out]; exact HCA.out)⟩
  · have k0 : (Q == 0) = false := by have := HH.out; rw [beq_eq_false_iff_ne]; omega
    obtain ⟨w3, hw3⟩ : ∃ w3, w3 = wa.setCell ⟨p, 5, none⟩ (.bool true) := ⟨_, rfl⟩
    have hq3 : Chg [p] wa w3 := by rw [hw3]; exact (Chg.refl _ _).set (by simp) _ _
    have HB3 : Hid (BlkAt 32 p (rcs (.slice va n vc) { s1 with ow := true }) w3) := by rw [hw3]; exact BlkAt.set HBA.out 5 (.bool true)
    have HA3 : Hid (∃ pre1 : List (List UInt8), AlAt w0 w3 p r (.slice va n vc) (pre1 ++ s1.line) ∧ pre1.length = s1.ac) := by
      obtain ⟨pre1, h1, h2⟩ := HAA.out
      exact ⟨pre1, h1.chg hq3 (fun h => by simpa using h), h2⟩
    have HK3 : Hid (BlkAt 35 w.heap.size [.int .u64 Q, .int .u64 A, .slice ua m uc] w3) := hq3.blk HKA.out (by have := HPL.out; simp; omega)
    have HC3 : Hid (Chg [p] w w3) := HCA.out.trans hq3
    have HW3 := Lib.hid hw3
    have HCE3 : Hid (∀ W, Below w3.heap.size w3 W → W.cell? ⟨p, 4, none⟩ = some (.int .u64 T) ∧ W.cell? ⟨w.heap.size, 0, none⟩ = some (.int .u64 Q)) := by
      have : ∀ W, Below w3.heap.size w3 W → W.cell? ⟨p, 4, none⟩ = some (.int .u64 T) ∧ W.cell? ⟨w.heap.size, 0, none⟩ = some (.int .u64 Q) := fun W hW => by
        rw [HT1.out]; exact ⟨BlkAt.cell (BlkAt.later HB3.out hW) (j := 4) rfl, BlkAt.cell (BlkAt.later HK3.out hW) (j := 0) rfl⟩
      exact this
    have e1 : IntKind.u64.wrap (T + 1) = T + 1 := IntWalk.u64_in _ ⟨by have := HH.out; omega, by have := HH.out; omega⟩
    clear hw3 hq3
    by_cases hne : q = s.tk + 1
    · have k1 : (Q != T + 1) = false := by have := HH.out; rw [bne_eq_false_iff_eq]; omega
      have HFF : Hid (decide (q = s.tk + 1) = true ∧ (if q = s.tk + 1 then b else []) = b ∧ q = s.tk + 1 ∧ q ≠ 0) := ⟨decide_eq_true hne, if_pos hne, hne, h0⟩
      clear h0 hne
      go_wp2_with fail
      rw [← HW3.out]
      clear g0 g5 hfa
      (refine wp_region_held_drew (S := (fun w' => Below w3.heap.size w3 w')) (by kernel_rfl) ?_ (fun hHeld => ?_); (focus ((try dsimp only); (exact (Below.refl _ _).drew))))
      (try dsimp only at hHeld)
      (refine wpAnyH_take (i := 0) (v := ?_) rfl (by kernel_rfl) (by kernel_rfl) (by kernel_rfl) (fun _ _ _ h => h) (Or.inl ⟨by rfl, ?_⟩) hHeld ?_; rotate_left; (focus (intro w hSw; (try dsimp only at hSw); go_simp; try with_reducible rfl)); (try simp only [Act.put, List.setIfInBounds_toArray, List.set_cons_zero, List.set_cons_succ, List.getElem_toArray, List.getElem_cons_zero]))
      (refine wpAnyH_take (i := 1) (v := ?_) rfl (by kernel_rfl) (by kernel_rfl) (by kernel_rfl) (fun _ _ _ h => h) (Or.inl ⟨by rfl, ?_⟩) hHeld ?_; rotate_left; (focus (intro w hSw; (try dsimp only at hSw); go_simp; (have cc := (HCE3.out _ hSw).2; go_simp; try with_reducible rfl))); (try simp only [Act.put, List.setIfInBounds_toArray, List.set_cons_zero, List.set_cons_succ, List.getElem_toArray, List.getElem_cons_zero, List.getElem_cons_succ]))
      (refine wpAnyH_take (i := 2) (v := ?_) rfl (by kernel_rfl) (by kernel_rfl) (by kernel_rfl) (fun _ _ _ h => h) (Or.inl ⟨by rfl, ?_⟩) hHeld ?_; rotate_left; (focus (intro w hSw; (try dsimp only at hSw); go_simp; try with_reducible rfl)); (try simp only [Act.put, List.setIfInBounds_toArray, List.set_cons_zero, List.set_cons_succ, List.getElem_toArray, List.getElem_cons_zero, List.getElem_cons_succ])); (refine wpAnyH_take (i := 3) (v := ?_) rfl (by kernel_rfl) (by kernel_rfl) (by kernel_rfl) (fun _ _ _ h => h) (Or.inl ⟨by rfl, ?_⟩) hHeld ?_; rotate_left; (focus (intro w hSw; (try dsimp only at hSw); go_simp; try with_reducible rfl)); (try simp only [Act.put, List.setIfInBounds_toArray, List.set_cons_zero, List.set_cons_succ, List.getElem_toArray, List.getElem_cons_zero, List.getElem_cons_succ])); (refine wpAnyH_take (i := 4) (v := ?_) rfl (by kernel_rfl) (by kernel_rfl) (by kernel_rfl) (fun _ _ _ h => h) (Or.inl ⟨by rfl, ?_⟩) hHeld ?_; rotate_left; (focus (intro w hSw; (try dsimp only at hSw); go_simp; try with_reducible rfl)); (try simp only [Act.put, List.setIfInBounds_toArray, List.set_cons_zero, List.set_cons_succ, List.getElem_toArray, List.getElem_cons_zero, List.getElem_cons_succ]))
      (refine wpAnyH_take (i := 5) (v := ?_) rfl (by kernel_rfl) (by kernel_rfl) (by kernel_rfl) (fun _ _ _ h => h) (Or.inl ⟨by rfl, ?_⟩) hHeld ?_; rotate_left; (focus (intro w hSw; (try dsimp only at hSw); go_simp; (have cc := (HCE3.out _ hSw).1; go_simp; try with_reducible rfl))); (try simp only [Act.put, List.setIfInBounds_toArray, List.set_cons_zero, List.set_cons_succ, List.getElem_toArray, List.getElem_cons_zero, List.getElem_cons_succ]))
      (refine wpAnyH_take (i := 6) (v := ?_) rfl (by kernel_rfl) (by kernel_rfl) (by kernel_rfl) (fun _ _ _ h => h) (Or.inl ⟨by rfl, ?_⟩) hHeld ?_; rotate_left; (focus (intro w hSw; (try dsimp only at hSw); go_simp; try with_reducible rfl)); (try simp only [Act.put, List.setIfInBounds_toArray, List.set_cons_zero, List.set_cons_succ, List.getElem_toArray, List.getElem_cons_zero, List.getElem_cons_succ])); (refine wpAnyH_take (i := 7) (v := ?_) rfl (by kernel_rfl) (by kernel_rfl) (by kernel_rfl) (fun _ _ _ h => h) (Or.inl ⟨by rfl, ?_⟩) hHeld ?_; rotate_left; (focus (intro w hSw; (try dsimp only at hSw); go_simp; try with_reducible rfl)); (try simp only [Act.put, List.setIfInBounds_toArray, List.set_cons_zero, List.set_cons_succ, List.getElem_toArray, List.getElem_cons_zero, List.getElem_cons_succ]))
      refine wpAnyH_done (by kernel_rfl) ?_ _
      obtain ⟨we, hwe⟩ : ∃ we, we = World.drew w3 := ⟨_, rfl⟩
      rw [← hwe]
      rw [← hwe] at hHeld
      have hbe := BlkAt.later HB3.out hHeld
      have hke := BlkAt.later HK3.out hHeld
      have c4 : we.cell? ⟨p, 4, none⟩ = some (.int .u64 T) := (HCE3.out _ hHeld).1
      have e2 := BlkAt.cell hke (j := 2) rfl
      have hfe : ∀ j, we.frozen? ⟨p, j, none⟩ = false := fun j => hbe.frozen j
      have hq4 : Chg [p] we (we.setCell ⟨p, 4, none⟩ (.int .u64 (T + 1))) := (Chg.refl _ _).set (by simp) _ _
      have HRR : Hid (∃ pre', RSm w0 p r (takeM s q a) pre' (we.setCell ⟨p, 4, none⟩ (.int .u64 (T + 1)))) := by
        obtain ⟨pre1, h1, h2⟩ := HA3.out
        have e9 : takeM s q a = { s1 with ow := true, tk := s.tk + 1 } := by rw [HFIN.out, if_pos HFF.out.2.2.1, decide_eq_true HFF.out.2.2.2]; simp
        rw [e9]
        have h9 := hbe.set 4 (.int .u64 (T + 1))
        have e8 : T + 1 = ((s.tk + 1 : Nat) : Int) := by have := HH.out; omega
        refine ⟨pre1, _, ?_, (h1.chg (Chg.of_below [] hHeld) (by simp)).chg hq4 (fun h => by simpa using h), h2⟩
        rw [e8] at h9 ⊢
        exact h9
      have HCF : Hid (Chg [p] w (we.setCell ⟨p, 4, none⟩ (.int .u64 (T + 1)))) := (HC3.out.trans (Chg.of_below _ hHeld)).trans hq4
      clear hwe hHeld hbe hke hq4
      go_wp2_with fail
      go_ret2
      obtain ⟨pre', h9⟩ := HRR.out
      exact ⟨_, by rw [HFF.out.1]; rfl, by rw [HFF.out.2.1]; exact HU.out, pre', h9, HCF.out⟩
    · have k1 : (Q != T + 1) = true := by have := HH.out; rw [bne_iff_ne]; omega
      have HFF : Hid (decide (q = s.tk + 1) = false ∧ (if q = s.tk + 1 then b else []) = []) := ⟨decide_eq_false hne, if_neg hne⟩
      have HRR : Hid (∃ pre', RSm w0 p r (takeM s q a) pre' w3) := by
        obtain ⟨pre1, h1, h2⟩ := HA3.out
        have e9 : takeM s q a = { s1 with ow := true } := by rw [HFIN.out, if_neg hne, decide_eq_true h0]; simp
        rw [e9]; exact ⟨pre1, _, HB3.out, h1, h2⟩
      clear h0 hne
      go_wp2_with fail
      rw [← HW3.out]
      clear g0 g5 hfa
      (refine wp_region_held_drew (S := (fun w' => Below w3.heap.size w3 w')) (by kernel_rfl) ?_ (fun hHeld => ?_); (focus ((try dsimp only); (exact (Below.refl _ _).drew))))
      (try dsimp only at hHeld)
      (refine wpAnyH_take (i := 0) (v := ?_) rfl (by kernel_rfl) (by kernel_rfl) (by kernel_rfl) (fun _ _ _ h => h) (Or.inl ⟨by rfl, ?_⟩) hHeld ?_; rotate_left; (focus (intro w hSw; (try dsimp only at hSw); go_simp; try with_reducible rfl)); (try simp only [Act.put, List.setIfInBounds_toArray, List.set_cons_zero, List.set_cons_succ, List.getElem_toArray, List.getElem_cons_zero]))
      (refine wpAnyH_take (i := 1) (v := ?_) rfl (by kernel_rfl) (by kernel_rfl) (by kernel_rfl) (fun _ _ _ h => h) (Or.inl ⟨by rfl, ?_⟩) hHeld ?_; rotate_left; (focus (intro w hSw; (try dsimp only at hSw); go_simp; (have cc := (HCE3.out _ hSw).2; go_simp; try with_reducible rfl))); (try simp only [Act.put, List.setIfInBounds_toArray, List.set_cons_zero, List.set_cons_succ, List.getElem_toArray, List.getElem_cons_zero, List.getElem_cons_succ]))
      (refine wpAnyH_take (i := 2) (v := ?_) rfl (by kernel_rfl) (by kernel_rfl) (by kernel_rfl) (fun _ _ _ h => h) (Or.inl ⟨by rfl, ?_⟩) hHeld ?_; rotate_left; (focus (intro w hSw; (try dsimp only at hSw); go_simp; try with_reducible rfl)); (try simp only [Act.put, List.setIfInBounds_toArray, List.set_cons_zero, List.set_cons_succ, List.getElem_toArray, List.getElem_cons_zero, List.getElem_cons_succ])); (refine wpAnyH_take (i := 3) (v := ?_) rfl (by kernel_rfl) (by kernel_rfl) (by kernel_rfl) (fun _ _ _ h => h) (Or.inl ⟨by rfl, ?_⟩) hHeld ?_; rotate_left; (focus (intro w hSw; (try dsimp only at hSw); go_simp; try with_reducible rfl)); (try simp only [Act.put, List.setIfInBounds_toArray, List.set_cons_zero, List.set_cons_succ, List.getElem_toArray, List.getElem_cons_zero, List.getElem_cons_succ])); (refine wpAnyH_take (i := 4) (v := ?_) rfl (by kernel_rfl) (by kernel_rfl) (by kernel_rfl) (fun _ _ _ h => h) (Or.inl ⟨by rfl, ?_⟩) hHeld ?_; rotate_left; (focus (intro w hSw; (try dsimp only at hSw); go_simp; try with_reducible rfl)); (try simp only [Act.put, List.setIfInBounds_toArray, List.set_cons_zero, List.set_cons_succ, List.getElem_toArray, List.getElem_cons_zero, List.getElem_cons_succ]))
      (refine wpAnyH_take (i := 5) (v := ?_) rfl (by kernel_rfl) (by kernel_rfl) (by kernel_rfl) (fun _ _ _ h => h) (Or.inl ⟨by rfl, ?_⟩) hHeld ?_; rotate_left; (focus (intro w hSw; (try dsimp only at hSw); go_simp; (have cc := (HCE3.out _ hSw).1; go_simp; try with_reducible rfl))); (try simp only [Act.put, List.setIfInBounds_toArray, List.set_cons_zero, List.set_cons_succ, List.getElem_toArray, List.getElem_cons_zero, List.getElem_cons_succ]))
      (refine wpAnyH_take (i := 6) (v := ?_) rfl (by kernel_rfl) (by kernel_rfl) (by kernel_rfl) (fun _ _ _ h => h) (Or.inl ⟨by rfl, ?_⟩) hHeld ?_; rotate_left; (focus (intro w hSw; (try dsimp only at hSw); go_simp; try with_reducible rfl)); (try simp only [Act.put, List.setIfInBounds_toArray, List.set_cons_zero, List.set_cons_succ, List.getElem_toArray, List.getElem_cons_zero, List.getElem_cons_succ])); (refine wpAnyH_take (i := 7) (v := ?_) rfl (by kernel_rfl) (by kernel_rfl) (by kernel_rfl) (fun _ _ _ h => h) (Or.inl ⟨by rfl, ?_⟩) hHeld ?_; rotate_left; (focus (intro w hSw; (try dsimp only at hSw); go_simp; try with_reducible rfl)); (try simp only [Act.put, List.setIfInBounds_toArray, List.set_cons_zero, List.set_cons_succ, List.getElem_toArray, List.getElem_cons_zero, List.getElem_cons_succ]))
      refine wpAnyH_done (by kernel_rfl) ?_ _
      go_wp2_with fail
      go_ret2
      obtain ⟨pre', h9⟩ := HRR.out
      exact ⟨_, by rw [HFF.out.1]; rfl, by rw [HFF.out.2]; exact kn_nil _, pre', h9.later hHeld, HC3.out.trans (Chg.of_below _ hHeld)⟩
set_option maxHeartbeats 8000000 in
set_option maxRecDepth 100000 in
theorem takeRC {w0 w : World} {p r : Nat} {s : Sm} {pre : List (List UInt8)} {N : Nat} (h : RSm w0 p r s pre w) (ok : s.Ok N) (q a : Nat) (hq : (q : Int) ≤ 18446744073709551615) (ha : (a : Int) ≤ 18446744073709551615) (u : Value) (b : List UInt8) (hu : Kn w0 u b) (hb0 : Below w0.heap.size w0 w) (hna : s.ac < a ∧ a ≤ s.ac + s.told) :
    Calls Try.prog 15 #[.pointer (some ⟨p, 0, none⟩), .agg #[.int .u64 (q : Int), .int .u64 (a : Int), u]] w (TrA w0 p r s pre q a b w) := by
  obtain ⟨ua, uc, rfl⟩ := (hu w hb0).form
  have hpl := h.lt
  obtain ⟨v, hb, hal, hp⟩ := h
  obtain ⟨va, vc, rfl⟩ := hal.form
  have b1 := ok.t1
  have b2 := ok.t8
  have b3 := ok.few
  have b4 := ok.NN
  have b5 := ok.tkN
  obtain ⟨m, hm⟩ : ∃ m, m = b.length := ⟨_, rfl⟩
  rw [← hm] at hu ⊢
  obtain ⟨n, hn⟩ : ∃ n, n = (pre ++ s.line).length := ⟨_, rfl⟩
  rw [← hn] at hb hal
  obtain ⟨x, hx⟩ : ∃ x : Int, x = s.ac := ⟨_, rfl⟩
  obtain ⟨z, hz⟩ : ∃ z : Int, z = ((s.ac + s.told : Nat) : Int) := ⟨_, rfl⟩
  obtain ⟨A, hA⟩ : ∃ A : Int, A = a := ⟨_, rfl⟩
  obtain ⟨Q, hQ⟩ : ∃ Q : Int, Q = q := ⟨_, rfl⟩
  obtain ⟨T, hT⟩ : ∃ T : Int, T = s.tk := ⟨_, rfl⟩
  rw [← hA, ← hQ]
  obtain ⟨w1, hw1⟩ : ∃ w1, w1 = w.alloc (.cells #[.int .u64 Q, .int .u64 A, .slice ua m uc] 35) := ⟨_, rfl⟩
  have hb1 : Below w.heap.size w w1 := by rw [hw1]; exact ba1 _ _
  have HK : Hid (BlkAt 35 w.heap.size [.int .u64 Q, .int .u64 A, .slice ua m uc] w1) := by rw [hw1]; exact BlkAt.new w _
  have HBK : Hid (BlkAt 32 p (rcs (.slice va n vc) s) w1) := hb.later hb1
  have HAL : Hid (AlAt w0 w1 p r (.slice va n vc) (pre ++ s.line)) := hal.chg (Chg.of_below [] hb1) (by simp)
  have HCE : Hid (∀ W, Below w1.heap.size w1 W → W.cell? ⟨p, 2, none⟩ = some (.int .i64 x) ∧ W.cell? ⟨p, 3, none⟩ = some (.int .i64 z) ∧ W.cell? ⟨w.heap.size, 1, none⟩ = some (.int .u64 A)) := by
    have : ∀ W, Below w1.heap.size w1 W → W.cell? ⟨p, 2, none⟩ = some (.int .i64 x) ∧ W.cell? ⟨p, 3, none⟩ = some (.int .i64 z) ∧ W.cell? ⟨w.heap.size, 1, none⟩ = some (.int .u64 A) := fun W hW => by
      rw [hx, hz]; exact ⟨BlkAt.cell (BlkAt.later HBK.out hW) (j := 2) rfl, BlkAt.cell (BlkAt.later HBK.out hW) (j := 3) rfl, BlkAt.cell (BlkAt.later HK.out hW) (j := 1) rfl⟩
    exact this
  have HH : Hid (x = s.ac ∧ z = ((s.ac + s.told : Nat) : Int) ∧ A = a ∧ Q = q ∧ T = s.tk ∧ s.tk ≤ 1000000 ∧ pre.length = s.ac ∧ s.ac + s.line.length ≤ 1000000 ∧ s.told ≤ s.line.length ∧ n = (pre ++ s.line).length) := ⟨hx, hz, hA, hQ, hT, by omega, hp, by omega, b1, hn⟩
  have HW1 := Lib.hid hw1
  have HB1 := Lib.hid hb1
  have HPL : Hid (p < w.heap.size ∧ r < w.heap.size) := hpl
  have HU : Hid (Kn w0 (.slice ua m uc) b) := hu
  have HM := Lib.hid hm
  have i1 : IntKind.u64.wrap x = x := IntWalk.u64_in _ ⟨by omega, by omega⟩
  have i2 : IntKind.u64.wrap z = z := IntWalk.u64_in _ ⟨by omega, by omega⟩
  have k9 : decide (x < A) = true := by simp; omega
  have k8 : decide (A ≤ z) = true := by simp; omega
  have HNA : Hid (s.ac < a ∧ a ≤ s.ac + s.told) := hna
  clear hna
  clear hb hal hp hm hn hx hz hA hQ hT hw1 hb1 ok b1 b2 b3 b4 b5 hu hb0 hpl ha hq
  go_enter Try.func15, Try.ntmps15
  go_wp2_with fail
  rw [← HW1.out]
  (refine wp_region_held_drew (S := (fun w' => Below w1.heap.size w1 w')) (by kernel_rfl) ?_ (fun hHeld => ?_); (focus ((try dsimp only); (exact (Below.refl _ _).drew))))
  (try dsimp only at hHeld)
  (refine wpAnyH_take (i := 0) (v := ?_) rfl (by kernel_rfl) (by kernel_rfl) (by kernel_rfl) (fun _ _ _ h => h) (Or.inl ⟨by rfl, ?_⟩) hHeld ?_; rotate_left; (focus (intro w hSw; (try dsimp only at hSw); go_simp; try with_reducible rfl)); (try simp only [Act.put, List.setIfInBounds_toArray, List.set_cons_zero, List.set_cons_succ, List.getElem_toArray, List.getElem_cons_zero]))
  (refine wpAnyH_take (i := 1) (v := ?_) rfl (by kernel_rfl) (by kernel_rfl) (by kernel_rfl) (fun _ _ _ h => h) (Or.inl ⟨by rfl, ?_⟩) hHeld ?_; rotate_left; (focus (intro w hSw; (try dsimp only at hSw); go_simp; (have cc := (HCE.out _ hSw).2.2; go_simp; try with_reducible rfl))); (try simp only [Act.put, List.setIfInBounds_toArray, List.set_cons_zero, List.set_cons_succ, List.getElem_toArray, List.getElem_cons_zero, List.getElem_cons_succ]))
  (refine wpAnyH_take (i := 2) (v := ?_) rfl (by kernel_rfl) (by kernel_rfl) (by kernel_rfl) (fun _ _ _ h => h) (Or.inl ⟨by rfl, ?_⟩) hHeld ?_; rotate_left; (focus (intro w hSw; (try dsimp only at hSw); go_simp; try with_reducible rfl)); (try simp only [Act.put, List.setIfInBounds_toArray, List.set_cons_zero, List.set_cons_succ, List.getElem_toArray, List.getElem_cons_zero, List.getElem_cons_succ])); (refine wpAnyH_take (i := 3) (v := ?_) rfl (by kernel_rfl) (by kernel_rfl) (by kernel_rfl) (fun _ _ _ h => h) (Or.inl ⟨by rfl, ?_⟩) hHeld ?_; rotate_left; (focus (intro w hSw; (try dsimp only at hSw); go_simp; try with_reducible rfl)); (try simp only [Act.put, List.setIfInBounds_toArray, List.set_cons_zero, List.set_cons_succ, List.getElem_toArray, List.getElem_cons_zero, List.getElem_cons_succ])); (refine wpAnyH_take (i := 4) (v := ?_) rfl (by kernel_rfl) (by kernel_rfl) (by kernel_rfl) (fun _ _ _ h => h) (Or.inl ⟨by rfl, ?_⟩) hHeld ?_; rotate_left; (focus (intro w hSw; (try dsimp only at hSw); go_simp; try with_reducible rfl)); (try simp only [Act.put, List.setIfInBounds_toArray, List.set_cons_zero, List.set_cons_succ, List.getElem_toArray, List.getElem_cons_zero, List.getElem_cons_succ]))
  (refine wpAnyH_take (i := 5) (v := ?_) rfl (by kernel_rfl) (by kernel_rfl) (by kernel_rfl) (fun _ _ _ h => h) (Or.inl ⟨by rfl, ?_⟩) hHeld ?_; rotate_left; (focus (intro w hSw; (try dsimp only at hSw); go_simp; (have cc := (HCE.out _ hSw).1; go_simp; try with_reducible rfl))); (try simp only [Act.put, List.setIfInBounds_toArray, List.set_cons_zero, List.set_cons_succ, List.getElem_toArray, List.getElem_cons_zero, List.getElem_cons_succ]))
  (refine wpAnyH_take (i := 6) (v := ?_) rfl (by kernel_rfl) (by kernel_rfl) (by kernel_rfl) (fun _ _ _ h => h) (Or.inl ⟨by rfl, ?_⟩) hHeld ?_; rotate_left; (focus (intro w hSw; (try dsimp only at hSw); go_simp; try with_reducible rfl)); (try simp only [Act.put, List.setIfInBounds_toArray, List.set_cons_zero, List.set_cons_succ, List.getElem_toArray, List.getElem_cons_zero, List.getElem_cons_succ])); (refine wpAnyH_take (i := 7) (v := ?_) rfl (by kernel_rfl) (by kernel_rfl) (by kernel_rfl) (fun _ _ _ h => h) (Or.inl ⟨by rfl, ?_⟩) hHeld ?_; rotate_left; (focus (intro w hSw; (try dsimp only at hSw); go_simp; try with_reducible rfl)); (try simp only [Act.put, List.setIfInBounds_toArray, List.set_cons_zero, List.set_cons_succ, List.getElem_toArray, List.getElem_cons_zero, List.getElem_cons_succ])); (refine wpAnyH_take (i := 8) (v := ?_) rfl (by kernel_rfl) (by kernel_rfl) (by kernel_rfl) (fun _ _ _ h => h) (Or.inl ⟨by rfl, ?_⟩) hHeld ?_; rotate_left; (focus (intro w hSw; (try dsimp only at hSw); go_simp; try with_reducible rfl)); (try simp only [Act.put, List.setIfInBounds_toArray, List.set_cons_zero, List.set_cons_succ, List.getElem_toArray, List.getElem_cons_zero, List.getElem_cons_succ]))
  (refine wpAnyH_take (i := 9) (v := ?_) rfl (by kernel_rfl) (by kernel_rfl) (by kernel_rfl) (fun _ _ _ h => h) (Or.inl ⟨by rfl, ?_⟩) hHeld ?_; rotate_left; (focus (intro w hSw; (try dsimp only at hSw); go_simp; try with_reducible rfl)); (try simp only [Act.put, List.setIfInBounds_toArray, List.set_cons_zero, List.set_cons_succ, List.getElem_toArray, List.getElem_cons_zero, List.getElem_cons_succ]))
  (refine wpAnyH_take (i := 10) (v := ?_) rfl (by kernel_rfl) (by kernel_rfl) (by kernel_rfl) (fun _ _ _ h => h) (Or.inl ⟨by rfl, ?_⟩) hHeld ?_; rotate_left; (focus (intro w hSw; (try dsimp only at hSw); go_simp; (have cc := (HCE.out _ hSw).2.2; go_simp; try with_reducible rfl))); (try simp only [Act.put, List.setIfInBounds_toArray, List.set_cons_zero, List.set_cons_succ, List.getElem_toArray, List.getElem_cons_zero, List.getElem_cons_succ]))
  (refine wpAnyH_take (i := 11) (v := ?_) rfl (by kernel_rfl) (by kernel_rfl) (by kernel_rfl) (fun _ _ _ h => h) (Or.inl ⟨by rfl, ?_⟩) hHeld ?_; rotate_left; (focus (intro w hSw; (try dsimp only at hSw); go_simp; try with_reducible rfl)); (try simp only [Act.put, List.setIfInBounds_toArray, List.set_cons_zero, List.set_cons_succ, List.getElem_toArray, List.getElem_cons_zero, List.getElem_cons_succ])); (refine wpAnyH_take (i := 12) (v := ?_) rfl (by kernel_rfl) (by kernel_rfl) (by kernel_rfl) (fun _ _ _ h => h) (Or.inl ⟨by rfl, ?_⟩) hHeld ?_; rotate_left; (focus (intro w hSw; (try dsimp only at hSw); go_simp; try with_reducible rfl)); (try simp only [Act.put, List.setIfInBounds_toArray, List.set_cons_zero, List.set_cons_succ, List.getElem_toArray, List.getElem_cons_zero, List.getElem_cons_succ])); (refine wpAnyH_take (i := 13) (v := ?_) rfl (by kernel_rfl) (by kernel_rfl) (by kernel_rfl) (fun _ _ _ h => h) (Or.inl ⟨by rfl, ?_⟩) hHeld ?_; rotate_left; (focus (intro w hSw; (try dsimp only at hSw); go_simp; try with_reducible rfl)); (try simp only [Act.put, List.setIfInBounds_toArray, List.set_cons_zero, List.set_cons_succ, List.getElem_toArray, List.getElem_cons_zero, List.getElem_cons_succ]))
  (refine wpAnyH_take (i := 14) (v := ?_) rfl (by kernel_rfl) (by kernel_rfl) (by kernel_rfl) (fun _ _ _ h => h) (Or.inl ⟨by rfl, ?_⟩) hHeld ?_; rotate_left; (focus (intro w hSw; (try dsimp only at hSw); go_simp; (have cc := (HCE.out _ hSw).2.1; go_simp; try with_reducible rfl))); (try simp only [Act.put, List.setIfInBounds_toArray, List.set_cons_zero, List.set_cons_succ, List.getElem_toArray, List.getElem_cons_zero, List.getElem_cons_succ]))
  (refine wpAnyH_take (i := 15) (v := ?_) rfl (by kernel_rfl) (by kernel_rfl) (by kernel_rfl) (fun _ _ _ h => h) (Or.inl ⟨by rfl, ?_⟩) hHeld ?_; rotate_left; (focus (intro w hSw; (try dsimp only at hSw); go_simp; try with_reducible rfl)); (try simp only [Act.put, List.setIfInBounds_toArray, List.set_cons_zero, List.set_cons_succ, List.getElem_toArray, List.getElem_cons_zero, List.getElem_cons_succ])); (refine wpAnyH_take (i := 16) (v := ?_) rfl (by kernel_rfl) (by kernel_rfl) (by kernel_rfl) (fun _ _ _ h => h) (Or.inl ⟨by rfl, ?_⟩) hHeld ?_; rotate_left; (focus (intro w hSw; (try dsimp only at hSw); go_simp; try with_reducible rfl)); (try simp only [Act.put, List.setIfInBounds_toArray, List.set_cons_zero, List.set_cons_succ, List.getElem_toArray, List.getElem_cons_zero, List.getElem_cons_succ]))
  (refine wpAnyH_take (i := 17) (v := ?_) rfl (by kernel_rfl) (by kernel_rfl) (by kernel_rfl) (fun _ _ _ h => h) (Or.inl ⟨by rfl, ?_⟩) hHeld ?_; rotate_left; (focus (intro w hSw; (try dsimp only at hSw); go_simp; try with_reducible rfl)); (try simp only [Act.put, List.setIfInBounds_toArray, List.set_cons_zero, List.set_cons_succ, List.getElem_toArray, List.getElem_cons_zero, List.getElem_cons_succ]))
  refine wpAnyH_done (by kernel_rfl) ?_ _
  obtain ⟨wd, hwd⟩ : ∃ wd, wd = World.drew w1 := ⟨_, rfl⟩
  rw [← hwd]
  rw [← hwd] at hHeld
  have hbd := BlkAt.later HBK.out hHeld
  have hkd := BlkAt.later HK.out hHeld
  have had := HAL.out.chg (Chg.of_below [] hHeld) (by simp)
  have HCD : Hid (Chg [p] w wd) := Chg.of_below _ (HB1.out.trans (hHeld.mono HB1.out.size))
  obtain ⟨s1, hs1⟩ : ∃ s1, s1 = ackM s a := ⟨_, rfl⟩
  have es : s1 = { s with line := s.line.drop (a - s.ac), told := s.told - (a - s.ac), ac := a, ti := 0 } := by rw [hs1]; unfold ackM; rw [if_pos HNA.out]
  obtain ⟨wa, hwa⟩ : ∃ wa, wa = (wd.setCell ⟨p, 2, none⟩ (.int .i64 A)).setCell ⟨p, 6, none⟩ (.int .i64 0) := ⟨_, rfl⟩
  have hq : Chg [p] wd wa := by rw [hwa]; exact ((Chg.refl _ _).set (by simp) _ _).set (by simp) _ _
  have HBA : Hid (BlkAt 32 p (rcs (.slice va n vc) s1) wa) := by
    have h9 := (hbd.set 2 (.int .i64 A)).set 6 (.int .i64 0)
    rw [← hwa] at h9
    have e9 : s.ac + s.told = a + (s.told - (a - s.ac)) := by have := HNA.out; omega
    rw [es]
    unfold rcs
    simp only
    rw [← e9, ← HH.out.2.2.1]
    exact h9
  have HKA : Hid (BlkAt 35 w.heap.size [.int .u64 Q, .int .u64 A, .slice ua m uc] wa) := hq.blk hkd (by have := HPL.out; simp; omega)
  have HAA : Hid (∃ pre1 : List (List UInt8), AlAt w0 wa p r (.slice va n vc) (pre1 ++ s1.line) ∧ pre1.length = s1.ac) := by
    have h1 := HNA.out; have h2 := HH.out
    refine ⟨pre ++ s.line.take (a - s.ac), ?_, ?_⟩
    · rw [es]
      simp only
      rw [List.append_assoc, List.take_append_drop]
      exact had.chg hq (fun h => by simpa using h)
    · rw [es]; simp; omega
  have HCA : Hid (Chg [p] w wa) := HCD.out.trans hq
  have HS1 := Lib.hid hs1
  have HWA := Lib.hid hwa
  have c2 : wd.cell? ⟨p, 2, none⟩ = some (.int .i64 x) := (HCE.out _ hHeld).1
  have c6 := BlkAt.cell hbd (j := 6) rfl
  have d1 := BlkAt.cell hkd (j := 1) rfl
  have hfz : ∀ j, wd.frozen? ⟨p, j, none⟩ = false := fun j => hbd.frozen j
  have i3 : wrap64 A = A := IntWalk.wrap64_in _ ⟨by have := HH.out; have := HNA.out; omega, by have := HH.out; have := HNA.out; omega⟩
  clear hwa hs1 es hq
  clear hwd hHeld hbd hkd had
  have h1t : s1.tk = s.tk := by rw [HS1.out]; exact ackM_tk s a
  have h1o : s1.ow = s.ow := by rw [HS1.out]; exact ackM_ow s a
  have HFIN : Hid (takeM s q a = { s1 with ow := (s1.ow || decide (q ≠ 0)), tk := if q = s.tk + 1 then s.tk + 1 else s1.tk }) := by show _ = _; rw [h1t, h1o, HS1.out]; rfl
  have HT1 : Hid (T = s1.tk) := by show _ = _; rw [h1t]; exact HH.out.2.2.2.2.1
  have hba := HBA.out
  have g0 : wa.cell? ⟨w.heap.size, 0, none⟩ = some (.int .u64 Q) := BlkAt.cell HKA.out (j := 0) rfl
  have g5 := BlkAt.cell hba (j := 5) rfl
  have hfa : ∀ j, wa.frozen? ⟨p, j, none⟩ = false := fun j => hba.frozen j
  clear h1t h1o hba
  rw [HWA.out] at g0 g5 hfa
  by_cases h0 : q = 0
  · have k0 : (Q == 0) = true := by have := HH.out; rw [beq_iff_eq]; omega
    have hne : ¬ q = s.tk + 1 := by omega
    have HRR : Hid (∃ pre', RSm w0 p r (takeM s q a) pre' wa) := by
      obtain ⟨pre1, h1, h2⟩ := HAA.out
      have e9 : takeM s q a = s1 := by rw [HFIN.out, if_neg hne, h0]; simp
      rw [e9]; exact ⟨pre1, _, HBA.out, h1, h2⟩
    have HFF : Hid (decide (q = s.tk + 1) = false ∧ (if q = s.tk + 1 then b else []) = []) := ⟨decide_eq_false hne, if_neg hne⟩
    clear h0 hne
    go_wp2_with fail
    go_ret2
    obtain ⟨pre', h9⟩ := HRR.out
    exact ⟨_, by rw [HFF.out.1]; rfl, by rw [HFF.out.2]; exact kn_nil _, pre', by first | exact h9 | (rw [← HWA.out]; exact h9), by first | exact HCA.out | (rw [← HWA.out]; exact HCA.out)⟩
  · have k0 : (Q == 0) = false := by have := HH.out; rw [beq_eq_false_iff_ne]; omega
    obtain ⟨w3, hw3⟩ : ∃ w3, w3 = wa.setCell ⟨p, 5, none⟩ (.bool true) := ⟨_, rfl⟩
    have hq3 : Chg [p] wa w3 := by rw [hw3]; exact (Chg.refl _ _).set (by simp) _ _
    have HB3 : Hid (BlkAt 32 p (rcs (.slice va n vc) { s1 with ow := true }) w3) := by rw [hw3]; exact BlkAt.set HBA.out 5 (.bool true)
    have HA3 : Hid (∃ pre1 : List (List UInt8), AlAt w0 w3 p r (.slice va n vc) (pre1 ++ s1.line) ∧ pre1.length = s1.ac) := by
      obtain ⟨pre1, h1, h2⟩ := HAA.out
      exact ⟨pre1, h1.chg hq3 (fun h => by simpa using h), h2⟩
    have HK3 : Hid (BlkAt 35 w.heap.size [.int .u64 Q, .int .u64 A, .slice ua m uc] w3) := hq3.blk HKA.out (by have := HPL.out; simp; omega)
    have HC3 : Hid (Chg [p] w w3) := HCA.out.trans hq3
    rw [HWA.out] at hw3
    have HW3 := Lib.hid hw3
    have HCE3 : Hid (∀ W, Below w3.heap.size w3 W → W.cell? ⟨p, 4, none⟩ = some (.int .u64 T) ∧ W.cell? ⟨w.heap.size, 0, none⟩ = some (.int .u64 Q)) := by
      have : ∀ W, Below w3.heap.size w3 W → W.cell? ⟨p, 4, none⟩ = some (.int .u64 T) ∧ W.cell? ⟨w.heap.size, 0, none⟩ = some (.int .u64 Q) := fun W hW => by
        rw [HT1.out]; exact ⟨BlkAt.cell (BlkAt.later HB3.out hW) (j := 4) rfl, BlkAt.cell (BlkAt.later HK3.out hW) (j := 0) rfl⟩
      exact this
    have e1 : IntKind.u64.wrap (T + 1) = T + 1 := IntWalk.u64_in _ ⟨by have := HH.out; omega, by have := HH.out; omega⟩
    clear hw3 hq3
    by_cases hne : q = s.tk + 1
    · have k1 : (Q != T + 1) = false := by have := HH.out; rw [bne_eq_false_iff_eq]; omega
      have HFF : Hid (decide (q = s.tk + 1) = true ∧ (if q = s.tk + 1 then b else []) = b ∧ q = s.tk + 1 ∧ q ≠ 0) := ⟨decide_eq_true hne, if_pos hne, hne, h0⟩
      clear h0 hne
      go_wp2_with fail
      rw [← HW3.out]
      clear g0 g5 hfa
      (refine wp_region_held_drew (S := (fun w' => Below w3.heap.size w3 w')) (by kernel_rfl) ?_ (fun hHeld => ?_); (focus ((try dsimp only); (exact (Below.refl _ _).drew))))
      (try dsimp only at hHeld)
      (refine wpAnyH_take (i := 0) (v := ?_) rfl (by kernel_rfl) (by kernel_rfl) (by kernel_rfl) (fun _ _ _ h => h) (Or.inl ⟨by rfl, ?_⟩) hHeld ?_; rotate_left; (focus (intro w hSw; (try dsimp only at hSw); go_simp; try with_reducible rfl)); (try simp only [Act.put, List.setIfInBounds_toArray, List.set_cons_zero, List.set_cons_succ, List.getElem_toArray, List.getElem_cons_zero]))
      (refine wpAnyH_take (i := 1) (v := ?_) rfl (by kernel_rfl) (by kernel_rfl) (by kernel_rfl) (fun _ _ _ h => h) (Or.inl ⟨by rfl, ?_⟩) hHeld ?_; rotate_left; (focus (intro w hSw; (try dsimp only at hSw); go_simp; (have cc := (HCE3.out _ hSw).2; go_simp; try with_reducible rfl))); (try simp only [Act.put, List.setIfInBounds_toArray, List.set_cons_zero, List.set_cons_succ, List.getElem_toArray, List.getElem_cons_zero, List.getElem_cons_succ]))
      (refine wpAnyH_take (i := 2) (v := ?_) rfl (by kernel_rfl) (by kernel_rfl) (by kernel_rfl) (fun _ _ _ h => h) (Or.inl ⟨by rfl, ?_⟩) hHeld ?_; rotate_left; (focus (intro w hSw; (try dsimp only at hSw); go_simp; try with_reducible rfl)); (try simp only [Act.put, List.setIfInBounds_toArray, List.set_cons_zero, List.set_cons_succ, List.getElem_toArray, List.getElem_cons_zero, List.getElem_cons_succ])); (refine wpAnyH_take (i := 3) (v := ?_) rfl (by kernel_rfl) (by kernel_rfl) (by kernel_rfl) (fun _ _ _ h => h) (Or.inl ⟨by rfl, ?_⟩) hHeld ?_; rotate_left; (focus (intro w hSw; (try dsimp only at hSw); go_simp; try with_reducible rfl)); (try simp only [Act.put, List.setIfInBounds_toArray, List.set_cons_zero, List.set_cons_succ, List.getElem_toArray, List.getElem_cons_zero, List.getElem_cons_succ])); (refine wpAnyH_take (i := 4) (v := ?_) rfl (by kernel_rfl) (by kernel_rfl) (by kernel_rfl) (fun _ _ _ h => h) (Or.inl ⟨by rfl, ?_⟩) hHeld ?_; rotate_left; (focus (intro w hSw; (try dsimp only at hSw); go_simp; try with_reducible rfl)); (try simp only [Act.put, List.setIfInBounds_toArray, List.set_cons_zero, List.set_cons_succ, List.getElem_toArray, List.getElem_cons_zero, List.getElem_cons_succ]))
      (refine wpAnyH_take (i := 5) (v := ?_) rfl (by kernel_rfl) (by kernel_rfl) (by kernel_rfl) (fun _ _ _ h => h) (Or.inl ⟨by rfl, ?_⟩) hHeld ?_; rotate_left; (focus (intro w hSw; (try dsimp only at hSw); go_simp; (have cc := (HCE3.out _ hSw).1; go_simp; try with_reducible rfl))); (try simp only [Act.put, List.setIfInBounds_toArray, List.set_cons_zero, List.set_cons_succ, List.getElem_toArray, List.getElem_cons_zero, List.getElem_cons_succ]))
      (refine wpAnyH_take (i := 6) (v := ?_) rfl (by kernel_rfl) (by kernel_rfl) (by kernel_rfl) (fun _ _ _ h => h) (Or.inl ⟨by rfl, ?_⟩) hHeld ?_; rotate_left; (focus (intro w hSw; (try dsimp only at hSw); go_simp; try with_reducible rfl)); (try simp only [Act.put, List.setIfInBounds_toArray, List.set_cons_zero, List.set_cons_succ, List.getElem_toArray, List.getElem_cons_zero, List.getElem_cons_succ])); (refine wpAnyH_take (i := 7) (v := ?_) rfl (by kernel_rfl) (by kernel_rfl) (by kernel_rfl) (fun _ _ _ h => h) (Or.inl ⟨by rfl, ?_⟩) hHeld ?_; rotate_left; (focus (intro w hSw; (try dsimp only at hSw); go_simp; try with_reducible rfl)); (try simp only [Act.put, List.setIfInBounds_toArray, List.set_cons_zero, List.set_cons_succ, List.getElem_toArray, List.getElem_cons_zero, List.getElem_cons_succ]))
      refine wpAnyH_done (by kernel_rfl) ?_ _
      obtain ⟨we, hwe⟩ : ∃ we, we = World.drew w3 := ⟨_, rfl⟩
      rw [← hwe]
      rw [← hwe] at hHeld
      have hbe := BlkAt.later HB3.out hHeld
      have hke := BlkAt.later HK3.out hHeld
      have c4 : we.cell? ⟨p, 4, none⟩ = some (.int .u64 T) := (HCE3.out _ hHeld).1
      have e2 := BlkAt.cell hke (j := 2) rfl
      have hfe : ∀ j, we.frozen? ⟨p, j, none⟩ = false := fun j => hbe.frozen j
      have hq4 : Chg [p] we (we.setCell ⟨p, 4, none⟩ (.int .u64 (T + 1))) := (Chg.refl _ _).set (by simp) _ _
      have HRR : Hid (∃ pre', RSm w0 p r (takeM s q a) pre' (we.setCell ⟨p, 4, none⟩ (.int .u64 (T + 1)))) := by
        obtain ⟨pre1, h1, h2⟩ := HA3.out
        have e9 : takeM s q a = { s1 with ow := true, tk := s.tk + 1 } := by rw [HFIN.out, if_pos HFF.out.2.2.1, decide_eq_true HFF.out.2.2.2]; simp
        rw [e9]
        have h9 := hbe.set 4 (.int .u64 (T + 1))
        have e8 : T + 1 = ((s.tk + 1 : Nat) : Int) := by have := HH.out; omega
        refine ⟨pre1, _, ?_, (h1.chg (Chg.of_below [] hHeld) (by simp)).chg hq4 (fun h => by simpa using h), h2⟩
        rw [e8] at h9 ⊢
        exact h9
      have HCF : Hid (Chg [p] w (we.setCell ⟨p, 4, none⟩ (.int .u64 (T + 1)))) := (HC3.out.trans (Chg.of_below _ hHeld)).trans hq4
      clear hwe hHeld hbe hke hq4
      go_wp2_with fail
      go_ret2
      obtain ⟨pre', h9⟩ := HRR.out
      exact ⟨_, by rw [HFF.out.1]; rfl, by rw [HFF.out.2.1]; exact HU.out, pre', h9, HCF.out⟩
    · have k1 : (Q != T + 1) = true := by have := HH.out; rw [bne_iff_ne]; omega
      have HFF : Hid (decide (q = s.tk + 1) = false ∧ (if q = s.tk + 1 then b else []) = []) := ⟨decide_eq_false hne, if_neg hne⟩
      have HRR : Hid (∃ pre', RSm w0 p r (takeM s q a) pre' w3) := by
        obtain ⟨pre1, h1, h2⟩ := HA3.out
        have e9 : takeM s q a = { s1 with ow := true } := by rw [HFIN.out, if_neg hne, decide_eq_true h0]; simp
        rw [e9]; exact ⟨pre1, _, HB3.out, h1, h2⟩
      clear h0 hne
      go_wp2_with fail
      rw [← HW3.out]
      clear g0 g5 hfa
      (refine wp_region_held_drew (S := (fun w' => Below w3.heap.size w3 w')) (by kernel_rfl) ?_ (fun hHeld => ?_); (focus ((try dsimp only); (exact (Below.refl _ _).drew))))
      (try dsimp only at hHeld)
      (refine wpAnyH_take (i := 0) (v := ?_) rfl (by kernel_rfl) (by kernel_rfl) (by kernel_rfl) (fun _ _ _ h => h) (Or.inl ⟨by rfl, ?_⟩) hHeld ?_; rotate_left; (focus (intro w hSw; (try dsimp only at hSw); go_simp; try with_reducible rfl)); (try simp only [Act.put, List.setIfInBounds_toArray, List.set_cons_zero, List.set_cons_succ, List.getElem_toArray, List.getElem_cons_zero]))
      (refine wpAnyH_take (i := 1) (v := ?_) rfl (by kernel_rfl) (by kernel_rfl) (by kernel_rfl) (fun _ _ _ h => h) (Or.inl ⟨by rfl, ?_⟩) hHeld ?_; rotate_left; (focus (intro w hSw; (try dsimp only at hSw); go_simp; (have cc := (HCE3.out _ hSw).2; go_simp; try with_reducible rfl))); (try simp only [Act.put, List.setIfInBounds_toArray, List.set_cons_zero, List.set_cons_succ, List.getElem_toArray, List.getElem_cons_zero, List.getElem_cons_succ]))
      (refine wpAnyH_take (i := 2) (v := ?_) rfl (by kernel_rfl) (by kernel_rfl) (by kernel_rfl) (fun _ _ _ h => h) (Or.inl ⟨by rfl, ?_⟩) hHeld ?_; rotate_left; (focus (intro w hSw; (try dsimp only at hSw); go_simp; try with_reducible rfl)); (try simp only [Act.put, List.setIfInBounds_toArray, List.set_cons_zero, List.set_cons_succ, List.getElem_toArray, List.getElem_cons_zero, List.getElem_cons_succ])); (refine wpAnyH_take (i := 3) (v := ?_) rfl (by kernel_rfl) (by kernel_rfl) (by kernel_rfl) (fun _ _ _ h => h) (Or.inl ⟨by rfl, ?_⟩) hHeld ?_; rotate_left; (focus (intro w hSw; (try dsimp only at hSw); go_simp; try with_reducible rfl)); (try simp only [Act.put, List.setIfInBounds_toArray, List.set_cons_zero, List.set_cons_succ, List.getElem_toArray, List.getElem_cons_zero, List.getElem_cons_succ])); (refine wpAnyH_take (i := 4) (v := ?_) rfl (by kernel_rfl) (by kernel_rfl) (by kernel_rfl) (fun _ _ _ h => h) (Or.inl ⟨by rfl, ?_⟩) hHeld ?_; rotate_left; (focus (intro w hSw; (try dsimp only at hSw); go_simp; try with_reducible rfl)); (try simp only [Act.put, List.setIfInBounds_toArray, List.set_cons_zero, List.set_cons_succ, List.getElem_toArray, List.getElem_cons_zero, List.getElem_cons_succ]))
      (refine wpAnyH_take (i := 5) (v := ?_) rfl (by kernel_rfl) (by kernel_rfl) (by kernel_rfl) (fun _ _ _ h => h) (Or.inl ⟨by rfl, ?_⟩) hHeld ?_; rotate_left; (focus (intro w hSw; (try dsimp only at hSw); go_simp; (have cc := (HCE3.out _ hSw).1; go_simp; try with_reducible rfl))); (try simp only [Act.put, List.setIfInBounds_toArray, List.set_cons_zero, List.set_cons_succ, List.getElem_toArray, List.getElem_cons_zero, List.getElem_cons_succ]))
      (refine wpAnyH_take (i := 6) (v := ?_) rfl (by kernel_rfl) (by kernel_rfl) (by kernel_rfl) (fun _ _ _ h => h) (Or.inl ⟨by rfl, ?_⟩) hHeld ?_; rotate_left; (focus (intro w hSw; (try dsimp only at hSw); go_simp; try with_reducible rfl)); (try simp only [Act.put, List.setIfInBounds_toArray, List.set_cons_zero, List.set_cons_succ, List.getElem_toArray, List.getElem_cons_zero, List.getElem_cons_succ])); (refine wpAnyH_take (i := 7) (v := ?_) rfl (by kernel_rfl) (by kernel_rfl) (by kernel_rfl) (fun _ _ _ h => h) (Or.inl ⟨by rfl, ?_⟩) hHeld ?_; rotate_left; (focus (intro w hSw; (try dsimp only at hSw); go_simp; try with_reducible rfl)); (try simp only [Act.put, List.setIfInBounds_toArray, List.set_cons_zero, List.set_cons_succ, List.getElem_toArray, List.getElem_cons_zero, List.getElem_cons_succ]))
      refine wpAnyH_done (by kernel_rfl) ?_ _
      go_wp2_with fail
      go_ret2
      obtain ⟨pre', h9⟩ := HRR.out
      exact ⟨_, by rw [HFF.out.1]; rfl, by rw [HFF.out.2]; exact kn_nil _, pre', h9.later hHeld, HC3.out.trans (Chg.of_below _ hHeld)⟩
theorem takeR {w0 w : World} {p r : Nat} {s : Sm} {pre : List (List UInt8)} {N : Nat} (h : RSm w0 p r s pre w) (ok : s.Ok N) (q a : Nat) (hq : (q : Int) ≤ 18446744073709551615) (ha : (a : Int) ≤ 18446744073709551615) (u : Value) (b : List UInt8) (hu : Kn w0 u b) (hb0 : Below w0.heap.size w0 w) :
    Calls Try.prog 15 #[.pointer (some ⟨p, 0, none⟩), .agg #[.int .u64 (q : Int), .int .u64 (a : Int), u]] w (TrA w0 p r s pre q a b w) := by
  rcases Nat.lt_or_ge s.ac a with h1 | h1
  · rcases Nat.lt_or_ge (s.ac + s.told) a with h2 | h2
    · exact takeRB h ok q a hq ha u b hu hb0 h2
    · exact takeRC h ok q a hq ha u b hu hb0 ⟨h1, h2⟩
  · exact takeRA h ok q a hq ha u b hu hb0 h1
end Go.Proofs.Ytadcpmfphcapfaa
