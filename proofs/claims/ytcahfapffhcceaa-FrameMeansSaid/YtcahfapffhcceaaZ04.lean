/- The walks of ctl.Of and of the reference's. -/
import Derived.IntWalk
import Derived.Test.YtcahfapffhcceaaZ01
import Derived.Test.YtcahfapffhcceaaZ03

set_option linter.unusedSimpArgs false
set_option linter.unusedVariables false
namespace Go.Proofs.Ytcahfapffhcceaa
open Go.RowKit
attribute [local go_sem ↓] Go.wp_at_zero Go.wp_at_succ

def ofE (l : List UInt8) : Int := if ofB l = true then 0 else 4
/-- The cells of an update of noughts. -/
def uz : List Value := [.int .u32 0, .int .i64 0, .int .i64 0]
theorem ofa_lt (l : List UInt8) : ofa l < 4294967296 := by
  have h := getL_lt (l.take 4).length (l.take 4) rfl
  have h2 : (l.take 4).length ≤ 4 := by simp; omega
  have := Nat.pow_le_pow_right (show 0 < 256 by decide) h2
  unfold ofa; omega
theorem six_form {w : World} {v : Value} {l : List UInt8} (h : Bytes w v l) (hl : l.length = 6) : ∃ b o c, v = .slice (some ⟨b, o, none⟩) l.length c ∧ b < w.heap.size ∧ 6 ≤ c ∧ ∀ j x, l[j]? = some x → w.cell? ⟨b, o + j, none⟩ = some (.int .u8 (x.toNat : Int)) := by
  rcases h with ⟨rfl, _⟩ | ⟨b, o, c, e, hb, hc, hx⟩
  · simp at hl
  · exact ⟨b, o, c, e, hb, by omega, hx⟩
theorem getD_at {l : List UInt8} {k : Nat} (h : k < l.length) : l[k]? = some (l.getD k 0) := by
  rw [List.getD_eq_getElem?_getD, List.getElem?_eq_getElem h]; rfl
theorem six_parts {w : World} {b o : Nat} {l : List UInt8} (h : ∀ j x, l[j]? = some x → w.cell? ⟨b, o + j, none⟩ = some (.int .u8 (x.toNat : Int))) (hl : l.length = 6) :
    w.cell? ⟨b, o + 0, none⟩ = some (.int .u8 ((l.getD 0 0).toNat : Int)) ∧ w.cell? ⟨b, o + 4, none⟩ = some (.int .u8 (ofn l : Int)) ∧ w.cell? ⟨b, o + 5, none⟩ = some (.int .u8 (ofd l : Int)) :=
  ⟨h 0 _ (getD_at (by omega)), h 4 _ (getD_at (by omega)), h 5 _ (getD_at (by omega))⟩
theorem six_bytes (w : World) (b o c : Nat) (l : List UInt8) (h : Bytes w (.slice (some ⟨b, o, none⟩) l.length c) l) (hl : l.length = 6) :
    Bytes w (.slice (some ⟨b, o, none⟩) 4 4) (l.take 4) ∧ Bytes w (.slice (some ⟨b, o + 4, none⟩) 1 1) [l.getD 4 0] ∧ Bytes w (.slice (some ⟨b, o + 5, none⟩) 1 1) [l.getD 5 0] := by
  obtain ⟨b', o', c', e, hb, _, hx⟩ := six_form h hl
  simp only [Value.slice.injEq, Option.some.injEq, Addr.mk.injEq] at e
  obtain ⟨⟨rfl, rfl, _⟩, _, _⟩ := e
  refine ⟨.inr ⟨b, o, 4, by simp; omega, hb, by simp; omega, fun j x hj => ?_⟩, .inr ⟨b, o + 4, 1, rfl, hb, Nat.le_refl _, fun j x hj => ?_⟩, .inr ⟨b, o + 5, 1, rfl, hb, Nat.le_refl _, fun j x hj => ?_⟩⟩
  · rw [List.getElem?_take] at hj
    split at hj
    · exact hx j x hj
    · cases hj
  · match j, hj with
    | 0, hj => simp only [List.getElem?_cons_zero, Option.some.injEq] at hj; subst hj; exact hx 4 _ (getD_at (by omega))
  · match j, hj with
    | 0, hj => simp only [List.getElem?_cons_zero, Option.some.injEq] at hj; subst hj; exact hx 5 _ (getD_at (by omega))
theorem six_bytesR (w : World) (b o c : Nat) (l : List UInt8) (h : Bytes w (.slice (some ⟨b, o, none⟩) l.length c) l) (hl : l.length = 6) : Bytes w (.slice (some ⟨b, o, none⟩) 4 c) (l.take 4) := bytes_take h (by omega)
theorem cut6_a (b o c : Nat) (hc : 6 ≤ c) : ∀ w, (Instr.slice 26 (.slice (some ⟨b, o, none⟩) 6 c) none (some (.int .i64 4)) (some (.int .i64 4))).run Try.prog w = .ok (.slice (some ⟨b, o, none⟩) 4 4) w := fun w => by
  rw [run_slice_hm w _ _ _ _ cells1 _ _ _ _ (by omega) (by omega) (by omega), size1]
  show Result.ok (Go.sliced _ _ _ _ 1) w = _
  unfold Go.sliced
  rw [if_neg (by omega)]
  simp [Addr.add]
theorem cut6_r (b o c : Nat) (hc : 6 ≤ c) : ∀ w, (Instr.slice 26 (.slice (some ⟨b, o, none⟩) 6 c) none (some (.int .i64 4)) none).run Try.prog w = .ok (.slice (some ⟨b, o, none⟩) 4 c) w := fun w => by
  rw [run_slice_h w _ _ _ _ cells1 _ _ (by omega) (by omega), size1]
  show Result.ok (Go.sliced _ _ _ _ 1) w = _
  unfold Go.sliced
  rw [if_neg (by omega)]
  simp [Addr.add]
theorem cut6_b (b o c : Nat) (hc : 6 ≤ c) : ∀ w, (Instr.slice 26 (.slice (some ⟨b, o, none⟩) 6 c) (some (.int .i64 4)) (some (.int .i64 5)) (some (.int .i64 5))).run Try.prog w = .ok (.slice (some ⟨b, o + 4, none⟩) 1 1) w := fun w => by
  rw [run_slice_lhm w _ _ _ _ cells1 _ _ _ _ _ _ (by omega) (by omega) (by omega) (by omega), size1]
  show Result.ok (Go.sliced _ _ _ _ 1) w = _
  unfold Go.sliced
  rw [if_neg (by omega)]
  simp [Addr.add]
theorem cut6_c (b o c : Nat) (hc : 6 ≤ c) : ∀ w, (Instr.slice 26 (.slice (some ⟨b, o, none⟩) 6 c) (some (.int .i64 5)) (some (.int .i64 6)) (some (.int .i64 6))).run Try.prog w = .ok (.slice (some ⟨b, o + 5, none⟩) 1 1) w := fun w => by
  rw [run_slice_lhm w _ _ _ _ cells1 _ _ _ _ _ _ (by omega) (by omega) (by omega) (by omega), size1]
  show Result.ok (Go.sliced _ _ _ _ 1) w = _
  unfold Go.sliced
  rw [if_neg (by omega)]
  simp [Addr.add]

set_option maxRecDepth 100000 in
theorem numC_any (v : Value) (l : List UInt8) (x : Nat) (hx : getL l = x) (h1 : 1 ≤ l.length) (h2 : l.length ≤ 8) (w : World) (hv : Bytes w v l) :
    Calls Try.prog 52 #[v] w fun e w' => e = .returned (.int .u64 (x : Int)) ∧ w = w' := by
  obtain ⟨e1, e2⟩ := get_yes h1 h2
  rw [hx] at e1
  have hg := getW_any v l w hv (by omega)
  rw [e1, e2] at hg
  have HG := Lib.hid hg
  clear hg e1 e2 hx
  go_enter Try.func52, Try.ntmps52
  go_wp2_with fail
  refine HG.out.mono ?_
  rintro e w1 ⟨rfl, rfl⟩
  go_wp2_with fail
  go_ret
  exact ⟨rfl, rfl⟩

set_option maxHeartbeats 8000000 in
set_option maxRecDepth 100000 in
theorem of5W_len (v : Value) (l : List UInt8) (wm : World) (hv : Bytes wm v l) (hl : l.length ≠ 6) (hl2 : l.length ≤ 9223372036854775807) :
    Calls Try.prog 41 #[v] wm fun e w' => e = .returned (.tuple #[.agg #[.int .u32 (ofA l : Int), .int .i64 (ofN l : Int), .int .i64 (ofD l : Int)], (.int .i64 (ofE l))]) ∧ Below wm.heap.size wm w' := by
  obtain ⟨a, c, rfl⟩ := hv.form
  have hno : ofB l = false := by unfold ofB; rw [decide_eq_false hl]; rfl
  obtain ⟨e1, e2, e3⟩ := ofB_no hno
  have HY : Hid (Ending.returned (.tuple #[.agg #[.int .u32 0, .int .i64 0, .int .i64 0], .int .i64 4]) = .returned (.tuple #[.agg #[.int .u32 (ofA l : Int), .int .i64 (ofN l : Int), .int .i64 (ofD l : Int)], (.int .i64 (ofE l))])) := by
    show _ = _
    rw [e1, e2, e3, ofE, hno]; rfl
  have hd : ((l.length : Int) != 6) = true := by rw [bne_iff_ne]; omega
  clear e1 e2 e3 hno hl hv
  go_enter Try.func41, Try.ntmps41
  go_wp2_with fail
  exact bodyPost_ret (v := .tuple #[.agg #[.int .u32 0, .int .i64 0, .int .i64 0], .int .i64 4]) (by simp [results, Try.results41, go_sem]) rfl ⟨HY.out, by go_grown⟩

set_option maxHeartbeats 8000000 in
set_option maxRecDepth 100000 in
theorem of5W_six (v : Value) (l : List UInt8) (wm : World) (hv : Bytes wm v l) (hl : l.length = 6) :
    Calls Try.prog 41 #[v] wm fun e w' => e = .returned (.tuple #[.agg #[.int .u32 (ofA l : Int), .int .i64 (ofN l : Int), .int .i64 (ofD l : Int)], (.int .i64 (ofE l))]) ∧ Below wm.heap.size wm w' := by
  obtain ⟨b, o, c, rfl, hbl, hc6, hcell⟩ := six_form hv hl
  obtain ⟨A0, hA0⟩ : ∃ x, x = ofa l := ⟨_, rfl⟩
  obtain ⟨N0, hN0⟩ : ∃ x, x = ofn l := ⟨_, rfl⟩
  obtain ⟨D0, hD0⟩ : ∃ x, x = ofd l := ⟨_, rfl⟩
  have bA : A0 < 4294967296 := by rw [hA0]; exact ofa_lt l
  have bN : N0 < 256 := by rw [hN0]; exact UInt8.toNat_lt _
  have bD : D0 < 256 := by rw [hD0]; exact UInt8.toNat_lt _
  obtain ⟨wb, hwb⟩ : ∃ wb, wb = wm.alloc (.cells #[.int .u32 0, .int .i64 0, .int .i64 0] 47) := ⟨_, rfl⟩
  have HBW : Hid (Below wm.heap.size wm wb) := by rw [hwb]; exact (Below.refl _ _).alloc (Nat.le_refl _) _
  have R0 : Hid (BlkAt 47 wm.heap.size uz wb) := by rw [hwb]; exact BlkAt.new wm uz
  obtain ⟨n1, n2, n3⟩ := six_parts hcell hl
  have h1 := six_bytes wm b o c l hv hl
  have HN1 : Hid (∀ W, Below wm.heap.size wm W → Calls Try.prog 52 #[.slice (some ⟨b, o, none⟩) 4 4] W fun e w' => e = .returned (.int .u64 (A0 : Int)) ∧ W = w') := fun W hb => numC_any _ (l.take 4) A0 hA0.symm (by simp; omega) (by simp; omega) W (h1.1.later hb)
  have HN2 : Hid (∀ W, Below wm.heap.size wm W → Calls Try.prog 52 #[.slice (some ⟨b, o + 4, none⟩) 1 1] W fun e w' => e = .returned (.int .u64 (N0 : Int)) ∧ W = w') := fun W hb => numC_any _ [l.getD 4 0] N0 (by rw [hN0]; simp [getL, ofn]) (by simp) (by simp) W (h1.2.1.later hb)
  have HN3 : Hid (∀ W, Below wm.heap.size wm W → Calls Try.prog 52 #[.slice (some ⟨b, o + 5, none⟩) 1 1] W fun e w' => e = .returned (.int .u64 (D0 : Int)) ∧ W = w') := fun W hb => numC_any _ [l.getD 5 0] D0 (by rw [hD0]; simp [getL, ofd]) (by simp) (by simp) W (h1.2.2.later hb)
  have hs1 := cut6_a b o c hc6
  have hs2 := cut6_b b o c hc6
  have hs3 := cut6_c b o c hc6
  clear n1 n2 n3 h1
  obtain ⟨mb, hmb⟩ : ∃ m, m = mayU A0 N0 D0 := ⟨_, rfl⟩
  have hob : ofB l = mb := by unfold ofB; rw [decide_eq_true hl, ← hA0, ← hN0, ← hD0, ← hmb]; rfl
  have HM : Hid (mb = mayU A0 N0 D0) := hmb
  have HY : Hid (mb = true → Ending.returned (.tuple #[.agg #[.int .u32 (A0 : Int), .int .i64 (N0 : Int), .int .i64 (D0 : Int)], .int .i64 0]) = .returned (.tuple #[.agg #[.int .u32 (ofA l : Int), .int .i64 (ofN l : Int), .int .i64 (ofD l : Int)], (.int .i64 (ofE l))])) := by
    intro h
    obtain ⟨e1, e2, e3⟩ := ofB_yes (hob.trans h)
    rw [e1, e2, e3, ofE, hob, h, ← hA0, ← hN0, ← hD0]; try rfl
  have HN : Hid (mb = false → Ending.returned (.tuple #[.agg #[.int .u32 0, .int .i64 0, .int .i64 0], .int .i64 4]) = .returned (.tuple #[.agg #[.int .u32 (ofA l : Int), .int .i64 (ofN l : Int), .int .i64 (ofD l : Int)], (.int .i64 (ofE l))])) := by
    intro h
    obtain ⟨e1, e2, e3⟩ := ofB_no (hob.trans h)
    rw [e1, e2, e3, ofE, hob, h]; rfl
  have kA : (A0 : Int) < 4294967296 := by omega
  have kN : (N0 : Int) < 256 := by omega
  have kD : (D0 : Int) < 256 := by omega
  have u1 : IntKind.u32.wrap (A0 : Int) = A0 := IntWalk.u32_in _ ⟨by omega, by omega⟩
  have u2 : IntKind.i64.wrap (N0 : Int) = N0 := IntWalk.i64_in _ ⟨by omega, by omega⟩
  have u3 : IntKind.i64.wrap (D0 : Int) = D0 := IntWalk.i64_in _ ⟨by omega, by omega⟩
  rw [hl]
  clear hA0 hN0 hD0 hob hmb hv hl hcell
  go_enter Try.func41, Try.ntmps41
  go_wp2_with fail
  rw [← hwb]
  clear hwb
  (refine wp_region_held_drew (S := (fun w' => Below wb.heap.size wb w')) (by kernel_rfl) ?_ (fun hHeld => ?_); (focus ((try dsimp only); (exact (Below.refl _ _).drew))))
  (try dsimp only at hHeld)
  obtain ⟨w0, hw0⟩ : ∃ w0, w0 = World.drew wb := ⟨_, rfl⟩
  rw [← hw0]
  rw [← hw0] at hHeld
  clear hw0
  refine wpAnyH_cut #[true, true, true, true, true, true, true, true, true, true, true, true, true, true, true, false] 1 (fun A w1 => ∃ (g4 : Nat), A = ⟨#[.slice (some ⟨b, o, none⟩) 6 c, undef, .pointer (some ⟨wm.heap.size, 0, none⟩), .int .i64 0, .pointer (some ⟨g4, 0, none⟩), .slice (some ⟨b, o, none⟩) 6 c, .int .i64 6, .bool false, undef, .slice (some ⟨b, o, none⟩) 6 c, .slice (some ⟨b, o, none⟩) 4 4, .int .u64 (A0 : Int), .int .u32 (A0 : Int), .slice (some ⟨b, o, none⟩) 6 c, .slice (some ⟨b, o + 4, none⟩) 1 1, .int .u64 (N0 : Int), .int .i64 (N0 : Int), .agg #[.int .u32 (A0 : Int), .int .i64 (N0 : Int)], .slice (some ⟨b, o, none⟩) 6 c, .slice (some ⟨b, o + 5, none⟩) 1 1, .int .u64 (D0 : Int), .int .i64 (D0 : Int), .agg #[.int .u32 (A0 : Int), .int .i64 (N0 : Int), .int .i64 (D0 : Int)], undef, undef, undef, undef, undef], []⟩ ∧ Hid (BlkG 47 wb g4 uz w1)) ?_ (fun m0 => ?_)
  · rintro l A w1 rfl ⟨g4, rfl, F4⟩ hHeld
    refine wpAnyH_ready (rs := [15]) (by kernel_rfl) (by simp) ?_
    refine AllReadyH.cons rfl (fun K hK => ?_) AllReadyH.nil
    have c0 := BlkAt.cell F4.out.1 (j := 0) rfl
    have c1 := BlkAt.cell F4.out.1 (j := 1) rfl
    have c2 := BlkAt.cell F4.out.1 (j := 2) rfl
    have hfz : ∀ j, w1.frozen? ⟨g4, j, none⟩ = false := fun j => BlkAt.frozen F4.out.1 j
    obtain ⟨s1, s3⟩ := BlkAt.set3 (show BlkAt 47 g4 [.int .u32 0, .int .i64 0, .int .i64 0] w1 from F4.out.1) (.int .u32 (A0 : Int)) (.int .i64 (N0 : Int)) (.int .i64 (D0 : Int))
    have G1 := Lib.hid s1
    have G3 := Lib.hid (hHeld.trans (s3 _ F4.out.2))
    clear s1 s3
    go_simp
    refine hK.out _ _ G3.out (fun hHeldN => ?_)
    refine wpAnyH_done (by kernel_rfl) ?_ _
    obtain ⟨w2, hw2⟩ : ∃ w2, w2 = (((w1.setCell ⟨g4, 0, none⟩ (.int .u32 (A0 : Int))).setCell ⟨g4, 1, none⟩ (.int .i64 (N0 : Int))).setCell ⟨g4, 2, none⟩ (.int .i64 (D0 : Int))) := ⟨_, rfl⟩
    rw [← hw2] at G1 G3 ⊢
    have R2 := Lib.hid (R0.out.later G3.out)
    have q0 := BlkAt.cell G1.out (j := 0) rfl
    have q1 := BlkAt.cell G1.out (j := 1) rfl
    have q2 := BlkAt.cell G1.out (j := 2) rfl
    clear hw2 c0 c1 c2 hfz hHeld hHeldN hK
    go_wp2_with fail
    refine (mayUW_any _ _ _ _).mono ?_
    rintro e w3 ⟨rfl, hb3⟩
    rw [← HM.out]
    have HB3 := Lib.hid (HBW.out.trans ((G3.out.trans (hb3.mono G3.out.size)).mono HBW.out.size))
    have R3 := Lib.hid (BlkAt.later R2.out hb3)
    have G4 := Lib.hid (BlkAt.later G1.out hb3)
    clear q0 q1 q2 hb3
    have q0 := BlkAt.cell G4.out (j := 0) rfl
    have q1 := BlkAt.cell G4.out (j := 1) rfl
    have q2 := BlkAt.cell G4.out (j := 2) rfl
    have c0 := BlkAt.cell R3.out (j := 0) rfl
    have c1 := BlkAt.cell R3.out (j := 1) rfl
    have c2 := BlkAt.cell R3.out (j := 2) rfl
    have hfz : ∀ j, w3.frozen? ⟨wm.heap.size, j, none⟩ = false := fun j => BlkAt.frozen R3.out j
    cases mb with
    | true =>
      obtain ⟨s1, s3⟩ := BlkAt.set3 (show BlkAt 47 wm.heap.size [.int .u32 0, .int .i64 0, .int .i64 0] w3 from R3.out) (.int .u32 (A0 : Int)) (.int .i64 (N0 : Int)) (.int .i64 (D0 : Int))
      have S1 := Lib.hid s1
      have S3 := Lib.hid (HB3.out.trans (s3 _ (Nat.le_refl _)))
      clear s1 s3
      go_wp2_with fail
      have d0 := BlkAt.cell S1.out (j := 0) rfl
      have d1 := BlkAt.cell S1.out (j := 1) rfl
      have d2 := BlkAt.cell S1.out (j := 2) rfl
      exact bodyPost_ret (v := .tuple #[.agg #[.int .u32 (A0 : Int), .int .i64 (N0 : Int), .int .i64 (D0 : Int)], .int .i64 0]) (by simp [results, Try.results41, go_sem, d0, d1, d2]) rfl ⟨HY.out (by trivial), S3.out⟩
    | false =>
      obtain ⟨s1, s3⟩ := BlkAt.set3 (show BlkAt 47 wm.heap.size [.int .u32 0, .int .i64 0, .int .i64 0] w3 from R3.out) (.int .u32 0) (.int .i64 0) (.int .i64 0)
      have S1 := Lib.hid s1
      have S3 := Lib.hid (HB3.out.trans (s3 _ (Nat.le_refl _)))
      clear s1 s3
      go_wp2_with fail
      have d0 := BlkAt.cell S1.out (j := 0) rfl
      have d1 := BlkAt.cell S1.out (j := 1) rfl
      have d2 := BlkAt.cell S1.out (j := 2) rfl
      exact bodyPost_ret (v := .tuple #[.agg #[.int .u32 0, .int .i64 0, .int .i64 0], .int .i64 4]) (by simp [results, Try.results41, go_sem, d0, d1, d2]) rfl ⟨HN.out (by trivial), S3.out⟩
  refine wpAnyH_cut #[true, true, true, true, true, true, true, true, true, true, true, true, true, true, false, false] 2 (fun A w1 => A = ⟨#[.slice (some ⟨b, o, none⟩) 6 c, undef, .pointer (some ⟨wm.heap.size, 0, none⟩), .int .i64 0, undef, .slice (some ⟨b, o, none⟩) 6 c, .int .i64 6, .bool false, undef, .slice (some ⟨b, o, none⟩) 6 c, .slice (some ⟨b, o, none⟩) 4 4, .int .u64 (A0 : Int), .int .u32 (A0 : Int), .slice (some ⟨b, o, none⟩) 6 c, .slice (some ⟨b, o + 4, none⟩) 1 1, .int .u64 (N0 : Int), .int .i64 (N0 : Int), .agg #[.int .u32 (A0 : Int), .int .i64 (N0 : Int)], .slice (some ⟨b, o, none⟩) 6 c, .slice (some ⟨b, o + 5, none⟩) 1 1, .int .u64 (D0 : Int), .int .i64 (D0 : Int), .agg #[.int .u32 (A0 : Int), .int .i64 (N0 : Int), .int .i64 (D0 : Int)], undef, undef, undef, undef, undef], []⟩) ?_ (fun m1 => ?_)
  · rintro l A w1 rfl rfl hHeld
    refine wpAnyH_ready (rs := [14]) (by kernel_rfl) (by simp) ?_
    refine AllReadyH.cons rfl (fun K hK => ?_) AllReadyH.nil
    go_simp
    have hs : Below (World.heap w1).size w1 (w1.alloc (.cells #[.int .u32 0, .int .i64 0, .int .i64 0] 47)) := (Below.refl _ _).alloc (Nat.le_refl _) _
    have hF : Hid (BlkG 47 wb (World.heap w1).size uz (w1.alloc (.cells #[.int .u32 0, .int .i64 0, .int .i64 0] 47))) := ⟨BlkAt.new w1 uz, hHeld.size⟩
    refine hK.out _ _ (hHeld.trans (hs.mono hHeld.size)) (fun hHeldN => ?_)
    exact m0 _ _ _ (by kernel_rfl) ⟨_, rfl, hF⟩ hHeldN
  refine wpAnyH_cut #[true, true, true, true, true, true, true, true, true, true, true, false, false, false, true, false] 4 (fun A w1 => ∃ (g4 : Nat), A = ⟨#[.slice (some ⟨b, o, none⟩) 6 c, undef, .pointer (some ⟨wm.heap.size, 0, none⟩), .int .i64 0, .pointer (some ⟨g4, 0, none⟩), .slice (some ⟨b, o, none⟩) 6 c, .int .i64 6, .bool false, undef, .slice (some ⟨b, o, none⟩) 6 c, .slice (some ⟨b, o, none⟩) 4 4, .int .u64 (A0 : Int), .int .u32 (A0 : Int), .slice (some ⟨b, o, none⟩) 6 c, .slice (some ⟨b, o + 4, none⟩) 1 1, .int .u64 (N0 : Int), .int .i64 (N0 : Int), .agg #[.int .u32 (A0 : Int), .int .i64 (N0 : Int)], .slice (some ⟨b, o, none⟩) 6 c, .slice (some ⟨b, o + 5, none⟩) 1 1, undef, undef, undef, undef, undef, undef, undef, undef], []⟩ ∧ Hid (BlkG 47 wb g4 uz w1)) ?_ (fun m2 => ?_)
  · rintro l A w1 rfl ⟨g4, rfl, F4⟩ hHeld
    refine wpAnyH_ready (rs := [11]) (by kernel_rfl) (by simp) ?_
    refine AllReadyH.cons rfl (fun K hK => ?_) AllReadyH.nil
    go_simp
    refine (HN3.out _ (HBW.out.trans (hHeld.mono HBW.out.size))).mono ?_
    rintro e w_n ⟨rfl, hs0⟩
    subst hs0
    simp only []
    have hs : Below (World.heap w1).size w1 w1 := Below.refl _ _
    refine hK.out _ _ (hHeld.trans (hs.mono hHeld.size)) (fun hHeldN => ?_)
    try simp only [Act.put, List.setIfInBounds_toArray, List.set_cons_zero, List.set_cons_succ, List.getElem_toArray, List.getElem_cons_zero, List.getElem_cons_succ]
    (have hHeldO := hHeld; clear hHeld; have hHeld := hHeldN)
    (refine wpAnyH_take (i := 12) (v := ?_) rfl (by kernel_rfl) (by kernel_rfl) (by kernel_rfl) (fun _ _ _ h => h) (Or.inl ⟨by rfl, ?_⟩) hHeld ?_; rotate_left; (focus (intro w hSw; (try dsimp only at hSw); go_simp; try with_reducible rfl)); (try simp only [Act.put, List.setIfInBounds_toArray, List.set_cons_zero, List.set_cons_succ, List.getElem_toArray, List.getElem_cons_zero, List.getElem_cons_succ])); (refine wpAnyH_take (i := 13) (v := ?_) rfl (by kernel_rfl) (by kernel_rfl) (by kernel_rfl) (fun _ _ _ h => h) (Or.inl ⟨by rfl, ?_⟩) hHeld ?_; rotate_left; (focus (intro w hSw; (try dsimp only at hSw); go_simp; try with_reducible rfl)); (try simp only [Act.put, List.setIfInBounds_toArray, List.set_cons_zero, List.set_cons_succ, List.getElem_toArray, List.getElem_cons_zero, List.getElem_cons_succ]))
    exact m0 _ _ _ (by kernel_rfl) ⟨_, rfl, Lib.hid (F4.out.later hs)⟩ hHeldN
  refine wpAnyH_cut #[true, true, true, true, true, true, true, true, true, true, true, false, false, false, false, false] 5 (fun A w1 => A = ⟨#[.slice (some ⟨b, o, none⟩) 6 c, undef, .pointer (some ⟨wm.heap.size, 0, none⟩), .int .i64 0, undef, .slice (some ⟨b, o, none⟩) 6 c, .int .i64 6, .bool false, undef, .slice (some ⟨b, o, none⟩) 6 c, .slice (some ⟨b, o, none⟩) 4 4, .int .u64 (A0 : Int), .int .u32 (A0 : Int), .slice (some ⟨b, o, none⟩) 6 c, .slice (some ⟨b, o + 4, none⟩) 1 1, .int .u64 (N0 : Int), .int .i64 (N0 : Int), .agg #[.int .u32 (A0 : Int), .int .i64 (N0 : Int)], .slice (some ⟨b, o, none⟩) 6 c, .slice (some ⟨b, o + 5, none⟩) 1 1, undef, undef, undef, undef, undef, undef, undef, undef], []⟩) ?_ (fun m3 => ?_)
  · rintro l A w1 rfl rfl hHeld
    refine wpAnyH_ready (rs := [11, 14]) (by kernel_rfl) (by simp) ?_
    refine AllReadyH.cons rfl (fun K hK => ?_) (AllReadyH.cons rfl (fun K hK => ?_) AllReadyH.nil)
    · go_simp
      refine (HN3.out _ (HBW.out.trans (hHeld.mono HBW.out.size))).mono ?_
      rintro e w_n ⟨rfl, hs0⟩
      subst hs0
      simp only []
      have hs : Below (World.heap w1).size w1 w1 := Below.refl _ _
      refine hK.out _ _ (hHeld.trans (hs.mono hHeld.size)) (fun hHeldN => ?_)
      try simp only [Act.put, List.setIfInBounds_toArray, List.set_cons_zero, List.set_cons_succ, List.getElem_toArray, List.getElem_cons_zero, List.getElem_cons_succ]
      (have hHeldO := hHeld; clear hHeld; have hHeld := hHeldN)
      (refine wpAnyH_take (i := 12) (v := ?_) rfl (by kernel_rfl) (by kernel_rfl) (by kernel_rfl) (fun _ _ _ h => h) (Or.inl ⟨by rfl, ?_⟩) hHeld ?_; rotate_left; (focus (intro w hSw; (try dsimp only at hSw); go_simp; try with_reducible rfl)); (try simp only [Act.put, List.setIfInBounds_toArray, List.set_cons_zero, List.set_cons_succ, List.getElem_toArray, List.getElem_cons_zero, List.getElem_cons_succ])); (refine wpAnyH_take (i := 13) (v := ?_) rfl (by kernel_rfl) (by kernel_rfl) (by kernel_rfl) (fun _ _ _ h => h) (Or.inl ⟨by rfl, ?_⟩) hHeld ?_; rotate_left; (focus (intro w hSw; (try dsimp only at hSw); go_simp; try with_reducible rfl)); (try simp only [Act.put, List.setIfInBounds_toArray, List.set_cons_zero, List.set_cons_succ, List.getElem_toArray, List.getElem_cons_zero, List.getElem_cons_succ]))
      exact m1 _ _ _ (by kernel_rfl) rfl hHeldN
    · go_simp
      have hs : Below (World.heap w1).size w1 (w1.alloc (.cells #[.int .u32 0, .int .i64 0, .int .i64 0] 47)) := (Below.refl _ _).alloc (Nat.le_refl _) _
      have hF : Hid (BlkG 47 wb (World.heap w1).size uz (w1.alloc (.cells #[.int .u32 0, .int .i64 0, .int .i64 0] 47))) := ⟨BlkAt.new w1 uz, hHeld.size⟩
      refine hK.out _ _ (hHeld.trans (hs.mono hHeld.size)) (fun hHeldN => ?_)
      exact m2 _ _ _ (by kernel_rfl) ⟨_, rfl, hF⟩ hHeldN
  refine wpAnyH_cut #[true, true, true, true, true, true, false, false, false, true, true, false, false, false, true, false] 7 (fun A w1 => ∃ (g4 : Nat), A = ⟨#[.slice (some ⟨b, o, none⟩) 6 c, undef, .pointer (some ⟨wm.heap.size, 0, none⟩), .int .i64 0, .pointer (some ⟨g4, 0, none⟩), .slice (some ⟨b, o, none⟩) 6 c, .int .i64 6, .bool false, undef, .slice (some ⟨b, o, none⟩) 6 c, .slice (some ⟨b, o, none⟩) 4 4, .int .u64 (A0 : Int), .int .u32 (A0 : Int), .slice (some ⟨b, o, none⟩) 6 c, .slice (some ⟨b, o + 4, none⟩) 1 1, undef, undef, undef, .slice (some ⟨b, o, none⟩) 6 c, .slice (some ⟨b, o + 5, none⟩) 1 1, undef, undef, undef, undef, undef, undef, undef, undef], []⟩ ∧ Hid (BlkG 47 wb g4 uz w1)) ?_ (fun m4 => ?_)
  · rintro l A w1 rfl ⟨g4, rfl, F4⟩ hHeld
    refine wpAnyH_ready (rs := [6]) (by kernel_rfl) (by simp) ?_
    refine AllReadyH.cons rfl (fun K hK => ?_) AllReadyH.nil
    go_simp
    refine (HN2.out _ (HBW.out.trans (hHeld.mono HBW.out.size))).mono ?_
    rintro e w_n ⟨rfl, hs0⟩
    subst hs0
    simp only []
    have hs : Below (World.heap w1).size w1 w1 := Below.refl _ _
    refine hK.out _ _ (hHeld.trans (hs.mono hHeld.size)) (fun hHeldN => ?_)
    try simp only [Act.put, List.setIfInBounds_toArray, List.set_cons_zero, List.set_cons_succ, List.getElem_toArray, List.getElem_cons_zero, List.getElem_cons_succ]
    (have hHeldO := hHeld; clear hHeld; have hHeld := hHeldN)
    (refine wpAnyH_take (i := 7) (v := ?_) rfl (by kernel_rfl) (by kernel_rfl) (by kernel_rfl) (fun _ _ _ h => h) (Or.inl ⟨by rfl, ?_⟩) hHeld ?_; rotate_left; (focus (intro w hSw; (try dsimp only at hSw); go_simp; try with_reducible rfl)); (try simp only [Act.put, List.setIfInBounds_toArray, List.set_cons_zero, List.set_cons_succ, List.getElem_toArray, List.getElem_cons_zero, List.getElem_cons_succ])); (refine wpAnyH_take (i := 8) (v := ?_) rfl (by kernel_rfl) (by kernel_rfl) (by kernel_rfl) (fun _ _ _ h => h) (Or.inl ⟨by rfl, ?_⟩) hHeld ?_; rotate_left; (focus (intro w hSw; (try dsimp only at hSw); go_simp; try with_reducible rfl)); (try simp only [Act.put, List.setIfInBounds_toArray, List.set_cons_zero, List.set_cons_succ, List.getElem_toArray, List.getElem_cons_zero, List.getElem_cons_succ]))
    exact m2 _ _ _ (by kernel_rfl) ⟨_, rfl, Lib.hid (F4.out.later hs)⟩ hHeldN
  refine wpAnyH_cut #[true, true, true, true, true, true, false, false, false, true, true, false, false, false, false, false] 8 (fun A w1 => A = ⟨#[.slice (some ⟨b, o, none⟩) 6 c, undef, .pointer (some ⟨wm.heap.size, 0, none⟩), .int .i64 0, undef, .slice (some ⟨b, o, none⟩) 6 c, .int .i64 6, .bool false, undef, .slice (some ⟨b, o, none⟩) 6 c, .slice (some ⟨b, o, none⟩) 4 4, .int .u64 (A0 : Int), .int .u32 (A0 : Int), .slice (some ⟨b, o, none⟩) 6 c, .slice (some ⟨b, o + 4, none⟩) 1 1, undef, undef, undef, .slice (some ⟨b, o, none⟩) 6 c, .slice (some ⟨b, o + 5, none⟩) 1 1, undef, undef, undef, undef, undef, undef, undef, undef], []⟩) ?_ (fun m5 => ?_)
  · rintro l A w1 rfl rfl hHeld
    refine wpAnyH_ready (rs := [6, 14]) (by kernel_rfl) (by simp) ?_
    refine AllReadyH.cons rfl (fun K hK => ?_) (AllReadyH.cons rfl (fun K hK => ?_) AllReadyH.nil)
    · go_simp
      refine (HN2.out _ (HBW.out.trans (hHeld.mono HBW.out.size))).mono ?_
      rintro e w_n ⟨rfl, hs0⟩
      subst hs0
      simp only []
      have hs : Below (World.heap w1).size w1 w1 := Below.refl _ _
      refine hK.out _ _ (hHeld.trans (hs.mono hHeld.size)) (fun hHeldN => ?_)
      try simp only [Act.put, List.setIfInBounds_toArray, List.set_cons_zero, List.set_cons_succ, List.getElem_toArray, List.getElem_cons_zero, List.getElem_cons_succ]
      (have hHeldO := hHeld; clear hHeld; have hHeld := hHeldN)
      (refine wpAnyH_take (i := 7) (v := ?_) rfl (by kernel_rfl) (by kernel_rfl) (by kernel_rfl) (fun _ _ _ h => h) (Or.inl ⟨by rfl, ?_⟩) hHeld ?_; rotate_left; (focus (intro w hSw; (try dsimp only at hSw); go_simp; try with_reducible rfl)); (try simp only [Act.put, List.setIfInBounds_toArray, List.set_cons_zero, List.set_cons_succ, List.getElem_toArray, List.getElem_cons_zero, List.getElem_cons_succ])); (refine wpAnyH_take (i := 8) (v := ?_) rfl (by kernel_rfl) (by kernel_rfl) (by kernel_rfl) (fun _ _ _ h => h) (Or.inl ⟨by rfl, ?_⟩) hHeld ?_; rotate_left; (focus (intro w hSw; (try dsimp only at hSw); go_simp; try with_reducible rfl)); (try simp only [Act.put, List.setIfInBounds_toArray, List.set_cons_zero, List.set_cons_succ, List.getElem_toArray, List.getElem_cons_zero, List.getElem_cons_succ]))
      exact m3 _ _ _ (by kernel_rfl) rfl hHeldN
    · go_simp
      have hs : Below (World.heap w1).size w1 (w1.alloc (.cells #[.int .u32 0, .int .i64 0, .int .i64 0] 47)) := (Below.refl _ _).alloc (Nat.le_refl _) _
      have hF : Hid (BlkG 47 wb (World.heap w1).size uz (w1.alloc (.cells #[.int .u32 0, .int .i64 0, .int .i64 0] 47))) := ⟨BlkAt.new w1 uz, hHeld.size⟩
      refine hK.out _ _ (hHeld.trans (hs.mono hHeld.size)) (fun hHeldN => ?_)
      exact m4 _ _ _ (by kernel_rfl) ⟨_, rfl, hF⟩ hHeldN
  refine wpAnyH_cut #[true, true, false, false, true, true, false, false, false, true, true, false, false, false, true, false] 9 (fun A w1 => ∃ (g4 : Nat), A = ⟨#[.slice (some ⟨b, o, none⟩) 6 c, undef, .pointer (some ⟨wm.heap.size, 0, none⟩), .int .i64 0, .pointer (some ⟨g4, 0, none⟩), .slice (some ⟨b, o, none⟩) 6 c, .int .i64 6, .bool false, undef, .slice (some ⟨b, o, none⟩) 6 c, .slice (some ⟨b, o, none⟩) 4 4, undef, undef, .slice (some ⟨b, o, none⟩) 6 c, .slice (some ⟨b, o + 4, none⟩) 1 1, undef, undef, undef, .slice (some ⟨b, o, none⟩) 6 c, .slice (some ⟨b, o + 5, none⟩) 1 1, undef, undef, undef, undef, undef, undef, undef, undef], []⟩ ∧ Hid (BlkG 47 wb g4 uz w1)) ?_ (fun m6 => ?_)
  · rintro l A w1 rfl ⟨g4, rfl, F4⟩ hHeld
    refine wpAnyH_ready (rs := [2]) (by kernel_rfl) (by simp) ?_
    refine AllReadyH.cons rfl (fun K hK => ?_) AllReadyH.nil
    go_simp
    refine (HN1.out _ (HBW.out.trans (hHeld.mono HBW.out.size))).mono ?_
    rintro e w_n ⟨rfl, hs0⟩
    subst hs0
    simp only []
    have hs : Below (World.heap w1).size w1 w1 := Below.refl _ _
    refine hK.out _ _ (hHeld.trans (hs.mono hHeld.size)) (fun hHeldN => ?_)
    try simp only [Act.put, List.setIfInBounds_toArray, List.set_cons_zero, List.set_cons_succ, List.getElem_toArray, List.getElem_cons_zero, List.getElem_cons_succ]
    (have hHeldO := hHeld; clear hHeld; have hHeld := hHeldN)
    (refine wpAnyH_take (i := 3) (v := ?_) rfl (by kernel_rfl) (by kernel_rfl) (by kernel_rfl) (fun _ _ _ h => h) (Or.inl ⟨by rfl, ?_⟩) hHeld ?_; rotate_left; (focus (intro w hSw; (try dsimp only at hSw); go_simp; try with_reducible rfl)); (try simp only [Act.put, List.setIfInBounds_toArray, List.set_cons_zero, List.set_cons_succ, List.getElem_toArray, List.getElem_cons_zero, List.getElem_cons_succ]))
    exact m4 _ _ _ (by kernel_rfl) ⟨_, rfl, Lib.hid (F4.out.later hs)⟩ hHeldN
  refine wpAnyH_cut #[true, true, false, false, true, true, false, false, false, true, true, false, false, false, false, false] 10 (fun A w1 => A = ⟨#[.slice (some ⟨b, o, none⟩) 6 c, undef, .pointer (some ⟨wm.heap.size, 0, none⟩), .int .i64 0, undef, .slice (some ⟨b, o, none⟩) 6 c, .int .i64 6, .bool false, undef, .slice (some ⟨b, o, none⟩) 6 c, .slice (some ⟨b, o, none⟩) 4 4, undef, undef, .slice (some ⟨b, o, none⟩) 6 c, .slice (some ⟨b, o + 4, none⟩) 1 1, undef, undef, undef, .slice (some ⟨b, o, none⟩) 6 c, .slice (some ⟨b, o + 5, none⟩) 1 1, undef, undef, undef, undef, undef, undef, undef, undef], []⟩) ?_ (fun m7 => ?_)
  · rintro l A w1 rfl rfl hHeld
    refine wpAnyH_ready (rs := [2, 14]) (by kernel_rfl) (by simp) ?_
    refine AllReadyH.cons rfl (fun K hK => ?_) (AllReadyH.cons rfl (fun K hK => ?_) AllReadyH.nil)
    · go_simp
      refine (HN1.out _ (HBW.out.trans (hHeld.mono HBW.out.size))).mono ?_
      rintro e w_n ⟨rfl, hs0⟩
      subst hs0
      simp only []
      have hs : Below (World.heap w1).size w1 w1 := Below.refl _ _
      refine hK.out _ _ (hHeld.trans (hs.mono hHeld.size)) (fun hHeldN => ?_)
      try simp only [Act.put, List.setIfInBounds_toArray, List.set_cons_zero, List.set_cons_succ, List.getElem_toArray, List.getElem_cons_zero, List.getElem_cons_succ]
      (have hHeldO := hHeld; clear hHeld; have hHeld := hHeldN)
      (refine wpAnyH_take (i := 3) (v := ?_) rfl (by kernel_rfl) (by kernel_rfl) (by kernel_rfl) (fun _ _ _ h => h) (Or.inl ⟨by rfl, ?_⟩) hHeld ?_; rotate_left; (focus (intro w hSw; (try dsimp only at hSw); go_simp; try with_reducible rfl)); (try simp only [Act.put, List.setIfInBounds_toArray, List.set_cons_zero, List.set_cons_succ, List.getElem_toArray, List.getElem_cons_zero, List.getElem_cons_succ]))
      exact m5 _ _ _ (by kernel_rfl) rfl hHeldN
    · go_simp
      have hs : Below (World.heap w1).size w1 (w1.alloc (.cells #[.int .u32 0, .int .i64 0, .int .i64 0] 47)) := (Below.refl _ _).alloc (Nat.le_refl _) _
      have hF : Hid (BlkG 47 wb (World.heap w1).size uz (w1.alloc (.cells #[.int .u32 0, .int .i64 0, .int .i64 0] 47))) := ⟨BlkAt.new w1 uz, hHeld.size⟩
      refine hK.out _ _ (hHeld.trans (hs.mono hHeld.size)) (fun hHeldN => ?_)
      exact m6 _ _ _ (by kernel_rfl) ⟨_, rfl, hF⟩ hHeldN
  (refine wpAnyH_take (i := 0) (v := ?_) rfl (by kernel_rfl) (by kernel_rfl) (by kernel_rfl) (fun _ _ _ h => h) (Or.inl ⟨by rfl, ?_⟩) hHeld ?_; rotate_left; (focus (intro w hSw; (try dsimp only at hSw); go_simp; try with_reducible rfl)); (try simp only [Act.put, List.setIfInBounds_toArray, List.set_cons_zero, List.set_cons_succ, List.getElem_toArray, List.getElem_cons_zero])); (refine wpAnyH_take (i := 4) (v := ?_) rfl (by kernel_rfl) (by kernel_rfl) (by kernel_rfl) (fun _ _ _ h => h) (Or.inl ⟨by rfl, ?_⟩) hHeld ?_; rotate_left; (focus (intro w hSw; (try dsimp only at hSw); go_simp; try with_reducible rfl)); (try simp only [Act.put, List.setIfInBounds_toArray, List.set_cons_zero, List.set_cons_succ, List.getElem_toArray, List.getElem_cons_zero, List.getElem_cons_succ])); (refine wpAnyH_take (i := 9) (v := ?_) rfl (by kernel_rfl) (by kernel_rfl) (by kernel_rfl) (fun _ _ _ h => h) (Or.inl ⟨by rfl, ?_⟩) hHeld ?_; rotate_left; (focus (intro w hSw; (try dsimp only at hSw); go_simp; try with_reducible rfl)); (try simp only [Act.put, List.setIfInBounds_toArray, List.set_cons_zero, List.set_cons_succ, List.getElem_toArray, List.getElem_cons_zero, List.getElem_cons_succ])); (refine wpAnyH_take (i := 1) (v := ?_) rfl (by kernel_rfl) (by kernel_rfl) (by kernel_rfl) (fun _ _ _ h => h) (Or.inl ⟨by rfl, ?_⟩) hHeld ?_; rotate_left; (focus (intro w hSw; (try dsimp only at hSw); go_simp; try with_reducible rfl)); (try simp only [Act.put, List.setIfInBounds_toArray, List.set_cons_zero, List.set_cons_succ, List.getElem_toArray, List.getElem_cons_zero, List.getElem_cons_succ])); (refine wpAnyH_take (i := 5) (v := ?_) rfl (by kernel_rfl) (by kernel_rfl) (by kernel_rfl) (fun _ _ _ h => h) (Or.inl ⟨by rfl, ?_⟩) hHeld ?_; rotate_left; (focus (intro w hSw; (try dsimp only at hSw); go_simp; try with_reducible rfl)); (try simp only [Act.put, List.setIfInBounds_toArray, List.set_cons_zero, List.set_cons_succ, List.getElem_toArray, List.getElem_cons_zero, List.getElem_cons_succ])); (refine wpAnyH_take (i := 10) (v := ?_) rfl (by kernel_rfl) (by kernel_rfl) (by kernel_rfl) (fun _ _ _ h => h) (Or.inl ⟨by rfl, ?_⟩) hHeld ?_; rotate_left; (focus (intro w hSw; (try dsimp only at hSw); go_simp; try with_reducible rfl)); (try simp only [Act.put, List.setIfInBounds_toArray, List.set_cons_zero, List.set_cons_succ, List.getElem_toArray, List.getElem_cons_zero, List.getElem_cons_succ]))
  exact m7 _ _ _ (by kernel_rfl) rfl hHeld

theorem of5W_any (v : Value) (l : List UInt8) (wm : World) (hv : Bytes wm v l) (hl : l.length ≤ 9223372036854775807) :
    Calls Try.prog 41 #[v] wm fun e w' => e = .returned (.tuple #[.agg #[.int .u32 (ofA l : Int), .int .i64 (ofN l : Int), .int .i64 (ofD l : Int)], (.int .i64 (ofE l))]) ∧ Below wm.heap.size wm w' := by
  by_cases h : l.length = 6
  · exact of5W_six v l wm hv h
  · exact of5W_len v l wm hv h hl

set_option maxHeartbeats 8000000 in
set_option maxRecDepth 100000 in
theorem of5R_len (v : Value) (l : List UInt8) (wm : World) (hv : Bytes wm v l) (hl : l.length ≠ 6) (hl2 : l.length ≤ 9223372036854775807) :
    Calls Try.prog 34 #[v] wm fun e w' => e = .returned (.tuple #[.agg #[.int .u32 (ofA l : Int), .int .i64 (ofN l : Int), .int .i64 (ofD l : Int)], (.bool (ofB l))]) ∧ Below wm.heap.size wm w' := by
  obtain ⟨a, c, rfl⟩ := hv.form
  have hno : ofB l = false := by unfold ofB; rw [decide_eq_false hl]; rfl
  obtain ⟨e1, e2, e3⟩ := ofB_no hno
  have HY : Hid (Ending.returned (.tuple #[.agg #[.int .u32 0, .int .i64 0, .int .i64 0], .bool false]) = .returned (.tuple #[.agg #[.int .u32 (ofA l : Int), .int .i64 (ofN l : Int), .int .i64 (ofD l : Int)], (.bool (ofB l))])) := by
    show _ = _
    rw [e1, e2, e3, hno]; rfl
  have hd : ((l.length : Int) != 6) = true := by rw [bne_iff_ne]; omega
  clear e1 e2 e3 hno hl hv
  go_enter Try.func34, Try.ntmps34
  go_wp2_with fail
  exact bodyPost_ret (v := .tuple #[.agg #[.int .u32 0, .int .i64 0, .int .i64 0], .bool false]) (by simp [results, Try.results34, go_sem]) rfl ⟨HY.out, by go_grown⟩

set_option maxHeartbeats 8000000 in
set_option maxRecDepth 100000 in
theorem of5R_six (v : Value) (l : List UInt8) (wm : World) (hv : Bytes wm v l) (hl : l.length = 6) :
    Calls Try.prog 34 #[v] wm fun e w' => e = .returned (.tuple #[.agg #[.int .u32 (ofA l : Int), .int .i64 (ofN l : Int), .int .i64 (ofD l : Int)], (.bool (ofB l))]) ∧ Below wm.heap.size wm w' := by
  obtain ⟨b, o, c, rfl, hbl, hc6, hcell⟩ := six_form hv hl
  obtain ⟨A0, hA0⟩ : ∃ x, x = ofa l := ⟨_, rfl⟩
  obtain ⟨N0, hN0⟩ : ∃ x, x = ofn l := ⟨_, rfl⟩
  obtain ⟨D0, hD0⟩ : ∃ x, x = ofd l := ⟨_, rfl⟩
  have bA : A0 < 4294967296 := by rw [hA0]; exact ofa_lt l
  have bN : N0 < 256 := by rw [hN0]; exact UInt8.toNat_lt _
  have bD : D0 < 256 := by rw [hD0]; exact UInt8.toNat_lt _
  obtain ⟨wb, hwb⟩ : ∃ wb, wb = wm.alloc (.cells #[.int .u32 0, .int .i64 0, .int .i64 0] 47) := ⟨_, rfl⟩
  have HBW : Hid (Below wm.heap.size wm wb) := by rw [hwb]; exact (Below.refl _ _).alloc (Nat.le_refl _) _
  have R0 : Hid (BlkAt 47 wm.heap.size uz wb) := by rw [hwb]; exact BlkAt.new wm uz
  obtain ⟨n1, n2, n3⟩ := six_parts hcell hl
  have h1 := six_bytes wm b o c l hv hl
  have HN1 : Hid (∀ W, Below wm.heap.size wm W → Calls Try.prog 40 #[.slice (some ⟨b, o, none⟩) 4 c] W fun e w' => e = .returned (.int .u64 (A0 : Int)) ∧ W = w') := fun W hb => by
    have h2 := getR_any (.slice (some ⟨b, o, none⟩) 4 c) (l.take 4) W ((six_bytesR wm b o c l hv hl).later hb) (by simp only [List.length_take]; omega)
    rw [show getL (l.take 4) = A0 from hA0.symm] at h2
    exact h2
  have hs1 := cut6_r b o c hc6
  have HC4 : Hid (wm.cell? ⟨b, o + 4, none⟩ = some (.int .u8 (N0 : Int))) := by rw [hN0]; exact n2
  have HC5 : Hid (wm.cell? ⟨b, o + 5, none⟩ = some (.int .u8 (D0 : Int))) := by rw [hD0]; exact n3
  clear n1 n2 n3 h1
  obtain ⟨mb, hmb⟩ : ∃ m, m = mayU A0 N0 D0 := ⟨_, rfl⟩
  have hob : ofB l = mb := by unfold ofB; rw [decide_eq_true hl, ← hA0, ← hN0, ← hD0, ← hmb]; rfl
  have HM : Hid (mb = mayU A0 N0 D0) := hmb
  have HY : Hid (mb = true → Ending.returned (.tuple #[.agg #[.int .u32 (A0 : Int), .int .i64 (N0 : Int), .int .i64 (D0 : Int)], .bool true]) = .returned (.tuple #[.agg #[.int .u32 (ofA l : Int), .int .i64 (ofN l : Int), .int .i64 (ofD l : Int)], (.bool (ofB l))])) := by
    intro h
    obtain ⟨e1, e2, e3⟩ := ofB_yes (hob.trans h)
    rw [e1, e2, e3, hob, h, ← hA0, ← hN0, ← hD0]; try rfl
  have HN : Hid (mb = false → Ending.returned (.tuple #[.agg #[.int .u32 0, .int .i64 0, .int .i64 0], .bool false]) = .returned (.tuple #[.agg #[.int .u32 (ofA l : Int), .int .i64 (ofN l : Int), .int .i64 (ofD l : Int)], (.bool (ofB l))])) := by
    intro h
    obtain ⟨e1, e2, e3⟩ := ofB_no (hob.trans h)
    rw [e1, e2, e3, hob, h]; rfl
  have kA : (A0 : Int) < 4294967296 := by omega
  have kN : (N0 : Int) < 256 := by omega
  have kD : (D0 : Int) < 256 := by omega
  have u1 : IntKind.u32.wrap (A0 : Int) = A0 := IntWalk.u32_in _ ⟨by omega, by omega⟩
  have u2 : IntKind.i64.wrap (N0 : Int) = N0 := IntWalk.i64_in _ ⟨by omega, by omega⟩
  have u3 : IntKind.i64.wrap (D0 : Int) = D0 := IntWalk.i64_in _ ⟨by omega, by omega⟩
  rw [hl]
  clear hA0 hN0 hD0 hob hmb hv hl hcell
  go_enter Try.func34, Try.ntmps34
  go_wp2_with fail
  rw [← hwb]
  clear hwb
  (refine wp_region_held_drew (S := (fun w' => Below wb.heap.size wb w')) (by kernel_rfl) ?_ (fun hHeld => ?_); (focus ((try dsimp only); (exact (Below.refl _ _).drew))))
  (try dsimp only at hHeld)
  obtain ⟨w0, hw0⟩ : ∃ w0, w0 = World.drew wb := ⟨_, rfl⟩
  rw [← hw0]
  rw [← hw0] at hHeld
  clear hw0
  refine wpAnyH_cut #[true, true, true, true, true, true, true, true, true, true, true, true, true, true, true, false] 1 (fun A w1 => ∃ (g4 : Nat), A = ⟨#[.slice (some ⟨b, o, none⟩) 6 c, undef, .pointer (some ⟨wm.heap.size, 0, none⟩), .bool false, .pointer (some ⟨g4, 0, none⟩), .slice (some ⟨b, o, none⟩) 6 c, .int .i64 6, .bool false, undef, .slice (some ⟨b, o, none⟩) 6 c, .slice (some ⟨b, o, none⟩) 4 c, .int .u64 (A0 : Int), .int .u32 (A0 : Int), .slice (some ⟨b, o, none⟩) 6 c, .pointer (some ⟨b, o + 4, none⟩), .int .u8 (N0 : Int), .int .i64 (N0 : Int), .agg #[.int .u32 (A0 : Int), .int .i64 (N0 : Int)], .slice (some ⟨b, o, none⟩) 6 c, .pointer (some ⟨b, o + 5, none⟩), .int .u8 (D0 : Int), .int .i64 (D0 : Int), .agg #[.int .u32 (A0 : Int), .int .i64 (N0 : Int), .int .i64 (D0 : Int)], undef, undef, undef, undef, undef], []⟩ ∧ Hid (BlkG 47 wb g4 uz w1)) ?_ (fun m0 => ?_)
  · rintro l A w1 rfl ⟨g4, rfl, F4⟩ hHeld
    refine wpAnyH_ready (rs := [15]) (by kernel_rfl) (by simp) ?_
    refine AllReadyH.cons rfl (fun K hK => ?_) AllReadyH.nil
    have c0 := BlkAt.cell F4.out.1 (j := 0) rfl
    have c1 := BlkAt.cell F4.out.1 (j := 1) rfl
    have c2 := BlkAt.cell F4.out.1 (j := 2) rfl
    have hfz : ∀ j, w1.frozen? ⟨g4, j, none⟩ = false := fun j => BlkAt.frozen F4.out.1 j
    obtain ⟨s1, s3⟩ := BlkAt.set3 (show BlkAt 47 g4 [.int .u32 0, .int .i64 0, .int .i64 0] w1 from F4.out.1) (.int .u32 (A0 : Int)) (.int .i64 (N0 : Int)) (.int .i64 (D0 : Int))
    have G1 := Lib.hid s1
    have G3 := Lib.hid (hHeld.trans (s3 _ F4.out.2))
    clear s1 s3
    go_simp
    refine hK.out _ _ G3.out (fun hHeldN => ?_)
    refine wpAnyH_done (by kernel_rfl) ?_ _
    obtain ⟨w2, hw2⟩ : ∃ w2, w2 = (((w1.setCell ⟨g4, 0, none⟩ (.int .u32 (A0 : Int))).setCell ⟨g4, 1, none⟩ (.int .i64 (N0 : Int))).setCell ⟨g4, 2, none⟩ (.int .i64 (D0 : Int))) := ⟨_, rfl⟩
    rw [← hw2] at G1 G3 ⊢
    have R2 := Lib.hid (R0.out.later G3.out)
    have q0 := BlkAt.cell G1.out (j := 0) rfl
    have q1 := BlkAt.cell G1.out (j := 1) rfl
    have q2 := BlkAt.cell G1.out (j := 2) rfl
    clear hw2 c0 c1 c2 hfz hHeld hHeldN hK
    go_wp2_with fail
    refine (mayUR_any _ _ _ _ (by omega) (by omega)).mono ?_
    rintro e w3 ⟨rfl, hb3⟩
    rw [← HM.out]
    have HB3 := Lib.hid (HBW.out.trans ((G3.out.trans (hb3.mono G3.out.size)).mono HBW.out.size))
    have R3 := Lib.hid (BlkAt.later R2.out hb3)
    have G4 := Lib.hid (BlkAt.later G1.out hb3)
    clear q0 q1 q2 hb3
    have q0 := BlkAt.cell G4.out (j := 0) rfl
    have q1 := BlkAt.cell G4.out (j := 1) rfl
    have q2 := BlkAt.cell G4.out (j := 2) rfl
    have c0 := BlkAt.cell R3.out (j := 0) rfl
    have c1 := BlkAt.cell R3.out (j := 1) rfl
    have c2 := BlkAt.cell R3.out (j := 2) rfl
    have hfz : ∀ j, w3.frozen? ⟨wm.heap.size, j, none⟩ = false := fun j => BlkAt.frozen R3.out j
    cases mb with
    | true =>
      obtain ⟨s1, s3⟩ := BlkAt.set3 (show BlkAt 47 wm.heap.size [.int .u32 0, .int .i64 0, .int .i64 0] w3 from R3.out) (.int .u32 (A0 : Int)) (.int .i64 (N0 : Int)) (.int .i64 (D0 : Int))
      have S1 := Lib.hid s1
      have S3 := Lib.hid (HB3.out.trans (s3 _ (Nat.le_refl _)))
      clear s1 s3
      go_wp2_with fail
      have d0 := BlkAt.cell S1.out (j := 0) rfl
      have d1 := BlkAt.cell S1.out (j := 1) rfl
      have d2 := BlkAt.cell S1.out (j := 2) rfl
      exact bodyPost_ret (v := .tuple #[.agg #[.int .u32 (A0 : Int), .int .i64 (N0 : Int), .int .i64 (D0 : Int)], .bool true]) (by simp [results, Try.results34, go_sem, d0, d1, d2]) rfl ⟨HY.out (by trivial), S3.out⟩
    | false =>
      obtain ⟨s1, s3⟩ := BlkAt.set3 (show BlkAt 47 wm.heap.size [.int .u32 0, .int .i64 0, .int .i64 0] w3 from R3.out) (.int .u32 0) (.int .i64 0) (.int .i64 0)
      have S1 := Lib.hid s1
      have S3 := Lib.hid (HB3.out.trans (s3 _ (Nat.le_refl _)))
      clear s1 s3
      go_wp2_with fail
      have d0 := BlkAt.cell S1.out (j := 0) rfl
      have d1 := BlkAt.cell S1.out (j := 1) rfl
      have d2 := BlkAt.cell S1.out (j := 2) rfl
      exact bodyPost_ret (v := .tuple #[.agg #[.int .u32 0, .int .i64 0, .int .i64 0], .bool false]) (by simp [results, Try.results34, go_sem, d0, d1, d2]) rfl ⟨HN.out (by trivial), S3.out⟩
  refine wpAnyH_cut #[true, true, true, true, true, true, true, true, true, true, true, true, true, true, false, false] 2 (fun A w1 => A = ⟨#[.slice (some ⟨b, o, none⟩) 6 c, undef, .pointer (some ⟨wm.heap.size, 0, none⟩), .bool false, undef, .slice (some ⟨b, o, none⟩) 6 c, .int .i64 6, .bool false, undef, .slice (some ⟨b, o, none⟩) 6 c, .slice (some ⟨b, o, none⟩) 4 c, .int .u64 (A0 : Int), .int .u32 (A0 : Int), .slice (some ⟨b, o, none⟩) 6 c, .pointer (some ⟨b, o + 4, none⟩), .int .u8 (N0 : Int), .int .i64 (N0 : Int), .agg #[.int .u32 (A0 : Int), .int .i64 (N0 : Int)], .slice (some ⟨b, o, none⟩) 6 c, .pointer (some ⟨b, o + 5, none⟩), .int .u8 (D0 : Int), .int .i64 (D0 : Int), .agg #[.int .u32 (A0 : Int), .int .i64 (N0 : Int), .int .i64 (D0 : Int)], undef, undef, undef, undef, undef], []⟩) ?_ (fun m1 => ?_)
  · rintro l A w1 rfl rfl hHeld
    refine wpAnyH_ready (rs := [14]) (by kernel_rfl) (by simp) ?_
    refine AllReadyH.cons rfl (fun K hK => ?_) AllReadyH.nil
    go_simp
    have hs : Below (World.heap w1).size w1 (w1.alloc (.cells #[.int .u32 0, .int .i64 0, .int .i64 0] 47)) := (Below.refl _ _).alloc (Nat.le_refl _) _
    have hF : Hid (BlkG 47 wb (World.heap w1).size uz (w1.alloc (.cells #[.int .u32 0, .int .i64 0, .int .i64 0] 47))) := ⟨BlkAt.new w1 uz, hHeld.size⟩
    refine hK.out _ _ (hHeld.trans (hs.mono hHeld.size)) (fun hHeldN => ?_)
    exact m0 _ _ _ (by kernel_rfl) ⟨_, rfl, hF⟩ hHeldN
  refine wpAnyH_cut #[true, true, false, false, true, true, true, true, false, true, true, true, true, false, true, false] 5 (fun A w1 => ∃ (g4 : Nat), A = ⟨#[.slice (some ⟨b, o, none⟩) 6 c, undef, .pointer (some ⟨wm.heap.size, 0, none⟩), .bool false, .pointer (some ⟨g4, 0, none⟩), .slice (some ⟨b, o, none⟩) 6 c, .int .i64 6, .bool false, undef, .slice (some ⟨b, o, none⟩) 6 c, .slice (some ⟨b, o, none⟩) 4 c, undef, undef, .slice (some ⟨b, o, none⟩) 6 c, .pointer (some ⟨b, o + 4, none⟩), .int .u8 (N0 : Int), .int .i64 (N0 : Int), undef, .slice (some ⟨b, o, none⟩) 6 c, .pointer (some ⟨b, o + 5, none⟩), .int .u8 (D0 : Int), .int .i64 (D0 : Int), undef, undef, undef, undef, undef, undef], []⟩ ∧ Hid (BlkG 47 wb g4 uz w1)) ?_ (fun m2 => ?_)
  · rintro l A w1 rfl ⟨g4, rfl, F4⟩ hHeld
    refine wpAnyH_ready (rs := [2]) (by kernel_rfl) (by simp) ?_
    refine AllReadyH.cons rfl (fun K hK => ?_) AllReadyH.nil
    go_simp
    refine (HN1.out _ (HBW.out.trans (hHeld.mono HBW.out.size))).mono ?_
    rintro e w_n ⟨rfl, hs0⟩
    subst hs0
    simp only []
    have hs : Below (World.heap w1).size w1 w1 := Below.refl _ _
    refine hK.out _ _ (hHeld.trans (hs.mono hHeld.size)) (fun hHeldN => ?_)
    try simp only [Act.put, List.setIfInBounds_toArray, List.set_cons_zero, List.set_cons_succ, List.getElem_toArray, List.getElem_cons_zero, List.getElem_cons_succ]
    (have hHeldO := hHeld; clear hHeld; have hHeld := hHeldN)
    (refine wpAnyH_take (i := 3) (v := ?_) rfl (by kernel_rfl) (by kernel_rfl) (by kernel_rfl) (fun _ _ _ h => h) (Or.inl ⟨by rfl, ?_⟩) hHeld ?_; rotate_left; (focus (intro w hSw; (try dsimp only at hSw); go_simp; try with_reducible rfl)); (try simp only [Act.put, List.setIfInBounds_toArray, List.set_cons_zero, List.set_cons_succ, List.getElem_toArray, List.getElem_cons_zero, List.getElem_cons_succ])); (refine wpAnyH_take (i := 8) (v := ?_) rfl (by kernel_rfl) (by kernel_rfl) (by kernel_rfl) (fun _ _ _ h => h) (Or.inl ⟨by rfl, ?_⟩) hHeld ?_; rotate_left; (focus (intro w hSw; (try dsimp only at hSw); go_simp; try with_reducible rfl)); (try simp only [Act.put, List.setIfInBounds_toArray, List.set_cons_zero, List.set_cons_succ, List.getElem_toArray, List.getElem_cons_zero, List.getElem_cons_succ])); (refine wpAnyH_take (i := 13) (v := ?_) rfl (by kernel_rfl) (by kernel_rfl) (by kernel_rfl) (fun _ _ _ h => h) (Or.inl ⟨by rfl, ?_⟩) hHeld ?_; rotate_left; (focus (intro w hSw; (try dsimp only at hSw); go_simp; try with_reducible rfl)); (try simp only [Act.put, List.setIfInBounds_toArray, List.set_cons_zero, List.set_cons_succ, List.getElem_toArray, List.getElem_cons_zero, List.getElem_cons_succ]))
    exact m0 _ _ _ (by kernel_rfl) ⟨_, rfl, Lib.hid (F4.out.later hs)⟩ hHeldN
  refine wpAnyH_cut #[true, true, false, false, true, true, true, true, false, true, true, true, true, false, false, false] 6 (fun A w1 => A = ⟨#[.slice (some ⟨b, o, none⟩) 6 c, undef, .pointer (some ⟨wm.heap.size, 0, none⟩), .bool false, undef, .slice (some ⟨b, o, none⟩) 6 c, .int .i64 6, .bool false, undef, .slice (some ⟨b, o, none⟩) 6 c, .slice (some ⟨b, o, none⟩) 4 c, undef, undef, .slice (some ⟨b, o, none⟩) 6 c, .pointer (some ⟨b, o + 4, none⟩), .int .u8 (N0 : Int), .int .i64 (N0 : Int), undef, .slice (some ⟨b, o, none⟩) 6 c, .pointer (some ⟨b, o + 5, none⟩), .int .u8 (D0 : Int), .int .i64 (D0 : Int), undef, undef, undef, undef, undef, undef], []⟩) ?_ (fun m3 => ?_)
  · rintro l A w1 rfl rfl hHeld
    refine wpAnyH_ready (rs := [2, 14]) (by kernel_rfl) (by simp) ?_
    refine AllReadyH.cons rfl (fun K hK => ?_) (AllReadyH.cons rfl (fun K hK => ?_) AllReadyH.nil)
    · go_simp
      refine (HN1.out _ (HBW.out.trans (hHeld.mono HBW.out.size))).mono ?_
      rintro e w_n ⟨rfl, hs0⟩
      subst hs0
      simp only []
      have hs : Below (World.heap w1).size w1 w1 := Below.refl _ _
      refine hK.out _ _ (hHeld.trans (hs.mono hHeld.size)) (fun hHeldN => ?_)
      try simp only [Act.put, List.setIfInBounds_toArray, List.set_cons_zero, List.set_cons_succ, List.getElem_toArray, List.getElem_cons_zero, List.getElem_cons_succ]
      (have hHeldO := hHeld; clear hHeld; have hHeld := hHeldN)
      (refine wpAnyH_take (i := 3) (v := ?_) rfl (by kernel_rfl) (by kernel_rfl) (by kernel_rfl) (fun _ _ _ h => h) (Or.inl ⟨by rfl, ?_⟩) hHeld ?_; rotate_left; (focus (intro w hSw; (try dsimp only at hSw); go_simp; try with_reducible rfl)); (try simp only [Act.put, List.setIfInBounds_toArray, List.set_cons_zero, List.set_cons_succ, List.getElem_toArray, List.getElem_cons_zero, List.getElem_cons_succ])); (refine wpAnyH_take (i := 8) (v := ?_) rfl (by kernel_rfl) (by kernel_rfl) (by kernel_rfl) (fun _ _ _ h => h) (Or.inl ⟨by rfl, ?_⟩) hHeld ?_; rotate_left; (focus (intro w hSw; (try dsimp only at hSw); go_simp; try with_reducible rfl)); (try simp only [Act.put, List.setIfInBounds_toArray, List.set_cons_zero, List.set_cons_succ, List.getElem_toArray, List.getElem_cons_zero, List.getElem_cons_succ])); (refine wpAnyH_take (i := 13) (v := ?_) rfl (by kernel_rfl) (by kernel_rfl) (by kernel_rfl) (fun _ _ _ h => h) (Or.inl ⟨by rfl, ?_⟩) hHeld ?_; rotate_left; (focus (intro w hSw; (try dsimp only at hSw); go_simp; try with_reducible rfl)); (try simp only [Act.put, List.setIfInBounds_toArray, List.set_cons_zero, List.set_cons_succ, List.getElem_toArray, List.getElem_cons_zero, List.getElem_cons_succ]))
      exact m1 _ _ _ (by kernel_rfl) rfl hHeldN
    · go_simp
      have hs : Below (World.heap w1).size w1 (w1.alloc (.cells #[.int .u32 0, .int .i64 0, .int .i64 0] 47)) := (Below.refl _ _).alloc (Nat.le_refl _) _
      have hF : Hid (BlkG 47 wb (World.heap w1).size uz (w1.alloc (.cells #[.int .u32 0, .int .i64 0, .int .i64 0] 47))) := ⟨BlkAt.new w1 uz, hHeld.size⟩
      refine hK.out _ _ (hHeld.trans (hs.mono hHeld.size)) (fun hHeldN => ?_)
      exact m2 _ _ _ (by kernel_rfl) ⟨_, rfl, hF⟩ hHeldN
  (refine wpAnyH_take (i := 0) (v := ?_) rfl (by kernel_rfl) (by kernel_rfl) (by kernel_rfl) (fun _ _ _ h => h) (Or.inl ⟨by rfl, ?_⟩) hHeld ?_; rotate_left; (focus (intro w hSw; (try dsimp only at hSw); go_simp; try with_reducible rfl)); (try simp only [Act.put, List.setIfInBounds_toArray, List.set_cons_zero, List.set_cons_succ, List.getElem_toArray, List.getElem_cons_zero])); (refine wpAnyH_take (i := 4) (v := ?_) rfl (by kernel_rfl) (by kernel_rfl) (by kernel_rfl) (fun _ _ _ h => h) (Or.inl ⟨by rfl, ?_⟩) hHeld ?_; rotate_left; (focus (intro w hSw; (try dsimp only at hSw); go_simp; try with_reducible rfl)); (try simp only [Act.put, List.setIfInBounds_toArray, List.set_cons_zero, List.set_cons_succ, List.getElem_toArray, List.getElem_cons_zero, List.getElem_cons_succ])); (refine wpAnyH_take (i := 9) (v := ?_) rfl (by kernel_rfl) (by kernel_rfl) (by kernel_rfl) (fun _ _ _ h => h) (Or.inl ⟨by rfl, ?_⟩) hHeld ?_; rotate_left; (focus (intro w hSw; (try dsimp only at hSw); go_simp; try with_reducible rfl)); (try simp only [Act.put, List.setIfInBounds_toArray, List.set_cons_zero, List.set_cons_succ, List.getElem_toArray, List.getElem_cons_zero, List.getElem_cons_succ])); (refine wpAnyH_take (i := 1) (v := ?_) rfl (by kernel_rfl) (by kernel_rfl) (by kernel_rfl) (fun _ _ _ h => h) (Or.inl ⟨by rfl, ?_⟩) hHeld ?_; rotate_left; (focus (intro w hSw; (try dsimp only at hSw); go_simp; try with_reducible rfl)); (try simp only [Act.put, List.setIfInBounds_toArray, List.set_cons_zero, List.set_cons_succ, List.getElem_toArray, List.getElem_cons_zero, List.getElem_cons_succ])); (refine wpAnyH_take (i := 5) (v := ?_) rfl (by kernel_rfl) (by kernel_rfl) (by kernel_rfl) (fun _ _ _ h => h) (Or.inl ⟨by rfl, ?_⟩) hHeld ?_; rotate_left; (focus (intro w hSw; (try dsimp only at hSw); go_simp; try with_reducible rfl)); (try simp only [Act.put, List.setIfInBounds_toArray, List.set_cons_zero, List.set_cons_succ, List.getElem_toArray, List.getElem_cons_zero, List.getElem_cons_succ])); (refine wpAnyH_take (i := 10) (v := ?_) rfl (by kernel_rfl) (by kernel_rfl) (by kernel_rfl) (fun _ _ _ h => h) (Or.inl ⟨by rfl, ?_⟩) hHeld ?_; rotate_left; (focus (intro w hSw; (try dsimp only at hSw); go_simp; try with_reducible rfl)); (try simp only [Act.put, List.setIfInBounds_toArray, List.set_cons_zero, List.set_cons_succ, List.getElem_toArray, List.getElem_cons_zero, List.getElem_cons_succ]))
  (refine wpAnyH_take (i := 6) (v := ?_) rfl (by kernel_rfl) (by kernel_rfl) (by kernel_rfl) (fun _ _ _ h => h) (Or.inl ⟨by rfl, ?_⟩) hHeld ?_; rotate_left; (focus (intro w hSw; (try dsimp only at hSw); go_simp; ((have hcc := cell_later' (HBW.out.trans (hSw.mono HBW.out.size)) hbl HC4.out); go_simp; try with_reducible rfl))); (try simp only [Act.put, List.setIfInBounds_toArray, List.set_cons_zero, List.set_cons_succ, List.getElem_toArray, List.getElem_cons_zero, List.getElem_cons_succ]))
  (refine wpAnyH_take (i := 11) (v := ?_) rfl (by kernel_rfl) (by kernel_rfl) (by kernel_rfl) (fun _ _ _ h => h) (Or.inl ⟨by rfl, ?_⟩) hHeld ?_; rotate_left; (focus (intro w hSw; (try dsimp only at hSw); go_simp; ((have hcc := cell_later' (HBW.out.trans (hSw.mono HBW.out.size)) hbl HC5.out); go_simp; try with_reducible rfl))); (try simp only [Act.put, List.setIfInBounds_toArray, List.set_cons_zero, List.set_cons_succ, List.getElem_toArray, List.getElem_cons_zero, List.getElem_cons_succ]))
  (refine wpAnyH_take (i := 7) (v := ?_) rfl (by kernel_rfl) (by kernel_rfl) (by kernel_rfl) (fun _ _ _ h => h) (Or.inl ⟨by rfl, ?_⟩) hHeld ?_; rotate_left; (focus (intro w hSw; (try dsimp only at hSw); go_simp; try with_reducible rfl)); (try simp only [Act.put, List.setIfInBounds_toArray, List.set_cons_zero, List.set_cons_succ, List.getElem_toArray, List.getElem_cons_zero, List.getElem_cons_succ])); (refine wpAnyH_take (i := 12) (v := ?_) rfl (by kernel_rfl) (by kernel_rfl) (by kernel_rfl) (fun _ _ _ h => h) (Or.inl ⟨by rfl, ?_⟩) hHeld ?_; rotate_left; (focus (intro w hSw; (try dsimp only at hSw); go_simp; try with_reducible rfl)); (try simp only [Act.put, List.setIfInBounds_toArray, List.set_cons_zero, List.set_cons_succ, List.getElem_toArray, List.getElem_cons_zero, List.getElem_cons_succ]))
  exact m3 _ _ _ (by kernel_rfl) rfl hHeld

theorem of5R_any (v : Value) (l : List UInt8) (wm : World) (hv : Bytes wm v l) (hl : l.length ≤ 9223372036854775807) :
    Calls Try.prog 34 #[v] wm fun e w' => e = .returned (.tuple #[.agg #[.int .u32 (ofA l : Int), .int .i64 (ofN l : Int), .int .i64 (ofD l : Int)], (.bool (ofB l))]) ∧ Below wm.heap.size wm w' := by
  by_cases h : l.length = 6
  · exact of5R_six v l wm hv h
  · exact of5R_len v l wm hv h hl
end Go.Proofs.Ytcahfapffhcceaa
