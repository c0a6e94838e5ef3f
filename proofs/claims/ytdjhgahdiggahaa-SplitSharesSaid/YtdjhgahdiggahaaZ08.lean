/- Shares by rank, as they come about, plainly.
   Pick; SplitPicks.
   What the law's rows ask: two lists that are the same, numbers of errors; the chapter's rows. -/
import Derived.Test.YtdjhgahdiggahaaZ07

set_option linter.unusedSimpArgs false
set_option linter.unusedVariables false
namespace Go.Proofs.Ytdjhgahdiggahaa
open Go.RowKit
attribute [local go_sem ↓] Go.wp_at_zero Go.wp_at_succ
open Sp

set_option maxRecDepth 100000 in
theorem sameI {w : World} {g1 g2 n c1 c2 : Nat} {A : List Int} (h1 : IB g1 A w) (h2 : IB g2 A w) (hn : n = A.length) (hl : n ≤ 1000) :
    Calls Try.prog 38 #[.slice (some ⟨g1, 0, none⟩) n c1, .slice (some ⟨g2, 0, none⟩) n c2] w fun e w' => e = .returned (.bool true) ∧ Below w.heap.size w w' := by
  have HI : Hid (IB g1 A w ∧ IB g2 A w ∧ n = A.length) := ⟨h1, h2, hn⟩
  have g0 : (n : Int) ≤ 1000 := by omega
  clear h1 h2 hn hl
  go_enter Try.func38, Try.ntmps38
  go_wp2_with fail
  go_loopw [5] (fun x wr => ∃ i : Nat, i ≤ n ∧ x = .int .i64 i ∧ Hid (Below w.heap.size w wr)) (fun x _ => n - (intOf x).toNat)
  case atStart => exact ⟨0, Nat.zero_le _, rfl, Below.refl _ _⟩
  case round =>
    obtain ⟨i, hi, rfl, HB⟩ := hrel
    rcases Nat.lt_or_ge i n with hlt | hge
    · have g1' : (i : Int) < n := by omega
      have hx : A[i]? = some (A[i]'(by have := HI.out.2.2; omega)) := List.getElem?_eq_getElem _
      obtain ⟨x, hxx⟩ : ∃ x, x = A[i]'(by have := HI.out.2.2; omega) := ⟨_, rfl⟩
      rw [← hxx] at hx
      have c0 := (HI.out.1.later HB.out).cell (iv_at2 hx)
      have c1 := (HI.out.2.1.later HB.out).cell (iv_at2 hx)
      have t0 : (x != x) = false := by simp
      clear hx hxx
      go_wp2_with fail
      go_quiet (fail)
      have HB2 := Lib.hid (below_drewN HB.out nq)
      go_wp2_with fail
      go_roundw
      case rel => exact ⟨i + 1, by omega, by go_num, HB2.out⟩
      case measure => simp [intOf]; omega
    · obtain rfl : i = n := by omega
      have q0 : ¬ (i : Int) < i := by omega
      go_wp2_with fail
      go_ret
      exact ⟨rfl, HB.out⟩
set_option maxRecDepth 100000 in
theorem numL (e : Int) (w : World) : Calls Try.prog 37 #[.int .i64 e] w fun r w' => r = .returned (.int .i64 e) ∧ w = w' := by
  go_enter Try.func37, Try.ntmps37
  go_wp2_with fail
  go_ret
  exact ⟨rfl, rfl⟩
/-- The chapter's ways. -/
def kA : List WyN := [(0, 0), (1, 0), (2, 1)]
def kB : List WyN := [(3, 7)]
set_option maxRecDepth 100000 in
theorem kA_may : mayP kA := by decide
set_option maxRecDepth 100000 in
theorem kB_may : mayP kB := by decide
set_option maxRecDepth 100000 in
theorem kA_sh : shares (ws kA) = [103, 102, 51] := by decide
set_option maxRecDepth 100000 in
theorem kB_sh : shares (ws kB) = [256] := by decide
set_option maxRecDepth 100000 in
theorem nil_may : ¬ mayP [] := by decide
set_option maxRecDepth 100000 in
theorem nxs_blk {w : World} {g : Nat} {l : List WyN} {n : Nat} (h : BlkAt 76 g (l.flatMap nxc) w) (hn : n = l.length) (h0 : l ≠ []) : Nxs w (.slice (some ⟨g, 0, none⟩) n n) l := by
  refine .inr ⟨g, 0, n, by rw [hn], BlkAt.lt h, by omega, fun j x hx i u hu => ?_⟩
  rw [Nat.zero_add]
  refine h.cell ?_
  have hk : ∀ (l : List WyN) (j : Nat) (x : WyN), l[j]? = some x → ∀ i u, (nxc x)[i]? = some u → (l.flatMap nxc)[j * 2 + i]? = some u := by
    intro l
    induction l with
    | nil => intro j x hx; simp at hx
    | cons y l ih =>
      intro j x hx i u hu
      cases j with
      | zero =>
        simp at hx
        subst hx
        rw [List.flatMap_cons, Nat.zero_mul, Nat.zero_add, List.getElem?_append_left (List.getElem?_eq_some_iff.1 hu).1]
        exact hu
      | succ j =>
        have := ih j x (by simpa using hx) i u hu
        rw [List.flatMap_cons, List.getElem?_append_right (by show (nxc y).length ≤ _; simp [nxc]; omega)]
        rw [show (j + 1) * 2 + i - (nxc y).length = j * 2 + i by simp [nxc]; omega]
        exact this
  exact hk l j x hx i u hu
set_option maxRecDepth 100000 in
theorem nxs_nil (w : World) : Nxs w (.slice none 0 0) [] := .inl ⟨rfl, none, 0, rfl, fun _ => rfl⟩
set_option maxRecDepth 100000 in
theorem lits (L : List Int) (w : World) : IB w.heap.size L (w.alloc (.cells (iv L).toArray 3)) := BlkAt.new w _
set_option maxRecDepth 100000 in
theorem knownL (w : World) : Calls Try.prog 30 #[] w fun e w' => e = .returned (.bool true) ∧ Below w.heap.size w w' := by
  obtain ⟨w1, hw1⟩ : ∃ w1, w1 = w.alloc (.cells #[.int .i64 0, .int .i64 0, .int .i64 1, .int .i64 0, .int .i64 2, .int .i64 1] 76) := ⟨_, rfl⟩
  have hb1 : Below w.heap.size w w1 := by rw [hw1]; exact ba1 _ _
  have hX1 : BlkAt 76 w.heap.size (kA.flatMap nxc) w1 := by rw [hw1]; exact BlkAt.new w _
  have HS1 := Lib.hid (sharesYes (nxs_blk (n := 3) hX1 rfl (by decide)) (by intro n hn; simp [kA] at hn; rcases hn with rfl | rfl | rfl <;> exact ⟨by decide, by decide, by decide, by decide⟩) kA_may)
  rw [kA_sh] at HS1
  have HW1 := Lib.hid hw1
  have HB1 := Lib.hid hb1
  clear hw1 hb1 hX1
  go_enter Try.func30, Try.ntmps30
  go_wp2_with fail
  rw [← HW1.out]
  refine HS1.out.mono ?_
  rintro e w2 ⟨ga, rfl, _, ia2, b2⟩
  have hl3 : kA.length = 3 := rfl
  rw [hl3]
  have HB2 := Lib.hid (below_of HB1.out b2)
  have HA2 := Lib.hid ia2
  obtain ⟨w3, hw3⟩ : ∃ w3, w3 = w2.alloc (.cells #[.int .i64 3, .int .i64 7] 76) := ⟨_, rfl⟩
  have hb3 : Below w2.heap.size w2 w3 := by rw [hw3]; exact ba1 _ _
  have hX3 : BlkAt 76 w2.heap.size (kB.flatMap nxc) w3 := by rw [hw3]; exact BlkAt.new w2 _
  have HS3 := Lib.hid (sharesYes (nxs_blk (n := 1) hX3 rfl (by decide)) (by intro n hn; simp [kB] at hn; rcases hn with rfl; exact ⟨by decide, by decide, by decide, by decide⟩) kB_may)
  rw [kB_sh] at HS3
  have HW3 := Lib.hid hw3
  have HB3 := Lib.hid (below_of HB2.out hb3)
  have HA3 := Lib.hid (HA2.out.later hb3)
  clear hw3 hb3 hX3 ia2 b2 hl3
  go_wp2_with fail
  rw [← HW3.out]
  refine HS3.out.mono ?_
  rintro e w4 ⟨gb, rfl, _, ib4, b4⟩
  have hl1 : kB.length = 1 := rfl
  rw [hl1]
  have HB4 := Lib.hid (below_of HB3.out b4)
  have HA4 := Lib.hid (HA3.out.later b4)
  have HI4 := Lib.hid ib4
  obtain ⟨w5, hw5⟩ : ∃ w5, w5 = w4.alloc (.cells #[.int .i64 103, .int .i64 102, .int .i64 51] 3) := ⟨_, rfl⟩
  have hb5 : Below w4.heap.size w4 w5 := by rw [hw5]; exact ba1 _ _
  have hX5 : IB w4.heap.size [103, 102, 51] w5 := by rw [hw5]; exact lits [103, 102, 51] w4
  have HC5 := Lib.hid (sameI (c1 := 3) (c2 := 3) (n := 3) (HA4.out.later hb5) hX5 rfl (by decide))
  have HB5 := Lib.hid (below_of HB4.out hb5)
  have HI5 := Lib.hid (HI4.out.later hb5)
  have HW5 := Lib.hid hw5
  clear hw5 hb5 hX5 ib4 b4 hl1
  go_wp2_with fail
  rw [← HW5.out]
  refine HC5.out.mono ?_
  rintro e w6 ⟨rfl, b6⟩
  have HB6 := Lib.hid (below_of HB5.out b6)
  obtain ⟨w7, hw7⟩ : ∃ w7, w7 = w6.alloc (.cells #[.int .i64 256] 3) := ⟨_, rfl⟩
  have hb7 : Below w6.heap.size w6 w7 := by rw [hw7]; exact ba1 _ _
  have hX7 : IB w6.heap.size [256] w7 := by rw [hw7]; exact lits [256] w6
  have HC7 := Lib.hid (sameI (c1 := 1) (c2 := 1) (n := 1) ((HI5.out.later b6).later hb7) hX7 rfl (by decide))
  have HB7 := Lib.hid (below_of HB6.out hb7)
  have HW7 := Lib.hid hw7
  clear hw7 hb7 hX7 b6
  go_wp2_with fail
  rw [← HW7.out]
  refine HC7.out.mono ?_
  rintro e w8 ⟨rfl, b8⟩
  have HB8 := Lib.hid (below_of HB7.out b8)
  clear b8
  go_wp2_with fail
  refine (numL 0 w8).mono ?_
  rintro e w9 ⟨rfl, rfl⟩
  go_wp2_with fail
  refine (numL 0 w8).mono ?_
  rintro e w9 ⟨rfl, rfl⟩
  go_wp2_with fail
  refine (weightL 0 2 w8).mono ?_
  rintro e w9 ⟨rfl, b9⟩
  have hw2 : ((wt 2 : Nat) : Int) = 21845 := by decide
  rw [hw2]
  have HB9 := Lib.hid (below_of HB8.out b9)
  clear b9 hw2
  go_wp2_with fail
  have hmn := mayW (nxs_nil w9) (by decide) (fun n hn => by cases hn)
  rw [decide_eq_false nil_may] at hmn
  refine hmn.mono ?_
  rintro e w10 ⟨rfl, b10⟩
  have HB10 := Lib.hid (below_of HB9.out b10)
  clear b10
  go_wp2_with fail
  go_ret
  exact ⟨rfl, HB10.out⟩
end Go.Proofs.Ytdjhgahdiggahaa

namespace Go.Proofs.Ytdjhgahdiggahaa
open Go.RowKit
attribute [local go_sem ↓] Go.wp_at_zero Go.wp_at_succ
open Sp

/-- 256 buckets as a value. -/
def av (T : List Int) : Value := .agg (iv T).toArray
set_option maxRecDepth 100000 in
theorem hash_mod (h : Nat) (hh : h < 4294967296) : ((h : Int)).tmod 256 = ((h % 256 : Nat) : Int) := by
  rw [show (256 : Int) = ((256 : Nat) : Int) from rfl, ← Int.ofNat_tmod]
set_option maxRecDepth 100000 in
theorem av_at {T : List Int} (hT : T.length = 256) (h : Nat) : (iv T)[h % 256]? = some (.int .i64 (T.getD (h % 256) 0)) := by
  refine iv_at2 ?_
  have : h % 256 < T.length := by rw [hT]; exact Nat.mod_lt _ (by decide)
  rw [List.getElem?_eq_getElem this]
  simp [this]
set_option maxRecDepth 100000 in
theorem exLoad {P : Program} (ev : Operand → Value) (o : Oper) (t : TypeId) (x : Operand) (a : Addr) (v : Value) (w : World) (ho : o.op = .load t x) (hx : ev x = .pointer (some a)) (hl : (loadVar t a).run P w = .ok v w) : (execOp ev o).run P w = .ok (.value v) w := by
  unfold execOp
  rw [ho]
  simp only [hx, Instr.loadAt, Instr.sureAddr, Sem.run_bind, Sem.run_pure, Result.andThen]
  rw [hl]
set_option maxRecDepth 100000 in
theorem pickL (T : List Int) (hT : T.length = 256) (h : Nat) (w : World) : Calls Try.prog 41 #[av T, .int .u32 (h : Int)] w fun e w' => e = .returned (.int .i64 (T.getD (h % 256) 0)) ∧ Below w.heap.size w w' := by
  have hq := av_at hT h
  obtain ⟨x, hx⟩ : ∃ x, x = T.getD (h % 256) 0 := ⟨_, rfl⟩
  rw [← hx] at hq ⊢
  have HB : Hid (Below w.heap.size w (w.alloc (.cells (iv T).toArray 86))) := ba1 _ _
  obtain ⟨V, hV⟩ : ∃ V, V = iv T := ⟨_, rfl⟩
  unfold av
  rw [← hV] at hq HB ⊢
  clear hx hT hV
  go_enter Try.func41, Try.ntmps41
  go_wp2_with fail
  go_ret
  exact ⟨rfl, HB.out⟩
set_option maxHeartbeats 8000000 in
set_option maxRecDepth 100000 in
theorem splitPicks0 (T : List Int) (h : Nat) (w : World) (hT : T.length = 256) (hh : h < 4294967296) :
    Calls Try.prog 12 #[av T, .int .u32 (h : Int)] w fun e w' => e = .returned (.bool true) ∧ Below w.heap.size w w' := by
  obtain ⟨w1, hw1⟩ : ∃ w1, w1 = w.alloc (.cells (iv T).toArray 86) := ⟨_, rfl⟩
  have hb1 : Below w.heap.size w w1 := by rw [hw1]; exact ba1 _ _
  have hX : BlkAt 86 w.heap.size (iv T) w1 := by rw [hw1]; exact BlkAt.new w _
  have HX : Hid (∀ W, Below w1.heap.size w1 W → (loadVar 86 ⟨w.heap.size, 0, none⟩).run Try.prog W = .ok (av T) W ∧ W.cell? ⟨w.heap.size, h % 256, none⟩ = some (.int .i64 (T.getD (h % 256) 0))) := by
    have : ∀ W, Below w1.heap.size w1 W → (loadVar 86 ⟨w.heap.size, 0, none⟩).run Try.prog W = .ok (av T) W ∧ W.cell? ⟨w.heap.size, h % 256, none⟩ = some (.int .i64 (T.getD (h % 256) 0)) := fun W hW =>
      ⟨run_loadVar_row W _ _ _ _ (0, 0) _ (hX.later hW) Try.underlying86 (by rfl) (by rw [List.size_toArray]; unfold iv; rw [List.length_map, hT]; kernel_rfl), (hX.later hW).cell (av_at hT h)⟩
    exact this
  have h2 : (h + 256) % 4294967296 % 256 = h % 256 := by omega
  have HP : Hid (∀ W, Calls Try.prog 41 #[av T, .int .u32 (h : Int)] W fun e w' => e = .returned (.int .i64 (T.getD (h % 256) 0)) ∧ Below W.heap.size W w') := by
    have : ∀ W, Calls Try.prog 41 #[av T, .int .u32 (h : Int)] W fun e w' => e = .returned (.int .i64 (T.getD (h % 256) 0)) ∧ Below W.heap.size W w' := fun W => pickL T hT h W
    exact this
  have HP2 : Hid (∀ W, Calls Try.prog 41 #[av T, .int .u32 (((h + 256) % 4294967296 : Nat) : Int)] W fun e w' => e = .returned (.int .i64 (T.getD (h % 256) 0)) ∧ Below W.heap.size W w') := by
    have : ∀ W, Calls Try.prog 41 #[av T, .int .u32 (((h + 256) % 4294967296 : Nat) : Int)] W fun e w' => e = .returned (.int .i64 (T.getD (h % 256) 0)) ∧ Below W.heap.size W w' := fun W => by
      have := pickL T hT ((h + 256) % 4294967296) W
      rw [h2] at this
      exact this
    exact this
  have HK := Lib.hid (fun W => knownL W)
  have HW1 := Lib.hid hw1
  have HB1 := Lib.hid hb1
  obtain ⟨x, hx⟩ : ∃ x, x = T.getD (h % 256) 0 := ⟨_, rfl⟩
  rw [← hx] at HX HP HP2
  obtain ⟨V, hV⟩ : ∃ V, V = iv T := ⟨_, rfl⟩
  unfold av at HX HP HP2 ⊢
  rw [← hV] at HX HP HP2 HW1 ⊢
  obtain ⟨m, hm⟩ : ∃ m, m = h % 256 := ⟨_, rfl⟩
  rw [← hm] at HX
  have HM : Hid ((IntKind.i64.wrap (h : Int)).tmod 256 = (m : Int) ∧ IntKind.u32.wrap ((h : Int) + 256) = (((h + 256) % 4294967296 : Nat) : Int)) := by
    refine ⟨?_, ?_⟩
    · rw [IntWalk.i64_in _ ⟨by omega, by omega⟩, hash_mod h hh, hm]
    · show ((h : Int) + 256) % 4294967296 = _
      omega
  obtain ⟨h2', hh2⟩ : ∃ h2', h2' = (h + 256) % 4294967296 := ⟨_, rfl⟩
  rw [← hh2] at HM HP2
  have gm : (m : Int) < 256 := by omega
  have t0 : (x == x) = true := by simp
  clear hm hh2
  clear hx hV hX hw1 hb1 hT h2
  go_enter Try.func12, Try.ntmps12
  go_wp2_with fail
  rw [← HW1.out]
  (refine wp_region_held_drew (S := (fun w' => Below w1.heap.size w1 w')) (by kernel_rfl) ?_ (fun hHeld => ?_); (focus ((try dsimp only); (exact (Below.refl _ _).drew))))
  (refine wpAnyH_take (i := 0) (v := ?_) rfl (by kernel_rfl) (by kernel_rfl) (by kernel_rfl) (fun _ _ _ h => h) (Or.inl ⟨by rfl, ?_⟩) hHeld ?_; rotate_left; (focus (intro w hSw; (try dsimp only at hSw); (refine Eq.trans (exLoad _ _ _ _ _ _ _ rfl rfl (HX.out _ hSw).1) ?_; with_reducible rfl))); (try simp only [Act.put, List.setIfInBounds_toArray, List.set_cons_zero, List.set_cons_succ, List.getElem_toArray, List.getElem_cons_zero]))
  (refine wpAnyH_take (i := 1) (v := ?_) rfl (by kernel_rfl) (by kernel_rfl) (by kernel_rfl) (fun _ _ _ h => h) (Or.inl ⟨by rfl, ?_⟩) hHeld ?_; rotate_left; (focus (intro w hSw; (try dsimp only at hSw); go_simp; try with_reducible rfl)); (try simp only [Act.put, List.setIfInBounds_toArray, List.set_cons_zero, List.set_cons_succ, List.getElem_toArray, List.getElem_cons_zero, List.getElem_cons_succ])); (refine wpAnyH_take (i := 3) (v := ?_) rfl (by kernel_rfl) (by kernel_rfl) (by kernel_rfl) (fun _ _ _ h => h) (Or.inl ⟨by rfl, ?_⟩) hHeld ?_; rotate_left; (focus (intro w hSw; (try dsimp only at hSw); go_simp; try with_reducible rfl)); (try simp only [Act.put, List.setIfInBounds_toArray, List.set_cons_zero, List.set_cons_succ, List.getElem_toArray, List.getElem_cons_zero, List.getElem_cons_succ])); (refine wpAnyH_take (i := 4) (v := ?_) rfl (by kernel_rfl) (by kernel_rfl) (by kernel_rfl) (fun _ _ _ h => h) (Or.inl ⟨by rfl, ?_⟩) hHeld ?_; rotate_left; (focus (intro w hSw; (try dsimp only at hSw); go_simp; try with_reducible rfl)); (try simp only [Act.put, List.setIfInBounds_toArray, List.set_cons_zero, List.set_cons_succ, List.getElem_toArray, List.getElem_cons_zero, List.getElem_cons_succ]))
  (refine wpAnyH_take (i := 5) (v := ?_) rfl (by kernel_rfl) (by kernel_rfl) (by kernel_rfl) (fun _ _ _ h => h) (Or.inl ⟨by rfl, ?_⟩) hHeld ?_; rotate_left; (focus (intro w hSw; (try dsimp only at hSw); go_simp; (have h1 := HM.out.1; go_simp; try with_reducible rfl))); (try simp only [Act.put, List.setIfInBounds_toArray, List.set_cons_zero, List.set_cons_succ, List.getElem_toArray, List.getElem_cons_zero, List.getElem_cons_succ]))
  (refine wpAnyH_take (i := 6) (v := ?_) rfl (by kernel_rfl) (by kernel_rfl) (by kernel_rfl) (fun _ _ _ h => h) (Or.inl ⟨by rfl, ?_⟩) hHeld ?_; rotate_left; (focus (intro w hSw; (try dsimp only at hSw); go_simp; try with_reducible rfl)); (try simp only [Act.put, List.setIfInBounds_toArray, List.set_cons_zero, List.set_cons_succ, List.getElem_toArray, List.getElem_cons_zero, List.getElem_cons_succ]))
  (refine wpAnyH_take (i := 7) (v := ?_) rfl (by kernel_rfl) (by kernel_rfl) (by kernel_rfl) (fun _ _ _ h => h) (Or.inl ⟨by rfl, ?_⟩) hHeld ?_; rotate_left; (focus (intro w hSw; (try dsimp only at hSw); go_simp; (have cc := (HX.out _ hSw).2; go_simp; try with_reducible rfl))); (try simp only [Act.put, List.setIfInBounds_toArray, List.set_cons_zero, List.set_cons_succ, List.getElem_toArray, List.getElem_cons_zero, List.getElem_cons_succ]))
  (refine wpAnyH_ready (rs := [2]) (by kernel_rfl) (by simp) ?_; refine AllReadyH.cons rfl (fun K hK => ?_) AllReadyH.nil; go_simp; refine (HP.out _).mono ?_; rintro e wB ⟨rfl, hbB⟩; refine hK.out _ _ ?_ (fun hHeldN => ?_); (focus ((try dsimp only); (exact hHeld.trans (hbB.mono hHeld.size)))); clear hK K hHeld; have hHeld := hHeldN; clear hHeldN; (try simp only [Act.put, List.setIfInBounds_toArray, List.set_cons_zero, List.set_cons_succ, List.getElem_toArray, List.getElem_cons_zero, List.getElem_cons_succ]))
  (refine wpAnyH_take (i := 8) (v := ?_) rfl (by kernel_rfl) (by kernel_rfl) (by kernel_rfl) (fun _ _ _ h => h) (Or.inl ⟨by rfl, ?_⟩) hHeld ?_; rotate_left; (focus (intro w hSw; (try dsimp only at hSw); go_simp; try with_reducible rfl)); (try simp only [Act.put, List.setIfInBounds_toArray, List.set_cons_zero, List.set_cons_succ, List.getElem_toArray, List.getElem_cons_zero, List.getElem_cons_succ])); (refine wpAnyH_take (i := 9) (v := ?_) rfl (by kernel_rfl) (by kernel_rfl) (by kernel_rfl) (fun _ _ _ h => h) (Or.inl ⟨by rfl, ?_⟩) hHeld ?_; rotate_left; (focus (intro w hSw; (try dsimp only at hSw); go_simp; try with_reducible rfl)); (try simp only [Act.put, List.setIfInBounds_toArray, List.set_cons_zero, List.set_cons_succ, List.getElem_toArray, List.getElem_cons_zero, List.getElem_cons_succ]))
  (refine wpAnyH_take (i := 10) (v := ?_) rfl (by kernel_rfl) (by kernel_rfl) (by kernel_rfl) (fun _ _ _ h => h) (Or.inl ⟨by rfl, ?_⟩) hHeld ?_; rotate_left; (focus (intro w hSw; (try dsimp only at hSw); (refine Eq.trans (exLoad _ _ _ _ _ _ _ rfl rfl (HX.out _ hSw).1) ?_; with_reducible rfl))); (try simp only [Act.put, List.setIfInBounds_toArray, List.set_cons_zero, List.set_cons_succ, List.getElem_toArray, List.getElem_cons_zero, List.getElem_cons_succ]))
  (refine wpAnyH_take (i := 11) (v := ?_) rfl (by kernel_rfl) (by kernel_rfl) (by kernel_rfl) (fun _ _ _ h => h) (Or.inl ⟨by rfl, ?_⟩) hHeld ?_; rotate_left; (focus (intro w hSw; (try dsimp only at hSw); go_simp; try with_reducible rfl)); (try simp only [Act.put, List.setIfInBounds_toArray, List.set_cons_zero, List.set_cons_succ, List.getElem_toArray, List.getElem_cons_zero, List.getElem_cons_succ]))
  (refine wpAnyH_take (i := 12) (v := ?_) rfl (by kernel_rfl) (by kernel_rfl) (by kernel_rfl) (fun _ _ _ h => h) (Or.inl ⟨by rfl, ?_⟩) hHeld ?_; rotate_left; (focus (intro w hSw; (try dsimp only at hSw); go_simp; (have h1 := HM.out.2; go_simp; try with_reducible rfl))); (try simp only [Act.put, List.setIfInBounds_toArray, List.set_cons_zero, List.set_cons_succ, List.getElem_toArray, List.getElem_cons_zero, List.getElem_cons_succ]))
  (refine wpAnyH_take (i := 14) (v := ?_) rfl (by kernel_rfl) (by kernel_rfl) (by kernel_rfl) (fun _ _ _ h => h) (Or.inl ⟨by rfl, ?_⟩) hHeld ?_; rotate_left; (focus (intro w hSw; (try dsimp only at hSw); (refine Eq.trans (exLoad _ _ _ _ _ _ _ rfl rfl (HX.out _ hSw).1) ?_; with_reducible rfl))); (try simp only [Act.put, List.setIfInBounds_toArray, List.set_cons_zero, List.set_cons_succ, List.getElem_toArray, List.getElem_cons_zero, List.getElem_cons_succ]))
  (refine wpAnyH_take (i := 15) (v := ?_) rfl (by kernel_rfl) (by kernel_rfl) (by kernel_rfl) (fun _ _ _ h => h) (Or.inl ⟨by rfl, ?_⟩) hHeld ?_; rotate_left; (focus (intro w hSw; (try dsimp only at hSw); go_simp; try with_reducible rfl)); (try simp only [Act.put, List.setIfInBounds_toArray, List.set_cons_zero, List.set_cons_succ, List.getElem_toArray, List.getElem_cons_zero, List.getElem_cons_succ]))
  (refine wpAnyH_ready (rs := [13]) (by kernel_rfl) (by simp) ?_; refine AllReadyH.cons rfl (fun K hK => ?_) AllReadyH.nil; go_simp; refine (HP2.out _).mono ?_; rintro e wC ⟨rfl, hbC⟩; refine hK.out _ _ ?_ (fun hHeldN => ?_); (focus ((try dsimp only); (exact hHeld.trans (hbC.mono hHeld.size)))); clear hK K hHeld; have hHeld := hHeldN; clear hHeldN; (try simp only [Act.put, List.setIfInBounds_toArray, List.set_cons_zero, List.set_cons_succ, List.getElem_toArray, List.getElem_cons_zero, List.getElem_cons_succ]))
  (refine wpAnyH_ready (rs := [16]) (by kernel_rfl) (by simp) ?_; refine AllReadyH.cons rfl (fun K hK => ?_) AllReadyH.nil; go_simp; refine (HP.out _).mono ?_; rintro e wD ⟨rfl, hbD⟩; refine hK.out _ _ ?_ (fun hHeldN => ?_); (focus ((try dsimp only); (exact hHeld.trans (hbD.mono hHeld.size)))); clear hK K hHeld; have hHeld := hHeldN; clear hHeldN; (try simp only [Act.put, List.setIfInBounds_toArray, List.set_cons_zero, List.set_cons_succ, List.getElem_toArray, List.getElem_cons_zero, List.getElem_cons_succ]))
  (refine wpAnyH_take (i := 17) (v := ?_) rfl (by kernel_rfl) (by kernel_rfl) (by kernel_rfl) (fun _ _ _ h => h) (Or.inl ⟨by rfl, ?_⟩) hHeld ?_; rotate_left; (focus (intro w hSw; (try dsimp only at hSw); go_simp; try with_reducible rfl)); (try simp only [Act.put, List.setIfInBounds_toArray, List.set_cons_zero, List.set_cons_succ, List.getElem_toArray, List.getElem_cons_zero, List.getElem_cons_succ])); (refine wpAnyH_take (i := 18) (v := ?_) rfl (by kernel_rfl) (by kernel_rfl) (by kernel_rfl) (fun _ _ _ h => h) (Or.inl ⟨by rfl, ?_⟩) hHeld ?_; rotate_left; (focus (intro w hSw; (try dsimp only at hSw); go_simp; try with_reducible rfl)); (try simp only [Act.put, List.setIfInBounds_toArray, List.set_cons_zero, List.set_cons_succ, List.getElem_toArray, List.getElem_cons_zero, List.getElem_cons_succ])); (refine wpAnyH_take (i := 19) (v := ?_) rfl (by kernel_rfl) (by kernel_rfl) (by kernel_rfl) (fun _ _ _ h => h) (Or.inl ⟨by rfl, ?_⟩) hHeld ?_; rotate_left; (focus (intro w hSw; (try dsimp only at hSw); go_simp; try with_reducible rfl)); (try simp only [Act.put, List.setIfInBounds_toArray, List.set_cons_zero, List.set_cons_succ, List.getElem_toArray, List.getElem_cons_zero, List.getElem_cons_succ]))
  (refine wpAnyH_ready (rs := [20]) (by kernel_rfl) (by simp) ?_; refine AllReadyH.cons rfl (fun K hK => ?_) AllReadyH.nil; go_simp; refine (HK.out _).mono ?_; rintro e wE ⟨rfl, hbE⟩; refine hK.out _ _ ?_ (fun hHeldN => ?_); (focus ((try dsimp only); (exact hHeld.trans (hbE.mono hHeld.size)))); clear hK K hHeld; have hHeld := hHeldN; clear hHeldN; (try simp only [Act.put, List.setIfInBounds_toArray, List.set_cons_zero, List.set_cons_succ, List.getElem_toArray, List.getElem_cons_zero, List.getElem_cons_succ]))
  (refine wpAnyH_take (i := 21) (v := ?_) rfl (by kernel_rfl) (by kernel_rfl) (by kernel_rfl) (fun _ _ _ h => h) (Or.inl ⟨by rfl, ?_⟩) hHeld ?_; rotate_left; (focus (intro w hSw; (try dsimp only at hSw); go_simp; try with_reducible rfl)); (try simp only [Act.put, List.setIfInBounds_toArray, List.set_cons_zero, List.set_cons_succ, List.getElem_toArray, List.getElem_cons_zero, List.getElem_cons_succ])); (refine wpAnyH_take (i := 22) (v := ?_) rfl (by kernel_rfl) (by kernel_rfl) (by kernel_rfl) (fun _ _ _ h => h) (Or.inl ⟨by rfl, ?_⟩) hHeld ?_; rotate_left; (focus (intro w hSw; (try dsimp only at hSw); go_simp; try with_reducible rfl)); (try simp only [Act.put, List.setIfInBounds_toArray, List.set_cons_zero, List.set_cons_succ, List.getElem_toArray, List.getElem_cons_zero, List.getElem_cons_succ]))
  refine wpAnyH_done (by kernel_rfl) ?_ _
  have HE := Lib.hid (below_of HB1.out hHeld)
  clear hHeld
  go_wp2_with fail
  go_ret
  exact ⟨rfl, HE.out⟩
set_option maxRecDepth 100000 in
theorem splitPicks_walk (T : List Int) (h : Int) (w : World) (hT : T.length = 256) (h0 : 0 ≤ h) (h1 : h < 4294967296) :
    Calls Try.prog 12 #[av T, .int .u32 h] w fun e w' => e = .returned (.bool true) ∧ Below w.heap.size w w' := by
  obtain ⟨n, rfl⟩ : ∃ n : Nat, h = n := ⟨h.toNat, by omega⟩
  exact splitPicks0 T n w hT (by omega)
end Go.Proofs.Ytdjhgahdiggahaa

namespace Go.Proofs.Ytdjhgahdiggahaa
namespace Sp
/-- So many are given out by rank. -/
def oL (W : List Nat) (t : Nat) : List Nat := (List.range W.length).map fun i => (bseS W).getD i 0 + if rk (rstS W) i < t then 1 else 0
def rL (W : List Nat) (t : Nat) : List Int := (List.range W.length).map fun i => if rk (rstS W) i < t then -1 else (((rstS W).getD i 0 : Nat) : Int)
theorem oL_len (W : List Nat) (t : Nat) : (oL W t).length = W.length := by simp [oL]
theorem rL_len (W : List Nat) (t : Nat) : (rL W t).length = W.length := by simp [rL]
theorem oL_zero (W : List Nat) : oL W 0 = bseS W := by
  unfold oL
  simp only [Nat.not_lt_zero, if_false, Nat.add_zero]
  have := map_getD (bseS W)
  rw [base_len] at this
  exact this
theorem rL_zero (W : List Nat) : rL W 0 = (rstS W).map fun (n : Nat) => (n : Int) := by
  unfold rL
  simp only [Nat.not_lt_zero, if_false]
  have := map_getD (rstS W)
  rw [rest_len] at this
  have h2 := congrArg (List.map fun (n : Nat) => (n : Int)) this
  rw [List.map_map] at h2
  exact h2
theorem oL_all (W : List Nat) : oL W (left W) = shares W := rfl
theorem oL_at {W : List Nat} {t i : Nat} (h : i < W.length) : (oL W t).getD i 0 = (bseS W).getD i 0 + if rk (rstS W) i < t then 1 else 0 := by
  unfold oL
  simp [h]
theorem rL_at {W : List Nat} {t i : Nat} (h : i < W.length) : (rL W t)[i]? = some (if rk (rstS W) i < t then -1 else (((rstS W).getD i 0 : Nat) : Int)) := by
  unfold rL
  rw [List.getElem?_map, List.getElem?_range h]
  rfl
theorem rk_next {W : List Nat} {t b j : Nat} (hb : b < W.length) (hj : j < W.length) (h : rk (rstS W) b = t) : rk (rstS W) j < t + 1 ↔ rk (rstS W) j < t ∨ j = b := by
  constructor
  · intro h1
    rcases Nat.lt_or_ge (rk (rstS W) j) t with h2 | h2
    · exact .inl h2
    · exact .inr (rk_inj (by rw [rest_len]; exact hj) (by rw [rest_len]; exact hb) (by omega))
  · rintro (h1 | rfl)
    · omega
    · omega
theorem oL_set {W : List Nat} {t b : Nat} (hb : b < W.length) (h : rk (rstS W) b = t) : (oL W t).set b ((oL W t).getD b 0 + 1) = oL W (t + 1) := by
  rw [oL_at hb, if_neg (by omega)]
  apply List.ext_getElem
  · rw [List.length_set, oL_len, oL_len]
  · intro i h1 h2
    rw [List.length_set, oL_len] at h1
    rw [List.getElem_set]
    unfold oL
    by_cases hi : b = i
    · subst hi
      simp [h]
    · have hn := rk_next (j := i) hb h1 h
      have hi2 : i ≠ b := fun e => hi e.symm
      rw [if_neg hi]
      simp [hn, hi2]
theorem rL_set {W : List Nat} {t b : Nat} (hb : b < W.length) (h : rk (rstS W) b = t) : (rL W t).set b (-1) = rL W (t + 1) := by
  apply List.ext_getElem
  · rw [List.length_set, rL_len, rL_len]
  · intro i h1 h2
    rw [List.length_set, rL_len] at h1
    rw [List.getElem_set]
    unfold rL
    by_cases hi : b = i
    · subst hi
      simp [h]
    · have hn := rk_next (j := i) hb h1 h
      have hi2 : i ≠ b := fun e => hi e.symm
      rw [if_neg hi]
      simp [hn, hi2]
/-- The best of the first ones that are left. -/
def bestP (W : List Nat) (t i : Nat) (best : Int) : Prop :=
  (best = -1 ∧ ∀ j, j < i → rk (rstS W) j < t) ∨ ∃ b : Nat, best = b ∧ b < i ∧ t ≤ rk (rstS W) b ∧ ∀ j, j < i → t ≤ rk (rstS W) j → j = b ∨ lt (rstS W) b j = true
theorem bestP_zero (W : List Nat) (t : Nat) : bestP W t 0 (-1) := .inl ⟨rfl, fun j hj => by omega⟩
theorem bestP_skip {W : List Nat} {t i : Nat} {best : Int} (h : bestP W t i best) (hi : rk (rstS W) i < t) : bestP W t (i + 1) best := by
  rcases h with ⟨h1, h2⟩ | ⟨b, h1, h2, h3, h4⟩
  · refine .inl ⟨h1, fun j hj => ?_⟩
    rcases Nat.lt_or_ge j i with h | h
    · exact h2 j h
    · rw [show j = i by omega]; exact hi
  · refine .inr ⟨b, h1, by omega, h3, fun j hj hr => ?_⟩
    rcases Nat.lt_or_ge j i with h | h
    · exact h4 j h hr
    · have : j = i := by omega
      subst this
      omega
theorem bestP_first {W : List Nat} {t i : Nat} (h : bestP W t i (-1)) (hi : t ≤ rk (rstS W) i) : bestP W t (i + 1) (i : Int) := by
  rcases h with ⟨_, h2⟩ | ⟨b, h1, _⟩
  · refine .inr ⟨i, rfl, by omega, hi, fun j hj hr => ?_⟩
    rcases Nat.lt_or_ge j i with h | h
    · have := h2 j h; omega
    · exact .inl (by omega)
  · omega
theorem bestP_take {W : List Nat} {t i b : Nat} (h : bestP W t i (b : Int)) (hi : t ≤ rk (rstS W) i) (hg : (rstS W).getD b 0 < (rstS W).getD i 0) : bestP W t (i + 1) (i : Int) := by
  rcases h with ⟨h1, _⟩ | ⟨b', h1, h2, h3, h4⟩
  · omega
  · obtain rfl : b = b' := by omega
    have hl : lt (rstS W) i b = true := lt_iff.2 (.inl hg)
    refine .inr ⟨i, rfl, by omega, hi, fun j hj hr => ?_⟩
    rcases Nat.lt_or_ge j i with h | h
    · rcases h4 j h hr with rfl | h5
      · exact .inr hl
      · exact .inr (lt_trans hl h5)
    · exact .inl (by omega)
theorem bestP_keep {W : List Nat} {t i b : Nat} (h : bestP W t i (b : Int)) (hg : ¬ (rstS W).getD b 0 < (rstS W).getD i 0) : bestP W t (i + 1) (b : Int) := by
  rcases h with ⟨h1, _⟩ | ⟨b', h1, h2, h3, h4⟩
  · omega
  · obtain rfl : b = b' := by omega
    refine .inr ⟨b, rfl, by omega, h3, fun j hj hr => ?_⟩
    rcases Nat.lt_or_ge j i with h | h
    · exact h4 j h hr
    · have : j = i := by omega
      subst this
      refine .inr (lt_iff.2 ?_)
      rcases Nat.lt_or_ge ((rstS W).getD j 0) ((rstS W).getD b 0) with h6 | h6
      · exact .inl h6
      · exact .inr ⟨by omega, by omega⟩
theorem bestP_all {W : List Nat} {t : Nat} {best : Int} (h : bestP W t W.length best) (ht : t < W.length) : ∃ b : Nat, best = b ∧ b < W.length ∧ rk (rstS W) b = t := by
  obtain ⟨c, hc, hct⟩ := rk_ex (rs := rstS W) (t := t) (by rw [rest_len]; exact ht)
  rw [rest_len] at hc
  rcases h with ⟨_, h2⟩ | ⟨b, h1, h2, h3, h4⟩
  · have := h2 c hc; omega
  · refine ⟨b, h1, h2, ?_⟩
    rcases h4 c hc (by omega) with rfl | h5
    · exact hct
    · have := rk_lt (rs := rstS W) (by rw [rest_len]; exact h2) h5
      omega
end Sp
end Go.Proofs.Ytdjhgahdiggahaa
