/- SplitPicks: for every input the law's call returns true, and each argument reads behind it as before.
   An array of 256 buckets, opened.
   Pick; SplitPicks.
   What the law's rows ask: two lists that are the same, numbers of errors; the chapter's rows. -/
import Derived.OpenShut
import Derived.Test.YtdjhgahdiggahaaZ01
import Derived.Test.YtdjhgahdiggahaaZ07

set_option linter.unusedSimpArgs false
set_option linter.unusedVariables false
namespace Go.Proofs.Ytdjhgahdiggahaa
open Go.RowKit
attribute [local go_sem ↓] Go.wp_at_zero Go.wp_at_succ
open Sp

set_option maxRecDepth 100000 in
theorem sameI {w : World} {g1 g2 n c1 c2 : Nat} {A : List Int} (h1 : IB g1 A w) (h2 : IB g2 A w) (hn : n = A.length) (hl : n ≤ 1000) :
    Calls Try.prog 38 #[.slice (some ⟨g1, 0, none⟩) n c1, .slice (some ⟨g2, 0, none⟩) n c2] w fun e w' => e = .returned (.bool true) ∧ Below w.heap.size w w' := by
  have HI : Hid (IB g1 A w ∧ IB g2 A w ∧ n = A.length) := ⟨h1, h2, hn⟩
  have g0 : (n : Int) ≤ 1000 := by omega
  clear h1 h2 hn hl
  go_enter Try.func38, Try.ntmps38
  go_wp2_with fail
  go_loopw [5] (fun x wr => ∃ i : Nat, i ≤ n ∧ x = .int .i64 i ∧ Hid (Below w.heap.size w wr)) (fun x _ => n - (intOf x).toNat)
  case atStart => exact ⟨0, Nat.zero_le _, rfl, Below.refl _ _⟩
  case round =>
    obtain ⟨i, hi, rfl, HB⟩ := hrel
    rcases Nat.lt_or_ge i n with hlt | hge
    · have g1' : (i : Int) < n := by omega
      have hx : A[i]? = some (A[i]'(by have := HI.out.2.2; omega)) := List.getElem?_eq_getElem _
      obtain ⟨x, hxx⟩ : ∃ x, x = A[i]'(by have := HI.out.2.2; omega) := ⟨_, rfl⟩
      rw [← hxx] at hx
      have c0 := (HI.out.1.later HB.out).cell (iv_at2 hx)
      have c1 := (HI.out.2.1.later HB.out).cell (iv_at2 hx)
      have t0 : (x != x) = false := by simp
      clear hx hxx
      go_wp2_with fail
      go_quiet (fail)
      have HB2 := Lib.hid (below_drewN HB.out nq)
      go_wp2_with fail
      go_roundw
      case rel => exact ⟨i + 1, by omega, by go_num, HB2.out⟩
      case measure => simp [intOf]; omega
    · obtain rfl : i = n := by omega
      have q0 : ¬ (i : Int) < i := by omega
      go_wp2_with fail
      go_ret
      exact ⟨rfl, HB.out⟩
set_option maxRecDepth 100000 in
theorem numL (e : Int) (w : World) : Calls Try.prog 37 #[.int .i64 e] w fun r w' => r = .returned (.int .i64 e) ∧ w = w' := by
  go_enter Try.func37, Try.ntmps37
  go_wp2_with fail
  go_ret
  exact ⟨rfl, rfl⟩
/-- The chapter's ways. -/
def kA : List Nx := [(0, 0), (1, 0), (2, 1)]
def kB : List Nx := [(3, 7)]
set_option maxRecDepth 100000 in
theorem kA_may : mayP kA := by decide
set_option maxRecDepth 100000 in
theorem kB_may : mayP kB := by decide
set_option maxRecDepth 100000 in
theorem kA_sh : shares (ws kA) = [103, 102, 51] := by decide
set_option maxRecDepth 100000 in
theorem kB_sh : shares (ws kB) = [256] := by decide
set_option maxRecDepth 100000 in
theorem nil_may : ¬ mayP [] := by decide
set_option maxRecDepth 100000 in
theorem nxs_blk {w : World} {g : Nat} {l : List Nx} {n : Nat} (h : BlkAt 76 g (l.flatMap nxc) w) (hn : n = l.length) (h0 : l ≠ []) : Nxs w (.slice (some ⟨g, 0, none⟩) n n) l := by
  refine .inr ⟨g, 0, n, by rw [hn], BlkAt.lt h, by omega, fun j x hx i u hu => ?_⟩
  rw [Nat.zero_add]
  refine h.cell ?_
  have hk : ∀ (l : List Nx) (j : Nat) (x : Nx), l[j]? = some x → ∀ i u, (nxc x)[i]? = some u → (l.flatMap nxc)[j * 2 + i]? = some u := by
    intro l
    induction l with
    | nil => intro j x hx; simp at hx
    | cons y l ih =>
      intro j x hx i u hu
      cases j with
      | zero =>
        simp at hx
        subst hx
        rw [List.flatMap_cons, Nat.zero_mul, Nat.zero_add, List.getElem?_append_left (List.getElem?_eq_some_iff.1 hu).1]
        exact hu
      | succ j =>
        have := ih j x (by simpa using hx) i u hu
        rw [List.flatMap_cons, List.getElem?_append_right (by show (nxc y).length ≤ _; simp [nxc]; omega)]
        rw [show (j + 1) * 2 + i - (nxc y).length = j * 2 + i by simp [nxc]; omega]
        exact this
  exact hk l j x hx i u hu
set_option maxRecDepth 100000 in
theorem nxs_nil (w : World) : Nxs w (.slice none 0 0) [] := .inl ⟨rfl, none, 0, rfl, fun _ => rfl⟩
set_option maxRecDepth 100000 in
theorem lits (L : List Int) (w : World) : IB w.heap.size L (w.alloc (.cells (iv L).toArray 3)) := BlkAt.new w _
set_option maxRecDepth 100000 in
theorem knownL (w : World) : Calls Try.prog 30 #[] w fun e w' => e = .returned (.bool true) ∧ Below w.heap.size w w' := by
  obtain ⟨w1, hw1⟩ : ∃ w1, w1 = w.alloc (.cells #[.int .i64 0, .int .i64 0, .int .i64 1, .int .i64 0, .int .i64 2, .int .i64 1] 76) := ⟨_, rfl⟩
  have hb1 : Below w.heap.size w w1 := by rw [hw1]; exact ba1 _ _
  have hX1 : BlkAt 76 w.heap.size (kA.flatMap nxc) w1 := by rw [hw1]; exact BlkAt.new w _
  have HS1 := Lib.hid (sharesYes (nxs_blk (n := 3) hX1 rfl (by decide)) (by intro n hn; simp [kA] at hn; rcases hn with rfl | rfl | rfl <;> exact ⟨by decide, by decide, by decide, by decide⟩) kA_may)
  rw [kA_sh] at HS1
  have HW1 := Lib.hid hw1
  have HB1 := Lib.hid hb1
  clear hw1 hb1 hX1
  go_enter Try.func30, Try.ntmps30
  go_wp2_with fail
  rw [← HW1.out]
  refine HS1.out.mono ?_
  rintro e w2 ⟨ga, rfl, _, ia2, b2⟩
  have hl3 : kA.length = 3 := rfl
  rw [hl3]
  have HB2 := Lib.hid (below_of HB1.out b2)
  have HA2 := Lib.hid ia2
  obtain ⟨w3, hw3⟩ : ∃ w3, w3 = w2.alloc (.cells #[.int .i64 3, .int .i64 7] 76) := ⟨_, rfl⟩
  have hb3 : Below w2.heap.size w2 w3 := by rw [hw3]; exact ba1 _ _
  have hX3 : BlkAt 76 w2.heap.size (kB.flatMap nxc) w3 := by rw [hw3]; exact BlkAt.new w2 _
  have HS3 := Lib.hid (sharesYes (nxs_blk (n := 1) hX3 rfl (by decide)) (by intro n hn; simp [kB] at hn; rcases hn with rfl; exact ⟨by decide, by decide, by decide, by decide⟩) kB_may)
  rw [kB_sh] at HS3
  have HW3 := Lib.hid hw3
  have HB3 := Lib.hid (below_of HB2.out hb3)
  have HA3 := Lib.hid (HA2.out.later hb3)
  clear hw3 hb3 hX3 ia2 b2 hl3
  go_wp2_with fail
  rw [← HW3.out]
  refine HS3.out.mono ?_
  rintro e w4 ⟨gb, rfl, _, ib4, b4⟩
  have hl1 : kB.length = 1 := rfl
  rw [hl1]
  have HB4 := Lib.hid (below_of HB3.out b4)
  have HA4 := Lib.hid (HA3.out.later b4)
  have HI4 := Lib.hid ib4
  obtain ⟨w5, hw5⟩ : ∃ w5, w5 = w4.alloc (.cells #[.int .i64 103, .int .i64 102, .int .i64 51] 3) := ⟨_, rfl⟩
  have hb5 : Below w4.heap.size w4 w5 := by rw [hw5]; exact ba1 _ _
  have hX5 : IB w4.heap.size [103, 102, 51] w5 := by rw [hw5]; exact lits [103, 102, 51] w4
  have HC5 := Lib.hid (sameI (c1 := 3) (c2 := 3) (n := 3) (HA4.out.later hb5) hX5 rfl (by decide))
  have HB5 := Lib.hid (below_of HB4.out hb5)
  have HI5 := Lib.hid (HI4.out.later hb5)
  have HW5 := Lib.hid hw5
  clear hw5 hb5 hX5 ib4 b4 hl1
  go_wp2_with fail
  rw [← HW5.out]
  refine HC5.out.mono ?_
  rintro e w6 ⟨rfl, b6⟩
  have HB6 := Lib.hid (below_of HB5.out b6)
  obtain ⟨w7, hw7⟩ : ∃ w7, w7 = w6.alloc (.cells #[.int .i64 256] 3) := ⟨_, rfl⟩
  have hb7 : Below w6.heap.size w6 w7 := by rw [hw7]; exact ba1 _ _
  have hX7 : IB w6.heap.size [256] w7 := by rw [hw7]; exact lits [256] w6
  have HC7 := Lib.hid (sameI (c1 := 1) (c2 := 1) (n := 1) ((HI5.out.later b6).later hb7) hX7 rfl (by decide))
  have HB7 := Lib.hid (below_of HB6.out hb7)
  have HW7 := Lib.hid hw7
  clear hw7 hb7 hX7 b6
  go_wp2_with fail
  rw [← HW7.out]
  refine HC7.out.mono ?_
  rintro e w8 ⟨rfl, b8⟩
  have HB8 := Lib.hid (below_of HB7.out b8)
  clear b8
  go_wp2_with fail
  refine (numL 0 w8).mono ?_
  rintro e w9 ⟨rfl, rfl⟩
  go_wp2_with fail
  refine (numL 0 w8).mono ?_
  rintro e w9 ⟨rfl, rfl⟩
  go_wp2_with fail
  refine (weightL 0 2 w8).mono ?_
  rintro e w9 ⟨rfl, b9⟩
  have hw2 : ((wt 2 : Nat) : Int) = 21845 := by decide
  rw [hw2]
  have HB9 := Lib.hid (below_of HB8.out b9)
  clear b9 hw2
  go_wp2_with fail
  have hmn := mayW (nxs_nil w9) (by decide) (fun n hn => by cases hn)
  rw [decide_eq_false nil_may] at hmn
  refine hmn.mono ?_
  rintro e w10 ⟨rfl, b10⟩
  have HB10 := Lib.hid (below_of HB9.out b10)
  clear b10
  go_wp2_with fail
  go_ret
  exact ⟨rfl, HB10.out⟩
end Go.Proofs.Ytdjhgahdiggahaa

namespace Go.Proofs.Ytdjhgahdiggahaa
open Go.RowKit
attribute [local go_sem ↓] Go.wp_at_zero Go.wp_at_succ
open Sp

/-- 256 buckets as a value. -/
def av (T : List Int) : Value := .agg (iv T).toArray
set_option maxRecDepth 100000 in
theorem hash_mod (h : Nat) (hh : h < 4294967296) : ((h : Int)).tmod 256 = ((h % 256 : Nat) : Int) := by
  rw [show (256 : Int) = ((256 : Nat) : Int) from rfl, ← Int.ofNat_tmod]
set_option maxRecDepth 100000 in
theorem av_at {T : List Int} (hT : T.length = 256) (h : Nat) : (iv T)[h % 256]? = some (.int .i64 (T.getD (h % 256) 0)) := by
  refine iv_at2 ?_
  have : h % 256 < T.length := by rw [hT]; exact Nat.mod_lt _ (by decide)
  rw [List.getElem?_eq_getElem this]
  simp [this]
set_option maxRecDepth 100000 in
theorem exLoad {P : Program} (ev : Operand → Value) (o : Oper) (t : TypeId) (x : Operand) (a : Addr) (v : Value) (w : World) (ho : o.op = .load t x) (hx : ev x = .pointer (some a)) (hl : (loadVar t a).run P w = .ok v w) : (execOp ev o).run P w = .ok (.value v) w := by
  unfold execOp
  rw [ho]
  simp only [hx, Instr.loadAt, Instr.sureAddr, Sem.run_bind, Sem.run_pure, Result.andThen]
  rw [hl]
set_option maxRecDepth 100000 in
theorem pickL (T : List Int) (hT : T.length = 256) (h : Nat) (w : World) : Calls Try.prog 41 #[av T, .int .u32 (h : Int)] w fun e w' => e = .returned (.int .i64 (T.getD (h % 256) 0)) ∧ Below w.heap.size w w' := by
  have hq := av_at hT h
  obtain ⟨x, hx⟩ : ∃ x, x = T.getD (h % 256) 0 := ⟨_, rfl⟩
  rw [← hx] at hq ⊢
  have HB : Hid (Below w.heap.size w (w.alloc (.cells (iv T).toArray 86))) := ba1 _ _
  obtain ⟨V, hV⟩ : ∃ V, V = iv T := ⟨_, rfl⟩
  unfold av
  rw [← hV] at hq HB ⊢
  clear hx hT hV
  go_enter Try.func41, Try.ntmps41
  go_wp2_with fail
  go_ret
  exact ⟨rfl, HB.out⟩
set_option maxHeartbeats 8000000 in
set_option maxRecDepth 100000 in
theorem splitPicks0 (T : List Int) (h : Nat) (w : World) (hT : T.length = 256) (hh : h < 4294967296) :
    Calls Try.prog 12 #[av T, .int .u32 (h : Int)] w fun e w' => e = .returned (.bool true) ∧ Below w.heap.size w w' := by
  obtain ⟨w1, hw1⟩ : ∃ w1, w1 = w.alloc (.cells (iv T).toArray 86) := ⟨_, rfl⟩
  have hb1 : Below w.heap.size w w1 := by rw [hw1]; exact ba1 _ _
  have hX : BlkAt 86 w.heap.size (iv T) w1 := by rw [hw1]; exact BlkAt.new w _
  have HX : Hid (∀ W, Below w1.heap.size w1 W → (loadVar 86 ⟨w.heap.size, 0, none⟩).run Try.prog W = .ok (av T) W ∧ W.cell? ⟨w.heap.size, h % 256, none⟩ = some (.int .i64 (T.getD (h % 256) 0))) := by
    have : ∀ W, Below w1.heap.size w1 W → (loadVar 86 ⟨w.heap.size, 0, none⟩).run Try.prog W = .ok (av T) W ∧ W.cell? ⟨w.heap.size, h % 256, none⟩ = some (.int .i64 (T.getD (h % 256) 0)) := fun W hW =>
      ⟨run_loadVar_row W _ _ _ _ (0, 0) _ (hX.later hW) Try.underlying86 (by rfl) (by rw [List.size_toArray]; unfold iv; rw [List.length_map, hT]; kernel_rfl), (hX.later hW).cell (av_at hT h)⟩
    exact this
  have h2 : (h + 256) % 4294967296 % 256 = h % 256 := by omega
  have HP : Hid (∀ W, Calls Try.prog 41 #[av T, .int .u32 (h : Int)] W fun e w' => e = .returned (.int .i64 (T.getD (h % 256) 0)) ∧ Below W.heap.size W w') := by
    have : ∀ W, Calls Try.prog 41 #[av T, .int .u32 (h : Int)] W fun e w' => e = .returned (.int .i64 (T.getD (h % 256) 0)) ∧ Below W.heap.size W w' := fun W => pickL T hT h W
    exact this
  have HP2 : Hid (∀ W, Calls Try.prog 41 #[av T, .int .u32 (((h + 256) % 4294967296 : Nat) : Int)] W fun e w' => e = .returned (.int .i64 (T.getD (h % 256) 0)) ∧ Below W.heap.size W w') := by
    have : ∀ W, Calls Try.prog 41 #[av T, .int .u32 (((h + 256) % 4294967296 : Nat) : Int)] W fun e w' => e = .returned (.int .i64 (T.getD (h % 256) 0)) ∧ Below W.heap.size W w' := fun W => by
      have := pickL T hT ((h + 256) % 4294967296) W
      rw [h2] at this
      exact this
    exact this
  have HK := Lib.hid (fun W => knownL W)
  have HW1 := Lib.hid hw1
  have HB1 := Lib.hid hb1
  obtain ⟨x, hx⟩ : ∃ x, x = T.getD (h % 256) 0 := ⟨_, rfl⟩
  rw [← hx] at HX HP HP2
  obtain ⟨V, hV⟩ : ∃ V, V = iv T := ⟨_, rfl⟩
  unfold av at HX HP HP2 ⊢
  rw [← hV] at HX HP HP2 HW1 ⊢
  obtain ⟨m, hm⟩ : ∃ m, m = h % 256 := ⟨_, rfl⟩
  rw [← hm] at HX
  have HM : Hid ((IntKind.i64.wrap (h : Int)).tmod 256 = (m : Int) ∧ IntKind.u32.wrap ((h : Int) + 256) = (((h + 256) % 4294967296 : Nat) : Int)) := by
    refine ⟨?_, ?_⟩
    · rw [IntWalk.i64_in _ ⟨by omega, by omega⟩, hash_mod h hh, hm]
    · show ((h : Int) + 256) % 4294967296 = _
      omega
  obtain ⟨h2', hh2⟩ : ∃ h2', h2' = (h + 256) % 4294967296 := ⟨_, rfl⟩
  rw [← hh2] at HM HP2
  have gm : (m : Int) < 256 := by omega
  have t0 : (x == x) = true := by simp
  clear hm hh2
  clear hx hV hX hw1 hb1 hT h2
  go_enter Try.func12, Try.ntmps12
  go_wp2_with fail
  rw [← HW1.out]
  (refine wp_region_held_drew (S := (fun w' => Below w1.heap.size w1 w')) (by kernel_rfl) ?_ (fun hHeld => ?_); (focus ((try dsimp only); (exact (Below.refl _ _).drew))))
  (refine wpAnyH_take (i := 0) (v := ?_) rfl (by kernel_rfl) (by kernel_rfl) (by kernel_rfl) (fun _ _ _ h => h) (Or.inl ⟨by rfl, ?_⟩) hHeld ?_; rotate_left; (focus (intro w hSw; (try dsimp only at hSw); (refine Eq.trans (exLoad _ _ _ _ _ _ _ rfl rfl (HX.out _ hSw).1) ?_; with_reducible rfl))); (try simp only [Act.put, List.setIfInBounds_toArray, List.set_cons_zero, List.set_cons_succ, List.getElem_toArray, List.getElem_cons_zero]))
  (refine wpAnyH_take (i := 1) (v := ?_) rfl (by kernel_rfl) (by kernel_rfl) (by kernel_rfl) (fun _ _ _ h => h) (Or.inl ⟨by rfl, ?_⟩) hHeld ?_; rotate_left; (focus (intro w hSw; (try dsimp only at hSw); go_simp; try with_reducible rfl)); (try simp only [Act.put, List.setIfInBounds_toArray, List.set_cons_zero, List.set_cons_succ, List.getElem_toArray, List.getElem_cons_zero, List.getElem_cons_succ])); (refine wpAnyH_take (i := 3) (v := ?_) rfl (by kernel_rfl) (by kernel_rfl) (by kernel_rfl) (fun _ _ _ h => h) (Or.inl ⟨by rfl, ?_⟩) hHeld ?_; rotate_left; (focus (intro w hSw; (try dsimp only at hSw); go_simp; try with_reducible rfl)); (try simp only [Act.put, List.setIfInBounds_toArray, List.set_cons_zero, List.set_cons_succ, List.getElem_toArray, List.getElem_cons_zero, List.getElem_cons_succ])); (refine wpAnyH_take (i := 4) (v := ?_) rfl (by kernel_rfl) (by kernel_rfl) (by kernel_rfl) (fun _ _ _ h => h) (Or.inl ⟨by rfl, ?_⟩) hHeld ?_; rotate_left; (focus (intro w hSw; (try dsimp only at hSw); go_simp; try with_reducible rfl)); (try simp only [Act.put, List.setIfInBounds_toArray, List.set_cons_zero, List.set_cons_succ, List.getElem_toArray, List.getElem_cons_zero, List.getElem_cons_succ]))
  (refine wpAnyH_take (i := 5) (v := ?_) rfl (by kernel_rfl) (by kernel_rfl) (by kernel_rfl) (fun _ _ _ h => h) (Or.inl ⟨by rfl, ?_⟩) hHeld ?_; rotate_left; (focus (intro w hSw; (try dsimp only at hSw); go_simp; (have h1 := HM.out.1; go_simp; try with_reducible rfl))); (try simp only [Act.put, List.setIfInBounds_toArray, List.set_cons_zero, List.set_cons_succ, List.getElem_toArray, List.getElem_cons_zero, List.getElem_cons_succ]))
  (refine wpAnyH_take (i := 6) (v := ?_) rfl (by kernel_rfl) (by kernel_rfl) (by kernel_rfl) (fun _ _ _ h => h) (Or.inl ⟨by rfl, ?_⟩) hHeld ?_; rotate_left; (focus (intro w hSw; (try dsimp only at hSw); go_simp; try with_reducible rfl)); (try simp only [Act.put, List.setIfInBounds_toArray, List.set_cons_zero, List.set_cons_succ, List.getElem_toArray, List.getElem_cons_zero, List.getElem_cons_succ]))
  (refine wpAnyH_take (i := 7) (v := ?_) rfl (by kernel_rfl) (by kernel_rfl) (by kernel_rfl) (fun _ _ _ h => h) (Or.inl ⟨by rfl, ?_⟩) hHeld ?_; rotate_left; (focus (intro w hSw; (try dsimp only at hSw); go_simp; (have cc := (HX.out _ hSw).2; go_simp; try with_reducible rfl))); (try simp only [Act.put, List.setIfInBounds_toArray, List.set_cons_zero, List.set_cons_succ, List.getElem_toArray, List.getElem_cons_zero, List.getElem_cons_succ]))
  (refine wpAnyH_ready (rs := [2]) (by kernel_rfl) (by simp) ?_; refine AllReadyH.cons rfl (fun K hK => ?_) AllReadyH.nil; go_simp; refine (HP.out _).mono ?_; rintro e wB ⟨rfl, hbB⟩; refine hK.out _ _ ?_ (fun hHeldN => ?_); (focus ((try dsimp only); (exact hHeld.trans (hbB.mono hHeld.size)))); clear hK K hHeld; have hHeld := hHeldN; clear hHeldN; (try simp only [Act.put, List.setIfInBounds_toArray, List.set_cons_zero, List.set_cons_succ, List.getElem_toArray, List.getElem_cons_zero, List.getElem_cons_succ]))
  (refine wpAnyH_take (i := 8) (v := ?_) rfl (by kernel_rfl) (by kernel_rfl) (by kernel_rfl) (fun _ _ _ h => h) (Or.inl ⟨by rfl, ?_⟩) hHeld ?_; rotate_left; (focus (intro w hSw; (try dsimp only at hSw); go_simp; try with_reducible rfl)); (try simp only [Act.put, List.setIfInBounds_toArray, List.set_cons_zero, List.set_cons_succ, List.getElem_toArray, List.getElem_cons_zero, List.getElem_cons_succ])); (refine wpAnyH_take (i := 9) (v := ?_) rfl (by kernel_rfl) (by kernel_rfl) (by kernel_rfl) (fun _ _ _ h => h) (Or.inl ⟨by rfl, ?_⟩) hHeld ?_; rotate_left; (focus (intro w hSw; (try dsimp only at hSw); go_simp; try with_reducible rfl)); (try simp only [Act.put, List.setIfInBounds_toArray, List.set_cons_zero, List.set_cons_succ, List.getElem_toArray, List.getElem_cons_zero, List.getElem_cons_succ]))
  (refine wpAnyH_take (i := 10) (v := ?_) rfl (by kernel_rfl) (by kernel_rfl) (by kernel_rfl) (fun _ _ _ h => h) (Or.inl ⟨by rfl, ?_⟩) hHeld ?_; rotate_left; (focus (intro w hSw; (try dsimp only at hSw); (refine Eq.trans (exLoad _ _ _ _ _ _ _ rfl rfl (HX.out _ hSw).1) ?_; with_reducible rfl))); (try simp only [Act.put, List.setIfInBounds_toArray, List.set_cons_zero, List.set_cons_succ, List.getElem_toArray, List.getElem_cons_zero, List.getElem_cons_succ]))
  (refine wpAnyH_take (i := 11) (v := ?_) rfl (by kernel_rfl) (by kernel_rfl) (by kernel_rfl) (fun _ _ _ h => h) (Or.inl ⟨by rfl, ?_⟩) hHeld ?_; rotate_left; (focus (intro w hSw; (try dsimp only at hSw); go_simp; try with_reducible rfl)); (try simp only [Act.put, List.setIfInBounds_toArray, List.set_cons_zero, List.set_cons_succ, List.getElem_toArray, List.getElem_cons_zero, List.getElem_cons_succ]))
  (refine wpAnyH_take (i := 12) (v := ?_) rfl (by kernel_rfl) (by kernel_rfl) (by kernel_rfl) (fun _ _ _ h => h) (Or.inl ⟨by rfl, ?_⟩) hHeld ?_; rotate_left; (focus (intro w hSw; (try dsimp only at hSw); go_simp; (have h1 := HM.out.2; go_simp; try with_reducible rfl))); (try simp only [Act.put, List.setIfInBounds_toArray, List.set_cons_zero, List.set_cons_succ, List.getElem_toArray, List.getElem_cons_zero, List.getElem_cons_succ]))
  (refine wpAnyH_take (i := 14) (v := ?_) rfl (by kernel_rfl) (by kernel_rfl) (by kernel_rfl) (fun _ _ _ h => h) (Or.inl ⟨by rfl, ?_⟩) hHeld ?_; rotate_left; (focus (intro w hSw; (try dsimp only at hSw); (refine Eq.trans (exLoad _ _ _ _ _ _ _ rfl rfl (HX.out _ hSw).1) ?_; with_reducible rfl))); (try simp only [Act.put, List.setIfInBounds_toArray, List.set_cons_zero, List.set_cons_succ, List.getElem_toArray, List.getElem_cons_zero, List.getElem_cons_succ]))
  (refine wpAnyH_take (i := 15) (v := ?_) rfl (by kernel_rfl) (by kernel_rfl) (by kernel_rfl) (fun _ _ _ h => h) (Or.inl ⟨by rfl, ?_⟩) hHeld ?_; rotate_left; (focus (intro w hSw; (try dsimp only at hSw); go_simp; try with_reducible rfl)); (try simp only [Act.put, List.setIfInBounds_toArray, List.set_cons_zero, List.set_cons_succ, List.getElem_toArray, List.getElem_cons_zero, List.getElem_cons_succ]))
  (refine wpAnyH_ready (rs := [13]) (by kernel_rfl) (by simp) ?_; refine AllReadyH.cons rfl (fun K hK => ?_) AllReadyH.nil; go_simp; refine (HP2.out _).mono ?_; rintro e wC ⟨rfl, hbC⟩; refine hK.out _ _ ?_ (fun hHeldN => ?_); (focus ((try dsimp only); (exact hHeld.trans (hbC.mono hHeld.size)))); clear hK K hHeld; have hHeld := hHeldN; clear hHeldN; (try simp only [Act.put, List.setIfInBounds_toArray, List.set_cons_zero, List.set_cons_succ, List.getElem_toArray, List.getElem_cons_zero, List.getElem_cons_succ]))
  (refine wpAnyH_ready (rs := [16]) (by kernel_rfl) (by simp) ?_; refine AllReadyH.cons rfl (fun K hK => ?_) AllReadyH.nil; go_simp; refine (HP.out _).mono ?_; rintro e wD ⟨rfl, hbD⟩; refine hK.out _ _ ?_ (fun hHeldN => ?_); (focus ((try dsimp only); (exact hHeld.trans (hbD.mono hHeld.size)))); clear hK K hHeld; have hHeld := hHeldN; clear hHeldN; (try simp only [Act.put, List.setIfInBounds_toArray, List.set_cons_zero, List.set_cons_succ, List.getElem_toArray, List.getElem_cons_zero, List.getElem_cons_succ]))
  (refine wpAnyH_take (i := 17) (v := ?_) rfl (by kernel_rfl) (by kernel_rfl) (by kernel_rfl) (fun _ _ _ h => h) (Or.inl ⟨by rfl, ?_⟩) hHeld ?_; rotate_left; (focus (intro w hSw; (try dsimp only at hSw); go_simp; try with_reducible rfl)); (try simp only [Act.put, List.setIfInBounds_toArray, List.set_cons_zero, List.set_cons_succ, List.getElem_toArray, List.getElem_cons_zero, List.getElem_cons_succ])); (refine wpAnyH_take (i := 18) (v := ?_) rfl (by kernel_rfl) (by kernel_rfl) (by kernel_rfl) (fun _ _ _ h => h) (Or.inl ⟨by rfl, ?_⟩) hHeld ?_; rotate_left; (focus (intro w hSw; (try dsimp only at hSw); go_simp; try with_reducible rfl)); (try simp only [Act.put, List.setIfInBounds_toArray, List.set_cons_zero, List.set_cons_succ, List.getElem_toArray, List.getElem_cons_zero, List.getElem_cons_succ])); (refine wpAnyH_take (i := 19) (v := ?_) rfl (by kernel_rfl) (by kernel_rfl) (by kernel_rfl) (fun _ _ _ h => h) (Or.inl ⟨by rfl, ?_⟩) hHeld ?_; rotate_left; (focus (intro w hSw; (try dsimp only at hSw); go_simp; try with_reducible rfl)); (try simp only [Act.put, List.setIfInBounds_toArray, List.set_cons_zero, List.set_cons_succ, List.getElem_toArray, List.getElem_cons_zero, List.getElem_cons_succ]))
  (refine wpAnyH_ready (rs := [20]) (by kernel_rfl) (by simp) ?_; refine AllReadyH.cons rfl (fun K hK => ?_) AllReadyH.nil; go_simp; refine (HK.out _).mono ?_; rintro e wE ⟨rfl, hbE⟩; refine hK.out _ _ ?_ (fun hHeldN => ?_); (focus ((try dsimp only); (exact hHeld.trans (hbE.mono hHeld.size)))); clear hK K hHeld; have hHeld := hHeldN; clear hHeldN; (try simp only [Act.put, List.setIfInBounds_toArray, List.set_cons_zero, List.set_cons_succ, List.getElem_toArray, List.getElem_cons_zero, List.getElem_cons_succ]))
  (refine wpAnyH_take (i := 21) (v := ?_) rfl (by kernel_rfl) (by kernel_rfl) (by kernel_rfl) (fun _ _ _ h => h) (Or.inl ⟨by rfl, ?_⟩) hHeld ?_; rotate_left; (focus (intro w hSw; (try dsimp only at hSw); go_simp; try with_reducible rfl)); (try simp only [Act.put, List.setIfInBounds_toArray, List.set_cons_zero, List.set_cons_succ, List.getElem_toArray, List.getElem_cons_zero, List.getElem_cons_succ])); (refine wpAnyH_take (i := 22) (v := ?_) rfl (by kernel_rfl) (by kernel_rfl) (by kernel_rfl) (fun _ _ _ h => h) (Or.inl ⟨by rfl, ?_⟩) hHeld ?_; rotate_left; (focus (intro w hSw; (try dsimp only at hSw); go_simp; try with_reducible rfl)); (try simp only [Act.put, List.setIfInBounds_toArray, List.set_cons_zero, List.set_cons_succ, List.getElem_toArray, List.getElem_cons_zero, List.getElem_cons_succ]))
  refine wpAnyH_done (by kernel_rfl) ?_ _
  have HE := Lib.hid (below_of HB1.out hHeld)
  clear hHeld
  go_wp2_with fail
  go_ret
  exact ⟨rfl, HE.out⟩
set_option maxRecDepth 100000 in
theorem splitPicks_walk (T : List Int) (h : Int) (w : World) (hT : T.length = 256) (h0 : 0 ≤ h) (h1 : h < 4294967296) :
    Calls Try.prog 12 #[av T, .int .u32 h] w fun e w' => e = .returned (.bool true) ∧ Below w.heap.size w w' := by
  obtain ⟨n, rfl⟩ : ∃ n : Nat, h = n := ⟨h.toNat, by omega⟩
  exact splitPicks0 T n w hT (by omega)
end Go.Proofs.Ytdjhgahdiggahaa

namespace Go.Proofs.Ytdjhgahdiggahaa
open Go.ChangeShapes Go.WideShapes Go.ChangeAt Go.RowKit Go.Joins Go.Deep
open Sp

set_option maxRecDepth 100000 in
theorem okWide_arr {P : Program} {w : World} {r : Reach} {base : Nat} {t : TypeId} {v : Value} {n : Nat} {e : TypeId} (ht : P.underlying t = some (.array n e)) (h : Value.okWide P w r base t v) : ∃ cs, v = .agg cs ∧ cs.size = P.cellsOf t := by
  simp only [Value.okWide, ht] at h
  obtain ⟨cs, h1, h2, _⟩ := h
  exact ⟨cs, h1, h2⟩
set_option maxRecDepth 100000 in
theorem open_buckets {H : Type} {enc : TypeId × Value → H} {W : World} {base : Nat} {v : Value} {d : DataW H} {p : List MemPlace} (hv : Value.okWide Try.prog W .any base 86 v) (h : DataW.Trod enc Try.prog W 0 (fun _ => true) true 86 v d p) :
    ∃ T : List Int, v = av T ∧ T.length = 256 := by
  obtain ⟨cs, rfl, hsz⟩ := okWide_arr Try.underlying86 hv
  have hC : Try.prog.cellsOf 86 = 256 := by kernel_rfl
  have k1 : Try.prog.cellsOf 3 = 1 := by kernel_rfl
  obtain ⟨fuel, hf⟩ := h
  obtain ⟨xs, m, _, _, _, hl, hg⟩ := DataW.trod_array Try.underlying86 hf
  rw [hC] at hsz
  have hcs : ∀ i, i < 256 → ∃ a : Int, cs[i]? = some (.int .i64 a) := by
    intro i hi
    have h1 := hg i hi
    rw [k1, Nat.mul_one] at h1
    have hcl : ((Value.agg cs).cells).toList = cs.toList := by simp [Value.cells]
    have hx : xs[i]? = some (xs[i]'(by omega)) := List.getElem?_eq_getElem _
    rw [hx] at h1
    have h2 : ((Value.agg cs).cells.toList.drop i).take 1 = [cs[i]'(by omega)] := by
      rw [hcl]
      have hlt : i < cs.toList.length := by simp; omega
      rw [List.drop_eq_getElem_cons hlt]
      simp
    rw [h2] at h1
    obtain ⟨a0, e0, _, _⟩ := DataW.trod_int Try.underlying3 h1
    simp only [List.cons.injEq, and_true] at e0
    exact ⟨a0, by rw [Array.getElem?_eq_getElem (by omega), e0]⟩
  obtain ⟨F, hF⟩ := choose_lt hcs
  refine ⟨(List.range 256).map F, ?_, by simp⟩
  unfold av
  congr 1
  apply Array.ext_getElem?
  intro i
  by_cases hi : i < 256
  · rw [hF i hi, List.getElem?_toArray]
    unfold iv
    rw [List.getElem?_map, List.getElem?_map, List.getElem?_range hi]
    rfl
  · rw [Array.getElem?_eq_none (by omega), List.getElem?_toArray, List.getElem?_eq_none (by simp [iv]; omega)]
end Go.Proofs.Ytdjhgahdiggahaa

namespace Go.Proofs.Ytdjhgahdiggahaa.splitPicks
open Go.ChangeShapes Go.WideShapes Go.ChangeAt Go.RowKit

set_option maxRecDepth 100000 in
theorem lifted (os : Os) (started : os.Started) (H : Type) (enc : TypeId × Value → H) :
    ReturnsInHanded {} Try.checked os 12 .any (Rows.splitPicksSpec.pre6 enc Try.prog Try.f12 Rows.splitPicksRow.domain false) (Rows.splitPicksSpec.post enc Try.prog Try.f12 false true false false) := by
  refine returnsInHanded_of_change (C := Try.checked) own started (by kernel_rfl) Try.func12
    (ChangeSpec.witness6 (enc := enc) (C := Try.checked) false ⟨#[], #[.agg (Array.replicate 256 (.int .i64 0)), .int .u32 0], []⟩ 8 (by kernel_rfl) (by kernel_rfl) (by kernel_rfl) (by kernel_rfl)) ?_
  intro W base args ds gs before hval0 hW hcnd _
  have hval : ∀ (j : Nat) t v, Try.f12.params[j]? = some t → args[j]? = some v → Value.okWide Try.prog W .any base t v := hval0
  have hW' := hW
  obtain ⟨p, q, hA0, hV, rfl, hfz, hnd⟩ := hW
  have hA : DataW.TrodAll enc Try.prog W 0 (fun _ => true) true Try.f12.params.toList args.toList ds p := hA0
  rw [Try.params12] at hA hval
  obtain ⟨v0, vs0, d0, ds0, p0, q0, hargs, rfl, rfl, h0, r0⟩ := trodAll_cons hA
  obtain ⟨v1, vs1, d1, ds1, p1, q1, rfl, rfl, rfl, h1, r1⟩ := trodAll_cons r0
  obtain ⟨rfl, rfl, rfl⟩ := trodAll_nil r1
  obtain rfl : args = #[v0, v1] := by cases args; simp_all
  obtain ⟨rfl, rfl⟩ := trodVars_none hV
  have k0 := h0
  have lt0 : ∀ x ∈ p0, x.block < W.heap.size := by obtain ⟨m, hm⟩ := k0; exact DataW.trod_lt m _ _ _ hm
  have k1 := h1
  have lt1 : ∀ x ∈ p1, x.block < W.heap.size := by obtain ⟨m, hm⟩ := k1; exact DataW.trod_lt m _ _ _ hm
  obtain ⟨l0, rfl, hl0⟩ := open_buckets (hval 0 86 v0 rfl rfl) h0
  obtain ⟨a1, rfl, _, _, wa1⟩ := open_int Try.underlying37 (hval 1 37 v1 rfl rfl) h1
  have ba1 := bounds_u32 wa1
  refine (splitPicks_walk l0 a1 W hl0 ba1.1 (lt_u32 ba1)).mono fun e W' ⟨he, bel⟩ => ?_
  subst he
  exact ⟨_, rfl, _, _, _, [], _, [], hW', trodAll_mk1 (shut_bool Try.underlying4 _), (trodAll_cons_mk (Below.trod laidOut (by kernel_rfl) (of_decide_eq_true (by kernel_rfl)) k0 bel lt0) (trodAll_cons_mk (Below.trod laidOut (by kernel_rfl) (of_decide_eq_true (by kernel_rfl)) k1 bel lt1) trodAll_mk0)), rfl, bel.frame _, fun h => by cases h⟩

/-- The statement. -/
theorem said : Rows.SplitPicksSaid :=
  OpenClaim.holds_of_wide 12 Try.f12 rfl rfl rfl rfl rfl rfl rfl ⟨rfl, rfl, rfl, rfl, rfl⟩ rfl rfl rfl rfl rfl (by kernel_rfl) Try.func12 (by kernel_rfl)
    (of_decide_eq_true (by kernel_rfl)) (by unfold Func.isWrapper; first | (rw [if_pos (by decide +kernel)]; kernel_rfl) | (rw [if_neg (by decide +kernel)]; exact ⟨rfl, rfl⟩))
    (fun os started H enc _ => lifted os started H enc)
#print axioms said
end Go.Proofs.Ytdjhgahdiggahaa.splitPicks
