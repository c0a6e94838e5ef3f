/- AdjNil: for every input the law's call returns true, and each argument reads behind it as before.
   Arguments that are bytes, and lists of bytes, opened.
   A row of one-cell elements in memory: a slice value that reads as a list of values.
   An adjacency that is not there, and a zero one; AdjNil's walk. -/
import Derived.ProofKit
import Derived.OpenShut
import Derived.Deep.Matrix
import Derived.Test.YtcedninipbafaaaZ01
import Derived.Test.YtcedninipbafaaaZ04

set_option linter.unusedSimpArgs false
set_option linter.unusedVariables false
namespace Go.Proofs.Ytcedninipbafaaa
open Go.RowKit
attribute [local go_sem ↓] Go.wp_at_zero Go.wp_at_succ
attribute [local go_sem ↓ high] eqTI neTI eqVI neVI field_V

def zA : Ad := ⟨0, 0, 0, 0, 0, 0, 0, 0, 0, 0, 0⟩
/-- Nil, or zero. -/
def NnA (v : Value) (w : World) : Prop := v = .pointer none ∨ ∃ p, v = .pointer (some ⟨p, 0, none⟩) ∧ PA p zA w
theorem NnA.later {v : Value} {w w' : World} (h : NnA v w) (hb : Below w.heap.size w w') : NnA v w' := by
  rcases h with rfl | ⟨p, rfl, hp⟩
  · exact .inl rfl
  · exact .inr ⟨p, rfl, hp.later hb⟩
theorem noneX {v : Value} {w : World} (h : NnA v w) : Calls Try.prog 24 #[v] w fun e w' => e = .returned (.bool true) ∧ w = w' := by
  rcases h with rfl | ⟨p, rfl, hp⟩
  · exact noneN w
  · exact noneZ hp rfl
set_option maxHeartbeats 1000000 in
theorem hearX {v : Value} {w : World} (h : NnA v w) (g : Hl) : Calls Try.prog 13 #[v, .agg #[.int .i64 g.n, .int .u64 g.mb, .int .u64 g.mt, .int .u64 g.hb, .int .u64 g.ht]] w fun e w' => e = .returned (.tuple #[.int .i64 0, .int .i64 1]) ∧ Below w.heap.size w w' := by
  have hb : Below w.heap.size w (w.alloc (.cells #[.int .i64 g.n, .int .u64 g.mb, .int .u64 g.mt, .int .u64 g.hb, .int .u64 g.ht] 35)) := (Below.refl _ _).alloc (Nat.le_refl _) _
  have HN := Lib.hid (noneX (h.later hb))
  have HB := Lib.hid hb
  clear h hb
  go_enter Try.func13, Try.ntmps13
  go_wp2_with fail
  refine HN.out.mono ?_
  rintro e w1 ⟨rfl, rfl⟩
  go_wp2_with fail
  go_ret2
  exact ⟨rfl, HB.out⟩
set_option maxHeartbeats 1000000 in
theorem sayX {v : Value} {w : World} (h : NnA v w) : Calls Try.prog 16 #[v] w fun e w' => e = .returned (.tuple #[.agg #[.int .i64 0, .int .u64 0, .int .u64 0, .int .u64 0, .int .u64 0], .int .i64 1]) ∧ Below w.heap.size w w' := by
  have hb : Below w.heap.size w (w.alloc (.cells #[.int .i64 0, .int .u64 0, .int .u64 0, .int .u64 0, .int .u64 0] 35)) := (Below.refl _ _).alloc (Nat.le_refl _) _
  have HN := Lib.hid (noneX (h.later hb))
  have HB := Lib.hid hb
  clear h hb
  go_enter Try.func16, Try.ntmps16
  go_wp2_with fail
  refine HN.out.mono ?_
  rintro e w1 ⟨rfl, rfl⟩
  go_wp2_with fail
  refine ⟨rfl, .tuple #[.agg #[.int .i64 0, .int .u64 0, .int .u64 0, .int .u64 0, .int .u64 0], .int .i64 1], results_ct rfl rfl (load_H (v := ⟨0, 0, 0, 0, 0⟩) (BlkAt.new w _)) rfl, rfl, HB.out⟩
theorem tickX {v : Value} {w : World} (h : NnA v w) : Calls Try.prog 14 #[v] w fun e w' => e = .returned (.tuple #[.int .i64 0, .bool false]) ∧ w = w' := by
  have HN := Lib.hid (noneX h)
  clear h
  go_enter Try.func14, Try.ntmps14
  go_wp2_with fail
  refine HN.out.mono ?_
  rintro e w1 ⟨rfl, rfl⟩
  go_wp2_with fail
  go_ret2
  exact ⟨rfl, rfl⟩
theorem dropX {v : Value} {w : World} (h : NnA v w) : Calls Try.prog 15 #[v] w fun e w' => e = .returned (.int .i64 0) ∧ w = w' := by
  have HN := Lib.hid (noneX h)
  clear h
  go_enter Try.func15, Try.ntmps15
  go_wp2_with fail
  refine HN.out.mono ?_
  rintro e w1 ⟨rfl, rfl⟩
  go_wp2_with fail
  go_ret
  exact ⟨rfl, rfl⟩
theorem copyX {v : Value} {w : World} (h : NnA v w) : Calls Try.prog 17 #[v] w fun e w' => e = .returned (.pointer none) ∧ w = w' := by
  have HN := Lib.hid (noneX h)
  clear h
  go_enter Try.func17, Try.ntmps17
  go_wp2_with fail
  refine HN.out.mono ?_
  rintro e w1 ⟨rfl, rfl⟩
  go_wp2_with fail
  go_ret
  exact ⟨rfl, rfl⟩
set_option maxHeartbeats 1000000 in
theorem viewX {v : Value} {w : World} (h : NnA v w) : Calls Try.prog 11 #[v] w fun e w' => e = .returned (.agg #[.int .i64 0, .int .u64 0, .int .u64 0, .int .u64 0, .int .u64 0, .int .i64 0]) ∧ Below w.heap.size w w' := by
  have hb : Below w.heap.size w (w.alloc (.cells #[.int .i64 0, .int .u64 0, .int .u64 0, .int .u64 0, .int .u64 0, .int .i64 0] 40)) := (Below.refl _ _).alloc (Nat.le_refl _) _
  have HN := Lib.hid (noneX (h.later hb))
  have HB := Lib.hid hb
  clear h hb
  go_enter Try.func11, Try.ntmps11
  go_wp2_with fail
  refine HN.out.mono ?_
  rintro e w1 ⟨rfl, rfl⟩
  go_wp2_with fail
  exact bodyPost_ret (results_c1 rfl rfl (load_V (v := ⟨0, 0, 0, 0, 0, 0⟩) (BlkAt.new w _))) rfl ⟨rfl, HB.out⟩
set_option maxHeartbeats 2000000 in
theorem acceptsX {v : Value} {w : World} (h : NnA v w) : Calls Try.prog 12 #[v, .int .i64 0, .agg #[.int .u64 0, .int .u64 0], .agg #[.int .u64 0, .int .u64 0]] w fun e w' => e = .returned (.bool false) ∧ Below w.heap.size w w' := by
  obtain ⟨W1, hW1⟩ : ∃ W1, W1 = (w.alloc (.cells #[.int .u64 0, .int .u64 0] 25)).alloc (.cells #[.int .u64 0, .int .u64 0] 25) := ⟨_, rfl⟩
  have hb : Below w.heap.size w W1 := by rw [hW1]; exact ((Below.refl _ _).alloc (Nat.le_refl _) _).alloc (by simp) _
  have h1 : BlkAt 25 w.heap.size [.int .u64 0, .int .u64 0] W1 := by rw [hW1]; exact (BlkAt.new w _).later (ba1 _ _)
  have h2 : BlkAt 25 (w.heap.size + 1) [.int .u64 0, .int .u64 0] W1 := by
    rw [hW1]
    have := BlkAt.new (t := 25) (w.alloc (.cells #[.int .u64 0, .int .u64 0] 25)) [.int .u64 0, .int .u64 0]
    simpa using this
  have H1 := Lib.hid h1
  have H2 := Lib.hid h2
  have HB := Lib.hid hb
  have HV := Lib.hid (fun (W : World) (q : Below W1.heap.size W1 W) => viewX ((h.later hb).later q))
  have HW := Lib.hid hW1
  clear h hb h1 h2 hW1
  go_enter Try.func12, Try.ntmps12
  go_wp2_with fail
  rw [← HW.out]
  (refine wp_region_held_drew (S := (fun w' => Below W1.heap.size W1 w')) (by kernel_rfl) ?_ (fun hHeld => ?_); (focus ((try dsimp only); (exact (Below.refl _ _).drew))))
  (try dsimp only at hHeld)
  (refine wpAnyH_take (i := 0) (v := ?_) rfl (by kernel_rfl) (by kernel_rfl) (by kernel_rfl) (fun _ _ _ h => h) (Or.inl ⟨by rfl, ?_⟩) hHeld ?_; rotate_left; (focus (intro w hSw; (try dsimp only at hSw); go_simp; try with_reducible rfl)); (try simp only [Act.put, List.setIfInBounds_toArray, List.set_cons_zero, List.set_cons_succ, List.getElem_toArray, List.getElem_cons_zero]))
  (refine wpAnyH_take (i := 2) (v := ?_) rfl (by kernel_rfl) (by kernel_rfl) (by kernel_rfl) (fun _ _ _ h => h) (Or.inl ⟨by rfl, ?_⟩) hHeld ?_; rotate_left; (focus (intro w hSw; (try dsimp only at hSw); go_simp; (have e0 := BlkAt.cell (BlkAt.later H1.out hSw) (j := 0) rfl; have e1 := BlkAt.cell (BlkAt.later H1.out hSw) (j := 1) rfl; go_simp; try with_reducible rfl))); (try simp only [Act.put, List.setIfInBounds_toArray, List.set_cons_zero, List.set_cons_succ, List.getElem_toArray, List.getElem_cons_zero, List.getElem_cons_succ]))
  (refine wpAnyH_take (i := 3) (v := ?_) rfl (by kernel_rfl) (by kernel_rfl) (by kernel_rfl) (fun _ _ _ h => h) (Or.inl ⟨by rfl, ?_⟩) hHeld ?_; rotate_left; (focus (intro w hSw; (try dsimp only at hSw); go_simp; (have e0 := BlkAt.cell (BlkAt.later H2.out hSw) (j := 0) rfl; have e1 := BlkAt.cell (BlkAt.later H2.out hSw) (j := 1) rfl; go_simp; try with_reducible rfl))); (try simp only [Act.put, List.setIfInBounds_toArray, List.set_cons_zero, List.set_cons_succ, List.getElem_toArray, List.getElem_cons_zero, List.getElem_cons_succ]))
  (refine wpAnyH_take (i := 4) (v := ?_) rfl (by kernel_rfl) (by kernel_rfl) (by kernel_rfl) (fun _ _ _ h => h) (Or.inl ⟨by rfl, ?_⟩) hHeld ?_; rotate_left; (focus (intro w hSw; (try dsimp only at hSw); go_simp; try with_reducible rfl)); (try simp only [Act.put, List.setIfInBounds_toArray, List.set_cons_zero, List.set_cons_succ, List.getElem_toArray, List.getElem_cons_zero, List.getElem_cons_succ])); (refine wpAnyH_take (i := 5) (v := ?_) rfl (by kernel_rfl) (by kernel_rfl) (by kernel_rfl) (fun _ _ _ h => h) (Or.inl ⟨by rfl, ?_⟩) hHeld ?_; rotate_left; (focus (intro w hSw; (try dsimp only at hSw); go_simp; try with_reducible rfl)); (try simp only [Act.put, List.setIfInBounds_toArray, List.set_cons_zero, List.set_cons_succ, List.getElem_toArray, List.getElem_cons_zero, List.getElem_cons_succ]))
  (refine wpAnyH_ready (rs := [1]) (by kernel_rfl) (by simp) ?_; refine AllReadyH.cons rfl (fun K hK => ?_) AllReadyH.nil; go_simp; refine (HV.out _ hHeld).mono ?_; rintro e y5 ⟨rfl, hs⟩; refine hK.out _ _ ?_ (fun hHeldN => ?_); (focus ((try dsimp only); (exact hHeld.trans (hs.mono hHeld.size)))); clear hK K hHeld; have hHeld := hHeldN; clear hHeldN; (try simp only [Act.put, List.setIfInBounds_toArray, List.set_cons_zero, List.set_cons_succ, List.getElem_toArray, List.getElem_cons_zero, List.getElem_cons_succ]))
  (refine wpAnyH_take (i := 6) (v := ?_) rfl (by kernel_rfl) (by kernel_rfl) (by kernel_rfl) (fun _ _ _ h => h) (Or.inl ⟨by rfl, ?_⟩) hHeld ?_; rotate_left; (focus (intro w hSw; (try dsimp only at hSw); go_simp; try with_reducible rfl)); (try simp only [Act.put, List.setIfInBounds_toArray, List.set_cons_zero, List.set_cons_succ, List.getElem_toArray, List.getElem_cons_zero, List.getElem_cons_succ])); (refine wpAnyH_take (i := 7) (v := ?_) rfl (by kernel_rfl) (by kernel_rfl) (by kernel_rfl) (fun _ _ _ h => h) (Or.inl ⟨by rfl, ?_⟩) hHeld ?_; rotate_left; (focus (intro w hSw; (try dsimp only at hSw); go_simp; try with_reducible rfl)); (try simp only [Act.put, List.setIfInBounds_toArray, List.set_cons_zero, List.set_cons_succ, List.getElem_toArray, List.getElem_cons_zero, List.getElem_cons_succ]))
  refine wpAnyH_done (by kernel_rfl) ?_ _
  go_wp2_with fail
  go_ret
  exact ⟨rfl, below_of HB.out hHeld⟩
/-- What stands in each round. -/
structure NlA (z : Nat) (w wr : World) : Prop where
  hz : PA z zA wr
  hl : BlkAt 27 (z + 1) [.pointer none, .pointer (some ⟨z, 0, none⟩)] wr
  hb : Below w.heap.size w wr
theorem NlA.later {z : Nat} {w wr w' : World} (h : NlA z w wr) (hb : Below wr.heap.size wr w') : NlA z w w' := ⟨h.hz.later hb, BlkAt.later h.hl hb, below_of h.hb hb⟩
set_option maxHeartbeats 8000000 in
set_option maxRecDepth 100000 in
theorem adjNil_walk (w : World) : Calls Try.prog 6 #[] w fun e w' => e = .returned (.bool true) ∧ Below w.heap.size w w' := by
  obtain ⟨w1, hw1⟩ : ∃ W, W = (w.alloc (.cells #[.int .i64 0, .int .i64 0, .int .i64 0, .int .i64 0, .int .i64 0, .int .i64 0, .int .u64 0, .int .u64 0, .int .u64 0, .int .u64 0, .int .i64 0] 59)).alloc (.cells #[.pointer none, .pointer (some ⟨w.heap.size, 0, none⟩)] 27) := ⟨_, rfl⟩
  have H1 : Hid (NlA w.heap.size w w1) := by
    have : NlA w.heap.size w w1 := by
      rw [hw1]
      refine ⟨(BlkAt.new (t := 59) w [.int .i64 zA.node, .int .i64 zA.every, .int .i64 zA.dead, .int .i64 zA.said, .int .i64 zA.sil, .int .i64 zA.v.st, .int .u64 zA.v.mb, .int .u64 zA.v.mt, .int .u64 zA.v.tb, .int .u64 zA.v.tt, .int .i64 zA.v.n]).later (ba1 _ _), ?_, ((Below.refl _ _).alloc (Nat.le_refl _) _).alloc (by simp) _⟩
      have := BlkAt.new (t := 27) (w.alloc (.cells #[.int .i64 0, .int .i64 0, .int .i64 0, .int .i64 0, .int .i64 0, .int .i64 0, .int .u64 0, .int .u64 0, .int .u64 0, .int .u64 0, .int .i64 0] 59)) [.pointer none, .pointer (some ⟨w.heap.size, 0, none⟩)]
      simpa using this
    exact this
  have HW := Lib.hid hw1
  have hv : sameVI 0 0 0 0 0 0 0 0 0 0 0 0 = true := rfl
  clear hw1
  go_enter Try.func6, Try.ntmps6
  go_wp2_with fail
  rw [← HW.out]
  go_loopw [3] (fun x wr => ∃ k : Nat, k ≤ 2 ∧ x = .int .i64 k ∧ Hid (NlA w.heap.size w wr)) (fun x _ => 2 - (intOf x).toNat)
  case atStart => exact ⟨0, by omega, rfl, H1⟩
  case round =>
    obtain ⟨k, hk, rfl, HR⟩ := hrel
    have hl := HR.out.hl
    have l0 := BlkAt.cell hl (j := 0) rfl; have l1 := BlkAt.cell hl (j := 1) rfl
    clear hl
    match k, hk with
    | 0, _ =>
      have HZ : Hid (NnA (.pointer none) wr) := by
        have : NnA (.pointer none) wr := .inl rfl
        exact this
      go_wp2_with fail
      refine (hearX HZ.out ⟨1, 1, 1, 0, 0⟩).mono ?_
      rintro e a1 ⟨rfl, b1⟩
      have Z1 := Lib.hid (HZ.out.later b1)
      have L1 := Lib.hid (HR.out.later b1)
      clear b1 l0 l1
      go_wp2_with fail
      refine (sayX Z1.out).mono ?_
      rintro e a2 ⟨rfl, b2⟩
      obtain ⟨a3, h3⟩ : ∃ W, W = a2.alloc (.cells #[.int .i64 0, .int .u64 0, .int .u64 0, .int .u64 0, .int .u64 0] 35) := ⟨_, rfl⟩
      have b3 : Below a1.heap.size a1 a3 := by rw [h3]; exact b2.alloc b2.size _
      have Z3 := Lib.hid (Z1.out.later b3)
      have L3 := Lib.hid (L1.out.later b3)
      have H3 := Lib.hid h3
      clear b2 b3 h3
      go_wp2_with fail
      rw [← H3.out]
      refine (tickX Z3.out).mono ?_
      rintro e w' ⟨rfl, rfl⟩
      go_wp2_with fail
      refine (viewX Z3.out).mono ?_
      rintro e a4 ⟨rfl, b4⟩
      have Z4 := Lib.hid (Z3.out.later b4)
      have L4 := Lib.hid (L3.out.later b4)
      clear b4
      go_wp2_with fail
      refine (acceptsX Z4.out).mono ?_
      rintro e a5 ⟨rfl, b5⟩
      have Z5 := Lib.hid (Z4.out.later b5)
      have L5 := Lib.hid (L4.out.later b5)
      clear b5
      go_wp2_with fail
      refine (dropX Z5.out).mono ?_
      rintro e w' ⟨rfl, rfl⟩
      go_wp2_with fail
      refine (copyX Z5.out).mono ?_
      rintro e w' ⟨rfl, rfl⟩
      go_wp2_with fail
      go_roundw
      case rel => exact ⟨1, by omega, rfl, L5⟩
      case measure => simp [intOf]
    | 1, _ =>
      have HZ : Hid (NnA (.pointer (some ⟨w.heap.size, 0, none⟩)) wr) := by
        have : NnA (.pointer (some ⟨w.heap.size, 0, none⟩)) wr := .inr ⟨_, rfl, HR.out.hz⟩
        exact this
      go_wp2_with fail
      refine (hearX HZ.out ⟨1, 1, 1, 0, 0⟩).mono ?_
      rintro e a1 ⟨rfl, b1⟩
      have Z1 := Lib.hid (HZ.out.later b1)
      have L1 := Lib.hid (HR.out.later b1)
      clear b1 l0 l1
      go_wp2_with fail
      refine (sayX Z1.out).mono ?_
      rintro e a2 ⟨rfl, b2⟩
      obtain ⟨a3, h3⟩ : ∃ W, W = a2.alloc (.cells #[.int .i64 0, .int .u64 0, .int .u64 0, .int .u64 0, .int .u64 0] 35) := ⟨_, rfl⟩
      have b3 : Below a1.heap.size a1 a3 := by rw [h3]; exact b2.alloc b2.size _
      have Z3 := Lib.hid (Z1.out.later b3)
      have L3 := Lib.hid (L1.out.later b3)
      have H3 := Lib.hid h3
      clear b2 b3 h3
      go_wp2_with fail
      rw [← H3.out]
      refine (tickX Z3.out).mono ?_
      rintro e w' ⟨rfl, rfl⟩
      go_wp2_with fail
      refine (viewX Z3.out).mono ?_
      rintro e a4 ⟨rfl, b4⟩
      have Z4 := Lib.hid (Z3.out.later b4)
      have L4 := Lib.hid (L3.out.later b4)
      clear b4
      go_wp2_with fail
      refine (acceptsX Z4.out).mono ?_
      rintro e a5 ⟨rfl, b5⟩
      have Z5 := Lib.hid (Z4.out.later b5)
      have L5 := Lib.hid (L4.out.later b5)
      clear b5
      go_wp2_with fail
      refine (dropX Z5.out).mono ?_
      rintro e w' ⟨rfl, rfl⟩
      go_wp2_with fail
      refine (copyX Z5.out).mono ?_
      rintro e w' ⟨rfl, rfl⟩
      go_wp2_with fail
      go_roundw
      case rel => exact ⟨2, by omega, rfl, L5⟩
      case measure => simp [intOf]
    | 2, _ =>
      clear l0 l1
      go_wp2_with fail
      refine (knownA _).mono ?_
      rintro e w2 ⟨rfl, hb⟩
      have HB := Lib.hid (below_of HR.out.hb hb)
      clear hb
      go_wp2_with fail
      go_ret
      exact ⟨rfl, HB.out⟩
end Go.Proofs.Ytcedninipbafaaa

namespace Go.Proofs.Ytcedninipbafaaa
open Go.RowKit

def Row (w : World) (v : Value) (xs : List Value) : Prop :=
  (xs = [] ∧ ∃ a c, v = .slice a 0 c ∧ (a = none → c = 0)) ∨
  ∃ b o c, v = .slice (some ⟨b, o, none⟩) xs.length c ∧ b < w.heap.size ∧ xs.length ≤ c ∧ ∀ j x, xs[j]? = some x → w.cell? ⟨b, o + j, none⟩ = some x
theorem Row.later {w w' : World} {v : Value} {l : List Value} (h : Row w v l) (hb : Below w.heap.size w w') : Row w' v l := by
  rcases h with h | ⟨b, o, c, h1, h2, hp, h3⟩
  · exact .inl h
  · exact .inr ⟨b, o, c, h1, Nat.lt_of_lt_of_le h2 hb.size, hp, fun j x hx => cell_later hb (h3 j x hx)⟩
theorem Row.form {w : World} {v : Value} {l : List Value} (h : Row w v l) : ∃ a c, v = .slice a l.length c := by
  rcases h with ⟨rfl, a, c, rfl, _⟩ | ⟨b, o, c, rfl, _, _⟩
  · exact ⟨a, c, rfl⟩
  · exact ⟨_, c, rfl⟩
theorem Row.at {w : World} {a : Option Addr} {n c : Nat} {l : List Value} (h : Row w (.slice a n c) l) {i : Nat} {x : Value} (hi : l[i]? = some x) :
    ∃ b o, a = some ⟨b, o, none⟩ ∧ b < w.heap.size ∧ w.cell? ⟨b, o + i, none⟩ = some x := by
  rcases h with ⟨rfl, _⟩ | ⟨b, o, c', h1, h2, _, h3⟩
  · simp at hi
  · simp only [Value.slice.injEq] at h1
    exact ⟨b, o, h1.1, h2, h3 i _ hi⟩
theorem Row.of_own {w : World} {base : Nat} {e : TypeId} {v : Value} {n : Nat} {l : List Value} (h : w.ownsRow base e 1 v n l) : Row w v l := by
  obtain ⟨hl, h0 | ⟨g, cap, cur, rfl, hb, hg, hn, hm, hc, ht⟩⟩ := h
  · obtain ⟨rfl, rfl⟩ := h0
    simp at hl
    subst hl
    exact .inl ⟨rfl, _, _, rfl, fun _ => rfl⟩
  · have hln : l.length = n := by simpa using hl
    subst hln
    refine .inr ⟨g, 0, cap, rfl, ?_, hn, fun j x hx => ?_⟩
    · rcases Nat.lt_or_ge g w.heap.size with h1 | h1
      · exact h1
      · rw [Array.getElem?_eq_none h1] at hg; cases hg
    · rw [Nat.zero_add, cell_of_row w g j cur e (0, 0) hg]
      have hj : j < l.length := (List.getElem?_eq_some_iff.1 hx).1
      have : l[j]? = some x := hx
      rw [← ht, List.getElem?_take, if_pos (by omega)] at this
      simpa using this
theorem Row.of_bytes {w : World} {v : Value} {l : List UInt8} (h : Bytes w v l) : Row w v (bv l) := by
  rcases h with ⟨rfl, a, c, rfl, h1⟩ | ⟨b, o, c, rfl, h2, hp, h3⟩
  · exact .inl ⟨rfl, a, c, rfl, h1⟩
  · refine .inr ⟨b, o, c, by simp [bv], h2, by simpa [bv] using hp, fun j x hx => ?_⟩
    simp only [bv, List.getElem?_map, Option.map_eq_some_iff] at hx
    obtain ⟨y, hy, rfl⟩ := hx
    exact h3 j y hy
theorem ownsRow_later {w w' : World} {B : Nat} {e : TypeId} {s n : Nat} {v : Value} {xs : List Value} (h : w.ownsRow B e s v n xs) (hb : Below w.heap.size w w') : w'.ownsRow B e s v n xs := by
  obtain ⟨hl, h0 | ⟨g, cap, cur, rfl, hb1, hg, hn, hm, hc, ht⟩⟩ := h
  · exact ⟨hl, .inl h0⟩
  · refine ⟨hl, .inr ⟨g, cap, cur, rfl, hb1, ?_, hn, hm, hc, ht⟩⟩
    rw [hb.block g ?_]
    · exact hg
    · rcases Nat.lt_or_ge g w.heap.size with h1 | h1
      · exact h1
      · rw [Array.getElem?_eq_none h1] at hg; cases hg
def iv (l : List Int) : List Value := l.map fun z => .int .i64 z
theorem iv_at {zs : List Int} {k : Nat} (h : k < zs.length) : (iv zs)[k]? = some (.int .i64 zs[k]) := by simp [iv, h]
end Go.Proofs.Ytcedninipbafaaa

namespace Go.Proofs.Ytcedninipbafaaa
open Go.ChangeShapes Go.WideShapes Go.ChangeAt Go.RowKit

theorem lt_u8 {a : Int} (h : 0 ≤ a ∧ a ≤ 255) : a < 256 := by omega
theorem lt_u16 {a : Int} (h : 0 ≤ a ∧ a ≤ 65535) : a < 65536 := by omega
theorem lt_u32 {a : Int} (h : 0 ≤ a ∧ a ≤ 4294967295) : a < 4294967296 := by omega
theorem lt_u64 {a : Int} (h : 0 ≤ a ∧ a ≤ 18446744073709551615) : a < 18446744073709551616 := by omega

theorem own : ownKnob Try.prog.godebug = none := by kernel_rfl
theorem laidOut : laidOutB Try.prog = true := by kernel_rfl


theorem spot_none {W : World} {a : Addr} {v : Value} (h : W.cell? (a.add 0) = some v) : a.spot = none := by
  obtain ⟨b, o, sp⟩ := a
  cases sp with
  | none => rfl
  | some s =>
    simp [World.cell?, Addr.add] at h
    split at h <;> cases h
theorem bytes_of_ints {W : World} {A : Option Addr} {len cap : Nat} {zs : List Int} (hl : len ≤ cap) (hz : zs.length = cap) (hwz : ∀ n ∈ zs, (Lit.int .u8 n).wf = true) (h0 : A = none → cap = 0)
    (hc : ∀ a, A = some a → ∀ c, c < cap → W.cell? (a.add c) = some (.int .u8 (zs.getD c 0))) : Bytes W (.slice A len cap) ((zs.take len).map fun z => UInt8.ofNat z.toNat) := by
  have hlen : ((zs.take len).map fun z => UInt8.ofNat z.toNat).length = len := by simp; omega
  rcases Nat.eq_zero_or_pos len with hp | hp
  · subst hp
    exact .inl ⟨by simp, A, cap, rfl, h0⟩
  · cases A with
    | none => have := h0 rfl; omega
    | some x =>
      have hcell := hc x rfl
      have hc0 := hcell 0 (by omega)
      have hsp := spot_none hc0
      obtain ⟨b, o, sp⟩ := x
      simp only at hsp
      subst hsp
      refine .inr ⟨b, o, cap, by rw [hlen], ?_, by rw [hlen]; exact hl, ?_⟩
      · have := World.block_lt_of_cell? _ _ hc0
        simpa [Addr.add] using this
      · intro j y hy
        simp only [List.getElem?_map, Option.map_eq_some_iff] at hy
        obtain ⟨z, hz1, rfl⟩ := hy
        have hj : j < len := by
          have := (List.getElem?_eq_some_iff.1 hz1).1
          simp at this; omega
        have hz2 : zs[j]? = some z := by rw [List.getElem?_take, if_pos hj] at hz1; exact hz1
        have hb := bounds_u8 (hwz z (List.mem_of_getElem? hz2))
        have hcj := hcell j (by omega)
        have he : zs.getD j 0 = z := by simp [List.getD, hz2]
        rw [he] at hcj
        have hn : ((UInt8.ofNat z.toNat).toNat : Int) = z := by rw [UInt8.toNat_ofNat']; omega
        rw [hn]
        cases j with
        | zero => simpa [Addr.add] using hcj
        | succ j => simpa [Addr.add] using hcj

end Go.Proofs.Ytcedninipbafaaa

namespace Go.Proofs.Ytcedninipbafaaa.adjNil
open Go.ChangeShapes Go.WideShapes Go.ChangeAt Go.RowKit

set_option maxRecDepth 100000 in
theorem lifted (os : Os) (started : os.Started) (H : Type) (enc : TypeId × Value → H) :
    ReturnsInHanded {} Try.checked os 6 .any (Rows.adjNilSpec.pre6 enc Try.prog Try.f6 Rows.adjNilRow.domain false) (Rows.adjNilSpec.post enc Try.prog Try.f6 false true false false) := by
  refine returnsInHanded_of_change (C := Try.checked) own started (by kernel_rfl) Try.func6
    (ChangeSpec.witness6 (enc := enc) (C := Try.checked) false ⟨#[], #[], []⟩ 8 (by kernel_rfl) (by kernel_rfl) (by kernel_rfl) (by kernel_rfl)) ?_
  intro W base args ds gs before hval0 hW hcnd _
  have hval : ∀ (j : Nat) t v, Try.f6.params[j]? = some t → args[j]? = some v → Value.okWide Try.prog W .any base t v := hval0
  have hW' := hW
  obtain ⟨p, q, hA0, hV, rfl, hfz, hnd⟩ := hW
  have hA : DataW.TrodAll enc Try.prog W 0 (fun _ => true) true Try.f6.params.toList args.toList ds p := hA0
  rw [Try.params6] at hA hval
  obtain ⟨hargs, rfl, rfl⟩ := trodAll_nil hA
  obtain rfl : args = #[] := by cases args; simp_all
  obtain ⟨rfl, rfl⟩ := trodVars_none hV
  refine (adjNil_walk  W ).mono fun e W' ⟨he, bel⟩ => ?_
  subst he
  exact ⟨_, rfl, _, _, _, [], _, [], hW', trodAll_mk1 (shut_bool Try.underlying4 _), trodAll_mk0, rfl, bel.frame _, fun h => by cases h⟩

/-- The statement. -/
theorem said : Rows.AdjNilSaid :=
  OpenClaim.holds_of_wide 6 Try.f6 rfl rfl rfl rfl rfl rfl rfl ⟨rfl, rfl, rfl, rfl, rfl⟩ rfl rfl rfl rfl rfl (by kernel_rfl) Try.func6 (by kernel_rfl)
    (of_decide_eq_true (by kernel_rfl)) (by unfold Func.isWrapper; first | (rw [if_pos (by decide +kernel)]; kernel_rfl) | (rw [if_neg (by decide +kernel)]; exact ⟨rfl, rfl⟩))
    (fun os started H enc _ => lifted os started H enc)
#print axioms said
end Go.Proofs.Ytcedninipbafaaa.adjNil
