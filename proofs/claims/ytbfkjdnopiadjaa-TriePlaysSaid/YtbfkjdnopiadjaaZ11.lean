/- The laws' once: the walk (in a round: onlyN). -/
import Derived.Test.YtbfkjdnopiadjaaZ06
import Derived.Test.YtbfkjdnopiadjaaZ08
import Derived.Test.YtbfkjdnopiadjaaZ09

set_option linter.unusedSimpArgs false
set_option linter.unusedVariables false
namespace Go.Proofs.Ytbfkjdnopiadjaa
open Go.RowKit Go.Shelf
attribute [local go_sem] Oper.semAt_some
attribute [local go_sem ↓ high] eqP neP
open Tp (Pf Ok En)

/-- Where once's arguments, its result and its count lie. -/
structure On (b : Nat) (u : Value) (m : Int) (r : Bool) (n : Int) (W : World) : Prop where
  c0 : BlkAt 28 b [u] W
  c1 : BlkAt 3 (b + 1) [.int .i64 m] W
  c2 : BlkAt 4 (b + 1 + 1) [.bool r] W
  c3 : BlkAt 3 (b + 1 + 1 + 1) [.int .i64 n] W
theorem On.grown {b : Nat} {u : Value} {m : Int} {r : Bool} {n : Int} {A B : World} (h : On b u m r n A) {row : Option Nat} (hg : A.grownBy B row) (hr : ∀ r, row = some r → ∃ o : Obj, A.heap[r]? = some o ∧ o.isCells = false) : On b u m r n B :=
  ⟨h.c0.of_grown hg hr, h.c1.of_grown hg hr, h.c2.of_grown hg hr, h.c3.of_grown hg hr⟩
theorem On.later {b : Nat} {u : Value} {m : Int} {r : Bool} {n : Int} {A B : World} (h : On b u m r n A) (hb : Below A.heap.size A B) : On b u m r n B := ⟨h.c0.later hb, h.c1.later hb, h.c2.later hb, h.c3.later hb⟩
theorem On.drew {b : Nat} {u : Value} {m : Int} {r : Bool} {n : Int} {W : World} (h : On b u m r n W) : On b u m r n W.drew := ⟨h.c0, h.c1, h.c2, h.c3⟩
theorem On.cells {b : Nat} {u : Value} {m : Int} {r : Bool} {n : Int} {W : World} (h : On b u m r n W) : W.cell? ⟨b, 0, none⟩ = some u ∧ W.cell? ⟨b + 1, 0, none⟩ = some (.int .i64 m) ∧ W.cell? ⟨b + 1 + 1, 0, none⟩ = some (.bool r) ∧ W.cell? ⟨b + 1 + 1 + 1, 0, none⟩ = some (.int .i64 n) :=
  ⟨h.c0.cell (j := 0) rfl, h.c1.cell (j := 0) rfl, h.c2.cell (j := 0) rfl, h.c3.cell (j := 0) rfl⟩
theorem On.putN {b : Nat} {u : Value} {m : Int} {r : Bool} {n : Int} {W : World} (h : On b u m r n W) (k : Int) : On b u m r k (W.setCell ⟨b + 1 + 1 + 1, 0, none⟩ (.int .i64 k)) :=
  ⟨h.c0.other (by omega) _ _, h.c1.other (by omega) _ _, h.c2.other (by omega) _ _, h.c3.set 0 (.int .i64 k)⟩
theorem On.putR {b : Nat} {u : Value} {m : Int} {r : Bool} {n : Int} {W : World} (h : On b u m r n W) (k : Bool) : On b u m k n (W.setCell ⟨b + 1 + 1, 0, none⟩ (.bool k)) :=
  ⟨h.c0.other (by omega) _ _, h.c1.other (by omega) _ _, h.c2.set 0 (.bool k), h.c3.other (by omega) _ _⟩
theorem prefix_snoc {A L : List En} {x : En} (h : A <+: L) (hx : L[A.length]? = some x) : A ++ [x] <+: L := by
  obtain ⟨B, rfl⟩ := h
  rw [List.getElem?_append_right (Nat.le_refl _), Nat.sub_self] at hx
  cases B with
  | nil => cases hx
  | cons y B => simp at hx; subst hx; exact ⟨B, by simp⟩
theorem prefix_last {A L : List En} {x y : En} (h : A ++ [x] <+: L) (hy : L[A.length]? = some y) : x = y := by
  obtain ⟨B, rfl⟩ := h
  rw [List.append_assoc, List.getElem?_append_right (Nat.le_refl _), Nat.sub_self] at hy
  simpa using hy

set_option maxRecDepth 100000 in
set_option maxHeartbeats 4000000 in
theorem once_in (n : Nat) (hn3 : 3 ≤ n) {Br Bg : Nat} {L : List En} {u : Value} {w : World} (hS : SeqV w Br Bg L) (hu : EnR w u L) (hL : L.length ≤ 1000000) (m : Int) :
    CallsIn Fence.wide n Try.prog 18 #[seqF Br Bg, u, .int .i64 m] w fun e w' => e = .returned (.bool true) ∧ Below w.heap.size w w' := by
  have h3 : 1 ≤ n := by omega
  obtain ⟨a, c, rfl⟩ := hu.form'
  have HS := Lib.hid hS
  have HU := Lib.hid hu
  have HLs := Lib.hid hL
  clear hS hu hL
  unfold seqF
  have hne := fn_eq Try.prog _ Try.underlying43 (.func 52) #[] #[.pointer (some ⟨Br, 0, none⟩), .pointer (some ⟨Bg, 0, none⟩)]
  refine callsIn_of_wp_marks Try.func18 rfl trivial ?_ rfl
  simp only [Try.ntmps18, List.size_toArray, List.length_cons, List.length_nil, Nat.reduceAdd, Nat.reduceSub, Array.replicate_succ, Array.replicate_zero, List.push_toArray, List.append_toArray, List.nil_append, List.cons_append]
  gi_wp2_with fail
  have hM : On w.heap.size (.slice a L.length c) m false 0 ((((w.alloc (.cells #[.slice a L.length c] 28)).alloc (.cells #[.int .i64 m] 3)).alloc (.cells #[.bool false] 4)).alloc (.cells #[.int .i64 0] 3)) := by
    have q0 := BlkAt.new w (t := 28) [.slice a L.length c]
    have q1 := BlkAt.new (w.alloc (.cells #[.slice a L.length c] 28)) (t := 3) [.int .i64 m]
    have q2 := BlkAt.new ((w.alloc (.cells #[.slice a L.length c] 28)).alloc (.cells #[.int .i64 m] 3)) (t := 4) [.bool false]
    have q3 := BlkAt.new (((w.alloc (.cells #[.slice a L.length c] 28)).alloc (.cells #[.int .i64 m] 3)).alloc (.cells #[.bool false] 4)) (t := 3) [.int .i64 0]
    rw [World.size_alloc] at q1
    rw [World.size_alloc, World.size_alloc] at q2
    rw [World.size_alloc, World.size_alloc, World.size_alloc] at q3
    exact ⟨((q0.later (ba1 _ _)).later (ba1 _ _)).later (ba1 _ _), (q1.later (ba1 _ _)).later (ba1 _ _), q2.later (ba1 _ _), q3⟩
  have hB : Below w.heap.size w ((((w.alloc (.cells #[.slice a L.length c] 28)).alloc (.cells #[.int .i64 m] 3)).alloc (.cells #[.bool false] 4)).alloc (.cells #[.int .i64 0] 3)) := below_of (below_of (below_of (ba1 w _) (ba1 _ _)) (ba1 _ _)) (ba1 _ _)
  obtain ⟨w1, hW⟩ : ∃ W, W = (((w.alloc (.cells #[.slice a L.length c] 28)).alloc (.cells #[.int .i64 m] 3)).alloc (.cells #[.bool false] 4)).alloc (.cells #[.int .i64 0] 3) := ⟨_, rfl⟩
  rw [← hW] at hM hB ⊢
  clear hW
  have HM1 := Lib.hid hM
  have HB1 := Lib.hid hB
  have HS1 := Lib.hid (HS.out.later hB)
  have hle1 := hB.size
  clear hM hB
  refine wpIn_range_left (gf := 52) (lb := #[.pointer (some ⟨Br, 0, none⟩), .pointer (some ⟨Bg, 0, none⟩)]) rfl (enters_of Try.func52 (by kernel_rfl) rfl)
    (over_stops (n - 1) Br Bg L w1 HS1.out) Keep.trans Keep.putObj (Below.refl _ _) (fun _ => rfl)
    (fun pre W => pre.map Subtype.val <+: L ∧ On w.heap.size (.slice a L.length c) m false (pre.length : Nat) W ∧ Below w.heap.size w W) (fun e pre W => e = .ret ∧ ∃ r k, (pre.map Subtype.val <+: L → r = true) ∧ On w.heap.size (.slice a L.length c) m r k W ∧ Below w.heap.size w W)
    (fun s A B row hs hg hr => ⟨hs.1, hs.2.1.grown hg (fun r e => (hr r e).2), hs.2.2.grown hg hs.2.2.size (fun k e => by have := (hr k e).1; omega)⟩)
    (fun e s A B row hs hg hr => by
      obtain ⟨hc, r, k, h1, h2, h3⟩ := hs
      exact ⟨hc, r, k, h1, h2.grown hg (fun r e => (hr r e).2), h3.grown hg h3.size (fun k e => by have := (hr k e).1; omega)⟩) ⟨List.nil_prefix, HM1.out, HB1.out⟩
    (fun pre x a' W => (pre.map Subtype.val <+: L ∧ On w.heap.size (.slice a L.length c) m false (pre.length : Nat) W ∧ Below w.heap.size w W) ∧ ∃ G, BlkAt 37 G [.int .u32 x.1.1.1, .int .i64 x.1.1.2] W ∧ a' = { tmps := #[.func (.func 52) #[] #[.pointer (some ⟨Br, 0, none⟩), .pointer (some ⟨Bg, 0, none⟩)], .slice a L.length c, .int .i64 m, undef, .pointer (some ⟨w.heap.size, 0, none⟩), .pointer (some ⟨w.heap.size + 1, 0, none⟩), .pointer (some ⟨w.heap.size + 1 + 1, 0, none⟩), .pointer (some ⟨w.heap.size + 1 + 1 + 1, 0, none⟩), .pointer (some ⟨G, 0, none⟩), .int .i64 x.1.2, .func (.func 52) #[] #[.pointer (some ⟨Br, 0, none⟩), .pointer (some ⟨Bg, 0, none⟩)], .bool false, .func (.func 52) #[] #[.pointer (some ⟨Br, 0, none⟩), .pointer (some ⟨Bg, 0, none⟩)], .agg #[.int .u32 x.1.1.1, .int .i64 x.1.1.2], .int .i64 x.1.2, undef, undef, undef, undef, undef, undef, undef, undef, undef, undef, undef, undef, undef, undef, undef, undef, undef, undef, undef, undef, undef, undef, undef, undef, undef, undef, undef, undef, undef, undef, undef], defers := [] })
    (fun pre x a' s A B row hs hg hr => by
      obtain ⟨⟨h1, h2, h3⟩, G, hG, ha⟩ := hs
      exact ⟨⟨h1, h2.grown hg (fun r e => (hr r e).2), h3.grown hg h3.size (fun k e => by have := (hr k e).1; omega)⟩, G, hG.of_grown hg (fun r e => (hr r e).2), ha⟩) ?assign ?body ?done ?stop
  case assign =>
    rintro l pre x W2 K ⟨hne, hm, hb2⟩ hK
    have HMM := Lib.hid hm
    have HBB := Lib.hid hb2
    have HNe := Lib.hid hne
    have HK := Lib.hid hK
    obtain ⟨⟨⟨xa, xn⟩, xv⟩, hx⟩ := x
    clear hm hb2 hK hne
    simp only [encE] at HK ⊢
    gi_wp2_with fail
    refine HK.out _ _ ((KeepsOthers.alloc _ _).from _) (Keep.of_below (ba1 _ _)) ⟨⟨HNe.out, HMM.out.later (ba1 _ _), HBB.out.trans ((ba1 _ _).mono HBB.out.size)⟩, W2.heap.size, BlkAt.new W2 _, rfl⟩
  case body =>
    rintro l pre x a' W2 ⟨⟨hne, hm, hb2⟩, G, hG, rfl⟩ hlt
    obtain ⟨y, hy⟩ : ∃ y, L[pre.length]? = some y := ⟨L[pre.length], List.getElem?_eq_getElem hlt⟩
    obtain ⟨d0, d1, d2, d3⟩ := hm.drew.cells
    obtain ⟨g0, g1⟩ := px_cells (show BlkAt 37 G _ W2.drew from hG)
    obtain ⟨g, o, rfl, _, e0, e1, e2⟩ := (show EnR W2.drew (.slice a L.length c) L from HU.out.later hb2.drew).at hy
    obtain ⟨⟨⟨xa, xn⟩, xv⟩, hx⟩ := x
    obtain ⟨⟨ya, yn⟩, yv⟩ := y
    have HMM := Lib.hid hm
    have HBB := Lib.hid hb2
    have HNe := Lib.hid hne
    have HY := Lib.hid hy
    have HG := Lib.hid hG
    have k0 : (pre.length : Int) < L.length := by omega
    have k1 : decide (L.length ≤ pre.length) = false := by simp; omega
    have kb : (pre.length : Int) ≤ 1000000 := by have := HLs.out; omega
    simp only at g0 g1 e0 e1 e2 ⊢
    clear hm hb2 hne hG hy
    have HI := Lib.hid kb
    by_cases hp : (xa, xn) = (ya, yn)
    · have k2 : sameP xa xn ya yn = true := sameP_yes (p := (xa, xn)) (q := (ya, yn)) hp
      by_cases hv : xv = yv
      · have k3 : (xv == yv) = true := by simpa using hv
        have k4 : (xv != yv) = false := by simpa using hv
        have HPx : Hid ((pre ++ [⟨((xa, xn), xv), hx⟩] : List (Ent L)).map Subtype.val <+: L) := by
          rw [List.map_append]
          refine prefix_snoc HNe.out ?_
          rw [List.length_map, HY.out]
          show some ((ya, yn), yv) = some ((xa, xn), xv)
          rw [hv, hp]
        clear hp hv
        gi_wp2_with fail
        refine wpIn_region_round (S := fun w' => w' = W2.drew) (by kernel_rfl) (by kernel_rfl) rfl (fun hHeld => ?_)
        (refine wpAnyH_take (i := 0) (v := ?_) rfl (by kernel_rfl) (by kernel_rfl) (by kernel_rfl) (fun _ _ _ h => False.elim h) (Or.inl ⟨by rfl, ?_⟩) hHeld ?_; rotate_left; (focus (intro w hSw; (try dsimp only at hSw); go_simp; (subst hSw; go_simp; try with_reducible rfl))); (try simp only [Act.put, List.setIfInBounds_toArray, List.set_cons_zero, List.set_cons_succ, List.getElem_toArray, List.getElem_cons_zero]))
        (refine wpAnyH_take (i := 1) (v := ?_) rfl (by kernel_rfl) (by kernel_rfl) (by kernel_rfl) (fun _ _ _ h => False.elim h) (Or.inl ⟨by rfl, ?_⟩) hHeld ?_; rotate_left; (focus (intro w hSw; (try dsimp only at hSw); go_simp; (subst hSw; go_simp; try with_reducible rfl))); (try simp only [Act.put, List.setIfInBounds_toArray, List.set_cons_zero, List.set_cons_succ, List.getElem_toArray, List.getElem_cons_zero, List.getElem_cons_succ]))
        (refine wpAnyH_take (i := 2) (v := ?_) rfl (by kernel_rfl) (by kernel_rfl) (by kernel_rfl) (fun _ _ _ h => False.elim h) (Or.inl ⟨by rfl, ?_⟩) hHeld ?_; rotate_left; (focus (intro w hSw; (try dsimp only at hSw); go_simp; try with_reducible rfl)); (try simp only [Act.put, List.setIfInBounds_toArray, List.set_cons_zero, List.set_cons_succ, List.getElem_toArray, List.getElem_cons_zero, List.getElem_cons_succ])); (refine wpAnyH_take (i := 3) (v := ?_) rfl (by kernel_rfl) (by kernel_rfl) (by kernel_rfl) (fun _ _ _ h => False.elim h) (Or.inl ⟨by rfl, ?_⟩) hHeld ?_; rotate_left; (focus (intro w hSw; (try dsimp only at hSw); go_simp; try with_reducible rfl)); (try simp only [Act.put, List.setIfInBounds_toArray, List.set_cons_zero, List.set_cons_succ, List.getElem_toArray, List.getElem_cons_zero, List.getElem_cons_succ])); (refine wpAnyH_take (i := 4) (v := ?_) rfl (by kernel_rfl) (by kernel_rfl) (by kernel_rfl) (fun _ _ _ h => False.elim h) (Or.inl ⟨by rfl, ?_⟩) hHeld ?_; rotate_left; (focus (intro w hSw; (try dsimp only at hSw); go_simp; try with_reducible rfl)); (try simp only [Act.put, List.setIfInBounds_toArray, List.set_cons_zero, List.set_cons_succ, List.getElem_toArray, List.getElem_cons_zero, List.getElem_cons_succ]))
        (refine wpAnyH_take (i := 5) (v := ?_) rfl (by kernel_rfl) (by kernel_rfl) (by kernel_rfl) (fun _ _ _ h => False.elim h) (Or.inl ⟨by rfl, ?_⟩) hHeld ?_; rotate_left; (focus (intro w hSw; (try dsimp only at hSw); go_simp; (subst hSw; go_simp; try with_reducible rfl))); (try simp only [Act.put, List.setIfInBounds_toArray, List.set_cons_zero, List.set_cons_succ, List.getElem_toArray, List.getElem_cons_zero, List.getElem_cons_succ]))
        (refine wpAnyH_take (i := 6) (v := ?_) rfl (by kernel_rfl) (by kernel_rfl) (by kernel_rfl) (fun _ _ _ h => False.elim h) (Or.inl ⟨by rfl, ?_⟩) hHeld ?_; rotate_left; (focus (intro w hSw; (try dsimp only at hSw); go_simp; (subst hSw; go_simp; try with_reducible rfl))); (try simp only [Act.put, List.setIfInBounds_toArray, List.set_cons_zero, List.set_cons_succ, List.getElem_toArray, List.getElem_cons_zero, List.getElem_cons_succ]))
        (refine wpAnyH_take (i := 7) (v := ?_) rfl (by kernel_rfl) (by kernel_rfl) (by kernel_rfl) (fun _ _ _ h => False.elim h) (Or.inl ⟨by rfl, ?_⟩) hHeld ?_; rotate_left; (focus (intro w hSw; (try dsimp only at hSw); go_simp; (subst hSw; go_simp; try with_reducible rfl))); (try simp only [Act.put, List.setIfInBounds_toArray, List.set_cons_zero, List.set_cons_succ, List.getElem_toArray, List.getElem_cons_zero, List.getElem_cons_succ]))
        (refine wpAnyH_take (i := 8) (v := ?_) rfl (by kernel_rfl) (by kernel_rfl) (by kernel_rfl) (fun _ _ _ h => False.elim h) (Or.inl ⟨by rfl, ?_⟩) hHeld ?_; rotate_left; (focus (intro w hSw; (try dsimp only at hSw); go_simp; try with_reducible rfl)); (try simp only [Act.put, List.setIfInBounds_toArray, List.set_cons_zero, List.set_cons_succ, List.getElem_toArray, List.getElem_cons_zero, List.getElem_cons_succ])); (refine wpAnyH_take (i := 9) (v := ?_) rfl (by kernel_rfl) (by kernel_rfl) (by kernel_rfl) (fun _ _ _ h => False.elim h) (Or.inl ⟨by rfl, ?_⟩) hHeld ?_; rotate_left; (focus (intro w hSw; (try dsimp only at hSw); go_simp; try with_reducible rfl)); (try simp only [Act.put, List.setIfInBounds_toArray, List.set_cons_zero, List.set_cons_succ, List.getElem_toArray, List.getElem_cons_zero, List.getElem_cons_succ]))
        (refine wpAnyH_take (i := 10) (v := ?_) rfl (by kernel_rfl) (by kernel_rfl) (by kernel_rfl) (fun _ _ _ h => False.elim h) (Or.inl ⟨by rfl, ?_⟩) hHeld ?_; rotate_left; (focus (intro w hSw; (try dsimp only at hSw); go_simp; (subst hSw; go_simp; try with_reducible rfl))); (try simp only [Act.put, List.setIfInBounds_toArray, List.set_cons_zero, List.set_cons_succ, List.getElem_toArray, List.getElem_cons_zero, List.getElem_cons_succ]))
        (refine wpAnyH_take (i := 11) (v := ?_) rfl (by kernel_rfl) (by kernel_rfl) (by kernel_rfl) (fun _ _ _ h => False.elim h) (Or.inl ⟨by rfl, ?_⟩) hHeld ?_; rotate_left; (focus (intro w hSw; (try dsimp only at hSw); go_simp; try with_reducible rfl)); (try simp only [Act.put, List.setIfInBounds_toArray, List.set_cons_zero, List.set_cons_succ, List.getElem_toArray, List.getElem_cons_zero, List.getElem_cons_succ])); (refine wpAnyH_take (i := 12) (v := ?_) rfl (by kernel_rfl) (by kernel_rfl) (by kernel_rfl) (fun _ _ _ h => False.elim h) (Or.inl ⟨by rfl, ?_⟩) hHeld ?_; rotate_left; (focus (intro w hSw; (try dsimp only at hSw); go_simp; try with_reducible rfl)); (try simp only [Act.put, List.setIfInBounds_toArray, List.set_cons_zero, List.set_cons_succ, List.getElem_toArray, List.getElem_cons_zero, List.getElem_cons_succ])); (refine wpAnyH_take (i := 13) (v := ?_) rfl (by kernel_rfl) (by kernel_rfl) (by kernel_rfl) (fun _ _ _ h => False.elim h) (Or.inl ⟨by rfl, ?_⟩) hHeld ?_; rotate_left; (focus (intro w hSw; (try dsimp only at hSw); go_simp; try with_reducible rfl)); (try simp only [Act.put, List.setIfInBounds_toArray, List.set_cons_zero, List.set_cons_succ, List.getElem_toArray, List.getElem_cons_zero, List.getElem_cons_succ]))
        (refine wpAnyH_take (i := 14) (v := ?_) rfl (by kernel_rfl) (by kernel_rfl) (by kernel_rfl) (fun _ _ _ h => False.elim h) (Or.inl ⟨by rfl, ?_⟩) hHeld ?_; rotate_left; (focus (intro w hSw; (try dsimp only at hSw); go_simp; try with_reducible rfl)); (try simp only [Act.put, List.setIfInBounds_toArray, List.set_cons_zero, List.set_cons_succ, List.getElem_toArray, List.getElem_cons_zero, List.getElem_cons_succ]))
        (refine wpAnyH_take (i := 15) (v := ?_) rfl (by kernel_rfl) (by kernel_rfl) (by kernel_rfl) (fun _ _ _ h => False.elim h) (Or.inl ⟨by rfl, ?_⟩) hHeld ?_; rotate_left; (focus (intro w hSw; (try dsimp only at hSw); go_simp; (subst hSw; go_simp; try with_reducible rfl))); (try simp only [Act.put, List.setIfInBounds_toArray, List.set_cons_zero, List.set_cons_succ, List.getElem_toArray, List.getElem_cons_zero, List.getElem_cons_succ]))
        (refine wpAnyH_take (i := 16) (v := ?_) rfl (by kernel_rfl) (by kernel_rfl) (by kernel_rfl) (fun _ _ _ h => False.elim h) (Or.inl ⟨by rfl, ?_⟩) hHeld ?_; rotate_left; (focus (intro w hSw; (try dsimp only at hSw); go_simp; (subst hSw; go_simp; try with_reducible rfl))); (try simp only [Act.put, List.setIfInBounds_toArray, List.set_cons_zero, List.set_cons_succ, List.getElem_toArray, List.getElem_cons_zero, List.getElem_cons_succ]))
        (refine wpAnyH_take (i := 17) (v := ?_) rfl (by kernel_rfl) (by kernel_rfl) (by kernel_rfl) (fun _ _ _ h => False.elim h) (Or.inl ⟨by rfl, ?_⟩) hHeld ?_; rotate_left; (focus (intro w hSw; (try dsimp only at hSw); go_simp; try with_reducible rfl)); (try simp only [Act.put, List.setIfInBounds_toArray, List.set_cons_zero, List.set_cons_succ, List.getElem_toArray, List.getElem_cons_zero, List.getElem_cons_succ])); (refine wpAnyH_take (i := 18) (v := ?_) rfl (by kernel_rfl) (by kernel_rfl) (by kernel_rfl) (fun _ _ _ h => False.elim h) (Or.inl ⟨by rfl, ?_⟩) hHeld ?_; rotate_left; (focus (intro w hSw; (try dsimp only at hSw); go_simp; try with_reducible rfl)); (try simp only [Act.put, List.setIfInBounds_toArray, List.set_cons_zero, List.set_cons_succ, List.getElem_toArray, List.getElem_cons_zero, List.getElem_cons_succ]))
        (refine wpAnyH_take (i := 19) (v := ?_) rfl (by kernel_rfl) (by kernel_rfl) (by kernel_rfl) (fun _ _ _ h => False.elim h) (Or.inl ⟨by rfl, ?_⟩) hHeld ?_; rotate_left; (focus (intro w hSw; (try dsimp only at hSw); go_simp; (subst hSw; go_simp; try with_reducible rfl))); (try simp only [Act.put, List.setIfInBounds_toArray, List.set_cons_zero, List.set_cons_succ, List.getElem_toArray, List.getElem_cons_zero, List.getElem_cons_succ]))
        (refine wpAnyH_take (i := 20) (v := ?_) rfl (by kernel_rfl) (by kernel_rfl) (by kernel_rfl) (fun _ _ _ h => False.elim h) (Or.inl ⟨by rfl, ?_⟩) hHeld ?_; rotate_left; (focus (intro w hSw; (try dsimp only at hSw); go_simp; try with_reducible rfl)); (try simp only [Act.put, List.setIfInBounds_toArray, List.set_cons_zero, List.set_cons_succ, List.getElem_toArray, List.getElem_cons_zero, List.getElem_cons_succ])); (refine wpAnyH_take (i := 21) (v := ?_) rfl (by kernel_rfl) (by kernel_rfl) (by kernel_rfl) (fun _ _ _ h => False.elim h) (Or.inl ⟨by rfl, ?_⟩) hHeld ?_; rotate_left; (focus (intro w hSw; (try dsimp only at hSw); go_simp; try with_reducible rfl)); (try simp only [Act.put, List.setIfInBounds_toArray, List.set_cons_zero, List.set_cons_succ, List.getElem_toArray, List.getElem_cons_zero, List.getElem_cons_succ]))
        refine wpAnyH_done (by kernel_rfl) ?_ _
        simp only [onlyN]
        obtain ⟨W3, hW3⟩ : ∃ W3, W3 = W2.drew := ⟨_, rfl⟩
        rw [← hW3]
        have HM3 : Hid (On w.heap.size (.slice (some ⟨g, o, none⟩) L.length c) m false (pre.length : Nat) W3) := by rw [hW3]; exact On.drew HMM.out
        have HB3 : Hid (Below w.heap.size w W3) := by rw [hW3]; exact HBB.out.drew
        have HK3 : Hid (KeepsFrom w1.heap.size W2 W3) := by rw [hW3]; exact (KeepsOthers.drew _).from _
        have HP3 : Hid (Keep W2 W3) := by rw [hW3]; exact Keep.of_below (Below.refl _ _).drew
        clear hW3 d0 d1 d2 d3 e0 e1 e2 g0 g1 hHeld
        have f3 := HM3.out.c3.frozen 0
        have f2 := HM3.out.c2.frozen 0
        obtain ⟨d0, d1, d2, d3⟩ := HM3.out.cells
        have hO := HM3.out.putN ((pre.length : Nat) + 1)
        have HO := Lib.hid hO
        obtain ⟨o0, o1, o2, o3⟩ := hO.cells
        have f4 := hO.c2.frozen 0
        clear hO
        by_cases hm2 : (pre.length : Int) + 1 = m
        · have k5 : ((pre.length : Int) + 1 == m) = true := by simpa using hm2
          have HR := Lib.hid (HO.out.putR true)
          clear hm2
          gi_wp2_with fail
          exact ⟨HK3.out.trans (((KeepsOthers.setCell _ _ _).trans (KeepsOthers.setCell _ _ _)).from _), rfl, true, _, fun _ => rfl, HR.out, (HB3.out.setCell (by simp; omega) _).setCell (by simp; omega) _⟩
        · have k5 : ((pre.length : Int) + 1 == m) = false := by simpa using hm2
          clear hm2
          gi_wp2_with fail
          refine ⟨HK3.out.trans ((KeepsOthers.setCell _ _ _).from _), HP3.out.trans (Keep.set HM3.out.c3 (by decide) (by decide) 0 _), HPx.out, ?_, HB3.out.setCell (by simp; omega) _⟩
          have e : (((pre ++ [(⟨((xa, xn), xv), hx⟩ : Ent L)]).length : Nat) : Int) = (pre.length : Nat) + 1 := by simp
          rw [e]
          exact HO.out
      · have k3 : (xv == yv) = false := by simpa using hv
        have k4 : (xv != yv) = true := by simpa using hv
        have HD : Hid (¬ (((xa, xn), xv) : En) = ((ya, yn), yv)) := by intro e; simp only [Prod.mk.injEq] at e; exact hv e.2
        clear hp hv
        gi_wp2_with fail
        refine wpIn_region_round (S := fun w' => w' = W2.drew) (by kernel_rfl) (by kernel_rfl) rfl (fun hHeld => ?_)
        (refine wpAnyH_take (i := 0) (v := ?_) rfl (by kernel_rfl) (by kernel_rfl) (by kernel_rfl) (fun _ _ _ h => False.elim h) (Or.inl ⟨by rfl, ?_⟩) hHeld ?_; rotate_left; (focus (intro w hSw; (try dsimp only at hSw); go_simp; (subst hSw; go_simp; try with_reducible rfl))); (try simp only [Act.put, List.setIfInBounds_toArray, List.set_cons_zero, List.set_cons_succ, List.getElem_toArray, List.getElem_cons_zero]))
        (refine wpAnyH_take (i := 1) (v := ?_) rfl (by kernel_rfl) (by kernel_rfl) (by kernel_rfl) (fun _ _ _ h => False.elim h) (Or.inl ⟨by rfl, ?_⟩) hHeld ?_; rotate_left; (focus (intro w hSw; (try dsimp only at hSw); go_simp; (subst hSw; go_simp; try with_reducible rfl))); (try simp only [Act.put, List.setIfInBounds_toArray, List.set_cons_zero, List.set_cons_succ, List.getElem_toArray, List.getElem_cons_zero, List.getElem_cons_succ]))
        (refine wpAnyH_take (i := 2) (v := ?_) rfl (by kernel_rfl) (by kernel_rfl) (by kernel_rfl) (fun _ _ _ h => False.elim h) (Or.inl ⟨by rfl, ?_⟩) hHeld ?_; rotate_left; (focus (intro w hSw; (try dsimp only at hSw); go_simp; try with_reducible rfl)); (try simp only [Act.put, List.setIfInBounds_toArray, List.set_cons_zero, List.set_cons_succ, List.getElem_toArray, List.getElem_cons_zero, List.getElem_cons_succ])); (refine wpAnyH_take (i := 3) (v := ?_) rfl (by kernel_rfl) (by kernel_rfl) (by kernel_rfl) (fun _ _ _ h => False.elim h) (Or.inl ⟨by rfl, ?_⟩) hHeld ?_; rotate_left; (focus (intro w hSw; (try dsimp only at hSw); go_simp; try with_reducible rfl)); (try simp only [Act.put, List.setIfInBounds_toArray, List.set_cons_zero, List.set_cons_succ, List.getElem_toArray, List.getElem_cons_zero, List.getElem_cons_succ])); (refine wpAnyH_take (i := 4) (v := ?_) rfl (by kernel_rfl) (by kernel_rfl) (by kernel_rfl) (fun _ _ _ h => False.elim h) (Or.inl ⟨by rfl, ?_⟩) hHeld ?_; rotate_left; (focus (intro w hSw; (try dsimp only at hSw); go_simp; try with_reducible rfl)); (try simp only [Act.put, List.setIfInBounds_toArray, List.set_cons_zero, List.set_cons_succ, List.getElem_toArray, List.getElem_cons_zero, List.getElem_cons_succ]))
        (refine wpAnyH_take (i := 5) (v := ?_) rfl (by kernel_rfl) (by kernel_rfl) (by kernel_rfl) (fun _ _ _ h => False.elim h) (Or.inl ⟨by rfl, ?_⟩) hHeld ?_; rotate_left; (focus (intro w hSw; (try dsimp only at hSw); go_simp; (subst hSw; go_simp; try with_reducible rfl))); (try simp only [Act.put, List.setIfInBounds_toArray, List.set_cons_zero, List.set_cons_succ, List.getElem_toArray, List.getElem_cons_zero, List.getElem_cons_succ]))
        (refine wpAnyH_take (i := 6) (v := ?_) rfl (by kernel_rfl) (by kernel_rfl) (by kernel_rfl) (fun _ _ _ h => False.elim h) (Or.inl ⟨by rfl, ?_⟩) hHeld ?_; rotate_left; (focus (intro w hSw; (try dsimp only at hSw); go_simp; (subst hSw; go_simp; try with_reducible rfl))); (try simp only [Act.put, List.setIfInBounds_toArray, List.set_cons_zero, List.set_cons_succ, List.getElem_toArray, List.getElem_cons_zero, List.getElem_cons_succ]))
        (refine wpAnyH_take (i := 7) (v := ?_) rfl (by kernel_rfl) (by kernel_rfl) (by kernel_rfl) (fun _ _ _ h => False.elim h) (Or.inl ⟨by rfl, ?_⟩) hHeld ?_; rotate_left; (focus (intro w hSw; (try dsimp only at hSw); go_simp; (subst hSw; go_simp; try with_reducible rfl))); (try simp only [Act.put, List.setIfInBounds_toArray, List.set_cons_zero, List.set_cons_succ, List.getElem_toArray, List.getElem_cons_zero, List.getElem_cons_succ]))
        (refine wpAnyH_take (i := 8) (v := ?_) rfl (by kernel_rfl) (by kernel_rfl) (by kernel_rfl) (fun _ _ _ h => False.elim h) (Or.inl ⟨by rfl, ?_⟩) hHeld ?_; rotate_left; (focus (intro w hSw; (try dsimp only at hSw); go_simp; try with_reducible rfl)); (try simp only [Act.put, List.setIfInBounds_toArray, List.set_cons_zero, List.set_cons_succ, List.getElem_toArray, List.getElem_cons_zero, List.getElem_cons_succ])); (refine wpAnyH_take (i := 9) (v := ?_) rfl (by kernel_rfl) (by kernel_rfl) (by kernel_rfl) (fun _ _ _ h => False.elim h) (Or.inl ⟨by rfl, ?_⟩) hHeld ?_; rotate_left; (focus (intro w hSw; (try dsimp only at hSw); go_simp; try with_reducible rfl)); (try simp only [Act.put, List.setIfInBounds_toArray, List.set_cons_zero, List.set_cons_succ, List.getElem_toArray, List.getElem_cons_zero, List.getElem_cons_succ]))
        (refine wpAnyH_take (i := 10) (v := ?_) rfl (by kernel_rfl) (by kernel_rfl) (by kernel_rfl) (fun _ _ _ h => False.elim h) (Or.inl ⟨by rfl, ?_⟩) hHeld ?_; rotate_left; (focus (intro w hSw; (try dsimp only at hSw); go_simp; (subst hSw; go_simp; try with_reducible rfl))); (try simp only [Act.put, List.setIfInBounds_toArray, List.set_cons_zero, List.set_cons_succ, List.getElem_toArray, List.getElem_cons_zero, List.getElem_cons_succ]))
        (refine wpAnyH_take (i := 11) (v := ?_) rfl (by kernel_rfl) (by kernel_rfl) (by kernel_rfl) (fun _ _ _ h => False.elim h) (Or.inl ⟨by rfl, ?_⟩) hHeld ?_; rotate_left; (focus (intro w hSw; (try dsimp only at hSw); go_simp; try with_reducible rfl)); (try simp only [Act.put, List.setIfInBounds_toArray, List.set_cons_zero, List.set_cons_succ, List.getElem_toArray, List.getElem_cons_zero, List.getElem_cons_succ])); (refine wpAnyH_take (i := 12) (v := ?_) rfl (by kernel_rfl) (by kernel_rfl) (by kernel_rfl) (fun _ _ _ h => False.elim h) (Or.inl ⟨by rfl, ?_⟩) hHeld ?_; rotate_left; (focus (intro w hSw; (try dsimp only at hSw); go_simp; try with_reducible rfl)); (try simp only [Act.put, List.setIfInBounds_toArray, List.set_cons_zero, List.set_cons_succ, List.getElem_toArray, List.getElem_cons_zero, List.getElem_cons_succ])); (refine wpAnyH_take (i := 13) (v := ?_) rfl (by kernel_rfl) (by kernel_rfl) (by kernel_rfl) (fun _ _ _ h => False.elim h) (Or.inl ⟨by rfl, ?_⟩) hHeld ?_; rotate_left; (focus (intro w hSw; (try dsimp only at hSw); go_simp; try with_reducible rfl)); (try simp only [Act.put, List.setIfInBounds_toArray, List.set_cons_zero, List.set_cons_succ, List.getElem_toArray, List.getElem_cons_zero, List.getElem_cons_succ]))
        (refine wpAnyH_take (i := 14) (v := ?_) rfl (by kernel_rfl) (by kernel_rfl) (by kernel_rfl) (fun _ _ _ h => False.elim h) (Or.inl ⟨by rfl, ?_⟩) hHeld ?_; rotate_left; (focus (intro w hSw; (try dsimp only at hSw); go_simp; try with_reducible rfl)); (try simp only [Act.put, List.setIfInBounds_toArray, List.set_cons_zero, List.set_cons_succ, List.getElem_toArray, List.getElem_cons_zero, List.getElem_cons_succ]))
        (refine wpAnyH_take (i := 15) (v := ?_) rfl (by kernel_rfl) (by kernel_rfl) (by kernel_rfl) (fun _ _ _ h => False.elim h) (Or.inl ⟨by rfl, ?_⟩) hHeld ?_; rotate_left; (focus (intro w hSw; (try dsimp only at hSw); go_simp; (subst hSw; go_simp; try with_reducible rfl))); (try simp only [Act.put, List.setIfInBounds_toArray, List.set_cons_zero, List.set_cons_succ, List.getElem_toArray, List.getElem_cons_zero, List.getElem_cons_succ]))
        (refine wpAnyH_take (i := 16) (v := ?_) rfl (by kernel_rfl) (by kernel_rfl) (by kernel_rfl) (fun _ _ _ h => False.elim h) (Or.inl ⟨by rfl, ?_⟩) hHeld ?_; rotate_left; (focus (intro w hSw; (try dsimp only at hSw); go_simp; (subst hSw; go_simp; try with_reducible rfl))); (try simp only [Act.put, List.setIfInBounds_toArray, List.set_cons_zero, List.set_cons_succ, List.getElem_toArray, List.getElem_cons_zero, List.getElem_cons_succ]))
        (refine wpAnyH_take (i := 17) (v := ?_) rfl (by kernel_rfl) (by kernel_rfl) (by kernel_rfl) (fun _ _ _ h => False.elim h) (Or.inl ⟨by rfl, ?_⟩) hHeld ?_; rotate_left; (focus (intro w hSw; (try dsimp only at hSw); go_simp; try with_reducible rfl)); (try simp only [Act.put, List.setIfInBounds_toArray, List.set_cons_zero, List.set_cons_succ, List.getElem_toArray, List.getElem_cons_zero, List.getElem_cons_succ])); (refine wpAnyH_take (i := 18) (v := ?_) rfl (by kernel_rfl) (by kernel_rfl) (by kernel_rfl) (fun _ _ _ h => False.elim h) (Or.inl ⟨by rfl, ?_⟩) hHeld ?_; rotate_left; (focus (intro w hSw; (try dsimp only at hSw); go_simp; try with_reducible rfl)); (try simp only [Act.put, List.setIfInBounds_toArray, List.set_cons_zero, List.set_cons_succ, List.getElem_toArray, List.getElem_cons_zero, List.getElem_cons_succ]))
        (refine wpAnyH_take (i := 19) (v := ?_) rfl (by kernel_rfl) (by kernel_rfl) (by kernel_rfl) (fun _ _ _ h => False.elim h) (Or.inl ⟨by rfl, ?_⟩) hHeld ?_; rotate_left; (focus (intro w hSw; (try dsimp only at hSw); go_simp; (subst hSw; go_simp; try with_reducible rfl))); (try simp only [Act.put, List.setIfInBounds_toArray, List.set_cons_zero, List.set_cons_succ, List.getElem_toArray, List.getElem_cons_zero, List.getElem_cons_succ]))
        (refine wpAnyH_take (i := 20) (v := ?_) rfl (by kernel_rfl) (by kernel_rfl) (by kernel_rfl) (fun _ _ _ h => False.elim h) (Or.inl ⟨by rfl, ?_⟩) hHeld ?_; rotate_left; (focus (intro w hSw; (try dsimp only at hSw); go_simp; try with_reducible rfl)); (try simp only [Act.put, List.setIfInBounds_toArray, List.set_cons_zero, List.set_cons_succ, List.getElem_toArray, List.getElem_cons_zero, List.getElem_cons_succ])); (refine wpAnyH_take (i := 21) (v := ?_) rfl (by kernel_rfl) (by kernel_rfl) (by kernel_rfl) (fun _ _ _ h => False.elim h) (Or.inl ⟨by rfl, ?_⟩) hHeld ?_; rotate_left; (focus (intro w hSw; (try dsimp only at hSw); go_simp; try with_reducible rfl)); (try simp only [Act.put, List.setIfInBounds_toArray, List.set_cons_zero, List.set_cons_succ, List.getElem_toArray, List.getElem_cons_zero, List.getElem_cons_succ]))
        refine wpAnyH_done (by kernel_rfl) ?_ _
        simp only [onlyN]
        obtain ⟨W3, hW3⟩ : ∃ W3, W3 = W2.drew := ⟨_, rfl⟩
        rw [← hW3]
        have HM3 : Hid (On w.heap.size (.slice (some ⟨g, o, none⟩) L.length c) m false (pre.length : Nat) W3) := by rw [hW3]; exact On.drew HMM.out
        have HB3 : Hid (Below w.heap.size w W3) := by rw [hW3]; exact HBB.out.drew
        have HK3 : Hid (KeepsFrom w1.heap.size W2 W3) := by rw [hW3]; exact (KeepsOthers.drew _).from _
        have HP3 : Hid (Keep W2 W3) := by rw [hW3]; exact Keep.of_below (Below.refl _ _).drew
        clear hW3 d0 d1 d2 d3 e0 e1 e2 g0 g1 hHeld
        have f3 := HM3.out.c3.frozen 0
        have f2 := HM3.out.c2.frozen 0
        obtain ⟨d0, d1, d2, d3⟩ := HM3.out.cells
        gi_wp2_with fail
        refine ⟨?_, rfl, false, _, fun hp => ?_, HM3.out.putR false, HB3.out.setCell (by simp; omega) _⟩
        · exact HK3.out.trans ((KeepsOthers.setCell _ _ _).from _)
        · rw [List.map_append] at hp
          have := prefix_last hp (by rw [List.length_map]; exact HY.out)
          exact absurd this HD.out
    · have k2 : sameP xa xn ya yn = false := sameP_no (p := (xa, xn)) (q := (ya, yn)) hp
      have HD : Hid (¬ (((xa, xn), xv) : En) = ((ya, yn), yv)) := by intro e; simp only [Prod.mk.injEq] at e; exact hp (Prod.ext e.1.1 e.1.2)
      clear hp
      gi_wp2_with fail
      refine wpIn_region_round (S := fun w' => w' = W2.drew) (by kernel_rfl) (by kernel_rfl) rfl (fun hHeld => ?_)
      (refine wpAnyH_take (i := 0) (v := ?_) rfl (by kernel_rfl) (by kernel_rfl) (by kernel_rfl) (fun _ _ _ h => False.elim h) (Or.inl ⟨by rfl, ?_⟩) hHeld ?_; rotate_left; (focus (intro w hSw; (try dsimp only at hSw); go_simp; (subst hSw; go_simp; try with_reducible rfl))); (try simp only [Act.put, List.setIfInBounds_toArray, List.set_cons_zero, List.set_cons_succ, List.getElem_toArray, List.getElem_cons_zero]))
      (refine wpAnyH_take (i := 1) (v := ?_) rfl (by kernel_rfl) (by kernel_rfl) (by kernel_rfl) (fun _ _ _ h => False.elim h) (Or.inl ⟨by rfl, ?_⟩) hHeld ?_; rotate_left; (focus (intro w hSw; (try dsimp only at hSw); go_simp; (subst hSw; go_simp; try with_reducible rfl))); (try simp only [Act.put, List.setIfInBounds_toArray, List.set_cons_zero, List.set_cons_succ, List.getElem_toArray, List.getElem_cons_zero, List.getElem_cons_succ]))
      (refine wpAnyH_take (i := 2) (v := ?_) rfl (by kernel_rfl) (by kernel_rfl) (by kernel_rfl) (fun _ _ _ h => False.elim h) (Or.inl ⟨by rfl, ?_⟩) hHeld ?_; rotate_left; (focus (intro w hSw; (try dsimp only at hSw); go_simp; try with_reducible rfl)); (try simp only [Act.put, List.setIfInBounds_toArray, List.set_cons_zero, List.set_cons_succ, List.getElem_toArray, List.getElem_cons_zero, List.getElem_cons_succ])); (refine wpAnyH_take (i := 3) (v := ?_) rfl (by kernel_rfl) (by kernel_rfl) (by kernel_rfl) (fun _ _ _ h => False.elim h) (Or.inl ⟨by rfl, ?_⟩) hHeld ?_; rotate_left; (focus (intro w hSw; (try dsimp only at hSw); go_simp; try with_reducible rfl)); (try simp only [Act.put, List.setIfInBounds_toArray, List.set_cons_zero, List.set_cons_succ, List.getElem_toArray, List.getElem_cons_zero, List.getElem_cons_succ])); (refine wpAnyH_take (i := 4) (v := ?_) rfl (by kernel_rfl) (by kernel_rfl) (by kernel_rfl) (fun _ _ _ h => False.elim h) (Or.inl ⟨by rfl, ?_⟩) hHeld ?_; rotate_left; (focus (intro w hSw; (try dsimp only at hSw); go_simp; try with_reducible rfl)); (try simp only [Act.put, List.setIfInBounds_toArray, List.set_cons_zero, List.set_cons_succ, List.getElem_toArray, List.getElem_cons_zero, List.getElem_cons_succ]))
      (refine wpAnyH_take (i := 5) (v := ?_) rfl (by kernel_rfl) (by kernel_rfl) (by kernel_rfl) (fun _ _ _ h => False.elim h) (Or.inl ⟨by rfl, ?_⟩) hHeld ?_; rotate_left; (focus (intro w hSw; (try dsimp only at hSw); go_simp; (subst hSw; go_simp; try with_reducible rfl))); (try simp only [Act.put, List.setIfInBounds_toArray, List.set_cons_zero, List.set_cons_succ, List.getElem_toArray, List.getElem_cons_zero, List.getElem_cons_succ]))
      (refine wpAnyH_take (i := 6) (v := ?_) rfl (by kernel_rfl) (by kernel_rfl) (by kernel_rfl) (fun _ _ _ h => False.elim h) (Or.inl ⟨by rfl, ?_⟩) hHeld ?_; rotate_left; (focus (intro w hSw; (try dsimp only at hSw); go_simp; (subst hSw; go_simp; try with_reducible rfl))); (try simp only [Act.put, List.setIfInBounds_toArray, List.set_cons_zero, List.set_cons_succ, List.getElem_toArray, List.getElem_cons_zero, List.getElem_cons_succ]))
      (refine wpAnyH_take (i := 7) (v := ?_) rfl (by kernel_rfl) (by kernel_rfl) (by kernel_rfl) (fun _ _ _ h => False.elim h) (Or.inl ⟨by rfl, ?_⟩) hHeld ?_; rotate_left; (focus (intro w hSw; (try dsimp only at hSw); go_simp; (subst hSw; go_simp; try with_reducible rfl))); (try simp only [Act.put, List.setIfInBounds_toArray, List.set_cons_zero, List.set_cons_succ, List.getElem_toArray, List.getElem_cons_zero, List.getElem_cons_succ]))
      (refine wpAnyH_take (i := 8) (v := ?_) rfl (by kernel_rfl) (by kernel_rfl) (by kernel_rfl) (fun _ _ _ h => False.elim h) (Or.inl ⟨by rfl, ?_⟩) hHeld ?_; rotate_left; (focus (intro w hSw; (try dsimp only at hSw); go_simp; try with_reducible rfl)); (try simp only [Act.put, List.setIfInBounds_toArray, List.set_cons_zero, List.set_cons_succ, List.getElem_toArray, List.getElem_cons_zero, List.getElem_cons_succ])); (refine wpAnyH_take (i := 9) (v := ?_) rfl (by kernel_rfl) (by kernel_rfl) (by kernel_rfl) (fun _ _ _ h => False.elim h) (Or.inl ⟨by rfl, ?_⟩) hHeld ?_; rotate_left; (focus (intro w hSw; (try dsimp only at hSw); go_simp; try with_reducible rfl)); (try simp only [Act.put, List.setIfInBounds_toArray, List.set_cons_zero, List.set_cons_succ, List.getElem_toArray, List.getElem_cons_zero, List.getElem_cons_succ]))
      (refine wpAnyH_take (i := 10) (v := ?_) rfl (by kernel_rfl) (by kernel_rfl) (by kernel_rfl) (fun _ _ _ h => False.elim h) (Or.inl ⟨by rfl, ?_⟩) hHeld ?_; rotate_left; (focus (intro w hSw; (try dsimp only at hSw); go_simp; (subst hSw; go_simp; try with_reducible rfl))); (try simp only [Act.put, List.setIfInBounds_toArray, List.set_cons_zero, List.set_cons_succ, List.getElem_toArray, List.getElem_cons_zero, List.getElem_cons_succ]))
      (refine wpAnyH_take (i := 11) (v := ?_) rfl (by kernel_rfl) (by kernel_rfl) (by kernel_rfl) (fun _ _ _ h => False.elim h) (Or.inl ⟨by rfl, ?_⟩) hHeld ?_; rotate_left; (focus (intro w hSw; (try dsimp only at hSw); go_simp; try with_reducible rfl)); (try simp only [Act.put, List.setIfInBounds_toArray, List.set_cons_zero, List.set_cons_succ, List.getElem_toArray, List.getElem_cons_zero, List.getElem_cons_succ])); (refine wpAnyH_take (i := 12) (v := ?_) rfl (by kernel_rfl) (by kernel_rfl) (by kernel_rfl) (fun _ _ _ h => False.elim h) (Or.inl ⟨by rfl, ?_⟩) hHeld ?_; rotate_left; (focus (intro w hSw; (try dsimp only at hSw); go_simp; try with_reducible rfl)); (try simp only [Act.put, List.setIfInBounds_toArray, List.set_cons_zero, List.set_cons_succ, List.getElem_toArray, List.getElem_cons_zero, List.getElem_cons_succ])); (refine wpAnyH_take (i := 13) (v := ?_) rfl (by kernel_rfl) (by kernel_rfl) (by kernel_rfl) (fun _ _ _ h => False.elim h) (Or.inl ⟨by rfl, ?_⟩) hHeld ?_; rotate_left; (focus (intro w hSw; (try dsimp only at hSw); go_simp; try with_reducible rfl)); (try simp only [Act.put, List.setIfInBounds_toArray, List.set_cons_zero, List.set_cons_succ, List.getElem_toArray, List.getElem_cons_zero, List.getElem_cons_succ]))
      (refine wpAnyH_take (i := 14) (v := undef) rfl (by kernel_rfl) (by kernel_rfl) (by kernel_rfl) (fun _ _ _ h => False.elim h) (Or.inr ⟨by rfl, rfl⟩) hHeld ?_; (try simp only [Act.put, List.setIfInBounds_toArray, List.set_cons_zero, List.set_cons_succ, List.getElem_toArray, List.getElem_cons_zero, List.getElem_cons_succ])); (refine wpAnyH_take (i := 15) (v := undef) rfl (by kernel_rfl) (by kernel_rfl) (by kernel_rfl) (fun _ _ _ h => False.elim h) (Or.inr ⟨by rfl, rfl⟩) hHeld ?_; (try simp only [Act.put, List.setIfInBounds_toArray, List.set_cons_zero, List.set_cons_succ, List.getElem_toArray, List.getElem_cons_zero, List.getElem_cons_succ])); (refine wpAnyH_take (i := 16) (v := undef) rfl (by kernel_rfl) (by kernel_rfl) (by kernel_rfl) (fun _ _ _ h => False.elim h) (Or.inr ⟨by rfl, rfl⟩) hHeld ?_; (try simp only [Act.put, List.setIfInBounds_toArray, List.set_cons_zero, List.set_cons_succ, List.getElem_toArray, List.getElem_cons_zero, List.getElem_cons_succ])); (refine wpAnyH_take (i := 17) (v := undef) rfl (by kernel_rfl) (by kernel_rfl) (by kernel_rfl) (fun _ _ _ h => False.elim h) (Or.inr ⟨by rfl, rfl⟩) hHeld ?_; (try simp only [Act.put, List.setIfInBounds_toArray, List.set_cons_zero, List.set_cons_succ, List.getElem_toArray, List.getElem_cons_zero, List.getElem_cons_succ])); (refine wpAnyH_take (i := 18) (v := undef) rfl (by kernel_rfl) (by kernel_rfl) (by kernel_rfl) (fun _ _ _ h => False.elim h) (Or.inr ⟨by rfl, rfl⟩) hHeld ?_; (try simp only [Act.put, List.setIfInBounds_toArray, List.set_cons_zero, List.set_cons_succ, List.getElem_toArray, List.getElem_cons_zero, List.getElem_cons_succ])); (refine wpAnyH_take (i := 19) (v := undef) rfl (by kernel_rfl) (by kernel_rfl) (by kernel_rfl) (fun _ _ _ h => False.elim h) (Or.inr ⟨by rfl, rfl⟩) hHeld ?_; (try simp only [Act.put, List.setIfInBounds_toArray, List.set_cons_zero, List.set_cons_succ, List.getElem_toArray, List.getElem_cons_zero, List.getElem_cons_succ])); (refine wpAnyH_take (i := 20) (v := undef) rfl (by kernel_rfl) (by kernel_rfl) (by kernel_rfl) (fun _ _ _ h => False.elim h) (Or.inr ⟨by rfl, rfl⟩) hHeld ?_; (try simp only [Act.put, List.setIfInBounds_toArray, List.set_cons_zero, List.set_cons_succ, List.getElem_toArray, List.getElem_cons_zero, List.getElem_cons_succ]))
      (refine wpAnyH_take (i := 21) (v := ?_) rfl (by kernel_rfl) (by kernel_rfl) (by kernel_rfl) (fun _ _ _ h => False.elim h) (Or.inl ⟨by rfl, ?_⟩) hHeld ?_; rotate_left; (focus (intro w hSw; (try dsimp only at hSw); go_simp; try with_reducible rfl)); (try simp only [Act.put, List.setIfInBounds_toArray, List.set_cons_zero, List.set_cons_succ, List.getElem_toArray, List.getElem_cons_zero, List.getElem_cons_succ]))
      refine wpAnyH_done (by kernel_rfl) ?_ _
      simp only [onlyN]
      obtain ⟨W3, hW3⟩ : ∃ W3, W3 = W2.drew := ⟨_, rfl⟩
      rw [← hW3]
      have HM3 : Hid (On w.heap.size (.slice (some ⟨g, o, none⟩) L.length c) m false (pre.length : Nat) W3) := by rw [hW3]; exact On.drew HMM.out
      have HB3 : Hid (Below w.heap.size w W3) := by rw [hW3]; exact HBB.out.drew
      have HK3 : Hid (KeepsFrom w1.heap.size W2 W3) := by rw [hW3]; exact (KeepsOthers.drew _).from _
      have HP3 : Hid (Keep W2 W3) := by rw [hW3]; exact Keep.of_below (Below.refl _ _).drew
      clear hW3 d0 d1 d2 d3 e0 e1 e2 g0 g1 hHeld
      have f3 := HM3.out.c3.frozen 0
      have f2 := HM3.out.c2.frozen 0
      obtain ⟨d0, d1, d2, d3⟩ := HM3.out.cells
      gi_wp2_with fail
      refine ⟨?_, rfl, false, _, fun hp => ?_, HM3.out.putR false, HB3.out.setCell (by simp; omega) _⟩
      · exact HK3.out.trans ((KeepsOthers.setCell _ _ _).from _)
      · rw [List.map_append] at hp
        have := prefix_last hp (by rw [List.length_map]; exact HY.out)
        exact absurd this HD.out
  case done =>
    rintro D ys W2 hD hys ⟨hp, hm, hb2⟩ hK
    have hn : ys.length = L.length := by have := congrArg List.length hys; rw [List.length_map] at this; exact this
    rw [hn] at hm
    obtain ⟨d0, d1, d2, d3⟩ := hm.cells
    have f2 := hm.c2.frozen 0
    have HMM := Lib.hid (hm.putR true)
    have HBB := Lib.hid hb2
    have HK := Lib.hid hK
    clear hm hb2 hK hys hp hn
    gi_wp2_with fail
    have hK' := (KeepsOthers.setCell W2 ⟨w.heap.size + 1 + 1, 0, none⟩ (.bool true)).same D _ HK.out rfl
    have hg := grownBy_putObj' (W2.setCell ⟨w.heap.size + 1 + 1, 0, none⟩ (.bool true)) D (.deferred none)
    have hr : ∀ r, some D = some r → ∃ o : Obj, (W2.setCell ⟨w.heap.size + 1 + 1, 0, none⟩ (.bool true)).heap[r]? = some o ∧ o.isCells = false := fun r e => by cases e; exact ⟨_, hK', rfl⟩
    obtain ⟨x0, x1, x2, x3⟩ := (On.grown HMM.out hg hr).cells
    refine ⟨by simp, .inl ⟨_, _, rfl, run_takeDeferred hK', ?_⟩⟩
    have hb6 := HBB.out.setCell (p := ⟨w.heap.size + 1 + 1, 0, none⟩) (by simp; omega) (.bool true)
    refine ⟨.bool true, ?_, rfl, hb6.grown hg hb6.size (fun k e => by cases e; omega)⟩
    simp [results, Try.f18, go_sem, x2]
  case stop =>
    rintro D e pre W2 hD hpre ⟨rfl, r, k, hr, hm, hb2⟩ hK
    obtain rfl := hr hpre
    have HMM := Lib.hid hm
    have HBB := Lib.hid hb2
    have HK := Lib.hid hK
    clear hm hb2 hK hr hpre
    gi_wp2_with fail
    have hK' := HK.out
    have hg := grownBy_putObj' (W2) D (.deferred none)
    have hr : ∀ r, some D = some r → ∃ o : Obj, (W2).heap[r]? = some o ∧ o.isCells = false := fun r e => by cases e; exact ⟨_, hK', rfl⟩
    obtain ⟨x0, x1, x2, x3⟩ := (On.grown HMM.out hg hr).cells
    refine ⟨by simp, .inl ⟨_, _, rfl, run_takeDeferred hK', ?_⟩⟩
    refine ⟨.bool true, ?_, rfl, HBB.out.grown hg HBB.out.size (fun k e => by cases e; omega)⟩
    simp [results, Try.f18, go_sem, x2]
theorem onceT {Br Bg : Nat} {L : List En} {u : Value} {w : World} (hS : SeqV w Br Bg L) (hu : EnR w u L) (hL : L.length ≤ 1000000) (m : Int) :
    Calls Try.prog 18 #[seqF Br Bg, u, .int .i64 m] w fun e w' => e = .returned (.bool true) ∧ Below w.heap.size w w' := callsIn_wide.1 (once_in 3 (by omega) hS hu hL m)
end Go.Proofs.Ytbfkjdnopiadjaa
