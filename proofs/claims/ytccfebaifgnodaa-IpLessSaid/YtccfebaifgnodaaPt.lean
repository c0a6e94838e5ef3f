/- The walk of ref03.Parts. -/
import Derived.Test.YtccfebaifgnodaaPl
import Derived.Test.YtccfebaifgnodaaIs
import Derived.Test.YtccfebaifgnodaaRo
import Derived.Deep.AppendLies
namespace Go.Proofs.Ytccfebaifgnodaa
open Go.RowKit
attribute [local go_sem ↓] Go.wp_at_zero Go.wp_at_succ

/-- The cells of parts. -/
def pc (A : List (Nat × Nat)) : List Value := A.flatMap fun p => [.int .i64 (p.1 : Nat), .int .i64 (p.2 : Nat)]
theorem pc_snoc (A : List (Nat × Nat)) (p : Nat × Nat) : pc (A ++ [p]) = pc A ++ [.int .i64 (p.1 : Nat), .int .i64 (p.2 : Nat)] := by unfold pc; rw [List.flatMap_append]; rfl
theorem pc_at : ∀ (A : List (Nat × Nat)) (j : Nat) (p : Nat × Nat), A[j]? = some p → (pc A)[2 * j]? = some (.int .i64 (p.1 : Nat)) ∧ (pc A)[2 * j + 1]? = some (.int .i64 (p.2 : Nat))
  | [], j, p, h => by simp at h
  | q :: A, 0, p, h => by simp at h; subst h; exact ⟨rfl, rfl⟩
  | q :: A, j + 1, p, h => by
    have := pc_at A j p (by simpa using h)
    show (_ :: _ :: pc A)[2 * (j + 1)]? = _ ∧ (_ :: _ :: pc A)[2 * (j + 1) + 1]? = _
    rw [show 2 * (j + 1) = 2 * j + 1 + 1 by omega]
    simpa using this
def PtL (w : World) (B : Nat) (v : Value) (A : List (Nat × Nat)) : Prop := w.ownsRow B 81 2 v A.length (pc A)
/-- The value reads as these parts. -/
def PtR (w : World) (v : Value) (A : List (Nat × Nat)) : Prop :=
  (A = [] ∧ ∃ a c, v = .slice a 0 c) ∨
  ∃ b o c, v = .slice (some ⟨b, o, none⟩) A.length c ∧ b < w.heap.size ∧ ∀ (j : Nat) (p : Nat × Nat), A[j]? = some p → w.cell? ⟨b, o + 2 * j, none⟩ = some (.int .i64 (p.1 : Nat)) ∧ w.cell? ⟨b, o + (2 * j + 1), none⟩ = some (.int .i64 (p.2 : Nat))
theorem PtL.form {w : World} {B : Nat} {v : Value} {A : List (Nat × Nat)} (h : PtL w B v A) : ∃ a c, v = .slice a A.length c := by
  rcases h.2 with ⟨rfl, h0⟩ | ⟨g, cap, cur, rfl, _⟩
  · exact ⟨none, 0, by rw [h0]⟩
  · exact ⟨_, _, rfl⟩
theorem PtL.reads {w : World} {B : Nat} {v : Value} {A : List (Nat × Nat)} (h : PtL w B v A) : PtR w v A := by
  rcases h.2 with ⟨rfl, h0⟩ | ⟨g, cap, cur, rfl, hb, hg, hn, hm, hc, ht⟩
  · have : A = [] := List.length_eq_zero_iff.1 h0
    subst this
    exact .inl ⟨rfl, _, _, rfl⟩
  · refine .inr ⟨g, 0, cap, rfl, (Array.getElem?_eq_some_iff.1 hg).1, fun j p hj => ?_⟩
    obtain ⟨e0, e1⟩ := pc_at A j p hj
    have hcell : ∀ i x, (pc A)[i]? = some x → w.cell? ⟨g, 0 + i, none⟩ = some x := fun i x hx => by
      rw [Nat.zero_add, cell_of_row w g i cur _ (0, 0) hg]
      rw [← ht, List.getElem?_take] at hx
      split at hx
      · simpa using hx
      · cases hx
    exact ⟨hcell _ _ e0, hcell _ _ e1⟩
theorem PtR.later {w w' : World} {v : Value} {A : List (Nat × Nat)} (h : PtR w v A) (hb : Below w.heap.size w w') : PtR w' v A := by
  rcases h with h | ⟨b, o, c, h1, h2, h3⟩
  · exact .inl h
  · exact .inr ⟨b, o, c, h1, Nat.lt_of_lt_of_le h2 hb.size, fun j p hj => ⟨cell_later' hb h2 (h3 j p hj).1, cell_later' hb h2 (h3 j p hj).2⟩⟩
theorem PtR.form {w : World} {v : Value} {A : List (Nat × Nat)} (h : PtR w v A) : ∃ a c, v = .slice a A.length c := by
  rcases h with ⟨rfl, a, c, rfl⟩ | ⟨b, o, c, h1, _⟩
  · exact ⟨a, c, rfl⟩
  · exact ⟨_, _, h1⟩
theorem PtR.at {w : World} {a : Option Addr} {n c : Nat} {A : List (Nat × Nat)} (h : PtR w (.slice a n c) A) {j : Nat} {p : Nat × Nat} (hj : A[j]? = some p) :
    ∃ b o, a = some ⟨b, o, none⟩ ∧ b < w.heap.size ∧ w.cell? ⟨b, o + 2 * j, none⟩ = some (.int .i64 (p.1 : Nat)) ∧ w.cell? ⟨b, o + (2 * j + 1), none⟩ = some (.int .i64 (p.2 : Nat)) := by
  rcases h with ⟨rfl, _⟩ | ⟨b, o, c', h1, h2, h3⟩
  · simp at hj
  · simp only [Value.slice.injEq] at h1
    obtain ⟨rfl, _, _⟩ := h1
    exact ⟨b, o, rfl, h2, h3 j p hj⟩
theorem news_two (w : World) (x y : Value) (t : TypeId) : ∀ (j : Nat) (u : Value), [x, y][j]? = some u → (w.alloc (.cells #[x, y] t)).cell? ((⟨w.heap.size, 0, none⟩ : Addr).add j) = some u := by
  intro j u hj
  match j, hj with
  | 0, hj => simp at hj; subst hj; simp [Addr.add]
  | 1, hj => simp at hj; subst hj; simp [Addr.add]
theorem one_two (x y : Int) : ∀ u ∈ [Value.int .i64 x, Value.int .i64 y], u.oneCell' = true := by intro u hu; simp at hu; rcases hu with rfl | rfl <;> rfl
/-- The parts, and may they be? -/
def PartsA (w : World) (L : List UInt8) (e : Ending) (w' : World) : Prop :=
  (∃ v A, e = .returned (.tuple #[v, .bool true]) ∧ PtL w' w.heap.size v A ∧ PtsOf L A ∧ Below w.heap.size w w') ∨ (e = .returned (.tuple #[.slice none 0 0, .bool false]) ∧ Om.ok L = false ∧ Below w.heap.size w w')

set_option maxHeartbeats 4000000 in
set_option maxRecDepth 100000 in
theorem partsW_any (v0 : Value) (L : List UInt8) (hL : L.length ≤ 1000) (w : World) (hv : Bytes w v0 L) :
    Calls Try.prog 40 #[v0] w (PartsA w L) := by
  obtain ⟨a, c, rfl⟩ := hv.form
  have hi5 : (Try.prog.info? 81).map (fun i => (i.zero, i.size, i.bytes)) = some (some (.agg #[.int .i64 0, .int .i64 0]), 2, 16) := by kernel_rfl
  obtain ⟨i0, hi, hx⟩ := Option.map_eq_some_iff.1 hi5
  simp only [Prod.mk.injEq] at hx
  obtain ⟨hz0, hz1, hz2⟩ := hx
  have HV := Lib.hid hv
  have hL2 : (L.length : Int) ≤ 1000 := by omega
  clear hi5 hv
  go_enter Try.func40, Try.ntmps40
  go_wp2_with fail
  go_loopw [4, 5, 6] (fun v i n wr => ∃ (A : List (Nat × Nat)) (k : Nat), i = .int .i64 (k : Nat) ∧ PtInv L A k ∧ Hid (PtL wr w.heap.size v A) ∧ Hid (Below w.heap.size w wr)) (fun _ i _ _ => L.length - (intOf i).toNat)
  case atStart => exact ⟨[], 0, rfl, PtInv.start L, World.ownsRow_nil w _ _ _, Below.refl _ _⟩
  case round =>
    obtain ⟨A, k, rfl, hinv, HW, HB⟩ := hrel
    have hkl := hinv.le
    have hal := hinv.al
    have HI := Lib.hid hinv
    clear hinv
    by_cases hlt : k < L.length
    · obtain ⟨bx, ox, rfl, hbx, hex⟩ := HV.out.at1 hlt
      have hcell := cell_later' HB.out hbx hex
      have hx256 := Sm.at0_lt L k
      obtain ⟨x, hx⟩ : ∃ x : Nat, x = Sm.at0 L k := ⟨_, rfl⟩
      rw [← hx] at hcell hx256
      have HX := Lib.hid hx
      have g1 : (k : Int) < L.length := by omega
      clear hex hx
      by_cases h0 : x = 0
      · have g2 : ((x : Int) == 0) = true := by rw [beq_iff_eq]; omega
        have HE := Lib.hid (HI.out.stop (.inr (by rw [← HX.out]; exact h0)))
        clear h0
        go_wp2_with fail
        go_ret2
        exact .inl ⟨_, A, rfl, HW.out, HE.out, HB.out⟩
      · have g2 : ((x : Int) == 0) = false := by rw [beq_eq_false_iff_ne]; omega
        by_cases h1 : x = 1
        · have g3 : ((x : Int) != 1) = false := by simp; omega
          have HN := Lib.hid (HI.out.nop hlt (by rw [← HX.out]; exact h1))
          clear h0 h1
          go_wp2_with (at_builtin; refine wpList_append_own _ rfl _ _ 65 rfl w.heap.size 81 i0 (.agg #[.int .i64 0, .int .i64 0]) 2 16 Try.underlying65 hi hz0 hz1 hz2 rfl (by decide) _ _ _ rfl (HW.out.alloc _) ⟨wr.heap.size, 0, none⟩ 1 1 [.int .i64 (k : Nat), .int .i64 1] rfl rfl (news_two wr _ _ _) (one_two _ _) (by unfold maxLen; omega) (by omega) (by simp; exact Nat.le_succ_of_le HB.out.size) ?_)
          intro v1 w1 hown hgrow _
          have hown2 : Hid (PtL w1 w.heap.size v1 (A ++ [(k, 1)])) := by
            show World.ownsRow _ _ _ _ _ _ _
            rw [pc_snoc, List.length_append]; exact hown
          have hB2 : Hid (Below w.heap.size w w1) := (HB.out.alloc HB.out.size _).grown hgrow (by simp; exact Nat.le_succ_of_le HB.out.size) (fun j hj => own_base HW.out hj)
          clear hown hgrow
          go_wp2_with fail
          go_roundw
          case rel => exact ⟨A ++ [(k, 1)], k + 1, by go_num, HN.out, hown2, hB2⟩
          case measure => simp [intOf]; omega
        · have g3 : ((x : Int) != 1) = true := by simp; omega
          by_cases h2 : k + 1 < L.length
          · obtain ⟨bx', ox', e1, _, hex2⟩ := HV.out.at1 h2
            simp only [Option.some.injEq, Addr.mk.injEq, and_true] at e1
            obtain ⟨rfl, rfl⟩ := e1
            have hcell2 := cell_later' HB.out hbx hex2
            have hy256 := Sm.at0_lt L (k + 1)
            obtain ⟨y, hy⟩ : ∃ y : Nat, y = Sm.at0 L (k + 1) := ⟨_, rfl⟩
            rw [← hy] at hcell2 hy256
            have HY := Lib.hid hy
            have g4 : (k : Int) + 1 < L.length := by omega
            clear hex2 hy
            by_cases h3 : y < 2
            · have g5 : (y : Int) < 2 := by omega
              have HE := Lib.hid (HI.out.bad hlt (by rw [← HX.out]; omega) (.inr (.inl (by rw [← HY.out]; exact h3))))
              clear h0 h1 h3
              go_wp2_with fail
              go_ret2
              exact .inr ⟨rfl, HE.out, HB.out⟩
            · have g5 : ((y : Int) < 2) = False := by simp; omega
              by_cases h4 : k + y ≤ L.length
              · have g6 : (k : Int) + y ≤ L.length := by omega
                have HN := Lib.hid (HI.out.opt (by rw [← HX.out]; omega) HY.out (by omega) h4)
                have h5 : 2 ≤ y := by omega
                clear h0 h1 h3
                go_wp2_with (at_builtin; refine wpList_append_own _ rfl _ _ 65 rfl w.heap.size 81 i0 (.agg #[.int .i64 0, .int .i64 0]) 2 16 Try.underlying65 hi hz0 hz1 hz2 rfl (by decide) _ _ _ rfl (HW.out.alloc _) ⟨wr.heap.size, 0, none⟩ 1 1 [.int .i64 (k : Nat), .int .i64 (y : Nat)] rfl rfl (news_two wr _ _ _) (one_two _ _) (by unfold maxLen; omega) (by omega) (by simp; exact Nat.le_succ_of_le HB.out.size) ?_)
                intro v1 w1 hown hgrow _
                have hown2 : Hid (PtL w1 w.heap.size v1 (A ++ [(k, y)])) := by
                  show World.ownsRow _ _ _ _ _ _ _
                  rw [pc_snoc, List.length_append]; exact hown
                have hB2 : Hid (Below w.heap.size w w1) := (HB.out.alloc HB.out.size _).grown hgrow (by simp; exact Nat.le_succ_of_le HB.out.size) (fun j hj => own_base HW.out hj)
                clear hown hgrow
                go_wp2_with fail
                go_roundw
                case rel => exact ⟨A ++ [(k, y)], k + y, by go_num, HN.out, hown2, hB2⟩
                case measure => simp [intOf]; omega
              · have g6 : (L.length : Int) < k + y := by omega
                have HE := Lib.hid (HI.out.bad hlt (by rw [← HX.out]; omega) (.inr (.inr (by rw [← HY.out]; omega))))
                clear h0 h1 h3 h4
                go_wp2_with fail
                go_ret2
                exact .inr ⟨rfl, HE.out, HB.out⟩
          · have g4 : (L.length : Int) ≤ k + 1 := by omega
            have HE := Lib.hid (HI.out.bad hlt (by rw [← HX.out]; omega) (.inl (by omega)))
            clear h0 h1 h2
            go_wp2_with fail
            go_ret2
            exact .inr ⟨rfl, HE.out, HB.out⟩
    · have g1 : (L.length : Int) ≤ k := by omega
      have HE := Lib.hid (HI.out.stop (.inl (by omega)))
      go_wp2_with fail
      go_ret2
      exact .inl ⟨_, A, rfl, HW.out, HE.out, HB.out⟩
end Go.Proofs.Ytccfebaifgnodaa
