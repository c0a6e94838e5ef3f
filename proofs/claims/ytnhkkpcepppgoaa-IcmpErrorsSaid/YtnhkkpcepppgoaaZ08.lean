/- A region that draws its order, in a round of a range over a function: by its plain walk. No function of the program in it.
   The walk of ip.Copied.
   The walk of ref03.Parts.
   A reference's parts of options: plain mathematics. -/
import Derived.Deep.AppendLies
import Derived.RangeFuncNested
import Derived.RangeFuncCalls
import Derived.OwnWalkIn
import Derived.Test.YtnhkkpcepppgoaaZ01
import Derived.Test.YtnhkkpcepppgoaaZ02
import Derived.Test.YtnhkkpcepppgoaaZ03
import Derived.Test.YtnhkkpcepppgoaaZ04

set_option linter.unusedSimpArgs false
set_option linter.unusedVariables false
namespace Go.Proofs.Ytnhkkpcepppgoaa
open Sm

theorem ok_nil : Om.ok [] = true := by unfold Om.ok; rw [Om.seq_nil]; rfl
theorem ok_end {l : List UInt8} (h : at0 l 0 = 0) : Om.ok l = true := by unfold Om.ok; rw [Om.seq_end h]; rfl
theorem ok_nop {l : List UInt8} (h0 : 0 < l.length) (h : at0 l 0 = 1) : Om.ok l = Om.ok (l.drop 1) := by unfold Om.ok; rw [Om.seq_nop h0 h]
theorem ok_bad {l : List UInt8} (h0 : 0 < l.length) (h1 : 2 ≤ at0 l 0) (h : l.length < 2 ∨ at0 l 1 < 2 ∨ l.length < at0 l 1) : Om.ok l = false := by unfold Om.ok; rw [Om.seq_bad h0 h1 h]; rfl
theorem ok_opt {l : List UInt8} (h1 : 2 ≤ at0 l 0) (h2 : 2 ≤ at0 l 1) (h3 : at0 l 1 ≤ l.length) : Om.ok l = Om.ok (l.drop (at0 l 1)) := by unfold Om.ok; rw [Om.seq_opt h1 h2 h3, List.contains_cons]; simp
theorem fm_nil : (Om.seq []).filterMap id = [] := by rw [Om.seq_nil]; rfl
theorem fm_end {l : List UInt8} (h : at0 l 0 = 0) : (Om.seq l).filterMap id = [] := by rw [Om.seq_end h]; rfl
theorem fm_nop {l : List UInt8} (h0 : 0 < l.length) (h : at0 l 0 = 1) : (Om.seq l).filterMap id = (Om.seq (l.drop 1)).filterMap id := by rw [Om.seq_nop h0 h]
theorem fm_opt {l : List UInt8} (h1 : 2 ≤ at0 l 0) (h2 : 2 ≤ at0 l 1) (h3 : at0 l 1 ≤ l.length) : (Om.seq l).filterMap id = l.take (at0 l 1) :: (Om.seq (l.drop (at0 l 1))).filterMap id := by rw [Om.seq_opt h1 h2 h3]; simp
/-- The bytes of a part. -/
def cutP (L : List UInt8) (p : Nat × Nat) : List UInt8 := (L.drop p.1).take p.2
/-- What of the parts is an option. -/
def rawsP (L : List UInt8) (A : List (Nat × Nat)) : List (List UInt8) := (A.filter fun p => at0 L p.1 != 1).map (cutP L)
theorem rawsP_snoc (L : List UInt8) (A : List (Nat × Nat)) (p : Nat × Nat) : rawsP L (A ++ [p]) = rawsP L A ++ (if at0 L p.1 = 1 then [] else [cutP L p]) := by
  unfold rawsP
  rw [List.filter_append, List.map_append]
  by_cases h : at0 L p.1 = 1 <;> simp [h]
/-- A part that lies in the bytes. -/
def PtOk (L : List UInt8) (p : Nat × Nat) : Prop := 1 ≤ p.2 ∧ p.1 + p.2 ≤ L.length ∧ (at0 L p.1 ≠ 1 → 2 ≤ p.2 ∧ 2 ≤ at0 L p.1)
/-- While the parts are gathered: those up to i. -/
structure PtInv (L : List UInt8) (A : List (Nat × Nat)) (i : Nat) : Prop where
  le : i ≤ L.length
  al : A.length ≤ i
  pts : ∀ p ∈ A, PtOk L p
  ok : Om.ok L = Om.ok (L.drop i)
  raws : (Om.seq L).filterMap id = rawsP L A ++ (Om.seq (L.drop i)).filterMap id
theorem PtInv.start (L : List UInt8) : PtInv L [] 0 := ⟨Nat.zero_le _, Nat.le_refl _, by simp, rfl, rfl⟩
theorem at0_dr (L : List UInt8) (i j : Nat) : at0 (L.drop i) j = at0 L (i + j) := by unfold at0; rw [List.getElem?_drop]
theorem PtInv.nop {L : List UInt8} {A : List (Nat × Nat)} {i : Nat} (h : PtInv L A i) (hi : i < L.length) (h1 : at0 L i = 1) : PtInv L (A ++ [(i, 1)]) (i + 1) := by
  obtain ⟨a, b, c, d, e⟩ := h
  have h0 : 0 < (L.drop i).length := by rw [List.length_drop]; omega
  have h2 : at0 (L.drop i) 0 = 1 := by rw [at0_dr]; exact h1
  refine ⟨hi, by simp; omega, fun p hp => ?_, ?_, ?_⟩
  · rcases List.mem_append.1 hp with h | h
    · exact c p h
    · rw [List.mem_singleton.1 h]; exact ⟨Nat.le_refl _, hi, fun h => absurd h1 h⟩
  · rw [d, ok_nop h0 h2, List.drop_drop]
  · rw [e, fm_nop h0 h2, List.drop_drop, rawsP_snoc, if_pos h1, List.append_nil]
theorem PtInv.opt {L : List UInt8} {A : List (Nat × Nat)} {i n : Nat} (h : PtInv L A i) (h0 : 2 ≤ at0 L i) (hn : n = at0 L (i + 1)) (h2 : 2 ≤ n) (h3 : i + n ≤ L.length) : PtInv L (A ++ [(i, n)]) (i + n) := by
  obtain ⟨a, b, c, d, e⟩ := h
  have k0 : 2 ≤ at0 (L.drop i) 0 := by rw [at0_dr]; exact h0
  have k1 : at0 (L.drop i) 1 = n := by rw [at0_dr]; exact hn.symm
  refine ⟨h3, by simp; omega, fun p hp => ?_, ?_, ?_⟩
  · rcases List.mem_append.1 hp with h | h
    · exact c p h
    · rw [List.mem_singleton.1 h]; exact ⟨by omega, h3, fun _ => ⟨h2, h0⟩⟩
  · rw [d, ok_opt k0 (by omega) (by rw [k1, List.length_drop]; omega), k1, List.drop_drop]
  · rw [e, fm_opt k0 (by omega) (by rw [k1, List.length_drop]; omega), k1, List.drop_drop, rawsP_snoc, if_neg (show ¬ at0 L i = 1 by omega), List.append_assoc]; rfl
theorem PtInv.bad {L : List UInt8} {A : List (Nat × Nat)} {i : Nat} (h : PtInv L A i) (hi : i < L.length) (h0 : 2 ≤ at0 L i) (hb : L.length ≤ i + 1 ∨ at0 L (i + 1) < 2 ∨ L.length < i + at0 L (i + 1)) : Om.ok L = false := by
  rw [h.ok, ok_bad (by rw [List.length_drop]; omega) (by rw [at0_dr]; exact h0)]
  rw [at0_dr, List.length_drop]; omega
/-- All parts. -/
structure PtsOf (L : List UInt8) (A : List (Nat × Nat)) : Prop where
  al : A.length ≤ L.length
  pts : ∀ p ∈ A, PtOk L p
  ok : Om.ok L = true
  raws : Om.raws L = rawsP L A
theorem PtInv.stop {L : List UInt8} {A : List (Nat × Nat)} {i : Nat} (h : PtInv L A i) (hs : L.length ≤ i ∨ at0 L i = 0) : PtsOf L A := by
  obtain ⟨a, b, c, d, e⟩ := h
  have k : Om.ok (L.drop i) = true ∧ (Om.seq (L.drop i)).filterMap id = [] := by
    rcases hs with h | h
    · rw [List.drop_eq_nil_of_le h]; exact ⟨ok_nil, fm_nil⟩
    · have : at0 (L.drop i) 0 = 0 := by rw [at0_dr]; exact h
      exact ⟨ok_end this, fm_end this⟩
  have hok : Om.ok L = true := by rw [d]; exact k.1
  exact ⟨by omega, c, hok, by unfold Om.raws; rw [hok, if_pos rfl, e, k.2, List.append_nil]⟩
theorem at0_tk {l : List UInt8} {n i : Nat} (h : i < n) : at0 (l.take n) i = at0 l i := by unfold at0; rw [List.getElem?_take, if_pos h]
theorem at0_cut {L : List UInt8} {p : Nat × Nat} (h : PtOk L p) : at0 (cutP L p) 0 = at0 L p.1 := by
  have := h.1
  unfold cutP; rw [at0_tk (by omega), at0_dr]; rfl
theorem cut_len {L : List UInt8} {p : Nat × Nat} (h : PtOk L p) : (cutP L p).length = p.2 := by
  have := h.2.1
  unfold cutP; rw [List.length_take, List.length_drop]; omega
theorem any_raws {L : List UInt8} (f : Nat → Bool) (hf : f 1 = false) : ∀ A : List (Nat × Nat), (∀ p ∈ A, PtOk L p) → ((rawsP L A).any fun r => f (at0 r 0)) = A.any fun p => f (at0 L p.1)
  | [], _ => rfl
  | p :: A, h => by
    have ih := any_raws f hf A (fun q hq => h q (List.mem_cons_of_mem _ hq))
    have hp := at0_cut (h p (List.mem_cons_self ..))
    unfold rawsP at ih ⊢
    by_cases h1 : at0 L p.1 = 1
    · rw [List.filter_cons_of_neg (by simp [h1]), ih, List.any_cons, h1, hf, Bool.false_or]
    · rw [List.filter_cons_of_pos (by simp [h1]), List.map_cons, List.any_cons, ih, List.any_cons, hp]
theorem flat_raws {L : List UInt8} : ∀ A : List (Nat × Nat), (∀ p ∈ A, PtOk L p) → ((rawsP L A).flatMap fun r => if 128 ≤ at0 r 0 then r else []) = A.flatMap fun p => if 128 ≤ at0 L p.1 then cutP L p else []
  | [], _ => rfl
  | p :: A, h => by
    have ih := flat_raws A (fun q hq => h q (List.mem_cons_of_mem _ hq))
    have hp := at0_cut (h p (List.mem_cons_self ..))
    unfold rawsP at ih ⊢
    by_cases h1 : at0 L p.1 = 1
    · rw [List.filter_cons_of_neg (by simp [h1]), ih, List.flatMap_cons, if_neg (by omega), List.nil_append]
    · rw [List.filter_cons_of_pos (by simp [h1]), List.map_cons, List.flatMap_cons, ih, List.flatMap_cons, hp]
end Go.Proofs.Ytnhkkpcepppgoaa

namespace Go.Proofs.Ytnhkkpcepppgoaa
open Go.RowKit
attribute [local go_sem ↓] Go.wp_at_zero Go.wp_at_succ

/-- The cells of parts. -/
def pc (A : List (Nat × Nat)) : List Value := A.flatMap fun p => [.int .i64 (p.1 : Nat), .int .i64 (p.2 : Nat)]
theorem pc_snoc (A : List (Nat × Nat)) (p : Nat × Nat) : pc (A ++ [p]) = pc A ++ [.int .i64 (p.1 : Nat), .int .i64 (p.2 : Nat)] := by unfold pc; rw [List.flatMap_append]; rfl
theorem pc_at : ∀ (A : List (Nat × Nat)) (j : Nat) (p : Nat × Nat), A[j]? = some p → (pc A)[2 * j]? = some (.int .i64 (p.1 : Nat)) ∧ (pc A)[2 * j + 1]? = some (.int .i64 (p.2 : Nat))
  | [], j, p, h => by simp at h
  | q :: A, 0, p, h => by simp at h; subst h; exact ⟨rfl, rfl⟩
  | q :: A, j + 1, p, h => by
    have := pc_at A j p (by simpa using h)
    show (_ :: _ :: pc A)[2 * (j + 1)]? = _ ∧ (_ :: _ :: pc A)[2 * (j + 1) + 1]? = _
    rw [show 2 * (j + 1) = 2 * j + 1 + 1 by omega]
    simpa using this
def PtL (w : World) (B : Nat) (v : Value) (A : List (Nat × Nat)) : Prop := w.ownsRow B 112 2 v A.length (pc A)
/-- The value reads as these parts. -/
def PtR (w : World) (v : Value) (A : List (Nat × Nat)) : Prop :=
  (A = [] ∧ ∃ a c, v = .slice a 0 c) ∨
  ∃ b o c, v = .slice (some ⟨b, o, none⟩) A.length c ∧ b < w.heap.size ∧ ∀ (j : Nat) (p : Nat × Nat), A[j]? = some p → w.cell? ⟨b, o + 2 * j, none⟩ = some (.int .i64 (p.1 : Nat)) ∧ w.cell? ⟨b, o + (2 * j + 1), none⟩ = some (.int .i64 (p.2 : Nat))
theorem PtL.form {w : World} {B : Nat} {v : Value} {A : List (Nat × Nat)} (h : PtL w B v A) : ∃ a c, v = .slice a A.length c := by
  rcases h.2 with ⟨rfl, h0⟩ | ⟨g, cap, cur, rfl, _⟩
  · exact ⟨none, 0, by rw [h0]⟩
  · exact ⟨_, _, rfl⟩
theorem PtL.reads {w : World} {B : Nat} {v : Value} {A : List (Nat × Nat)} (h : PtL w B v A) : PtR w v A := by
  rcases h.2 with ⟨rfl, h0⟩ | ⟨g, cap, cur, rfl, hb, hg, hn, hm, hc, ht⟩
  · have : A = [] := List.length_eq_zero_iff.1 h0
    subst this
    exact .inl ⟨rfl, _, _, rfl⟩
  · refine .inr ⟨g, 0, cap, rfl, (Array.getElem?_eq_some_iff.1 hg).1, fun j p hj => ?_⟩
    obtain ⟨e0, e1⟩ := pc_at A j p hj
    have hcell : ∀ i x, (pc A)[i]? = some x → w.cell? ⟨g, 0 + i, none⟩ = some x := fun i x hx => by
      rw [Nat.zero_add, cell_of_row w g i cur _ (0, 0) hg]
      rw [← ht, List.getElem?_take] at hx
      split at hx
      · simpa using hx
      · cases hx
    exact ⟨hcell _ _ e0, hcell _ _ e1⟩
theorem PtR.later {w w' : World} {v : Value} {A : List (Nat × Nat)} (h : PtR w v A) (hb : Below w.heap.size w w') : PtR w' v A := by
  rcases h with h | ⟨b, o, c, h1, h2, h3⟩
  · exact .inl h
  · exact .inr ⟨b, o, c, h1, Nat.lt_of_lt_of_le h2 hb.size, fun j p hj => ⟨cell_later' hb h2 (h3 j p hj).1, cell_later' hb h2 (h3 j p hj).2⟩⟩
theorem PtR.form {w : World} {v : Value} {A : List (Nat × Nat)} (h : PtR w v A) : ∃ a c, v = .slice a A.length c := by
  rcases h with ⟨rfl, a, c, rfl⟩ | ⟨b, o, c, h1, _⟩
  · exact ⟨a, c, rfl⟩
  · exact ⟨_, _, h1⟩
theorem PtR.at {w : World} {a : Option Addr} {n c : Nat} {A : List (Nat × Nat)} (h : PtR w (.slice a n c) A) {j : Nat} {p : Nat × Nat} (hj : A[j]? = some p) :
    ∃ b o, a = some ⟨b, o, none⟩ ∧ b < w.heap.size ∧ w.cell? ⟨b, o + 2 * j, none⟩ = some (.int .i64 (p.1 : Nat)) ∧ w.cell? ⟨b, o + (2 * j + 1), none⟩ = some (.int .i64 (p.2 : Nat)) := by
  rcases h with ⟨rfl, _⟩ | ⟨b, o, c', h1, h2, h3⟩
  · simp at hj
  · simp only [Value.slice.injEq] at h1
    obtain ⟨rfl, _, _⟩ := h1
    exact ⟨b, o, rfl, h2, h3 j p hj⟩
theorem news_two (w : World) (x y : Value) (t : TypeId) : ∀ (j : Nat) (u : Value), [x, y][j]? = some u → (w.alloc (.cells #[x, y] t)).cell? ((⟨w.heap.size, 0, none⟩ : Addr).add j) = some u := by
  intro j u hj
  match j, hj with
  | 0, hj => simp at hj; subst hj; simp [Addr.add]
  | 1, hj => simp at hj; subst hj; simp [Addr.add]
theorem one_two (x y : Int) : ∀ u ∈ [Value.int .i64 x, Value.int .i64 y], u.oneCell' = true := by intro u hu; simp at hu; rcases hu with rfl | rfl <;> rfl
/-- The parts, and may they be? -/
def PartsA (w : World) (L : List UInt8) (e : Ending) (w' : World) : Prop :=
  (∃ v A, e = .returned (.tuple #[v, .bool true]) ∧ PtL w' w.heap.size v A ∧ PtsOf L A ∧ Below w.heap.size w w') ∨ (e = .returned (.tuple #[.slice none 0 0, .bool false]) ∧ Om.ok L = false ∧ Below w.heap.size w w')

set_option maxHeartbeats 4000000 in
set_option maxRecDepth 100000 in
theorem partsW_any (v0 : Value) (L : List UInt8) (hL : L.length ≤ 1000) (w : World) (hv : Bytes w v0 L) :
    Calls Try.prog 57 #[v0] w (PartsA w L) := by
  obtain ⟨a, c, rfl⟩ := hv.form
  have hi5 : (Try.prog.info? 112).map (fun i => (i.zero, i.size, i.bytes)) = some (some (.agg #[.int .i64 0, .int .i64 0]), 2, 16) := by kernel_rfl
  obtain ⟨i0, hi, hx⟩ := Option.map_eq_some_iff.1 hi5
  simp only [Prod.mk.injEq] at hx
  obtain ⟨hz0, hz1, hz2⟩ := hx
  have HV := Lib.hid hv
  have hL2 : (L.length : Int) ≤ 1000 := by omega
  clear hi5 hv
  go_enter Try.func57, Try.ntmps57
  go_wp2_with fail
  go_loopw [4, 5, 6] (fun v i n wr => ∃ (A : List (Nat × Nat)) (k : Nat), i = .int .i64 (k : Nat) ∧ PtInv L A k ∧ Hid (PtL wr w.heap.size v A) ∧ Hid (Below w.heap.size w wr)) (fun _ i _ _ => L.length - (intOf i).toNat)
  case atStart => exact ⟨[], 0, rfl, PtInv.start L, World.ownsRow_nil w _ _ _, Below.refl _ _⟩
  case round =>
    obtain ⟨A, k, rfl, hinv, HW, HB⟩ := hrel
    have hkl := hinv.le
    have hal := hinv.al
    have HI := Lib.hid hinv
    clear hinv
    by_cases hlt : k < L.length
    · obtain ⟨bx, ox, rfl, hbx, hex⟩ := HV.out.at1 hlt
      have hcell := cell_later' HB.out hbx hex
      have hx256 := Sm.at0_lt L k
      obtain ⟨x, hx⟩ : ∃ x : Nat, x = Sm.at0 L k := ⟨_, rfl⟩
      rw [← hx] at hcell hx256
      have HX := Lib.hid hx
      have g1 : (k : Int) < L.length := by omega
      clear hex hx
      by_cases h0 : x = 0
      · have g2 : ((x : Int) == 0) = true := by rw [beq_iff_eq]; omega
        have HE := Lib.hid (HI.out.stop (.inr (by rw [← HX.out]; exact h0)))
        clear h0
        go_wp2_with fail
        go_ret2
        exact .inl ⟨_, A, rfl, HW.out, HE.out, HB.out⟩
      · have g2 : ((x : Int) == 0) = false := by rw [beq_eq_false_iff_ne]; omega
        by_cases h1 : x = 1
        · have g3 : ((x : Int) != 1) = false := by simp; omega
          have HN := Lib.hid (HI.out.nop hlt (by rw [← HX.out]; exact h1))
          clear h0 h1
          go_wp2_with (at_builtin; refine wpList_append_own _ rfl _ _ 81 rfl w.heap.size 112 i0 (.agg #[.int .i64 0, .int .i64 0]) 2 16 Try.underlying81 hi hz0 hz1 hz2 rfl (by decide) _ _ _ rfl (HW.out.alloc _) ⟨wr.heap.size, 0, none⟩ 1 1 [.int .i64 (k : Nat), .int .i64 1] rfl rfl (news_two wr _ _ _) (one_two _ _) (by unfold maxLen; omega) (by omega) (by simp; exact Nat.le_succ_of_le HB.out.size) ?_)
          intro v1 w1 hown hgrow _
          have hown2 : Hid (PtL w1 w.heap.size v1 (A ++ [(k, 1)])) := by
            show World.ownsRow _ _ _ _ _ _ _
            rw [pc_snoc, List.length_append]; exact hown
          have hB2 : Hid (Below w.heap.size w w1) := (HB.out.alloc HB.out.size _).grown hgrow (by simp; exact Nat.le_succ_of_le HB.out.size) (fun j hj => own_base HW.out hj)
          clear hown hgrow
          go_wp2_with fail
          go_roundw
          case rel => exact ⟨A ++ [(k, 1)], k + 1, by go_num, HN.out, hown2, hB2⟩
          case measure => simp [intOf]; omega
        · have g3 : ((x : Int) != 1) = true := by simp; omega
          by_cases h2 : k + 1 < L.length
          · obtain ⟨bx', ox', e1, _, hex2⟩ := HV.out.at1 h2
            simp only [Option.some.injEq, Addr.mk.injEq, and_true] at e1
            obtain ⟨rfl, rfl⟩ := e1
            have hcell2 := cell_later' HB.out hbx hex2
            have hy256 := Sm.at0_lt L (k + 1)
            obtain ⟨y, hy⟩ : ∃ y : Nat, y = Sm.at0 L (k + 1) := ⟨_, rfl⟩
            rw [← hy] at hcell2 hy256
            have HY := Lib.hid hy
            have g4 : (k : Int) + 1 < L.length := by omega
            clear hex2 hy
            by_cases h3 : y < 2
            · have g5 : (y : Int) < 2 := by omega
              have HE := Lib.hid (HI.out.bad hlt (by rw [← HX.out]; omega) (.inr (.inl (by rw [← HY.out]; exact h3))))
              clear h0 h1 h3
              go_wp2_with fail
              go_ret2
              exact .inr ⟨rfl, HE.out, HB.out⟩
            · have g5 : ((y : Int) < 2) = False := by simp; omega
              by_cases h4 : k + y ≤ L.length
              · have g6 : (k : Int) + y ≤ L.length := by omega
                have HN := Lib.hid (HI.out.opt (by rw [← HX.out]; omega) HY.out (by omega) h4)
                have h5 : 2 ≤ y := by omega
                clear h0 h1 h3
                go_wp2_with (at_builtin; refine wpList_append_own _ rfl _ _ 81 rfl w.heap.size 112 i0 (.agg #[.int .i64 0, .int .i64 0]) 2 16 Try.underlying81 hi hz0 hz1 hz2 rfl (by decide) _ _ _ rfl (HW.out.alloc _) ⟨wr.heap.size, 0, none⟩ 1 1 [.int .i64 (k : Nat), .int .i64 (y : Nat)] rfl rfl (news_two wr _ _ _) (one_two _ _) (by unfold maxLen; omega) (by omega) (by simp; exact Nat.le_succ_of_le HB.out.size) ?_)
                intro v1 w1 hown hgrow _
                have hown2 : Hid (PtL w1 w.heap.size v1 (A ++ [(k, y)])) := by
                  show World.ownsRow _ _ _ _ _ _ _
                  rw [pc_snoc, List.length_append]; exact hown
                have hB2 : Hid (Below w.heap.size w w1) := (HB.out.alloc HB.out.size _).grown hgrow (by simp; exact Nat.le_succ_of_le HB.out.size) (fun j hj => own_base HW.out hj)
                clear hown hgrow
                go_wp2_with fail
                go_roundw
                case rel => exact ⟨A ++ [(k, y)], k + y, by go_num, HN.out, hown2, hB2⟩
                case measure => simp [intOf]; omega
              · have g6 : (L.length : Int) < k + y := by omega
                have HE := Lib.hid (HI.out.bad hlt (by rw [← HX.out]; omega) (.inr (.inr (by rw [← HY.out]; omega))))
                clear h0 h1 h3 h4
                go_wp2_with fail
                go_ret2
                exact .inr ⟨rfl, HE.out, HB.out⟩
          · have g4 : (L.length : Int) ≤ k + 1 := by omega
            have HE := Lib.hid (HI.out.bad hlt (by rw [← HX.out]; omega) (.inl (by omega)))
            clear h0 h1 h2
            go_wp2_with fail
            go_ret2
            exact .inr ⟨rfl, HE.out, HB.out⟩
    · have g1 : (L.length : Int) ≤ k := by omega
      have HE := Lib.hid (HI.out.stop (.inl (by omega)))
      go_wp2_with fail
      go_ret2
      exact .inl ⟨_, A, rfl, HW.out, HE.out, HB.out⟩
end Go.Proofs.Ytnhkkpcepppgoaa

namespace Go.Proofs.Ytnhkkpcepppgoaa
open Go.RowKit Go.Shelf
attribute [local go_sem] Oper.semAt_some

/-- The copied ones of what is told, one behind the other. -/
def copOf (s : List (Option (List UInt8))) : List UInt8 := s.flatMap fun | none => [] | some r => if 128 ≤ Sm.at0 r 0 then r else []
/-- Noughts behind, to a multiple of 4. -/
def pad (l : List UInt8) : List UInt8 := l ++ List.replicate ((4 - l.length % 4) % 4) 0
def copied (L : List UInt8) : List UInt8 := if Om.ok L then pad (copOf (Om.seq L)) else []
theorem copOf_snoc (s : List (Option (List UInt8))) (x : Option (List UInt8)) : copOf (s ++ [x]) = copOf s ++ (match x with | none => [] | some r => if 128 ≤ Sm.at0 r 0 then r else []) := by
  unfold copOf; rw [List.flatMap_append]; simp
theorem raw_snoc {w : World} (pre : List (Opt w)) (x : Opt w) : (pre ++ [x]).map Opt.raw = pre.map Opt.raw ++ [x.raw] := by rw [List.map_append]; rfl
theorem ne_snoc {w : World} {pre : List (Opt w)} {x : Opt w} {r : List UInt8} (h : ∀ p ∈ pre, p.raw ≠ none) (hx : some r = x.raw) : ∀ p ∈ pre ++ [x], p.raw ≠ none := fun p hp => (List.mem_append.1 hp).elim (h p) (fun e => by rw [List.mem_singleton.1 e, ← hx]; exact fun h => by cases h)

theorem wpListIn_app {F : Fence} {n : Nat} {w : World} {ops : Array Oper} {rest : List Oper} {o : Oper} {a : Act} {Q : Exit → Act → World → Prop} (hgd : o.guard = none) (s x : Operand)
    (ho : o.op = .call { callee := .builtin .append, args := #[s, x], argTypes := #[22, 22] }) (B : Nat) (v u : Value) (l0 l1 : List UInt8) (hs : a.eval s = v) (hx : a.eval x = u)
    (hown : OwnB w B v l0) (hu : Bytes w u l1) (hn : l0.length + l1.length ≤ 140737488355328) (hB : B ≤ w.heap.size)
    (h : ∀ v' w', OwnB w' B v' (l0 ++ l1) → Below B w w' → w.grownBy w' v.ownBlock → wpListIn F n Try.prog ops Q rest (a.put o.dst v') w') : wpListIn F n Try.prog ops Q (o :: rest) a w := by
  refine wpListIn_plain hgd fun K hK' => ?_
  obtain ⟨v', w', hrun, r1, r2, r3⟩ := run_app w B o.type v u l0 l1 hown hu hn hB
  unfold Oper.wpIn
  refine ⟨?_, ?_⟩
  · simp [Oper.about, ho, resolve, Target.leads, Sem.run_pure]
  · rw [Oper.semAt_plain F _ _ (by rw [ho]; intro c hc'; cases hc')]
    simp [execOp, ho, resolve, invoke, builtin, hs, hx, hrun, Result.andThen]
    exact hK' _ _ (h v' w' r1 r2 r3)

/-- Behind an append without a block of its own, and the store. -/
theorem Boxed.appended0 {W w1 : World} {n₀ B : Nat} {v v' : Value} {l l' : List UInt8}
    (hv : Boxed W B 22 v) (hrow : OwnB W n₀ v l) (hB : n₀ ≤ B) (hown' : OwnB w1 n₀ v' l') (hgrow : W.grownBy w1 v.ownBlock) (hbel : Below n₀ W w1) :
    Boxed w1 B 22 v ∧ Boxed (w1.setCell ⟨B, 0, none⟩ v') B 22 v' ∧ OwnB (w1.setCell ⟨B, 0, none⟩ v') n₀ v' l' ∧ KeepsOthers W (w1.setCell ⟨B, 0, none⟩ v') ∧ Below n₀ W (w1.setCell ⟨B, 0, none⟩ v') := by
  have hte : (22 : TypeId) ≠ 5 := by decide
  have hv1 : Boxed w1 B 22 v := hv.kept hgrow (hv.not_row hte hrow)
  refine ⟨hv1, hv1.set v', World.ownsRow.kept hown' (grownBy_setCell' w1 B v') (.inr (hv1.not_row hte hown').symm), ?_, hbel.setCell (p := ⟨B, 0, none⟩) hB v'⟩
  refine (KeepsOthers.of_grownBy hgrow fun j o ej hj => ?_).trans (KeepsOthers.setCell _ _ _)
  rcases hrow.2 with ⟨rfl, _⟩ | ⟨g, cap, cur, rfl, _, hgb, _⟩
  · simp [Value.ownBlock] at ej
  · obtain rfl : g = j := by simpa [Value.ownBlock] using ej
    rw [hgb] at hj; cases hj; rfl

theorem holdsB_own {β : Type} (n₀ B : Nat) (f : β → List UInt8) (G : β → Value → Prop) : Own (fun s W => ∃ v, Boxed W B 22 v ∧ OwnB W n₀ v (f s) ∧ G s v) :=
  holdsRow_own n₀ B 22 5 1 (fun s => (f s).length) (fun s => bv (f s)) G

theorem pad_snoc (P : List UInt8) (k : Nat) : P ++ List.replicate (k + 1) 0 = (P ++ List.replicate k 0) ++ [0] := by rw [List.replicate_succ', List.append_assoc]
def celLen (W : World) (B : Nat) : Nat := match W.cell? ⟨B, 0, none⟩ with | some (.slice _ n _) => n | _ => 0
theorem celLen_box {W : World} {B : Nat} {a : Option Addr} {n c : Nat} (h : Boxed W B 22 (.slice a n c)) : celLen W B = n := by unfold celLen; rw [h.cell]

set_option maxRecDepth 100000 in
set_option maxHeartbeats 4000000 in
theorem copied_in (n : Nat) (hn : 3 ≤ n) (a : Option Addr) (c : Nat) (L : List UInt8) (hL : L.length ≤ 1000000) (w : World) (hv : Bytes w (.slice a L.length c) L) :
    CallsIn Fence.wide n Try.prog 49 #[.slice a L.length c] w fun e W' => ∃ v, e = .returned v ∧ OwnB W' w.heap.size v (copied L) ∧ Below w.heap.size w W' := by
  have h1 : 1 ≤ n := by omega
  refine callsIn_of_wp_marks Try.func49 rfl trivial ?_ rfl
  simp only [Try.ntmps49, List.size_toArray, List.length_cons, List.length_nil, Nat.reduceAdd, Nat.reduceSub, Array.replicate_succ, Array.replicate_zero, List.push_toArray, List.append_toArray, List.nil_append, List.cons_append]
  have HV := Lib.hid hv
  clear hv
  gi_wp2_with fail
  refine ⟨trivial, (callsIn_wide.2 (each_any a L.length c _)).mono ?_⟩
  rintro e w' ⟨rfl, rfl⟩
  gi_wp2_with fail
  have bR := Boxed.new w 22 (.slice none 0 0)
  have bO := Boxed.new (w.alloc (.cells #[.slice none 0 0] 22)) 22 (.slice none 0 0)
  have bN := Boxed.new ((w.alloc (.cells #[.slice none 0 0] 22)).alloc (.cells #[.slice none 0 0] 22)) 22 (.slice a L.length c)
  simp only [World.size_alloc] at bO bN
  have hB0 : Below w.heap.size w (((w.alloc (.cells #[.slice none 0 0] 22)).alloc (.cells #[.slice none 0 0] 22)).alloc (.cells #[.slice a L.length c] 22)) := (((Below.refl _ w).alloc (Nat.le_refl _) _).alloc (by simp) _).alloc (by simp; omega) _
  refine wpIn_rangeFunc_ownG rfl h1 (gf := 85) (lb := #[.pointer (some ⟨w.heap.size + 1 + 1, 0, none⟩)]) rfl trivial (enters_of Try.func85 (by kernel_rfl) rfl)
    (each_stops (n - 1) (by omega) w _ (w.heap.size + 1 + 1) _ L hL (by simp) bN.cell HV.out hB0) belowK_t (belowK_b (by simp; omega)) (Below.refl _ _) (fun _ => rfl)
    (fun pre W => ((∃ v, Boxed W (w.heap.size + 1) 22 v ∧ OwnB W w.heap.size v (copOf (pre.map Opt.raw)) ∧ ((∀ p ∈ pre, p.raw ≠ none) ∧ (copOf (pre.map Opt.raw)).length ≤ 256 * pre.length)) ∧ Boxed W w.heap.size 22 (.slice none 0 0)) ∧ Below w.heap.size w W)
    (fun c pre W => (c = .ret ∧ (∃ p ∈ pre, p.raw = none) ∧ W.cell? ⟨w.heap.size, 0, none⟩ = some (.slice none 0 0)) ∧ Below w.heap.size w W)
    (OwnFrom.and (Own.from (fun s A B row hs hg hr => ⟨holdsB_own w.heap.size (w.heap.size + 1) (fun pre : List (Opt w) => copOf (pre.map Opt.raw)) (fun pre _ => (∀ p ∈ pre, p.raw ≠ none) ∧ (copOf (pre.map Opt.raw)).length ≤ 256 * pre.length) s A B row hs.1 hg hr, boxed_own w.heap.size 22 (fun _ : List (Opt w) => .slice none 0 0) s A B row hs.2 hg hr⟩) _) (ownFrom_below (Nat.le_refl _) (by simp; omega)))
    (fun c => OwnFrom.and (Own.from (fun s A B row hs hg hr => ⟨hs.1, hs.2.1, cell_kept hs.2.2 hg hr⟩) _) (ownFrom_below (Nat.le_refl _) (by simp; omega)))
    ⟨⟨⟨_, bO.alloc _, World.ownsRow_nil _ _ _ _, by simp, by simp [copOf]⟩, (bR.alloc _).alloc _⟩, hB0⟩
    (fun x => { tmps := #[.slice a L.length c, undef, .pointer (some ⟨w.heap.size, 0, none⟩), .pointer (some ⟨w.heap.size + 1, 0, none⟩), x.val, .slice a L.length c, .func (.func 85) #[] #[.pointer (some ⟨w.heap.size + 1 + 1, 0, none⟩)], x.val, undef, undef, undef, undef, undef, undef, undef, undef, undef, undef, undef, undef, undef, undef, undef, undef, undef], defers := [] }) ?assign ?body ?done ?stop
  case assign =>
    intro l x W K hK
    gi_wp2
    exact hK
  case body =>
    rintro l pre x W ⟨⟨⟨v, hvb, hrow, hne, hlen⟩, hRb⟩, hB⟩ hlt
    obtain ⟨u, hu⟩ : ∃ u, u = x.val := ⟨_, rfl⟩
    obtain ⟨o, ho⟩ : ∃ o, o = x.raw := ⟨_, rfl⟩
    have hov : OptV w u o := by rw [hu, ho]; exact x.2
    rw [← hu]
    have HO := Lib.hid ho
    clear hu ho
    cases o with
    | none =>
      obtain rfl : u = .slice none 0 0 := hov
      have hnn := nil_nil W
      have hcr := hRb.cell
      have hfr := hRb.frozen
      clear hrow hvb hlen
      gi_wp2
      exact ⟨(KeepsOthers.setCell _ _ _).from _, ⟨rfl, ⟨_, List.mem_append_right _ (List.mem_singleton.2 rfl), HO.out.symm⟩, World.cell?_setCell_same' _ _ _ (by rw [hcr]; rfl)⟩, hB.setCell (p := ⟨w.heap.size, 0, none⟩) (Nat.le_refl _) _⟩
    | some r =>
      obtain ⟨b, o, c', rfl, hb, hr2, hr256, hby⟩ := hov
      have hsn := some_nil W ⟨b, o, none⟩ r.length c'
      obtain ⟨b2, o2, e1, _, hcell⟩ := hby.at1 (i := 0) (by omega)
      simp only [Option.some.injEq, Addr.mk.injEq, and_true] at e1
      obtain ⟨rfl, rfl⟩ := e1
      have hcw := cell_later' hB hb hcell
      have hcw0 : W.cell? ⟨b, o, none⟩ = some (.int .u8 (Sm.at0 r 0 : Nat)) := hcw
      obtain ⟨y, hx⟩ : ∃ y, y = Sm.at0 r 0 := ⟨_, rfl⟩
      rw [← hx] at hcw0
      have hsnoc := copOf_snoc (pre.map Opt.raw) (some r)
      have hmap : (pre ++ [x]).map Opt.raw = pre.map Opt.raw ++ [some r] := by rw [raw_snoc, ← HO.out]
      simp only at hsnoc
      rw [← hx, ← hmap] at hsnoc
      have hbw := hby.later hB
      have hc := hvb.cell
      have hne' := ne_snoc hne HO.out
      have Hbw := Lib.hid hbw
      have HNE := Lib.hid hne'
      have HVB : Hid (Boxed W (w.heap.size + 1) 22 v) := hvb
      have HRB : Hid (Boxed W w.heap.size 22 (.slice none 0 0)) := hRb
      have HROW := Lib.hid hrow
      have HX := Lib.hid hx
      have hbs : b < W.heap.size := Nat.lt_of_lt_of_le hb hB.size
      have g0 : 0 < (r.length : Int) := by omega
      obtain ⟨P, hP⟩ : ∃ P, P = copOf (pre.map Opt.raw) := ⟨_, rfl⟩
      rw [← hP] at hlen hsnoc HROW
      have hPl : P.length + r.length ≤ 140737488355328 := by omega
      have HPL := Lib.hid hPl
      rcases Nat.lt_or_ge y 128 with h128 | h128
      · rw [if_neg (by omega), List.append_nil] at hsnoc
        have HS := Lib.hid hsnoc
        have g1 : (y : Int) < 128 := by omega
        clear hby hcell hcw hx hmap hsnoc hbw hne hne' hvb hRb hrow hP hPl
        gi_wp2_with fail
        refine ⟨KeepsFrom.refl _ _, Below.refl _ _, ⟨⟨v, HVB.out, by rw [HS.out]; exact HROW.out, HNE.out, by rw [HS.out]; simp; omega⟩, HRB.out⟩, hB⟩
      · rw [if_pos h128] at hsnoc
        have HS := Lib.hid hsnoc
        have g1 : 128 ≤ (y : Int) := by omega
        clear hby hcell hcw hx hmap hsnoc hbw hne hne' hvb hRb hrow hP hPl
        gi_wp2_with (gi_at_builtin; refine wpListIn_app rfl _ _ rfl w.heap.size _ _ _ r rfl rfl HROW.out Hbw.out HPL.out hB.size ?_)
        intro v' w1 hown' hbel hgrow
        obtain ⟨Z, hZ⟩ : ∃ Z, Z = P ++ r := ⟨_, rfl⟩
        rw [← hZ] at hown' HS
        obtain ⟨hv1, hv2, hr2', hk2, hb2⟩ := Boxed.appended0 HVB.out HROW.out (Nat.le_succ _) hown' hgrow hbel
        obtain ⟨a', d', rfl⟩ := hown'.form
        have hc1 := hv1.cell
        have hf1 := hv1.frozen
        have HRN := Lib.hid (Boxed.other (Boxed.kept (show Boxed W w.heap.size 22 (.slice none 0 0) from HRB.out) hgrow (Boxed.not_row (show Boxed W w.heap.size 22 (.slice none 0 0) from HRB.out) (by decide) HROW.out)) (B' := w.heap.size + 1) (by omega) (.slice a' Z.length d'))
        have H2 := Lib.hid hv2
        have H3 := Lib.hid hr2'
        have H4 := Lib.hid hk2
        have H5 := Lib.hid hb2
        have HZ := Lib.hid hZ
        clear hown' hbel hgrow hv1 hv2 hr2' hk2 hb2 hZ
        gi_wp2_with fail
        refine ⟨H4.out.from _, H5.out, ⟨⟨_, H2.out, by rw [HS.out]; exact H3.out, HNE.out, by rw [HS.out, HZ.out]; simp; omega⟩, HRN.out⟩, hB.trans H5.out⟩
  case done =>
    rintro D ys W hD hys ⟨⟨⟨v, hvb, hrow, hne, hlen⟩, hRb⟩, hB⟩ hK
    have hok : copied L = pad (copOf (ys.map Opt.raw)) := by
      unfold copied
      rw [ok_all hys (fun p hp => by obtain ⟨q, hq, rfl⟩ := List.mem_map.1 hp; exact hne q hq), ← hys]; rfl
    have hys2 : ys.length ≤ 1000000 := by
      have := congrArg List.length hys
      have h2 := Om.seq_len _ L (Nat.le_refl _)
      simp at this; omega
    obtain ⟨P, hP⟩ : ∃ P, P = copOf (ys.map Opt.raw) := ⟨_, rfl⟩
    rw [← hP] at hrow hlen hok
    have hPl : P.length ≤ 256000000 := by omega
    have HOK := Lib.hid hok
    have hD2 : w.heap.size + 3 ≤ D := by simp at hD; omega
    have HK := Lib.hid hK
    obtain ⟨m, hm⟩ : ∃ m, m = (4 - P.length % 4) % 4 := ⟨_, rfl⟩
    have HM := Lib.hid hm
    clear hok hys hne hlen hP hys2 hK hm
    gi_wp2_with fail
    gi_loopw [] (fun wr => ∃ (v : Value) (k : Nat), k ≤ m ∧ Hid (Boxed wr (w.heap.size + 1) 22 v) ∧ Hid (OwnB wr w.heap.size v (P ++ List.replicate k 0)) ∧ Hid (Boxed wr w.heap.size 22 (.slice none 0 0)) ∧ Hid (Below w.heap.size w wr) ∧ Hid (wr.heap[D]? = some (.deferred (some [])))) (fun wr => (4 - celLen wr (w.heap.size + 1) % 4) % 4)
    case atStart => exact ⟨v, 0, Nat.zero_le _, hvb, by rw [List.replicate_zero, List.append_nil]; exact hrow, hRb, hB, HK.out⟩
    case round =>
      obtain ⟨v, k, hk, H1, H2, H3, H4, H5⟩ := hrel
      obtain ⟨Z, hZ⟩ : ∃ Z, Z = P ++ List.replicate k 0 := ⟨_, rfl⟩
      rw [← hZ] at H2
      have hZl : Z.length = P.length + k := by rw [hZ]; simp
      obtain ⟨a1, c1, rfl⟩ := OwnB.form (show OwnB wr w.heap.size v Z from H2.out)
      have hc := Boxed.cell (show Boxed wr (w.heap.size + 1) 22 _ from H1.out)
      have hm := HM.out
      have hmeas := celLen_box (show Boxed wr (w.heap.size + 1) 22 _ from H1.out)
      have hz3 : (Z.length : Int) ≤ 300000000 := by omega
      have HZ := Lib.hid hZ
      have HME := Lib.hid hmeas
      rcases Nat.lt_or_ge k m with hlt | hge
      · have g1 : ((Z.length : Int) % 4 != 0) = true := by rw [bne_iff_ne]; omega
        have hdec : (4 - (Z.length + 1) % 4) % 4 < (4 - Z.length % 4) % 4 := by omega
        have HDEC := Lib.hid hdec
        have hbl := bytes_lit wr [0]
        have hsz := (show Below w.heap.size w wr from H4.out).size
        have HSZ := Lib.hid hsz
        have HBL := Lib.hid hbl
        have h47 : Z.length + [(0 : UInt8)].length ≤ 140737488355328 := by simp; omega
        have H47 := Lib.hid h47
        clear hZ hZl hm hmeas hdec hbl hsz h47
        gi_wp2_with (gi_at_builtin; refine wpListIn_app rfl _ _ rfl w.heap.size _ _ _ [0] rfl rfl (OwnB.alloc H2.out _) HBL.out H47.out (by rw [World.size_alloc]; exact Nat.le_succ_of_le HSZ.out) ?_)
        intro v' w1 hown' hbel hgrow
        obtain ⟨Y, hY⟩ : ∃ Y, Y = Z ++ [0] := ⟨_, rfl⟩
        rw [← hY] at hown'
        obtain ⟨hv1, hv2, hr2', hk2, hb2⟩ := Boxed.appended H1.out (by decide) H2.out HSZ.out (Nat.le_succ _) hown' hgrow
        obtain ⟨a2, c2, rfl⟩ := OwnB.form hown'
        have hc1 := hv1.cell
        have hf1 := hv1.frozen
        have HRN := Lib.hid (Boxed.other (Boxed.kept (Boxed.alloc (show Boxed wr w.heap.size 22 (.slice none 0 0) from H3.out) _) hgrow (Boxed.not_row (show Boxed wr w.heap.size 22 (.slice none 0 0) from H3.out) (by decide) H2.out)) (B' := w.heap.size + 1) (by omega) (.slice a2 Y.length c2))
        have K2 := Lib.hid hv2
        have K3 := Lib.hid hr2'
        have K4 := Lib.hid (hk2.same D _ H5.out rfl)
        have K5 := Lib.hid (H4.out.trans hb2)
        have KY := Lib.hid hY
        have K6 := Lib.hid (celLen_box hv2)
        clear hown' hbel hgrow hv1 hv2 hr2' hk2 hb2 hY
        gi_wp2_with fail
        go_roundw
        case rel => exact ⟨_, k + 1, hlt, K2, by show OwnB _ _ _ _; rw [pad_snoc, ← HZ.out, ← KY.out]; exact K3.out, HRN, K5, K4⟩
        case measure => rw [HME.out, K6.out, KY.out, List.length_append]; exact HDEC.out
      · have hkm : k = m := by omega
        have g1 : ((Z.length : Int) % 4 != 0) = false := by rw [bne_eq_false_iff_eq]; omega
        have hpad : copied L = Z := by rw [HOK.out, hZ]; unfold pad; rw [hkm, hm]
        have HP := Lib.hid hpad
        have hc0 := Boxed.cell (show Boxed wr w.heap.size 22 _ from H3.out)
        have hf0 := Boxed.frozen (show Boxed wr w.heap.size 22 _ from H3.out)
        clear hZ hZl hm hmeas hkm hpad
        gi_wp2_with fail
        have hK' := (KeepsOthers.setCell wr ⟨w.heap.size, 0, none⟩ (.slice a1 Z.length c1)).same D _ H5.out rfl
        refine ⟨by simp, .inl ⟨_, _, rfl, run_takeDeferred hK', ?_⟩⟩
        have hc5 := cell_kept (World.cell?_setCell_same' wr ⟨w.heap.size, 0, none⟩ (.slice a1 Z.length c1) (by rw [hc0]; rfl)) (grownBy_putObj' _ D (.deferred none)) (fun r e => by cases e; exact ⟨_, hK', rfl⟩)
        have ho : OwnB (wr.setCell ⟨w.heap.size, 0, none⟩ (.slice a1 Z.length c1)) w.heap.size (.slice a1 Z.length c1) Z := World.ownsRow.kept H2.out (grownBy_setCell' wr w.heap.size _) (.inr (Boxed.not_row (show Boxed wr w.heap.size 22 (.slice none 0 0) from H3.out) (by decide) H2.out).symm)
        refine ⟨.slice a1 Z.length c1, ?_, _, rfl, by rw [HP.out]; exact ownsRow_putObj ho _ hK' rfl, (H4.out.setCell (p := ⟨w.heap.size, 0, none⟩) (Nat.le_refl _) _).trans (belowK_b (w := w) (Nat.le_refl _) _ D _ _ (by omega) hK' rfl rfl)⟩
        simp [results, Try.f49, go_sem, hc5]
  case stop =>
    rintro D c pre W hD hpre ⟨⟨rfl, ⟨p, hp, hpr⟩, hcr⟩, hB⟩ hK
    gi_wp2
    refine ⟨by simp, .inl ⟨_, _, rfl, run_takeDeferred hK, ?_⟩⟩
    have hc5 := cell_kept hcr (grownBy_putObj' _ D (.deferred none)) (fun r e => by cases e; exact ⟨_, hK, rfl⟩)
    have hok : copied L = [] := by unfold copied; rw [ok_none (hpre.subset (List.mem_map.2 ⟨p, hp, hpr⟩))]; rfl
    refine ⟨.slice none 0 0, ?_, _, rfl, by rw [hok]; exact OwnB.nil _ _, hB.trans (belowK_b (w := w) (Nat.le_refl _) W D _ _ (by simp at hD; omega) hK rfl rfl)⟩
    simp [results, Try.f49, go_sem, hc5]
theorem copiedW_any (v : Value) (L : List UInt8) (hL : L.length ≤ 1000000) (w : World) (hv : Bytes w v L) :
    Calls Try.prog 49 #[v] w fun e W' => ∃ v, e = .returned v ∧ OwnB W' w.heap.size v (copied L) ∧ Below w.heap.size w W' := by
  obtain ⟨a, c, rfl⟩ := hv.form
  exact callsIn_wide.1 (copied_in 3 (by omega) a c L hL w hv)
end Go.Proofs.Ytnhkkpcepppgoaa

namespace Go.Proofs.Ytnhkkpcepppgoaa
open Go.RowKit

def onlyN (Q : Exit → Act → World → Prop) : Exit → Act → World → Prop
  | .normal, a, w => Q .normal a w
  | _, _, _ => False
section
variable {l n : Nat} {P : Program} {Q : Exit → Act → World → Prop}
theorem upon_round {o : Oper} {a : Act} {K K' : Act → World → Prop} (hK : ∀ a w, K a w → K' a w) : ∀ r : Result Next, o.upon P a K (onlyN Q) r → o.uponIn (Fence.wide.inRound l) n P a K' Q r
  | .ok (.value _) _, h => hK _ _ h
  | .ok .skip _, h => hK _ _ h
  | .ok (.defer _) _, h => hK _ _ h
  | .ok (.enter f args) w', h => ⟨fun h => by simp [Fence.wide] at h, CallsIn.inRound l (callsIn_wide.2 (Calls.mono (show Calls P f args w' _ from h) (fun e w'' hr => by
      cases e with
      | returned v => exact hK _ _ hr
      | panicked c => exact hr.elim
      | outgrown => obtain ⟨_, _, h⟩ := hr; exact h.elim)))⟩
  | .ok (.row row args) w', h => ⟨fun h => by simp [Fence.wide] at h, fun c cs _ => by
      obtain ⟨v, w'', hr, hs⟩ := (show Rows P row args w' _ from h) c cs
      exact ⟨v, w'', hK _ _ hr, stepsIn_wide.2 hs⟩⟩
  | .halt (.panic _) _, h => h.elim
  | .ok (.round ..) _, h => h.elim
theorem opIn_round {o : Oper} {a : Act} {w : World} {K K' : Act → World → Prop} (hK : ∀ a w, K a w → K' a w) (hd : ∀ c, o.op ≠ .defer c) (h : o.wp P a w K (onlyN Q)) : o.wpIn (Fence.wide.inRound l) n P a w K' Q :=
  ⟨fun _ _ => trivial, by rw [Oper.semAt_plain _ _ _ hd]; exact upon_round hK _ h⟩

def noDefer (ops : Array Oper) : Bool := ops.all fun o => match o.op with | .defer _ => false | _ => true
theorem noDefer_spec {ops : Array Oper} (h : noDefer ops = true) (i : Nat) (o : Oper) (ho : ops[i]? = some o) : ∀ c, o.op ≠ .defer c := by
  intro c hc
  have h2 := Array.all_eq_true.1 h i (Array.getElem?_eq_some_iff.1 ho).1
  rw [(Array.getElem?_eq_some_iff.1 ho).2, hc] at h2
  cases h2
theorem anyIn_round {md : Region.Mode} {ops : Array Oper} (hd : noDefer ops = true) : ∀ (fuel : Nat) (listed : Array Bool) (a : Act) (w : World), wpAny P md ops (onlyN Q) fuel listed a w → wpAnyIn (Fence.wide.inRound l) n P md ops Q fuel listed a w
  | 0, _, _, _, h => ⟨h.1, h.2⟩
  | fuel + 1, listed, a, w, h => ⟨fun he => h.1 he, fun i hi => by
      have h2 := h.2 i hi
      have ih := anyIn_round (md := md) hd fuel (listed.setIfInBounds i true)
      unfold wpOp at h2
      unfold wpOpIn
      cases ho : ops[i]? with
      | none => rw [ho] at h2; exact ih _ _ h2
      | some o =>
        rw [ho] at h2
        simp only at h2 ⊢
        by_cases hw : Region.wanted o (yielded ops a.tmps) = true
        · rw [if_pos hw] at h2 ⊢
          rcases h2 with h2 | ⟨_, _, _, h2⟩
          · exact opIn_round ih (noDefer_spec hd i o ho) h2
          · exact h2.elim
        · rw [if_neg hw] at h2 ⊢
          exact ⟨fun _ _ => trivial, ih _ _ h2⟩⟩
/-- The region in a round, by its walk with a condition held. -/
theorem wpIn_region_round {S : World → Prop} {id : Nat} {ops : Array Oper} {a : Act} {w : World} (hm : P.follows .mixedOrders = true) (hd : noDefer ops = true) (hS : S w.drew)
    (h : S w.drew → wpAnyH P .any ops (onlyN Q) S ops.size (Array.replicate ops.size false) a w.drew) : (Code.region id ops true).wpIn (Fence.wide.inRound l) n P Q a w :=
  wpIn_region_any hm (anyIn_round hd _ _ _ _ (wpAny_of_held _ _ _ _ (h hS)))
theorem wpIn_region_fin {S I : World → Prop} {id : Nat} {ops : Array Oper} {a : Act} {w : World} (hm : P.follows .mixedOrders = true) (hd : noDefer ops = true) (hS : S w.drew) (h1 : ∀ A w3, I w3 → Q .normal A w3)
    (h : (∀ A w3, I w3 → onlyN Q .normal A w3) → S w.drew → wpAnyH P .any ops (onlyN Q) S ops.size (Array.replicate ops.size false) a w.drew) : (Code.region id ops true).wpIn (Fence.wide.inRound l) n P Q a w :=
  wpIn_region_round hm hd hS (h fun A w3 hi => h1 A w3 hi)
end
end Go.Proofs.Ytnhkkpcepppgoaa
