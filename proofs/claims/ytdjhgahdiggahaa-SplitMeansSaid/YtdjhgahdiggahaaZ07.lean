/- A number of some bytes, read by the reference.
   The walks of the reference's Words, Total, Check.
   The walks of the reference's Room, Put and Get.
   The walk of ref03.Routed.
   Options told whole: plain mathematics.
   The walks of ip.Routed, and of the reference's SameOptions where both are the same.
   The walk of ip.Options (in a round: onlyN).
   A region that draws its order, in a round of a range over a function: by its plain walk. No function of the program in it.
   The walk of ip.Copied.
   The walk of ref03.Parts.
   A row of one-cell elements in memory: a slice value that reads as a list of values.
   A reference's parts of options: plain mathematics. -/
import Derived.Deep.AppendLies
import Derived.RangeFuncNested
import Derived.RangeFuncCalls
import Derived.OwnWalkIn
import Derived.Test.YtdjhgahdiggahaaZ01
import Derived.Test.YtdjhgahdiggahaaZ02
import Derived.Test.YtdjhgahdiggahaaZ03
import Derived.Test.YtdjhgahdiggahaaZ05

set_option linter.unusedSimpArgs false
set_option linter.unusedVariables false
namespace Go.Proofs.Ytdjhgahdiggahaa
open Sm

theorem ok_nil : Om.ok [] = true := by unfold Om.ok; rw [Om.seq_nil]; rfl
theorem ok_end {l : List UInt8} (h : at0 l 0 = 0) : Om.ok l = true := by unfold Om.ok; rw [Om.seq_end h]; rfl
theorem ok_nop {l : List UInt8} (h0 : 0 < l.length) (h : at0 l 0 = 1) : Om.ok l = Om.ok (l.drop 1) := by unfold Om.ok; rw [Om.seq_nop h0 h]
theorem ok_bad {l : List UInt8} (h0 : 0 < l.length) (h1 : 2 ≤ at0 l 0) (h : l.length < 2 ∨ at0 l 1 < 2 ∨ l.length < at0 l 1) : Om.ok l = false := by unfold Om.ok; rw [Om.seq_bad h0 h1 h]; rfl
theorem ok_opt {l : List UInt8} (h1 : 2 ≤ at0 l 0) (h2 : 2 ≤ at0 l 1) (h3 : at0 l 1 ≤ l.length) : Om.ok l = Om.ok (l.drop (at0 l 1)) := by unfold Om.ok; rw [Om.seq_opt h1 h2 h3, List.contains_cons]; simp
theorem fm_nil : (Om.seq []).filterMap id = [] := by rw [Om.seq_nil]; rfl
theorem fm_end {l : List UInt8} (h : at0 l 0 = 0) : (Om.seq l).filterMap id = [] := by rw [Om.seq_end h]; rfl
theorem fm_nop {l : List UInt8} (h0 : 0 < l.length) (h : at0 l 0 = 1) : (Om.seq l).filterMap id = (Om.seq (l.drop 1)).filterMap id := by rw [Om.seq_nop h0 h]
theorem fm_opt {l : List UInt8} (h1 : 2 ≤ at0 l 0) (h2 : 2 ≤ at0 l 1) (h3 : at0 l 1 ≤ l.length) : (Om.seq l).filterMap id = l.take (at0 l 1) :: (Om.seq (l.drop (at0 l 1))).filterMap id := by rw [Om.seq_opt h1 h2 h3]; simp
/-- The bytes of a part. -/
def cutP (L : List UInt8) (p : Nat × Nat) : List UInt8 := (L.drop p.1).take p.2
/-- What of the parts is an option. -/
def rawsP (L : List UInt8) (A : List (Nat × Nat)) : List (List UInt8) := (A.filter fun p => at0 L p.1 != 1).map (cutP L)
theorem rawsP_snoc (L : List UInt8) (A : List (Nat × Nat)) (p : Nat × Nat) : rawsP L (A ++ [p]) = rawsP L A ++ (if at0 L p.1 = 1 then [] else [cutP L p]) := by
  unfold rawsP
  rw [List.filter_append, List.map_append]
  by_cases h : at0 L p.1 = 1 <;> simp [h]
/-- A part that lies in the bytes. -/
def PtOk (L : List UInt8) (p : Nat × Nat) : Prop := 1 ≤ p.2 ∧ p.1 + p.2 ≤ L.length ∧ (at0 L p.1 ≠ 1 → 2 ≤ p.2 ∧ 2 ≤ at0 L p.1)
/-- While the parts are gathered: those up to i. -/
structure PtInv (L : List UInt8) (A : List (Nat × Nat)) (i : Nat) : Prop where
  le : i ≤ L.length
  al : A.length ≤ i
  pts : ∀ p ∈ A, PtOk L p
  ok : Om.ok L = Om.ok (L.drop i)
  raws : (Om.seq L).filterMap id = rawsP L A ++ (Om.seq (L.drop i)).filterMap id
theorem PtInv.start (L : List UInt8) : PtInv L [] 0 := ⟨Nat.zero_le _, Nat.le_refl _, by simp, rfl, rfl⟩
theorem at0_dr (L : List UInt8) (i j : Nat) : at0 (L.drop i) j = at0 L (i + j) := by unfold at0; rw [List.getElem?_drop]
theorem PtInv.nop {L : List UInt8} {A : List (Nat × Nat)} {i : Nat} (h : PtInv L A i) (hi : i < L.length) (h1 : at0 L i = 1) : PtInv L (A ++ [(i, 1)]) (i + 1) := by
  obtain ⟨a, b, c, d, e⟩ := h
  have h0 : 0 < (L.drop i).length := by rw [List.length_drop]; omega
  have h2 : at0 (L.drop i) 0 = 1 := by rw [at0_dr]; exact h1
  refine ⟨hi, by simp; omega, fun p hp => ?_, ?_, ?_⟩
  · rcases List.mem_append.1 hp with h | h
    · exact c p h
    · rw [List.mem_singleton.1 h]; exact ⟨Nat.le_refl _, hi, fun h => absurd h1 h⟩
  · rw [d, ok_nop h0 h2, List.drop_drop]
  · rw [e, fm_nop h0 h2, List.drop_drop, rawsP_snoc, if_pos h1, List.append_nil]
theorem PtInv.opt {L : List UInt8} {A : List (Nat × Nat)} {i n : Nat} (h : PtInv L A i) (h0 : 2 ≤ at0 L i) (hn : n = at0 L (i + 1)) (h2 : 2 ≤ n) (h3 : i + n ≤ L.length) : PtInv L (A ++ [(i, n)]) (i + n) := by
  obtain ⟨a, b, c, d, e⟩ := h
  have k0 : 2 ≤ at0 (L.drop i) 0 := by rw [at0_dr]; exact h0
  have k1 : at0 (L.drop i) 1 = n := by rw [at0_dr]; exact hn.symm
  refine ⟨h3, by simp; omega, fun p hp => ?_, ?_, ?_⟩
  · rcases List.mem_append.1 hp with h | h
    · exact c p h
    · rw [List.mem_singleton.1 h]; exact ⟨by omega, h3, fun _ => ⟨h2, h0⟩⟩
  · rw [d, ok_opt k0 (by omega) (by rw [k1, List.length_drop]; omega), k1, List.drop_drop]
  · rw [e, fm_opt k0 (by omega) (by rw [k1, List.length_drop]; omega), k1, List.drop_drop, rawsP_snoc, if_neg (show ¬ at0 L i = 1 by omega), List.append_assoc]; rfl
theorem PtInv.bad {L : List UInt8} {A : List (Nat × Nat)} {i : Nat} (h : PtInv L A i) (hi : i < L.length) (h0 : 2 ≤ at0 L i) (hb : L.length ≤ i + 1 ∨ at0 L (i + 1) < 2 ∨ L.length < i + at0 L (i + 1)) : Om.ok L = false := by
  rw [h.ok, ok_bad (by rw [List.length_drop]; omega) (by rw [at0_dr]; exact h0)]
  rw [at0_dr, List.length_drop]; omega
/-- All parts. -/
structure PtsOf (L : List UInt8) (A : List (Nat × Nat)) : Prop where
  al : A.length ≤ L.length
  pts : ∀ p ∈ A, PtOk L p
  ok : Om.ok L = true
  raws : Om.raws L = rawsP L A
theorem PtInv.stop {L : List UInt8} {A : List (Nat × Nat)} {i : Nat} (h : PtInv L A i) (hs : L.length ≤ i ∨ at0 L i = 0) : PtsOf L A := by
  obtain ⟨a, b, c, d, e⟩ := h
  have k : Om.ok (L.drop i) = true ∧ (Om.seq (L.drop i)).filterMap id = [] := by
    rcases hs with h | h
    · rw [List.drop_eq_nil_of_le h]; exact ⟨ok_nil, fm_nil⟩
    · have : at0 (L.drop i) 0 = 0 := by rw [at0_dr]; exact h
      exact ⟨ok_end this, fm_end this⟩
  have hok : Om.ok L = true := by rw [d]; exact k.1
  exact ⟨by omega, c, hok, by unfold Om.raws; rw [hok, if_pos rfl, e, k.2, List.append_nil]⟩
theorem at0_tk {l : List UInt8} {n i : Nat} (h : i < n) : at0 (l.take n) i = at0 l i := by unfold at0; rw [List.getElem?_take, if_pos h]
theorem at0_cut {L : List UInt8} {p : Nat × Nat} (h : PtOk L p) : at0 (cutP L p) 0 = at0 L p.1 := by
  have := h.1
  unfold cutP; rw [at0_tk (by omega), at0_dr]; rfl
theorem cutP_len {L : List UInt8} {p : Nat × Nat} (h : PtOk L p) : (cutP L p).length = p.2 := by
  have := h.2.1
  unfold cutP; rw [List.length_take, List.length_drop]; omega
theorem any_raws {L : List UInt8} (f : Nat → Bool) (hf : f 1 = false) : ∀ A : List (Nat × Nat), (∀ p ∈ A, PtOk L p) → ((rawsP L A).any fun r => f (at0 r 0)) = A.any fun p => f (at0 L p.1)
  | [], _ => rfl
  | p :: A, h => by
    have ih := any_raws f hf A (fun q hq => h q (List.mem_cons_of_mem _ hq))
    have hp := at0_cut (h p (List.mem_cons_self ..))
    unfold rawsP at ih ⊢
    by_cases h1 : at0 L p.1 = 1
    · rw [List.filter_cons_of_neg (by simp [h1]), ih, List.any_cons, h1, hf, Bool.false_or]
    · rw [List.filter_cons_of_pos (by simp [h1]), List.map_cons, List.any_cons, ih, List.any_cons, hp]
theorem flat_raws {L : List UInt8} : ∀ A : List (Nat × Nat), (∀ p ∈ A, PtOk L p) → ((rawsP L A).flatMap fun r => if 128 ≤ at0 r 0 then r else []) = A.flatMap fun p => if 128 ≤ at0 L p.1 then cutP L p else []
  | [], _ => rfl
  | p :: A, h => by
    have ih := flat_raws A (fun q hq => h q (List.mem_cons_of_mem _ hq))
    have hp := at0_cut (h p (List.mem_cons_self ..))
    unfold rawsP at ih ⊢
    by_cases h1 : at0 L p.1 = 1
    · rw [List.filter_cons_of_neg (by simp [h1]), ih, List.flatMap_cons, if_neg (by omega), List.nil_append]
    · rw [List.filter_cons_of_pos (by simp [h1]), List.map_cons, List.flatMap_cons, ih, List.flatMap_cons, hp]
end Go.Proofs.Ytdjhgahdiggahaa

namespace Go.Proofs.Ytdjhgahdiggahaa
open Go.RowKit

def Row (w : World) (v : Value) (xs : List Value) : Prop :=
  (xs = [] ∧ ∃ a c, v = .slice a 0 c ∧ (a = none → c = 0)) ∨
  ∃ b o c, v = .slice (some ⟨b, o, none⟩) xs.length c ∧ b < w.heap.size ∧ xs.length ≤ c ∧ ∀ j x, xs[j]? = some x → w.cell? ⟨b, o + j, none⟩ = some x
theorem Row.later {w w' : World} {v : Value} {l : List Value} (h : Row w v l) (hb : Below w.heap.size w w') : Row w' v l := by
  rcases h with h | ⟨b, o, c, h1, h2, hp, h3⟩
  · exact .inl h
  · exact .inr ⟨b, o, c, h1, Nat.lt_of_lt_of_le h2 hb.size, hp, fun j x hx => cell_later hb (h3 j x hx)⟩
theorem Row.form {w : World} {v : Value} {l : List Value} (h : Row w v l) : ∃ a c, v = .slice a l.length c := by
  rcases h with ⟨rfl, a, c, rfl, _⟩ | ⟨b, o, c, rfl, _, _⟩
  · exact ⟨a, c, rfl⟩
  · exact ⟨_, c, rfl⟩
theorem Row.at {w : World} {a : Option Addr} {n c : Nat} {l : List Value} (h : Row w (.slice a n c) l) {i : Nat} {x : Value} (hi : l[i]? = some x) :
    ∃ b o, a = some ⟨b, o, none⟩ ∧ b < w.heap.size ∧ w.cell? ⟨b, o + i, none⟩ = some x := by
  rcases h with ⟨rfl, _⟩ | ⟨b, o, c', h1, h2, _, h3⟩
  · simp at hi
  · simp only [Value.slice.injEq] at h1
    exact ⟨b, o, h1.1, h2, h3 i _ hi⟩
theorem Row.of_own {w : World} {base : Nat} {e : TypeId} {v : Value} {n : Nat} {l : List Value} (h : w.ownsRow base e 1 v n l) : Row w v l := by
  obtain ⟨hl, h0 | ⟨g, cap, cur, rfl, hb, hg, hn, hm, hc, ht⟩⟩ := h
  · obtain ⟨rfl, rfl⟩ := h0
    simp at hl
    subst hl
    exact .inl ⟨rfl, _, _, rfl, fun _ => rfl⟩
  · have hln : l.length = n := by simpa using hl
    subst hln
    refine .inr ⟨g, 0, cap, rfl, ?_, hn, fun j x hx => ?_⟩
    · rcases Nat.lt_or_ge g w.heap.size with h1 | h1
      · exact h1
      · rw [Array.getElem?_eq_none h1] at hg; cases hg
    · rw [Nat.zero_add, cell_of_row w g j cur e (0, 0) hg]
      have hj : j < l.length := (List.getElem?_eq_some_iff.1 hx).1
      have : l[j]? = some x := hx
      rw [← ht, List.getElem?_take, if_pos (by omega)] at this
      simpa using this
theorem Row.of_bytes {w : World} {v : Value} {l : List UInt8} (h : Bytes w v l) : Row w v (bv l) := by
  rcases h with ⟨rfl, a, c, rfl, h1⟩ | ⟨b, o, c, rfl, h2, hp, h3⟩
  · exact .inl ⟨rfl, a, c, rfl, h1⟩
  · refine .inr ⟨b, o, c, by simp [bv], h2, by simpa [bv] using hp, fun j x hx => ?_⟩
    simp only [bv, List.getElem?_map, Option.map_eq_some_iff] at hx
    obtain ⟨y, hy, rfl⟩ := hx
    exact h3 j y hy
theorem ownsRow_later {w w' : World} {B : Nat} {e : TypeId} {s n : Nat} {v : Value} {xs : List Value} (h : w.ownsRow B e s v n xs) (hb : Below w.heap.size w w') : w'.ownsRow B e s v n xs := by
  obtain ⟨hl, h0 | ⟨g, cap, cur, rfl, hb1, hg, hn, hm, hc, ht⟩⟩ := h
  · exact ⟨hl, .inl h0⟩
  · refine ⟨hl, .inr ⟨g, cap, cur, rfl, hb1, ?_, hn, hm, hc, ht⟩⟩
    rw [hb.block g ?_]
    · exact hg
    · rcases Nat.lt_or_ge g w.heap.size with h1 | h1
      · exact h1
      · rw [Array.getElem?_eq_none h1] at hg; cases hg
def iv (l : List Int) : List Value := l.map fun z => .int .i64 z
theorem iv_at {zs : List Int} {k : Nat} (h : k < zs.length) : (iv zs)[k]? = some (.int .i64 zs[k]) := by simp [iv, h]
end Go.Proofs.Ytdjhgahdiggahaa

namespace Go.Proofs.Ytdjhgahdiggahaa
open Go.RowKit
attribute [local go_sem ↓] Go.wp_at_zero Go.wp_at_succ

/-- The cells of parts. -/
def pc (A : List (Nat × Nat)) : List Value := A.flatMap fun p => [.int .i64 (p.1 : Nat), .int .i64 (p.2 : Nat)]
theorem pc_snoc (A : List (Nat × Nat)) (p : Nat × Nat) : pc (A ++ [p]) = pc A ++ [.int .i64 (p.1 : Nat), .int .i64 (p.2 : Nat)] := by unfold pc; rw [List.flatMap_append]; rfl
theorem pc_at : ∀ (A : List (Nat × Nat)) (j : Nat) (p : Nat × Nat), A[j]? = some p → (pc A)[2 * j]? = some (.int .i64 (p.1 : Nat)) ∧ (pc A)[2 * j + 1]? = some (.int .i64 (p.2 : Nat))
  | [], j, p, h => by simp at h
  | q :: A, 0, p, h => by simp at h; subst h; exact ⟨rfl, rfl⟩
  | q :: A, j + 1, p, h => by
    have := pc_at A j p (by simpa using h)
    show (_ :: _ :: pc A)[2 * (j + 1)]? = _ ∧ (_ :: _ :: pc A)[2 * (j + 1) + 1]? = _
    rw [show 2 * (j + 1) = 2 * j + 1 + 1 by omega]
    simpa using this
def PtL (w : World) (B : Nat) (v : Value) (A : List (Nat × Nat)) : Prop := w.ownsRow B 182 2 v A.length (pc A)
/-- The value reads as these parts. -/
def PtR (w : World) (v : Value) (A : List (Nat × Nat)) : Prop :=
  (A = [] ∧ ∃ a c, v = .slice a 0 c) ∨
  ∃ b o c, v = .slice (some ⟨b, o, none⟩) A.length c ∧ b < w.heap.size ∧ ∀ (j : Nat) (p : Nat × Nat), A[j]? = some p → w.cell? ⟨b, o + 2 * j, none⟩ = some (.int .i64 (p.1 : Nat)) ∧ w.cell? ⟨b, o + (2 * j + 1), none⟩ = some (.int .i64 (p.2 : Nat))
theorem PtL.form {w : World} {B : Nat} {v : Value} {A : List (Nat × Nat)} (h : PtL w B v A) : ∃ a c, v = .slice a A.length c := by
  rcases h.2 with ⟨rfl, h0⟩ | ⟨g, cap, cur, rfl, _⟩
  · exact ⟨none, 0, by rw [h0]⟩
  · exact ⟨_, _, rfl⟩
theorem PtL.reads {w : World} {B : Nat} {v : Value} {A : List (Nat × Nat)} (h : PtL w B v A) : PtR w v A := by
  rcases h.2 with ⟨rfl, h0⟩ | ⟨g, cap, cur, rfl, hb, hg, hn, hm, hc, ht⟩
  · have : A = [] := List.length_eq_zero_iff.1 h0
    subst this
    exact .inl ⟨rfl, _, _, rfl⟩
  · refine .inr ⟨g, 0, cap, rfl, (Array.getElem?_eq_some_iff.1 hg).1, fun j p hj => ?_⟩
    obtain ⟨e0, e1⟩ := pc_at A j p hj
    have hcell : ∀ i x, (pc A)[i]? = some x → w.cell? ⟨g, 0 + i, none⟩ = some x := fun i x hx => by
      rw [Nat.zero_add, cell_of_row w g i cur _ (0, 0) hg]
      rw [← ht, List.getElem?_take] at hx
      split at hx
      · simpa using hx
      · cases hx
    exact ⟨hcell _ _ e0, hcell _ _ e1⟩
theorem PtR.later {w w' : World} {v : Value} {A : List (Nat × Nat)} (h : PtR w v A) (hb : Below w.heap.size w w') : PtR w' v A := by
  rcases h with h | ⟨b, o, c, h1, h2, h3⟩
  · exact .inl h
  · exact .inr ⟨b, o, c, h1, Nat.lt_of_lt_of_le h2 hb.size, fun j p hj => ⟨cell_later' hb h2 (h3 j p hj).1, cell_later' hb h2 (h3 j p hj).2⟩⟩
theorem PtR.form {w : World} {v : Value} {A : List (Nat × Nat)} (h : PtR w v A) : ∃ a c, v = .slice a A.length c := by
  rcases h with ⟨rfl, a, c, rfl⟩ | ⟨b, o, c, h1, _⟩
  · exact ⟨a, c, rfl⟩
  · exact ⟨_, _, h1⟩
theorem PtR.at {w : World} {a : Option Addr} {n c : Nat} {A : List (Nat × Nat)} (h : PtR w (.slice a n c) A) {j : Nat} {p : Nat × Nat} (hj : A[j]? = some p) :
    ∃ b o, a = some ⟨b, o, none⟩ ∧ b < w.heap.size ∧ w.cell? ⟨b, o + 2 * j, none⟩ = some (.int .i64 (p.1 : Nat)) ∧ w.cell? ⟨b, o + (2 * j + 1), none⟩ = some (.int .i64 (p.2 : Nat)) := by
  rcases h with ⟨rfl, _⟩ | ⟨b, o, c', h1, h2, h3⟩
  · simp at hj
  · simp only [Value.slice.injEq] at h1
    obtain ⟨rfl, _, _⟩ := h1
    exact ⟨b, o, rfl, h2, h3 j p hj⟩
theorem news_two (w : World) (x y : Value) (t : TypeId) : ∀ (j : Nat) (u : Value), [x, y][j]? = some u → (w.alloc (.cells #[x, y] t)).cell? ((⟨w.heap.size, 0, none⟩ : Addr).add j) = some u := by
  intro j u hj
  match j, hj with
  | 0, hj => simp at hj; subst hj; simp [Addr.add]
  | 1, hj => simp at hj; subst hj; simp [Addr.add]
theorem one_two (x y : Int) : ∀ u ∈ [Value.int .i64 x, Value.int .i64 y], u.oneCell' = true := by intro u hu; simp at hu; rcases hu with rfl | rfl <;> rfl
/-- The parts, and may they be? -/
def PartsA (w : World) (L : List UInt8) (e : Ending) (w' : World) : Prop :=
  (∃ v A, e = .returned (.tuple #[v, .bool true]) ∧ PtL w' w.heap.size v A ∧ PtsOf L A ∧ Below w.heap.size w w') ∨ (e = .returned (.tuple #[.slice none 0 0, .bool false]) ∧ Om.ok L = false ∧ Below w.heap.size w w')

set_option maxHeartbeats 4000000 in
set_option maxRecDepth 100000 in
theorem partsW_any (v0 : Value) (L : List UInt8) (hL : L.length ≤ 1000) (w : World) (hv : Bytes w v0 L) :
    Calls Try.prog 82 #[v0] w (PartsA w L) := by
  obtain ⟨a, c, rfl⟩ := hv.form
  have hi5 : (Try.prog.info? 182).map (fun i => (i.zero, i.size, i.bytes)) = some (some (.agg #[.int .i64 0, .int .i64 0]), 2, 16) := by kernel_rfl
  obtain ⟨i0, hi, hx⟩ := Option.map_eq_some_iff.1 hi5
  simp only [Prod.mk.injEq] at hx
  obtain ⟨hz0, hz1, hz2⟩ := hx
  have HV := Lib.hid hv
  have hL2 : (L.length : Int) ≤ 1000 := by omega
  clear hi5 hv
  go_enter Try.func82, Try.ntmps82
  go_wp2_with fail
  go_loopw [4, 5, 6] (fun v i n wr => ∃ (A : List (Nat × Nat)) (k : Nat), i = .int .i64 (k : Nat) ∧ PtInv L A k ∧ Hid (PtL wr w.heap.size v A) ∧ Hid (Below w.heap.size w wr)) (fun _ i _ _ => L.length - (intOf i).toNat)
  case atStart => exact ⟨[], 0, rfl, PtInv.start L, World.ownsRow_nil w _ _ _, Below.refl _ _⟩
  case round =>
    obtain ⟨A, k, rfl, hinv, HW, HB⟩ := hrel
    have hkl := hinv.le
    have hal := hinv.al
    have HI := Lib.hid hinv
    clear hinv
    by_cases hlt : k < L.length
    · obtain ⟨bx, ox, rfl, hbx, hex⟩ := HV.out.at1 hlt
      have hcell := cell_later' HB.out hbx hex
      have hx256 := Sm.at0_lt L k
      obtain ⟨x, hx⟩ : ∃ x : Nat, x = Sm.at0 L k := ⟨_, rfl⟩
      rw [← hx] at hcell hx256
      have HX := Lib.hid hx
      have g1 : (k : Int) < L.length := by omega
      clear hex hx
      by_cases h0 : x = 0
      · have g2 : ((x : Int) == 0) = true := by rw [beq_iff_eq]; omega
        have HE := Lib.hid (HI.out.stop (.inr (by rw [← HX.out]; exact h0)))
        clear h0
        go_wp2_with fail
        go_ret2
        exact .inl ⟨_, A, rfl, HW.out, HE.out, HB.out⟩
      · have g2 : ((x : Int) == 0) = false := by rw [beq_eq_false_iff_ne]; omega
        by_cases h1 : x = 1
        · have g3 : ((x : Int) != 1) = false := by simp; omega
          have HN := Lib.hid (HI.out.nop hlt (by rw [← HX.out]; exact h1))
          clear h0 h1
          go_wp2_with (at_builtin; refine wpList_append_own _ rfl _ _ 149 rfl w.heap.size 182 i0 (.agg #[.int .i64 0, .int .i64 0]) 2 16 Try.underlying149 hi hz0 hz1 hz2 rfl (by decide) _ _ _ rfl (HW.out.alloc _) ⟨wr.heap.size, 0, none⟩ 1 1 [.int .i64 (k : Nat), .int .i64 1] rfl rfl (news_two wr _ _ _) (one_two _ _) (by unfold maxLen; omega) (by omega) (by simp; exact Nat.le_succ_of_le HB.out.size) ?_)
          intro v1 w1 hown hgrow _
          have hown2 : Hid (PtL w1 w.heap.size v1 (A ++ [(k, 1)])) := by
            show World.ownsRow _ _ _ _ _ _ _
            rw [pc_snoc, List.length_append]; exact hown
          have hB2 : Hid (Below w.heap.size w w1) := (HB.out.alloc HB.out.size _).grown hgrow (by simp; exact Nat.le_succ_of_le HB.out.size) (fun j hj => own_base HW.out hj)
          clear hown hgrow
          go_wp2_with fail
          go_roundw
          case rel => exact ⟨A ++ [(k, 1)], k + 1, by go_num, HN.out, hown2, hB2⟩
          case measure => simp [intOf]; omega
        · have g3 : ((x : Int) != 1) = true := by simp; omega
          by_cases h2 : k + 1 < L.length
          · obtain ⟨bx', ox', e1, _, hex2⟩ := HV.out.at1 h2
            simp only [Option.some.injEq, Addr.mk.injEq, and_true] at e1
            obtain ⟨rfl, rfl⟩ := e1
            have hcell2 := cell_later' HB.out hbx hex2
            have hy256 := Sm.at0_lt L (k + 1)
            obtain ⟨y, hy⟩ : ∃ y : Nat, y = Sm.at0 L (k + 1) := ⟨_, rfl⟩
            rw [← hy] at hcell2 hy256
            have HY := Lib.hid hy
            have g4 : (k : Int) + 1 < L.length := by omega
            clear hex2 hy
            by_cases h3 : y < 2
            · have g5 : (y : Int) < 2 := by omega
              have HE := Lib.hid (HI.out.bad hlt (by rw [← HX.out]; omega) (.inr (.inl (by rw [← HY.out]; exact h3))))
              clear h0 h1 h3
              go_wp2_with fail
              go_ret2
              exact .inr ⟨rfl, HE.out, HB.out⟩
            · have g5 : ((y : Int) < 2) = False := by simp; omega
              by_cases h4 : k + y ≤ L.length
              · have g6 : (k : Int) + y ≤ L.length := by omega
                have HN := Lib.hid (HI.out.opt (by rw [← HX.out]; omega) HY.out (by omega) h4)
                have h5 : 2 ≤ y := by omega
                clear h0 h1 h3
                go_wp2_with (at_builtin; refine wpList_append_own _ rfl _ _ 149 rfl w.heap.size 182 i0 (.agg #[.int .i64 0, .int .i64 0]) 2 16 Try.underlying149 hi hz0 hz1 hz2 rfl (by decide) _ _ _ rfl (HW.out.alloc _) ⟨wr.heap.size, 0, none⟩ 1 1 [.int .i64 (k : Nat), .int .i64 (y : Nat)] rfl rfl (news_two wr _ _ _) (one_two _ _) (by unfold maxLen; omega) (by omega) (by simp; exact Nat.le_succ_of_le HB.out.size) ?_)
                intro v1 w1 hown hgrow _
                have hown2 : Hid (PtL w1 w.heap.size v1 (A ++ [(k, y)])) := by
                  show World.ownsRow _ _ _ _ _ _ _
                  rw [pc_snoc, List.length_append]; exact hown
                have hB2 : Hid (Below w.heap.size w w1) := (HB.out.alloc HB.out.size _).grown hgrow (by simp; exact Nat.le_succ_of_le HB.out.size) (fun j hj => own_base HW.out hj)
                clear hown hgrow
                go_wp2_with fail
                go_roundw
                case rel => exact ⟨A ++ [(k, y)], k + y, by go_num, HN.out, hown2, hB2⟩
                case measure => simp [intOf]; omega
              · have g6 : (L.length : Int) < k + y := by omega
                have HE := Lib.hid (HI.out.bad hlt (by rw [← HX.out]; omega) (.inr (.inr (by rw [← HY.out]; omega))))
                clear h0 h1 h3 h4
                go_wp2_with fail
                go_ret2
                exact .inr ⟨rfl, HE.out, HB.out⟩
          · have g4 : (L.length : Int) ≤ k + 1 := by omega
            have HE := Lib.hid (HI.out.bad hlt (by rw [← HX.out]; omega) (.inl (by omega)))
            clear h0 h1 h2
            go_wp2_with fail
            go_ret2
            exact .inr ⟨rfl, HE.out, HB.out⟩
    · have g1 : (L.length : Int) ≤ k := by omega
      have HE := Lib.hid (HI.out.stop (.inl (by omega)))
      go_wp2_with fail
      go_ret2
      exact .inl ⟨_, A, rfl, HW.out, HE.out, HB.out⟩
end Go.Proofs.Ytdjhgahdiggahaa

namespace Go.Proofs.Ytdjhgahdiggahaa
open Go.RowKit Go.Shelf
attribute [local go_sem] Oper.semAt_some

/-- The copied ones of what is told, one behind the other. -/
def copOf (s : List (Option (List UInt8))) : List UInt8 := s.flatMap fun | none => [] | some r => if 128 ≤ Sm.at0 r 0 then r else []
/-- Noughts behind, to a multiple of 4. -/
def pad (l : List UInt8) : List UInt8 := l ++ List.replicate ((4 - l.length % 4) % 4) 0
def copied (L : List UInt8) : List UInt8 := if Om.ok L then pad (copOf (Om.seq L)) else []
theorem copOf_snoc (s : List (Option (List UInt8))) (x : Option (List UInt8)) : copOf (s ++ [x]) = copOf s ++ (match x with | none => [] | some r => if 128 ≤ Sm.at0 r 0 then r else []) := by
  unfold copOf; rw [List.flatMap_append]; simp
theorem raw_snoc {w : World} (pre : List (Opt w)) (x : Opt w) : (pre ++ [x]).map Opt.raw = pre.map Opt.raw ++ [x.raw] := by rw [List.map_append]; rfl
theorem ne_snoc {w : World} {pre : List (Opt w)} {x : Opt w} {r : List UInt8} (h : ∀ p ∈ pre, p.raw ≠ none) (hx : some r = x.raw) : ∀ p ∈ pre ++ [x], p.raw ≠ none := fun p hp => (List.mem_append.1 hp).elim (h p) (fun e => by rw [List.mem_singleton.1 e, ← hx]; exact fun h => by cases h)

theorem wpListIn_app {F : Fence} {n : Nat} {w : World} {ops : Array Oper} {rest : List Oper} {o : Oper} {a : Act} {Q : Exit → Act → World → Prop} (hgd : o.guard = none) (s x : Operand)
    (ho : o.op = .call { callee := .builtin .append, args := #[s, x], argTypes := #[97, 97] }) (B : Nat) (v u : Value) (l0 l1 : List UInt8) (hs : a.eval s = v) (hx : a.eval x = u)
    (hown : OwnB w B v l0) (hu : Bytes w u l1) (hn : l0.length + l1.length ≤ 140737488355328) (hB : B ≤ w.heap.size)
    (h : ∀ v' w', OwnB w' B v' (l0 ++ l1) → Below B w w' → w.grownBy w' v.ownBlock → wpListIn F n Try.prog ops Q rest (a.put o.dst v') w') : wpListIn F n Try.prog ops Q (o :: rest) a w := by
  refine wpListIn_plain hgd fun K hK' => ?_
  obtain ⟨v', w', hrun, r1, r2, r3⟩ := run_app w B o.type v u l0 l1 hown hu hn hB
  unfold Oper.wpIn
  refine ⟨?_, ?_⟩
  · simp [Oper.about, ho, resolve, Target.leads, Sem.run_pure]
  · rw [Oper.semAt_plain F _ _ (by rw [ho]; intro c hc'; cases hc')]
    simp [execOp, ho, resolve, invoke, builtin, hs, hx, hrun, Result.andThen]
    exact hK' _ _ (h v' w' r1 r2 r3)

/-- Behind an append without a block of its own, and the store. -/
theorem Boxed.appended0 {W w1 : World} {n₀ B : Nat} {v v' : Value} {l l' : List UInt8}
    (hv : Boxed W B 97 v) (hrow : OwnB W n₀ v l) (hB : n₀ ≤ B) (hown' : OwnB w1 n₀ v' l') (hgrow : W.grownBy w1 v.ownBlock) (hbel : Below n₀ W w1) :
    Boxed w1 B 97 v ∧ Boxed (w1.setCell ⟨B, 0, none⟩ v') B 97 v' ∧ OwnB (w1.setCell ⟨B, 0, none⟩ v') n₀ v' l' ∧ KeepsOthers W (w1.setCell ⟨B, 0, none⟩ v') ∧ Below n₀ W (w1.setCell ⟨B, 0, none⟩ v') := by
  have hte : (97 : TypeId) ≠ 5 := by decide
  have hv1 : Boxed w1 B 97 v := hv.kept hgrow (hv.not_row hte hrow)
  refine ⟨hv1, hv1.set v', World.ownsRow.kept hown' (grownBy_setCell' w1 B v') (.inr (hv1.not_row hte hown').symm), ?_, hbel.setCell (p := ⟨B, 0, none⟩) hB v'⟩
  refine (KeepsOthers.of_grownBy hgrow fun j o ej hj => ?_).trans (KeepsOthers.setCell _ _ _)
  rcases hrow.2 with ⟨rfl, _⟩ | ⟨g, cap, cur, rfl, _, hgb, _⟩
  · simp [Value.ownBlock] at ej
  · obtain rfl : g = j := by simpa [Value.ownBlock] using ej
    rw [hgb] at hj; cases hj; rfl

theorem holdsB_own {β : Type} (n₀ B : Nat) (f : β → List UInt8) (G : β → Value → Prop) : Own (fun s W => ∃ v, Boxed W B 97 v ∧ OwnB W n₀ v (f s) ∧ G s v) :=
  holdsRow_own n₀ B 97 5 1 (fun s => (f s).length) (fun s => bv (f s)) G

theorem pad_snoc (P : List UInt8) (k : Nat) : P ++ List.replicate (k + 1) 0 = (P ++ List.replicate k 0) ++ [0] := by rw [List.replicate_succ', List.append_assoc]
def celLen (W : World) (B : Nat) : Nat := match W.cell? ⟨B, 0, none⟩ with | some (.slice _ n _) => n | _ => 0
theorem celLen_box {W : World} {B : Nat} {a : Option Addr} {n c : Nat} (h : Boxed W B 97 (.slice a n c)) : celLen W B = n := by unfold celLen; rw [h.cell]

end Go.Proofs.Ytdjhgahdiggahaa

namespace Go.Proofs.Ytdjhgahdiggahaa
open Go.RowKit

def onlyN (Q : Exit → Act → World → Prop) : Exit → Act → World → Prop
  | .normal, a, w => Q .normal a w
  | _, _, _ => False
section
variable {l n : Nat} {P : Program} {Q : Exit → Act → World → Prop}
theorem upon_round {o : Oper} {a : Act} {K K' : Act → World → Prop} (hK : ∀ a w, K a w → K' a w) : ∀ r : Result Next, o.upon P a K (onlyN Q) r → o.uponIn (Fence.wide.inRound l) n P a K' Q r
  | .ok (.value _) _, h => hK _ _ h
  | .ok .skip _, h => hK _ _ h
  | .ok (.defer _) _, h => hK _ _ h
  | .ok (.enter f args) w', h => ⟨fun h => by simp [Fence.wide] at h, CallsIn.inRound l (callsIn_wide.2 (Calls.mono (show Calls P f args w' _ from h) (fun e w'' hr => by
      cases e with
      | returned v => exact hK _ _ hr
      | panicked c => exact hr.elim
      | outgrown => obtain ⟨_, _, h⟩ := hr; exact h.elim)))⟩
  | .ok (.row row args) w', h => ⟨fun h => by simp [Fence.wide] at h, fun c cs _ => by
      obtain ⟨v, w'', hr, hs⟩ := (show Rows P row args w' _ from h) c cs
      exact ⟨v, w'', hK _ _ hr, stepsIn_wide.2 hs⟩⟩
  | .halt (.panic _) _, h => h.elim
  | .ok (.round ..) _, h => h.elim
theorem opIn_round {o : Oper} {a : Act} {w : World} {K K' : Act → World → Prop} (hK : ∀ a w, K a w → K' a w) (hd : ∀ c, o.op ≠ .defer c) (h : o.wp P a w K (onlyN Q)) : o.wpIn (Fence.wide.inRound l) n P a w K' Q :=
  ⟨fun _ _ => trivial, by rw [Oper.semAt_plain _ _ _ hd]; exact upon_round hK _ h⟩

def noDefer (ops : Array Oper) : Bool := ops.all fun o => match o.op with | .defer _ => false | _ => true
theorem noDefer_spec {ops : Array Oper} (h : noDefer ops = true) (i : Nat) (o : Oper) (ho : ops[i]? = some o) : ∀ c, o.op ≠ .defer c := by
  intro c hc
  have h2 := Array.all_eq_true.1 h i (Array.getElem?_eq_some_iff.1 ho).1
  rw [(Array.getElem?_eq_some_iff.1 ho).2, hc] at h2
  cases h2
theorem anyIn_round {md : Region.Mode} {ops : Array Oper} (hd : noDefer ops = true) : ∀ (fuel : Nat) (listed : Array Bool) (a : Act) (w : World), wpAny P md ops (onlyN Q) fuel listed a w → wpAnyIn (Fence.wide.inRound l) n P md ops Q fuel listed a w
  | 0, _, _, _, h => ⟨h.1, h.2⟩
  | fuel + 1, listed, a, w, h => ⟨fun he => h.1 he, fun i hi => by
      have h2 := h.2 i hi
      have ih := anyIn_round (md := md) hd fuel (listed.setIfInBounds i true)
      unfold wpOp at h2
      unfold wpOpIn
      cases ho : ops[i]? with
      | none => rw [ho] at h2; exact ih _ _ h2
      | some o =>
        rw [ho] at h2
        simp only at h2 ⊢
        by_cases hw : Region.wanted o (yielded ops a.tmps) = true
        · rw [if_pos hw] at h2 ⊢
          rcases h2 with h2 | ⟨_, _, _, h2⟩
          · exact opIn_round ih (noDefer_spec hd i o ho) h2
          · exact h2.elim
        · rw [if_neg hw] at h2 ⊢
          exact ⟨fun _ _ => trivial, ih _ _ h2⟩⟩
/-- The region in a round, by its walk with a condition held. -/
theorem wpIn_region_round {S : World → Prop} {id : Nat} {ops : Array Oper} {a : Act} {w : World} (hm : P.follows .mixedOrders = true) (hd : noDefer ops = true) (hS : S w.drew)
    (h : S w.drew → wpAnyH P .any ops (onlyN Q) S ops.size (Array.replicate ops.size false) a w.drew) : (Code.region id ops true).wpIn (Fence.wide.inRound l) n P Q a w :=
  wpIn_region_any hm (anyIn_round hd _ _ _ _ (wpAny_of_held _ _ _ _ (h hS)))
theorem wpIn_region_fin {S I : World → Prop} {id : Nat} {ops : Array Oper} {a : Act} {w : World} (hm : P.follows .mixedOrders = true) (hd : noDefer ops = true) (hS : S w.drew) (h1 : ∀ A w3, I w3 → Q .normal A w3)
    (h : (∀ A w3, I w3 → onlyN Q .normal A w3) → S w.drew → wpAnyH P .any ops (onlyN Q) S ops.size (Array.replicate ops.size false) a w.drew) : (Code.region id ops true).wpIn (Fence.wide.inRound l) n P Q a w :=
  wpIn_region_round hm hd hS (h fun A w3 hi => h1 A w3 hi)
end
end Go.Proofs.Ytdjhgahdiggahaa

namespace Go.Proofs.Ytdjhgahdiggahaa
open Go.RowKit Go.Shelf
attribute [local go_sem] Oper.semAt_some

theorem Boxed.below {W W' : World} {B : Nat} {t : TypeId} {v : Value} (h : Boxed W B t v) (hb : Below W.heap.size W W') : Boxed W' B t v := (hb.block B h.lt).trans h
theorem KeepsOthers.of_below {W W' : World} (hb : Below W.heap.size W W') : KeepsOthers W W' := ⟨hb.size, fun k o h _ => (hb.block k (Array.getElem?_eq_some_iff.1 h).1).trans h⟩

/-- The options among what is told. -/
def rawsOf (s : List (Option (List UInt8))) : List (List UInt8) := s.filterMap id
theorem rawsOf_snoc (s : List (Option (List UInt8))) (r : List UInt8) : rawsOf (s ++ [some r]) = rawsOf s ++ [r] := by unfold rawsOf; simp
theorem rawsOf_len (s : List (Option (List UInt8))) : (rawsOf s).length ≤ s.length := List.length_filterMap_le _ _

end Go.Proofs.Ytdjhgahdiggahaa

namespace Go.Proofs.Ytdjhgahdiggahaa
open Go.RowKit
attribute [local go_sem ↓] Go.wp_at_zero Go.wp_at_succ

def isRoute (k : Nat) : Bool := k == 131 || k == 137
def routedK (K : List (Nat × List UInt8)) : Bool := K.any fun p => isRoute p.1
theorem route_int (k : Nat) : ((k : Int) == 131 || (k : Int) == 137) = isRoute k := by
  unfold isRoute; rw [Bool.eq_iff_iff]; simp; omega

theorem raws_len (L : List UInt8) : (Om.raws L).length ≤ L.length := by
  unfold Om.raws
  split
  · exact Nat.le_trans (List.length_filterMap_le _ _) (Om.seq_len _ L (Nat.le_refl _))
  · simp
/-- Is a source route among them? -/
def routedB (L : List UInt8) : Bool := routedK ((Om.raws L).map kd)
end Go.Proofs.Ytdjhgahdiggahaa

namespace Go.Proofs.Ytdjhgahdiggahaa
open Sm

theorem at0_app {l r : List UInt8} {i : Nat} (h : i < l.length) : at0 (l ++ r) i = at0 l i := by unfold at0; rw [List.getElem?_append_left h]
/-- A row of whole options is read as it is. -/
theorem seq_flat : ∀ R : List (List UInt8), (∀ r ∈ R, 2 ≤ r.length ∧ 2 ≤ at0 r 0 ∧ at0 r 1 = r.length) → Om.seq R.flatten = R.map some
  | [], _ => by simp [Om.seq_nil]
  | r :: R, h => by
    obtain ⟨h1, h2, h3⟩ := h r (List.mem_cons_self ..)
    have e0 : at0 (r ++ R.flatten) 0 = at0 r 0 := at0_app (by omega)
    have e1 : at0 (r ++ R.flatten) 1 = r.length := by rw [at0_app (by omega), h3]
    rw [List.flatten_cons, Om.seq_opt (by omega) (by omega) (by rw [e1, List.length_append]; omega), e1, List.take_left', List.drop_left', seq_flat R (fun r hr => h r (List.mem_cons_of_mem _ hr))]
    · rfl
    · rfl
    · rfl
theorem raws_wf (L : List UInt8) : ∀ r ∈ Om.raws L, 2 ≤ r.length ∧ 2 ≤ at0 r 0 ∧ at0 r 1 = r.length := by
  intro r hr
  unfold Om.raws at hr
  split at hr
  · obtain ⟨o, ho, he⟩ := List.mem_filterMap.1 hr
    simp only [id] at he
    subst he
    exact Om.seq_some _ L (Nat.le_refl _) r ho
  · cases hr
theorem ok_flat (L : List UInt8) : Om.ok (Om.raws L).flatten = true ∧ Om.raws (Om.raws L).flatten = Om.raws L := by
  have h := seq_flat _ (raws_wf L)
  have hok : Om.ok (Om.raws L).flatten = true := by unfold Om.ok; rw [h]; simp
  refine ⟨hok, ?_⟩
  generalize Om.raws L = R at h hok ⊢
  unfold Om.raws
  rw [hok, h, if_pos rfl, List.filterMap_map]
  simp
theorem raws_no {L : List UInt8} (h : Om.ok L = false) : Om.raws L = [] := by unfold Om.raws; rw [h]; rfl
theorem copied_no {L : List UInt8} (h : Om.ok L = false) : copied L = [] := by unfold copied; rw [h]; rfl
theorem routed_no {L : List UInt8} (h : Om.ok L = false) : routedB L = false := by unfold routedB; rw [raws_no h]; rfl
theorem copied_mod (L : List UInt8) : (copied L).length % 4 = 0 := by
  unfold copied; split
  · unfold pad; rw [List.length_append, List.length_replicate]; omega
  · rfl
theorem raw_eq {r : List UInt8} (h : 2 ≤ r.length) : UInt8.ofNat (at0 r 0) :: UInt8.ofNat (at0 r 1) :: r.drop 2 = r := by
  match r, h with
  | a :: b :: t, _ => simp [at0]
theorem seq_total : ∀ (n : Nat) (l : List UInt8), l.length ≤ n → ((Om.seq l).filterMap id).flatten.length ≤ l.length
  | 0, l, h => by
    have : l = [] := List.length_eq_zero_iff.1 (by omega)
    subst this; rw [Om.seq_nil]; simp
  | n + 1, l, h => by
    rcases Nat.eq_zero_or_pos l.length with h0 | h0
    · have : l = [] := List.length_eq_zero_iff.1 h0
      subst this; rw [Om.seq_nil]; simp
    · by_cases h1 : at0 l 0 = 0
      · rw [Om.seq_end h1]; simp
      · by_cases h2 : at0 l 0 = 1
        · rw [Om.seq_nop h0 h2]
          have := seq_total n (l.drop 1) (by simp; omega)
          simp only [List.length_drop] at this; omega
        · by_cases h3 : l.length < 2 ∨ at0 l 1 < 2 ∨ l.length < at0 l 1
          · rw [Om.seq_bad h0 (by omega) h3]; simp
          · rw [Om.seq_opt (by omega) (by omega) (by omega)]
            have := seq_total n (l.drop (at0 l 1)) (by simp; omega)
            simp only [List.length_drop, List.filterMap_cons, id, List.flatten_cons, List.length_append, List.length_take] at this ⊢
            omega
theorem raws_total (L : List UInt8) : (Om.raws L).flatten.length ≤ L.length := by
  unfold Om.raws; split
  · exact seq_total _ L (Nat.le_refl _)
  · simp
theorem take_flat_le {R : List (List UInt8)} (k : Nat) : (R.take k).flatten.length ≤ R.flatten.length := by
  have : R.flatten = (R.take k).flatten ++ (R.drop k).flatten := by rw [← List.flatten_append, List.take_append_drop]
  rw [this, List.length_append]; omega
theorem take_flat_succ {R : List (List UInt8)} {k : Nat} (h : k < R.length) : (R.take (k + 1)).flatten = (R.take k).flatten ++ R[k] := by
  rw [List.take_succ_eq_append_getElem h, List.flatten_append, List.flatten_singleton]
theorem routed_take {R : List (List UInt8)} {k : Nat} (h : k < R.length) : routedK ((R.take (k + 1)).map kd) = (routedK ((R.take k).map kd) || isRoute (at0 R[k] 0)) := by
  unfold routedK
  rw [List.take_succ_eq_append_getElem h, List.map_append, List.any_append]
  simp [kd]
theorem route_cases (z : Nat) : isRoute z = (decide (z = 131) || decide (z = 137)) := by unfold isRoute; rw [Bool.eq_iff_iff]; simp
end Go.Proofs.Ytdjhgahdiggahaa

namespace Go.Proofs.Ytdjhgahdiggahaa
open Go.RowKit
attribute [local go_sem ↓] Go.wp_at_zero Go.wp_at_succ

theorem routed_parts {L : List UInt8} {A : List (Nat × Nat)} (h : PtsOf L A) : routedB L = A.any fun p => isRoute (Sm.at0 L p.1) := by
  unfold routedB routedK
  rw [h.raws, List.any_map]
  exact any_raws isRoute rfl A h.pts
/-- What Parts tells, with its list read. -/
theorem partsR_any (v0 : Value) (L : List UInt8) (hL : L.length ≤ 1000) (w : World) (hv : Bytes w v0 L) :
    Calls Try.prog 82 #[v0] w fun e w' => ∃ a c A, e = .returned (.tuple #[.slice a A.length c, .bool (Om.ok L)]) ∧ PtR w' (.slice a A.length c) A ∧ A.length ≤ L.length ∧ (∀ p ∈ A, PtOk L p) ∧ Om.raws L = rawsP L A ∧ Below w.heap.size w w' :=
  (partsW_any v0 L hL w hv).mono fun e w' h => by
    rcases h with ⟨v, A, rfl, h1, h2, h3⟩ | ⟨rfl, h1, h2⟩
    · obtain ⟨a, c, rfl⟩ := h1.form
      exact ⟨a, c, A, by rw [h2.ok], h1.reads, h2.al, h2.pts, h2.raws, h3⟩
    · exact ⟨none, 0, [], by rw [h1]; rfl, .inl ⟨rfl, _, _, rfl⟩, Nat.zero_le _, by simp, by rw [raws_no h1]; rfl, h2⟩
theorem any_take_succ {α : Type} {A : List α} {k : Nat} {p : α} (h : A[k]? = some p) (f : α → Bool) : (A.take (k + 1)).any f = ((A.take k).any f || f p) := by
  rw [List.take_add_one, List.any_append, h]; simp

end Go.Proofs.Ytdjhgahdiggahaa

namespace Go.Proofs.Ytdjhgahdiggahaa
open Go.RowKit
def AnsV (l : List UInt8) (w : World) (e : Ending) (w' : World) : Prop := ∃ v, e = .returned v ∧ Bytes w' v l ∧ Below w.heap.size w w'

theorem byte_of2 {n k : Nat} : ((n / 256 ^ k : Nat) : Int) % 256 = ((UInt8.ofNat (n / 256 ^ k)).toNat : Int) := by
  rw [UInt8.toNat_ofNat']; simp

set_option maxHeartbeats 1000000 in
set_option maxRecDepth 100000 in
theorem putRO_any (n size : Nat) (w : World) (hn : n < 18446744073709551616) (h2 : size ≤ 8) :
    Calls Try.prog 80 #[.int .u64 (n : Int), .int .i64 (size : Int)] w fun e w' => ∃ v, e = .returned v ∧ w'.ownsRow w.heap.size 5 1 v (putL n size).length (bv (putL n size)) ∧ Below w.heap.size w w' := by
  have hi5 : (Try.prog.info? 5).map (fun i => (i.zero, i.size, i.bytes)) = some (some (.int .u8 0), 1, 1) := by kernel_rfl
  obtain ⟨i0, hi, hx⟩ := Option.map_eq_some_iff.1 hi5
  simp only [Prod.mk.injEq] at hx
  obtain ⟨hz0, hz1, hz2⟩ := hx
  obtain ⟨w1, hmk, hown0, hg0⟩ := run_make_full (P := Try.prog) (w := w) w.heap.size 97 5 i0 (.int .u8 0) 1 Try.underlying97 hi hz0 hz1 .i64 .i64 size (by rw [hz2]; omega) (by unfold maxLen; omega) (Nat.le_refl _)
  clear hi5
  have HU := Lib.hid (show Below w.heap.size w w1 from (Below.refl _ _).grown hg0 (Nat.le_refl _) (by simp))
  have hm : (madeCells (Value.int IntKind.u8 0).cells (size * 1)).toList = bv (putR n size 0) := by
    rw [Nat.mul_one]; show (madeCells #[.int .u8 0] size).toList = _
    rw [toList_madeCells_one]; simp [putR, putL, bv]
  rw [hm] at hown0
  have HO := Lib.hid hown0
  clear hm hown0 hg0
  go_enter Try.func80, Try.ntmps80
  go_wp2
  clear hmk
  go_loopw [0, 6] (fun x i wr => ∃ k : Nat, k ≤ size ∧ i = .int .i64 ((size : Int) - 1 - k) ∧ x = .int .u64 ((n / 256 ^ k : Nat) : Int) ∧ Hid (wr.ownsRow w.heap.size 5 1 (.slice (some ⟨w.heap.size, 0, none⟩) size size) size (bv (putR n size k))) ∧ Hid (Below w.heap.size w wr)) (fun _ i _ => (intOf i + 1).toNat)
  case atStart => exact ⟨0, Nat.zero_le _, by simp, by simp, HO.out, HU⟩
  case round =>
    obtain ⟨k, hk, rfl, rfl, HW, HB⟩ := hrel
    obtain ⟨y, hy⟩ : ∃ y : Nat, y = n / 256 ^ k := ⟨_, rfl⟩
    have hyn : y < 18446744073709551616 := by rw [hy]; exact Nat.lt_of_le_of_lt (Nat.div_le_self _ _) hn
    rw [← hy]
    have Hy := Lib.hid hy
    clear hy
    by_cases hlt : k < size
    · obtain ⟨u, hu⟩ := own_cell HW.out (by simp [bv, putR, putL_length]; omega) (j := size - 1 - k) (by omega)
      have hf := HW.out.frozenAt (size - 1 - k)
      have hnat : ((size : Int) - 1 - k).toNat = size - 1 - k := by omega
      go_wp2
      have hst := (HW.out.stored (size - 1 - k) (.int .u8 ((UInt8.ofNat (n / 256 ^ k)).toNat : Int)))
      rw [putR_set n size k hlt] at hst
      rw [Hy.out, byte_of2 (n := n) (k := k)]
      exact ⟨⟨k + 1, by omega, congrArg (Value.int .i64) (by omega), by rw [Nat.pow_succ, ← Nat.div_div_eq_div_mul]; simp, hst.1, HB.out.setCell (Nat.le_refl _) _⟩, by simp [intOf]; omega⟩
    · have hk2 : k = size := by omega
      subst hk2
      go_wp2
      go_ret
      refine ⟨_, rfl, ?_, HB.out⟩
      have := HW.out
      rw [show putR n k k = putL n k from by simp [putR]] at this
      rw [putL_length]
      exact this
theorem putR_any (n size : Nat) (w : World) (hn : n < 18446744073709551616) (h2 : size ≤ 8) :
    Calls Try.prog 80 #[.int .u64 (n : Int), .int .i64 (size : Int)] w (AnsV (putL n size) w) :=
  (putRO_any n size w hn h2).mono fun _ _ ⟨v, h1, h2, h3⟩ => ⟨v, h1, Bytes.of_own h2, h3⟩

set_option maxHeartbeats 1000000 in
theorem getR_any (v : Value) (l : List UInt8) (w : World) (hv : Bytes w v l) (hl : l.length ≤ 8) :
    Calls Try.prog 113 #[v] w fun e w' => e = .returned (.int .u64 ((getL l : Nat) : Int)) ∧ w = w' := by
  rcases hv with ⟨rfl, a, c, rfl, _⟩ | ⟨b, o, c, rfl, hb, _, hc⟩
  · go_enter Try.func113, Try.ntmps113
    go_wp2
    go_rounds 1
    go_ret
    exact ⟨rfl, rfl⟩
  · have HC := Lib.hid hc
    clear hc
    go_enter Try.func113, Try.ntmps113
    go_wp2
    go_loop [3, 4] (fun x i => ∃ k : Nat, k ≤ l.length ∧ i = .int .i64 k ∧ x = .int .u64 ((getL (l.take k) : Nat) : Int)) (fun _ i => l.length - (intOf i).toNat)
    case atStart => exact ⟨0, Nat.zero_le _, rfl, by simp [getL]⟩
    case round =>
      obtain ⟨k, hk, rfl, rfl⟩ := hrel
      obtain ⟨y, hy⟩ : ∃ y : Nat, y = getL (l.take k) := ⟨_, rfl⟩
      by_cases hlt : k < l.length
      · have hyn : y < 72057594037927936 := by rw [hy]; exact getL_take_lt l (by omega) (by omega)
        have hs := getL_take l k hlt
        have hcell := HC.out k l[k] (List.getElem?_eq_getElem hlt)
        obtain ⟨z, hz⟩ : ∃ z : Nat, z = l[k].toNat := ⟨_, rfl⟩
        have hzn : z < 256 := by rw [hz]; exact l[k].toNat_lt
        rw [← hy]
        rw [← hy, ← hz] at hs
        rw [← hz] at hcell
        have Hs := Lib.hid hs
        clear hs hy hz
        go_wp2
        go_round
        case rel => exact ⟨k + 1, by omega, by go_num, by rw [Hs.out]; simp⟩
        case measure => simp [intOf]; omega
      · have hk2 : k = l.length := by omega
        subst hk2
        rw [← hy]
        have Hy : Hid (y = getL l) := by rw [List.take_length] at hy; exact hy
        clear hy
        go_wp2
        go_ret
        exact ⟨ret_i (by rw [← Hy.out]), rfl⟩
end Go.Proofs.Ytdjhgahdiggahaa

namespace Go.Proofs.Ytdjhgahdiggahaa
open Go.RowKit
attribute [local go_sem ↓] Go.wp_at_zero Go.wp_at_succ

/-- The words as values. -/
def wv (l : List UInt8) (k : Nat) : List Value := (List.range k).map fun i => .int .u16 (Sm.word l i : Nat)
theorem wv_succ (l : List UInt8) (k : Nat) : wv l (k + 1) = wv l k ++ [.int .u16 (Sm.word l k : Nat)] := by
  unfold wv; rw [List.range_succ]; simp
theorem wv_length (l : List UInt8) (k : Nat) : (wv l k).length = k := by simp [wv]

set_option maxHeartbeats 2000000 in
set_option maxRecDepth 100000 in
theorem wordsR_some (b : Option Addr) (c : Nat) (l : List UInt8) (w : World) (hv : Bytes w (.slice b l.length c) l) (hl : l.length ≤ 10000) :
    Calls Try.prog 130 #[.slice b l.length c] w fun e w' => ∃ v, e = .returned v ∧ w'.ownsRow w.heap.size 104 1 v ((l.length + 1) / 2) (wv l ((l.length + 1) / 2)) ∧ Below w.heap.size w w' := by
  have hi5 : (Try.prog.info? 104).map (fun i => (i.zero, i.size, i.bytes)) = some (some (.int .u16 0), 1, 2) := by kernel_rfl
  obtain ⟨i0, hi, hx⟩ := Option.map_eq_some_iff.1 hi5
  simp only [Prod.mk.injEq] at hx
  obtain ⟨hz0, hz1, hz2⟩ := hx
  have HV := Lib.hid hv
  clear hi5 hv
  go_enter Try.func130, Try.ntmps130
  go_wp2_with fail
  go_loopw [3, 4] (fun v i wr => ∃ k : Nat, k ≤ (l.length + 1) / 2 ∧ i = .int .i64 ((2 * k : Nat) : Int) ∧ Hid (wr.ownsRow w.heap.size 104 1 v k (wv l k)) ∧ Hid (Below w.heap.size w wr)) (fun _ i _ => l.length + 1 - (intOf i).toNat)
  case atStart => exact ⟨0, Nat.zero_le _, rfl, World.ownsRow_nil w _ _ _, Below.refl _ _⟩
  case round =>
    obtain ⟨k, hk, rfl, HW, HB⟩ := hrel
    by_cases hlt : 2 * k < l.length
    · obtain ⟨bx, ox, rfl, hbx, hex⟩ := HV.out.at hlt
      have hcell := cell_later' HB.out hbx hex
      obtain ⟨x, hx⟩ : ∃ x : Nat, x = l[2 * k].toNat := ⟨_, rfl⟩
      have hxn : x < 256 := by rw [hx]; exact l[2 * k].toNat_lt
      rw [← hx] at hcell
      have Hx := Lib.hid hx
      have g1 : (2 * (k : Int)) < l.length := by omega
      have hcell2 : wr.cell? ⟨bx, ox + 2 * k, none⟩ = some (.int .u8 (x : Int)) := hcell
      have b1 : bx < wr.heap.size := Nat.lt_of_lt_of_le hbx HB.out.size
      clear hx hex hcell
      by_cases hlt2 : 2 * k + 1 < l.length
      · obtain ⟨bx', ox', e1, _, hex2⟩ := HV.out.at hlt2
        simp only [Option.some.injEq, Addr.mk.injEq, and_true] at e1
        obtain ⟨rfl, rfl⟩ := e1
        have hcell3 := cell_later' HB.out hbx hex2
        obtain ⟨y, hy⟩ : ∃ y : Nat, y = l[2 * k + 1].toNat := ⟨_, rfl⟩
        have hyn : y < 256 := by rw [hy]; exact l[2 * k + 1].toNat_lt
        rw [← hy] at hcell3
        have Hy := Lib.hid hy
        have g2 : (2 * (k : Int)) + 1 < l.length := by omega
        clear hy hex2
        go_wp2_with (at_builtin; refine wpList_append_own _ rfl _ _ 191 rfl w.heap.size 104 i0 (.int .u16 0) 1 2 Try.underlying191 hi hz0 hz1 hz2 rfl (by decide) _ _ _ rfl (HW.out.alloc _) ⟨wr.heap.size, 0, none⟩ 1 1 [.int .u16 (256 * (x : Int) + (y : Int))] rfl rfl (news_one wr _ _) (one_int _ _) (by unfold maxLen; omega) (by omega) (by simp; exact Nat.le_succ_of_le HB.out.size) ?_)
        intro v' w1 hown' hgrow _
        have hwd : Sm.word l k = 256 * x + y := by
          rw [Hx.out, Hy.out]
          unfold Sm.word Sm.at0
          rw [List.getElem?_eq_getElem hlt, List.getElem?_eq_getElem hlt2]; rfl
        have hown2 : Hid (w1.ownsRow w.heap.size 104 1 v' (k + 1) (wv l (k + 1))) := by
          show World.ownsRow _ _ _ _ _ _ _
          rw [wv_succ, hwd]; exact hown'
        have hB2 : Hid (Below w.heap.size w w1) := (HB.out.alloc HB.out.size _).grown hgrow (by simp; exact Nat.le_succ_of_le HB.out.size) (fun j hj => own_base HW.out hj)
        clear hown' hgrow hwd
        go_wp2_with fail
        go_roundw
        case rel => exact ⟨k + 1, by omega, by go_num, hown2, hB2⟩
        case measure => simp [intOf]; omega
      · have g2 : (l.length : Int) ≤ 2 * (k : Int) + 1 := by omega
        go_wp2_with (at_builtin; refine wpList_append_own _ rfl _ _ 191 rfl w.heap.size 104 i0 (.int .u16 0) 1 2 Try.underlying191 hi hz0 hz1 hz2 rfl (by decide) _ _ _ rfl (HW.out.alloc _) ⟨wr.heap.size, 0, none⟩ 1 1 [.int .u16 (256 * (x : Int))] rfl rfl (news_one wr _ _) (one_int _ _) (by unfold maxLen; omega) (by omega) (by simp; exact Nat.le_succ_of_le HB.out.size) ?_)
        intro v' w1 hown' hgrow _
        have hwd : Sm.word l k = 256 * x := by
          rw [Hx.out]
          unfold Sm.word Sm.at0
          rw [List.getElem?_eq_getElem hlt, List.getElem?_eq_none (by omega)]; rfl
        have hown2 : Hid (w1.ownsRow w.heap.size 104 1 v' (k + 1) (wv l (k + 1))) := by
          show World.ownsRow _ _ _ _ _ _ _
          rw [wv_succ, hwd]; exact hown'
        have hB2 : Hid (Below w.heap.size w w1) := (HB.out.alloc HB.out.size _).grown hgrow (by simp; exact Nat.le_succ_of_le HB.out.size) (fun j hj => own_base HW.out hj)
        clear hown' hgrow hwd
        go_wp2_with fail
        go_roundw
        case rel => exact ⟨k + 1, by omega, by go_num, hown2, hB2⟩
        case measure => simp [intOf]; omega
    · have g1 : (l.length : Int) ≤ 2 * (k : Int) := by omega
      have e : k = (l.length + 1) / 2 := by omega
      have E := Lib.hid e
      clear e
      go_wp2_with fail
      go_ret
      exact ⟨_, rfl, by rw [← E.out]; exact HW.out, HB.out⟩

theorem totalR_some (b : Option Addr) (c : Nat) (l : List UInt8) (w : World) (hv : Bytes w (.slice b l.length c) l) (hl : l.length ≤ 10000) :
    Calls Try.prog 114 #[.slice b l.length c] w fun e w' => e = .returned (.int .u16 (Sm.tot l : Nat)) ∧ Below w.heap.size w w' := by
  have HV := Lib.hid hv
  clear hv
  go_enter Try.func114, Try.ntmps114
  go_wp2_with fail
  refine (wordsR_some b c l w HV.out hl).mono ?_
  rintro e w1 ⟨v, rfl, hown, hb⟩
  have hrow := Row.of_own hown
  obtain ⟨a1, c1, rfl⟩ := hrow.form
  rw [wv_length] at hrow ⊢
  have HR := Lib.hid hrow
  have HB := Lib.hid hb
  clear hown hrow hb
  obtain ⟨n, hn⟩ : ∃ n, n = (l.length + 1) / 2 := ⟨_, rfl⟩
  rw [← hn] at HR ⊢
  have hn2 : n ≤ 10000 := by omega
  have Hn := Lib.hid hn
  clear hn
  go_wp2_with fail
  go_loop [4, 5] (fun t i => ∃ k : Nat, k ≤ n ∧ i = .int .i64 k ∧ t = .int .u16 (Sm.canon (Sm.upto l k) : Nat)) (fun _ i => n - (intOf i).toNat)
  case atStart => exact ⟨0, Nat.zero_le _, rfl, rfl⟩
  case round =>
    obtain ⟨k, hk, rfl, rfl⟩ := hrel
    rcases Nat.lt_or_ge k n with hlt | hge
    · obtain ⟨bl, bo, rfl, hbl, hc⟩ := HR.out.at (i := k) (x := .int .u16 (Sm.word l k : Nat)) (by simp [wv, hlt])
      have g1 : (k : Int) < n := by omega
      have d1 := Sm.canon_lt (Sm.upto l k)
      have d2 := Sm.word_lt l k
      go_wp2_with fail
      refine (addR_int _ _ _ (by omega) (by omega) (by omega) (by omega) (Sm.canon (Sm.upto l (k + 1)) : Nat) (by rw [Int.toNat_natCast, Int.toNat_natCast, Sm.step])).mono ?_
      rintro e w3 ⟨rfl, rfl⟩
      go_wp2_with fail
      go_round
      case rel => exact ⟨k + 1, by omega, by go_num, rfl⟩
      case measure => simp [intOf]; omega
    · have e : k = n := by omega
      subst e
      go_wp2_with fail
      go_ret
      exact ⟨ret_i (by rw [Hn.out]; rfl), HB.out⟩
theorem totalR_any (v : Value) (l : List UInt8) (w : World) (hv : Bytes w v l) (hl : l.length ≤ 10000) :
    Calls Try.prog 114 #[v] w fun e w' => e = .returned (.int .u16 (Sm.tot l : Nat)) ∧ Below w.heap.size w w' := by
  obtain ⟨b, c, rfl⟩ := hv.form
  exact totalR_some b c l w hv hl
theorem checkR_any (v : Value) (l : List UInt8) (w : World) (hv : Bytes w v l) (hl : l.length ≤ 10000) :
    Calls Try.prog 85 #[v] w fun e w' => e = .returned (.int .u16 (65535 - Sm.tot l : Nat)) ∧ Below w.heap.size w w' := by
  have hb := Sm.tot_lt l
  have HV := Lib.hid hv
  clear hv
  go_enter Try.func85, Try.ntmps85
  go_wp2_with fail
  refine (totalR_any v l w HV.out hl).mono ?_
  rintro e w1 ⟨rfl, hb1⟩
  go_wp2_with fail
  go_ret
  exact ⟨ret_i (by omega), hb1⟩
end Go.Proofs.Ytdjhgahdiggahaa

namespace Go.Proofs.Ytdjhgahdiggahaa
open Go.RowKit
/-- A number of some bytes, read by the reference. -/
theorem getR_at {wm : World} {a : Option Addr} {n c : Nat} {l : List UInt8} (hv : Bytes wm (.slice a n c) l) (i k : Nat) (hk : k ≤ 8) (h : i + k ≤ l.length) :
    ∃ a', (∀ w, (Instr.slice 97 (.slice a n c) (some (.int .i64 (i : Int))) (some (.int .i64 ((i + k : Nat) : Int))) none).run Try.prog w = .ok (.slice a' k (c - i)) w) ∧ ∀ W, Below wm.heap.size wm W → Calls Try.prog 113 #[.slice a' k (c - i)] W fun e w' => e = .returned (.int .u64 (numAt l i k : Nat)) ∧ W = w' := by
  obtain ⟨a', h1, h2⟩ := hv.cut_lh (i : Int) ((i + k : Nat) : Int) i (i + k) rfl rfl (by omega) h
  rw [Nat.add_sub_cancel_left] at h1 h2
  exact ⟨a', h1, fun W hb => getR_any _ _ W (h2.later hb) (by rw [List.length_drop, List.length_take]; omega)⟩

end Go.Proofs.Ytdjhgahdiggahaa
