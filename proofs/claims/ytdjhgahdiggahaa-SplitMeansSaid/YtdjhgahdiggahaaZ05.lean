/- A region that draws its order, cut at what is done: one lemma for each set of done operations.
   Bits of a header's word of flags; numbers of one byte.
   A header's block in memory.
   Lists of options in memory: owned, and read.
   The contract of bytes.Clone. -/
import Derived.RangeFuncNested
import Derived.Deep.MidRow
import Derived.Deep.RegionHeld3
import Derived.Deep.AppendLies
import Derived.Test.YtdjhgahdiggahaaZ01
import Derived.Test.YtdjhgahdiggahaaZ02
import Derived.Test.YtdjhgahdiggahaaZ03
import Derived.Test.YtdjhgahdiggahaaZ04

set_option linter.unusedSimpArgs false
set_option linter.unusedVariables false
namespace Go.Proofs.Ytdjhgahdiggahaa
open Go.RowKit
theorem clone_any (v : Value) (l : List UInt8) (w : World) (hv : Bytes w v l) (hl : l.length ≤ 140737488355328) :
    Calls Try.prog 111 #[v] w fun e w' => ∃ v', e = .returned v' ∧ OwnB w' w.heap.size v' l ∧ Below w.heap.size w w' := by
  obtain ⟨a, c, rfl⟩ := hv.form
  cases a with
  | none =>
    obtain ⟨e1, rfl, rfl⟩ := hv.noaddr
    refine (Try.bytes_Clone_nil _ _ w).mono ?_
    rintro e w' ⟨rfl, rfl⟩
    exact ⟨_, rfl, OwnB.nil _ _, Below.refl _ _⟩
  | some ad =>
    refine (Try.bytes_Clone_at ad l.length c (l.map fun b => (b.toNat : Int)) w (by simp) hl (fun i hi => ?_)).mono ?_
    · have := hv.news i (.int .u8 (l[i].toNat : Int)) (by simp [bv, hi])
      rw [this]; simp [hi]
    · rintro e w' ⟨v', rfl, h1, _, h2⟩
      refine ⟨v', rfl, ?_, h2⟩
      rw [List.map_map] at h1
      exact h1
end Go.Proofs.Ytdjhgahdiggahaa

namespace Go.Proofs.Ytdjhgahdiggahaa
open Go.RowKit

/-- The cells of options. -/
def oc : List (List UInt8) → List Value → List Value
  | r :: R, u :: us => .int .u8 (Sm.at0 r 0 : Nat) :: u :: oc R us
  | _, _ => []
theorem oc_snoc : ∀ (R : List (List UInt8)) (us : List Value) (r : List UInt8) (u : Value), us.length = R.length → oc (R ++ [r]) (us ++ [u]) = oc R us ++ [.int .u8 (Sm.at0 r 0 : Nat), u]
  | [], [], _, _, _ => rfl
  | a :: R, b :: us, r, u, h => by
    have := oc_snoc R us r u (by simpa using h)
    simp only [List.cons_append, oc, this]
theorem oc_at : ∀ (R : List (List UInt8)) (us : List Value) (j : Nat) (r : List UInt8) (u : Value), us.length = R.length → R[j]? = some r → us[j]? = some u → (oc R us)[2 * j]? = some (.int .u8 (Sm.at0 r 0 : Nat)) ∧ (oc R us)[2 * j + 1]? = some u
  | [], _, _, _, _, _, h, _ => by simp at h
  | _ :: _, [], _, _, _, h, _, _ => by simp at h
  | a :: R, b :: us, 0, r, u, _, h, h2 => by simp at h h2; subst h h2; exact ⟨rfl, rfl⟩
  | a :: R, b :: us, j + 1, r, u, hl, h, h2 => by
    have := oc_at R us j r u (by simpa using hl) (by simpa using h) (by simpa using h2)
    rw [show 2 * (j + 1) = 2 * j + 1 + 1 by omega]
    simpa [oc] using this

/-- The value reads as these options: kinds, and data. -/
def OptR (w : World) (v : Value) (K : List (Nat × List UInt8)) : Prop :=
  (K = [] ∧ ∃ a c, v = .slice a 0 c) ∨
  ∃ b o c, v = .slice (some ⟨b, o, none⟩) K.length c ∧ b < w.heap.size ∧ ∀ (j k : Nat) (d : List UInt8), K[j]? = some (k, d) → w.cell? ⟨b, o + 2 * j, none⟩ = some (.int .u8 k) ∧ ∃ u, w.cell? ⟨b, o + (2 * j + 1), none⟩ = some u ∧ Bytes w u d
def kd (r : List UInt8) : Nat × List UInt8 := (Sm.at0 r 0, r.drop 2)
theorem OptR.later {w w' : World} {v : Value} {K : List (Nat × List UInt8)} (h : OptR w v K) (hb : Below w.heap.size w w') : OptR w' v K := by
  rcases h with h | ⟨b, o, c, h1, h2, h3⟩
  · exact .inl h
  · refine .inr ⟨b, o, c, h1, Nat.lt_of_lt_of_le h2 hb.size, fun j k d hj => ?_⟩
    obtain ⟨e1, u, e2, e3⟩ := h3 j k d hj
    exact ⟨cell_later hb e1, u, cell_later hb e2, e3.later hb⟩
theorem OptR.form {w : World} {v : Value} {K : List (Nat × List UInt8)} (h : OptR w v K) : ∃ a c, v = .slice a K.length c := by
  rcases h with ⟨rfl, a, c, rfl⟩ | ⟨b, o, c, rfl, _⟩
  · exact ⟨a, c, rfl⟩
  · exact ⟨_, c, rfl⟩
theorem OptR.at {w : World} {a : Option Addr} {n c : Nat} {K : List (Nat × List UInt8)} (h : OptR w (.slice a n c) K) {i : Nat} (hi : i < K.length) :
    ∃ b o, a = some ⟨b, o, none⟩ ∧ b < w.heap.size ∧ w.cell? ⟨b, o + 2 * i, none⟩ = some (.int .u8 K[i].1) ∧ ∃ x m d, w.cell? ⟨b, o + (2 * i + 1), none⟩ = some (.slice x m d) ∧ m = K[i].2.length ∧ Bytes w (.slice x m d) K[i].2 := by
  rcases h with ⟨rfl, _⟩ | ⟨b, o, c', h1, h2, h3⟩
  · simp at hi
  · simp only [Value.slice.injEq] at h1
    obtain ⟨e1, u, e2, e3⟩ := h3 i K[i].1 K[i].2 (List.getElem?_eq_getElem hi)
    obtain ⟨x, d, rfl⟩ := e3.form
    exact ⟨b, o, h1.1, h2, e1, x, _, d, e2, rfl, e3⟩
end Go.Proofs.Ytdjhgahdiggahaa

namespace Go.Proofs.Ytdjhgahdiggahaa
open Go.RowKit

/-- The cells of a header of noughts. -/
def hz : List Value := [.int .u8 0, .int .u16 0, .bool false, .bool false, .bool false, .int .i64 0, .int .u8 0, .int .u8 0, .int .u32 0, .int .u32 0, .slice none 0 0]
/-- A header's block. -/
def HdAt (g : Nat) (cs : List Value) (w : World) : Prop := w.heap[g]? = some (.cells cs.toArray 106 (0, 0))
theorem HdAt.lt {g : Nat} {cs : List Value} {w : World} (h : HdAt g cs w) : g < w.heap.size := (Array.getElem?_eq_some_iff.1 h).1
theorem HdAt.later {g : Nat} {cs : List Value} {w w' : World} (h : HdAt g cs w) (hb : Below w.heap.size w w') : HdAt g cs w' := (hb.block g h.lt).trans h
theorem HdAt.new (w : World) (cs : List Value) : HdAt w.heap.size cs (w.alloc (.cells cs.toArray 106)) := World.alloc_heap_new w _
theorem HdAt.cell {g : Nat} {cs : List Value} {w : World} (h : HdAt g cs w) {j : Nat} {x : Value} (hx : cs[j]? = some x) : w.cell? ⟨g, j, none⟩ = some x := by
  rw [cell_of_row w g j cs.toArray _ (0, 0) h]; simpa using hx
theorem HdAt.frozen {g : Nat} {cs : List Value} {w : World} (h : HdAt g cs w) (j : Nat) : w.frozen? ⟨g, j, none⟩ = false := by
  unfold World.frozen?; simp [show w.heap[g]? = _ from h]
theorem HdAt.set {g : Nat} {cs : List Value} {w : World} (h : HdAt g cs w) (j : Nat) (x : Value) : HdAt g (cs.set j x) (w.setCell ⟨g, j, none⟩ x) := by
  have hl := h.lt
  have hk : w.heap[g] = .cells cs.toArray 106 (0, 0) := (Array.getElem?_eq_some_iff.1 h).2
  show (w.heap.modify g _)[g]? = _
  rw [Array.getElem?_eq_getElem (by rw [Array.size_modify]; exact hl), Array.getElem_modify_self, hk]
  simp
theorem HdAt.other {g b : Nat} {cs : List Value} {w : World} (h : HdAt g cs w) (hne : g ≠ b) (j : Nat) (x : Value) : HdAt g cs (w.setCell ⟨b, j, none⟩ x) := by
  show (w.setCell ⟨b, j, none⟩ x).heap[g]? = _
  rw [Below.heap_setCell _ _ _ _ (by simpa using hne)]; exact h
theorem HdAt.range {g : Nat} {cs : List Value} {w : World} (h : HdAt g cs w) : w.rangeAt g 0 cs := fun j v hv => by rw [Nat.zero_add]; exact h.cell hv
theorem HdAt.own {g : Nat} {cs : List Value} {w : World} (h : HdAt g cs w) (j : Nat) (x : Value) {B : Nat} {v : Value} {l : List UInt8} (ho : OwnB w B v l) : OwnB (w.setCell ⟨g, j, none⟩ x) B v l := by
  refine World.ownsRow.kept ho (grownBy_setCell_at w g j x) ?_
  cases hv : v.ownBlock with
  | none => exact .inl rfl
  | some b =>
    refine .inr fun e => ?_
    obtain ⟨cur, hc⟩ := own_block ho hv
    simp only [Option.some.injEq] at e
    subst e
    have h2 : w.heap[b]? = _ := h
    rw [hc] at h2
    simp at h2
/-- Eleven stores into a header's block. -/
theorem HdAt.set11 {g : Nat} {w : World} {c0 c1 c2 c3 c4 c5 c6 c7 c8 c9 c10 : Value} (h : HdAt g [c0, c1, c2, c3, c4, c5, c6, c7, c8, c9, c10] w) (x0 x1 x2 x3 x4 x5 x6 x7 x8 x9 x10 : Value) :
    HdAt g [x0, x1, x2, x3, x4, x5, x6, x7, x8, x9, x10] (((((((((((w.setCell ⟨g, 0, none⟩ x0).setCell ⟨g, 1, none⟩ x1).setCell ⟨g, 2, none⟩ x2).setCell ⟨g, 3, none⟩ x3).setCell ⟨g, 4, none⟩ x4).setCell ⟨g, 5, none⟩ x5).setCell ⟨g, 6, none⟩ x6).setCell ⟨g, 7, none⟩ x7).setCell ⟨g, 8, none⟩ x8).setCell ⟨g, 9, none⟩ x9).setCell ⟨g, 10, none⟩ x10) ∧ (∀ B v l, OwnB w B v l → OwnB (((((((((((w.setCell ⟨g, 0, none⟩ x0).setCell ⟨g, 1, none⟩ x1).setCell ⟨g, 2, none⟩ x2).setCell ⟨g, 3, none⟩ x3).setCell ⟨g, 4, none⟩ x4).setCell ⟨g, 5, none⟩ x5).setCell ⟨g, 6, none⟩ x6).setCell ⟨g, 7, none⟩ x7).setCell ⟨g, 8, none⟩ x8).setCell ⟨g, 9, none⟩ x9).setCell ⟨g, 10, none⟩ x10) B v l) ∧ (∀ B, B ≤ g → Below B w (((((((((((w.setCell ⟨g, 0, none⟩ x0).setCell ⟨g, 1, none⟩ x1).setCell ⟨g, 2, none⟩ x2).setCell ⟨g, 3, none⟩ x3).setCell ⟨g, 4, none⟩ x4).setCell ⟨g, 5, none⟩ x5).setCell ⟨g, 6, none⟩ x6).setCell ⟨g, 7, none⟩ x7).setCell ⟨g, 8, none⟩ x8).setCell ⟨g, 9, none⟩ x9).setCell ⟨g, 10, none⟩ x10)) ∧ (∀ g' cs', g' ≠ g → HdAt g' cs' w → HdAt g' cs' (((((((((((w.setCell ⟨g, 0, none⟩ x0).setCell ⟨g, 1, none⟩ x1).setCell ⟨g, 2, none⟩ x2).setCell ⟨g, 3, none⟩ x3).setCell ⟨g, 4, none⟩ x4).setCell ⟨g, 5, none⟩ x5).setCell ⟨g, 6, none⟩ x6).setCell ⟨g, 7, none⟩ x7).setCell ⟨g, 8, none⟩ x8).setCell ⟨g, 9, none⟩ x9).setCell ⟨g, 10, none⟩ x10)) := by
  have h1 := HdAt.set h 0 x0
  have h2 := HdAt.set h1 1 x1
  have h3 := HdAt.set h2 2 x2
  have h4 := HdAt.set h3 3 x3
  have h5 := HdAt.set h4 4 x4
  have h6 := HdAt.set h5 5 x5
  have h7 := HdAt.set h6 6 x6
  have h8 := HdAt.set h7 7 x7
  have h9 := HdAt.set h8 8 x8
  have h10 := HdAt.set h9 9 x9
  have h11 := HdAt.set h10 10 x10
  refine ⟨h11, fun B v l ho => ?_, fun B hB => ?_, fun g' cs' hne hh => ?_⟩
  · exact HdAt.own h10 10 x10 (HdAt.own h9 9 x9 (HdAt.own h8 8 x8 (HdAt.own h7 7 x7 (HdAt.own h6 6 x6 (HdAt.own h5 5 x5 (HdAt.own h4 4 x4 (HdAt.own h3 3 x3 (HdAt.own h2 2 x2 (HdAt.own h1 1 x1 (HdAt.own h 0 x0 (ho)))))))))))
  · exact (((((((((((Below.refl _ _).setCell (p := ⟨g, 0, none⟩) hB x0).setCell (p := ⟨g, 1, none⟩) hB x1).setCell (p := ⟨g, 2, none⟩) hB x2).setCell (p := ⟨g, 3, none⟩) hB x3).setCell (p := ⟨g, 4, none⟩) hB x4).setCell (p := ⟨g, 5, none⟩) hB x5).setCell (p := ⟨g, 6, none⟩) hB x6).setCell (p := ⟨g, 7, none⟩) hB x7).setCell (p := ⟨g, 8, none⟩) hB x8).setCell (p := ⟨g, 9, none⟩) hB x9).setCell (p := ⟨g, 10, none⟩) hB x10
  · exact HdAt.other (HdAt.other (HdAt.other (HdAt.other (HdAt.other (HdAt.other (HdAt.other (HdAt.other (HdAt.other (HdAt.other (HdAt.other (hh) hne 0 x0) hne 1 x1) hne 2 x2) hne 3 x3) hne 4 x4) hne 5 x5) hne 6 x6) hne 7 x7) hne 8 x8) hne 9 x9) hne 10 x10
end Go.Proofs.Ytdjhgahdiggahaa

namespace Go.Proofs.Ytdjhgahdiggahaa
open Go.RowKit
def evB (f : Nat) : Bool := decide (f / 32768 % 2 = 1)
def dfB (f : Nat) : Bool := decide (f / 16384 % 2 = 1)
def mfB (f : Nat) : Bool := decide (f / 8192 % 2 = 1)
theorem and_bit (f k : Nat) : (f &&& 2 ^ k != 0) = f.testBit k := by
  cases h : f.testBit k with
  | true =>
    rw [bne_iff_ne]
    intro e
    have h2 : (f &&& 2 ^ k).testBit k = true := by rw [Nat.testBit_and, Nat.testBit_two_pow, h]; simp
    rw [e] at h2; simp at h2
  | false =>
    rw [bne_eq_false_iff_eq]
    refine Nat.eq_of_testBit_eq fun j => ?_
    rw [Nat.testBit_and, Nat.testBit_two_pow]
    by_cases e : k = j
    · subst e; rw [h]; simp
    · simp [e]
theorem cast_bne (n : Nat) : ((n : Int) != 0) = (n != 0) := by rw [Bool.eq_iff_iff]; simp
theorem and_pow {f : Nat} (hf : f < 65536) (m k : Nat) (hm : m = 2 ^ k) (hk : m < 65536) : (bits .and .u64 (f : Int) (m : Int) != 0) = decide (f / 2 ^ k % 2 = 1) := by
  rw [u64_and _ _ (by omega) (by omega) (by omega) (by omega), Int.toNat_natCast, Int.toNat_natCast, cast_bne, hm, and_bit, Nat.testBit_eq_decide_div_mod_eq]
theorem ev_bits {f : Nat} (hf : f < 65536) : (bits .and .u64 (f : Int) 32768 != 0) = evB f := and_pow hf 32768 15 (by decide) (by decide)
theorem df_bits {f : Nat} (hf : f < 65536) : (bits .and .u64 (f : Int) 16384 != 0) = dfB f := and_pow hf 16384 14 (by decide) (by decide)
theorem mf_bits {f : Nat} (hf : f < 65536) : (bits .and .u64 (f : Int) 8192 != 0) = mfB f := and_pow hf 8192 13 (by decide) (by decide)
theorem off_bits {f : Nat} (hf : f < 65536) : bits .and .u64 (f : Int) 8191 = ((f % 8192 : Nat) : Int) := by
  rw [u64_and _ _ (by omega) (by omega) (by omega) (by omega), Int.toNat_natCast]
  have : (8191 : Int).toNat = 8191 := rfl
  rw [this, Nat.and_two_pow_sub_one_eq_mod f 13]
theorem drop_take_cons {l : List UInt8} {i k : Nat} (h : i < l.length) : (l.take (i + (k + 1))).drop i = l[i] :: (l.take (i + 1 + k)).drop (i + 1) := by
  rw [show i + (k + 1) = i + 1 + k by omega, List.drop_eq_getElem_cons (by simp; omega), List.getElem_take]
theorem drop_take_nil {l : List UInt8} {i : Nat} : (l.take (i + 0)).drop i = [] := by rw [List.drop_eq_nil_of_le]; simp; omega
theorem numAt_1 {l : List UInt8} {i : Nat} (h : i + 1 ≤ l.length) : numAt l i 1 = Sm.at0 l i := by
  unfold numAt
  rw [drop_take_cons (k := 0) (by omega), drop_take_nil, at0_get (by omega)]
  simp [getL]
theorem numAt_2 {l : List UInt8} {i : Nat} (h : i + 2 ≤ l.length) : numAt l i 2 = 256 * Sm.at0 l i + Sm.at0 l (i + 1) := by
  unfold numAt
  rw [drop_take_cons (k := 1) (by omega), drop_take_cons (k := 0) (by omega), drop_take_nil, at0_get (by omega), at0_get (by omega)]
  simp [getL]; omega
end Go.Proofs.Ytdjhgahdiggahaa

namespace Go.Proofs.Ytdjhgahdiggahaa
open Go.RowKit
theorem wpAnyH_cut {P : Program} {md : Region.Mode} {ops : Array Oper} {Q : Exit → Act → World → Prop} {S : World → Prop} {fuel : Nat} {listed : Array Bool} {a : Act} {w : World}
    (m : Array Bool) (fm : Nat) (I : Act → World → Prop)
    (tail : ∀ (l : Array Bool) (A : Act) (w1 : World), l = m → I A w1 → S w1 → wpAnyH P md ops Q S fm l A w1)
    (main : (∀ (l : Array Bool) (A : Act) (w1 : World), l = m → I A w1 → S w1 → wpAnyH P md ops Q S fm l A w1) → wpAnyH P md ops Q S fuel listed a w) : wpAnyH P md ops Q S fuel listed a w := main tail
/-- A region, cut behind it: what its walk leaves is said once. -/
theorem wp_region_fin {P : Program} {Q : Exit → Act → World → Prop} {S : World → Prop} {id : Nat} {ops : Array Oper} {a : Act} {w : World} (I : Act → World → Prop) (hm : P.follows .mixedOrders = true) (hS : S w.drew) (h1 : ∀ A w3, I A w3 → Q .normal A w3)
    (h : (∀ A w3, I A w3 → Q .normal A w3) → S w.drew → wpAnyH P .any ops Q S ops.size (Array.replicate ops.size false) a w.drew) : (Code.region id ops true).wp P Q a w :=
  wp_region_held_drew hm hS (h h1)
/-- A region under a promise that holds more. -/
theorem wpAnyH_str {P : Program} {md : Region.Mode} {ops : Array Oper} {Q : Exit → Act → World → Prop} {S S' : World → Prop} (h : ∀ w, S' w → S w) : ∀ (fuel : Nat) (listed : Array Bool) (a : Act) (w : World), wpAnyH P md ops Q S' fuel listed a w → wpAnyH P md ops Q S fuel listed a w
  | 0, _, _, _, H => H
  | fuel + 1, _, _, _, H => ⟨H.1, fun i hi => wpOp_mono (fun a' w' h' => ⟨h _ h'.1, wpAnyH_str h fuel _ a' w' h'.2⟩) (H.2 i hi)⟩
/-- The list of what is done, spelled out. -/
theorem wpAnyH_at {P : Program} {md : Region.Mode} {ops : Array Oper} {Q : Exit → Act → World → Prop} {S : World → Prop} {fuel : Nat} {listed : Array Bool} {a : Act} {w : World} {m : Array Bool} (e : listed = m) (h : wpAnyH P md ops Q S fuel m a w) : wpAnyH P md ops Q S fuel listed a w := e ▸ h
end Go.Proofs.Ytdjhgahdiggahaa
