/- Prefixes, plainly: a bit, the longest prefix that two are within.
   Plain numbers: the order of prefixes and what is within what.
   Plain numbers of the layer wire: prefixes, their order; no program in it.
   Arguments that are bytes, and lists of bytes, opened.
   A row of one-cell elements in memory: a slice value that reads as a list of values.
   Lists of bytes in memory: a slice value that reads as a list of lists of bytes.
   What all walks import; small lemmas on endings and on what a call leaves as it was.
   Bytes in memory: a slice value that reads as a list of bytes; no function of the program in it. -/
import Derived.Test.YtbfkjdnopiadjaaRows
import Derived.WalkKit
import Derived.WalkSpells
import Derived.WalkLawsBesides
import Derived.Handy
import Derived.Lib.Hide
import Derived.Deep.QuietTactic
import Derived.BigQuiet
import Derived.Deep.RegionWith
import Derived.Deep.RegionHeld3
import Derived.StillTailTactics
import Derived.Deep.DrawnRows
import Derived.Laws.BitsAllLaws
import Derived.ProofKit
import Derived.OpenShut
import Derived.Deep.Matrix
import Derived.Lib.AtoiAll
import Derived.Lib.ItoaNum
import Derived.Lib.IndexMore

set_option linter.unusedSimpArgs false
set_option linter.unusedVariables false
namespace Go.Proofs.Ytbfkjdnopiadjaa
open Go.RowKit

def bv (l : List UInt8) : List Value := l.map fun b => .int .u8 (b.toNat : Int)

/-- The value reads as these bytes. -/
def Bytes (w : World) (v : Value) (l : List UInt8) : Prop :=
  (l = [] ∧ ∃ a c, v = .slice a 0 c ∧ (a = none → c = 0)) ∨
  ∃ b o c, v = .slice (some ⟨b, o, none⟩) l.length c ∧ b < w.heap.size ∧ l.length ≤ c ∧ ∀ j x, l[j]? = some x → w.cell? ⟨b, o + j, none⟩ = some (.int .u8 (x.toNat : Int))

theorem Bytes.later {w w' : World} {v : Value} {l : List UInt8} (h : Bytes w v l) (hb : Below w.heap.size w w') : Bytes w' v l := by
  rcases h with h | ⟨b, o, c, h1, h2, hp, h3⟩
  · exact .inl h
  · exact .inr ⟨b, o, c, h1, Nat.lt_of_lt_of_le h2 hb.size, hp, fun j x hx => cell_later hb (h3 j x hx)⟩

theorem cell_later' {w wr : World} {B : Nat} {b o : Nat} {v : Value} (h : Below B w wr) (hb : b < B) (hc : w.cell? ⟨b, o, none⟩ = some v) : wr.cell? ⟨b, o, none⟩ = some v :=
  (h.cell (p := ⟨b, o, none⟩) hb).trans hc

theorem own_ne {w : World} {B : Nat} {e : TypeId} {size n : Nat} {v : Value} {xs : List Value} {b : Nat} (h : w.ownsRow B e size v n xs) (hb : b < B) : some b ≠ v.ownBlock := by
  rcases h.2 with ⟨rfl, _⟩ | ⟨g, cap, cur, rfl, hg, _⟩
  · simp [Value.ownBlock]
  · simp [Value.ownBlock]; omega

theorem Bytes.form {w : World} {v : Value} {l : List UInt8} (h : Bytes w v l) : ∃ a c, v = .slice a l.length c := by
  rcases h with ⟨rfl, a, c, rfl, _⟩ | ⟨b, o, c, rfl, _, _⟩
  · exact ⟨a, c, rfl⟩
  · exact ⟨_, c, rfl⟩

theorem Bytes.nil (w : World) (a : Option Addr) (c : Nat) (h : a = none → c = 0 := by intros; first | rfl | contradiction | simp_all) : Bytes w (.slice a 0 c) [] := .inl ⟨rfl, a, c, rfl, h⟩
/-- Without an address there is nothing. -/
theorem Bytes.noaddr {w : World} {n c : Nat} {l : List UInt8} (h : Bytes w (.slice none n c) l) : n = 0 ∧ c = 0 ∧ l = [] := by
  rcases h with ⟨rfl, a, c', h1, h2⟩ | ⟨b, o, c', h1, _, _⟩
  · simp only [Value.slice.injEq] at h1
    obtain ⟨rfl, rfl, rfl⟩ := h1
    exact ⟨rfl, h2 rfl, rfl⟩
  · simp at h1

theorem Bytes.of_own {w : World} {base : Nat} {e : TypeId} {v : Value} {n : Nat} {l : List UInt8} (h : w.ownsRow base e 1 v n (bv l)) : Bytes w v l := by
  obtain ⟨hl, h0 | ⟨g, cap, cur, rfl, hb, hg, hn, hm, hc, ht⟩⟩ := h
  · obtain ⟨rfl, rfl⟩ := h0
    simp [bv] at hl
    subst hl
    exact Bytes.nil _ _ _
  · have hln : l.length = n := by simpa [bv] using hl
    subst hln
    refine .inr ⟨g, 0, cap, rfl, ?_, hn, fun j x hx => ?_⟩
    · rcases Nat.lt_or_ge g w.heap.size with h1 | h1
      · exact h1
      · rw [Array.getElem?_eq_none h1] at hg; cases hg
    · rw [Nat.zero_add, cell_of_row w g j cur e (0, 0) hg]
      have hj : j < l.length := (List.getElem?_eq_some_iff.1 hx).1
      have : (bv l)[j]? = some (.int .u8 (x.toNat : Int)) := by simp [bv, hx]
      rw [← ht, List.getElem?_take, if_pos (by omega)] at this
      simpa using this

theorem push_fold : ∀ (l : List UInt8) (s : ByteArray), (l.map fun b => (b.toNat : Int)).foldl (fun r n => r.push (UInt8.ofNat n.toNat)) s = ⟨(s.data.toList ++ l).toArray⟩
  | [], s => by simp
  | b :: l, s => by
    simp only [List.map_cons, List.foldl_cons]
    rw [push_fold l]
    have : (s.push (UInt8.ofNat ((b.toNat : Int)).toNat)).data.toList = s.data.toList ++ [b] := by
      simp [ByteArray.push]
    rw [this]
    simp

/-- string(b). -/
theorem Bytes.str {P : Program} {w : World} {v : Value} {l : List UInt8} (h : Bytes w v l) {src dst e : TypeId}
    (hs : P.underlying src = some (.slice e)) (he : P.underlying e = some (.int .u8)) (hd : P.underlying dst = some .string) :
    (convert src dst v).run P w = .ok (.string ⟨l.toArray⟩) w := by
  rcases h with ⟨rfl, a, c, rfl, _⟩ | ⟨b, o, c, rfl, hb, _, hc⟩
  · rw [run_convert_bytes_string w src dst e a 0 c hs he hd]
    cases a with
    | none => simp [Conv.bytesToString]; rfl
    | some a =>
      have := run_bytesToString (P := P) w a 0 c [] (by have := run_loadCells_list (P := P) w a [] (by simp); simpa using this)
      rw [this]; rfl
  · rw [run_convert_bytes_string w src dst e _ _ c hs he hd]
    have hl : (loadCells ⟨b, o, none⟩ l.length).run P w = .ok ((l.map fun b => (b.toNat : Int)).map (Value.int .u8)).toArray w := by
      have := run_loadCells_list (P := P) w ⟨b, o, none⟩ (bv l) (fun j u hu => by
        simp only [bv, List.getElem?_map, Option.map_eq_some_iff] at hu
        obtain ⟨x, hx, rfl⟩ := hu
        have := hc j x hx
        cases j with
        | zero => simpa [Addr.add] using this
        | succ j => simpa [Addr.add] using this)
      simpa [bv, List.map_map, Function.comp_def] using this
    rw [run_bytesToString (P := P) w _ _ c _ hl, push_fold]
    rfl

theorem str_eq {a b : List UInt8} (h : a = b) : ((⟨a.toArray⟩ : ByteArray).toList == (⟨b.toArray⟩ : ByteArray).toList) = true := by rw [h]; simp

theorem news_one (w : World) (v : Value) (t : TypeId) : ∀ (j : Nat) (u : Value), [v][j]? = some u → (w.alloc (.cells #[v] t)).cell? ((⟨w.heap.size, 0, none⟩ : Addr).add j) = some u := by
  intro j u hj
  match j, hj with
  | 0, hj => simp at hj; subst hj; simp [Addr.add]
theorem one_int (k : IntKind) (x : Int) : ∀ u ∈ [Value.int k x], u.oneCell' = true := by intro u hu; simp at hu; subst hu; rfl
theorem one_slice (a : Option Addr) (n c : Nat) : ∀ u ∈ [Value.slice a n c], u.oneCell' = true := by intro u hu; simp at hu; subst hu; rfl

theorem own_base {w : World} {B : Nat} {e : TypeId} {size n : Nat} {v : Value} {xs : List Value} (h : w.ownsRow B e size v n xs) {j : Nat} (hj : v.ownBlock = some j) : B ≤ j := by
  rcases h.2 with ⟨rfl, _⟩ | ⟨g, cap, cur, rfl, hg, _⟩
  · simp [Value.ownBlock] at hj
  · simp [Value.ownBlock] at hj; omega

theorem bv_append (a b : List UInt8) : bv (a ++ b) = bv a ++ bv b := by simp [bv]
theorem bv_one (l : List UInt8) : ∀ u ∈ bv l, u.oneCell' = true := by
  intro u hu
  simp only [bv, List.mem_map] at hu
  obtain ⟨b, _, rfl⟩ := hu
  rfl
theorem Bytes.news {w : World} {x : Addr} {n c : Nat} {l : List UInt8} (h : Bytes w (.slice (some x) n c) l) : ∀ (j : Nat) (u : Value), (bv l)[j]? = some u → w.cell? (x.add j) = some u := by
  intro j u hu
  simp only [bv, List.getElem?_map, Option.map_eq_some_iff] at hu
  obtain ⟨y, hy, rfl⟩ := hu
  rcases h with ⟨rfl, _⟩ | ⟨b, o, c', h1, h2, _, h3⟩
  · simp at hy
  · simp only [Value.slice.injEq, Option.some.injEq] at h1
    obtain ⟨rfl, rfl, rfl⟩ := h1
    have := h3 j y hy
    cases j with
    | zero => simpa [Addr.add] using this
    | succ j => simpa [Addr.add] using this
end Go.Proofs.Ytbfkjdnopiadjaa

namespace Go.Proofs.Ytbfkjdnopiadjaa
open Go.RowKit
attribute [local go_sem ↓] Go.wp_at_zero Go.wp_at_succ

theorem ret_b {a b : Bool} (h : a = b) : Ending.returned (.bool a) = .returned (.bool b) := by rw [h]
theorem ret_i {k : IntKind} {a b : Int} (h : a = b) : Ending.returned (.int k a) = .returned (.int k b) := by rw [h]
theorem ret_ii {k k2 : IntKind} {a a' b b' : Int} (h : a = a') (h2 : b = b') : Ending.returned (.tuple #[.int k a, .int k2 b]) = .returned (.tuple #[.int k a', .int k2 b']) := by rw [h, h2]
theorem bcell {W w1 : World} (hb : Below W.heap.size W w1) : (∀ b o, b < W.heap.size → w1.cell? ⟨b, o, none⟩ = W.cell? ⟨b, o, none⟩) ∧ (∀ b o, b < W.heap.size → w1.frozen? ⟨b, o, none⟩ = W.frozen? ⟨b, o, none⟩) :=
  ⟨fun b o h => hb.cell (p := ⟨b, o, none⟩) h, fun b o h => hb.frozen (p := ⟨b, o, none⟩) h⟩
theorem below_of {w w1 w2 : World} (h : Below w.heap.size w w1) (h2 : Below w1.heap.size w1 w2) : Below w.heap.size w w2 := h.trans (h2.mono h.size)
theorem ba1 (w : World) (o : Obj) : Below w.heap.size w (w.alloc o) := (Below.refl _ _).alloc (Nat.le_refl _) _
theorem below_dr0 (B : Nat) (w : World) (n : Nat) : Below B w (w.drewN n) := ⟨rfl, rfl, rfl, Nat.le_refl _, fun _ _ => rfl⟩
theorem wrap8 (n : Int) : IntKind.u8.wrap n = n % 256 := rfl
theorem wrap16 (n : Int) : IntKind.u16.wrap n = n % 65536 := rfl
theorem wrap32 (n : Int) : IntKind.u32.wrap n = n % 4294967296 := rfl

end Go.Proofs.Ytbfkjdnopiadjaa

namespace Go.Proofs.Ytbfkjdnopiadjaa
open Go.RowKit

/-- The value reads as these lists of bytes. -/
def Lists (w : World) (v : Value) (L : List (List UInt8)) : Prop :=
  (L = [] ∧ ∃ a c, v = .slice a 0 c ∧ (a = none → c = 0)) ∨
  ∃ b o c, v = .slice (some ⟨b, o, none⟩) L.length c ∧ b < w.heap.size ∧ L.length ≤ c ∧ ∀ j l, L[j]? = some l → ∃ u, w.cell? ⟨b, o + j, none⟩ = some u ∧ Bytes w u l

theorem Lists.later {w w' : World} {v : Value} {L : List (List UInt8)} (h : Lists w v L) (hb : Below w.heap.size w w') : Lists w' v L := by
  rcases h with h | ⟨b, o, c, h1, h2, hp, h3⟩
  · exact .inl h
  · refine .inr ⟨b, o, c, h1, Nat.lt_of_lt_of_le h2 hb.size, hp, fun j l hl => ?_⟩
    obtain ⟨u, hu, hx⟩ := h3 j l hl
    exact ⟨u, cell_later hb hu, hx.later hb⟩
theorem Lists.form {w : World} {v : Value} {L : List (List UInt8)} (h : Lists w v L) : ∃ a c, v = .slice a L.length c := by
  rcases h with ⟨rfl, a, c, rfl, _⟩ | ⟨b, o, c, rfl, _, _⟩
  · exact ⟨a, c, rfl⟩
  · exact ⟨_, c, rfl⟩
/-- The element at a place: where it lies, in every later world. -/
theorem Lists.at {w : World} {a : Option Addr} {n c : Nat} {L : List (List UInt8)} (h : Lists w (.slice a n c) L) {i : Nat} (hi : i < L.length) :
    ∃ b o, a = some ⟨b, o, none⟩ ∧ b < w.heap.size ∧ ∃ x d, w.cell? ⟨b, o + i, none⟩ = some (.slice x L[i].length d) ∧ Bytes w (.slice x L[i].length d) L[i] := by
  rcases h with ⟨rfl, _⟩ | ⟨b, o, c', h1, h2, _, h3⟩
  · simp at hi
  · obtain ⟨u, hu, hx⟩ := h3 i L[i] (List.getElem?_eq_getElem hi)
    obtain ⟨x, d, rfl⟩ := hx.form
    simp only [Value.slice.injEq] at h1
    exact ⟨b, o, h1.1, h2, x, d, hu, hx⟩
theorem Bytes.at {w : World} {a : Option Addr} {n c : Nat} {l : List UInt8} (h : Bytes w (.slice a n c) l) {i : Nat} (hi : i < l.length) :
    ∃ b o, a = some ⟨b, o, none⟩ ∧ b < w.heap.size ∧ w.cell? ⟨b, o + i, none⟩ = some (.int .u8 (l[i].toNat : Int)) := by
  rcases h with ⟨rfl, _⟩ | ⟨b, o, c', h1, h2, _, h3⟩
  · simp at hi
  · simp only [Value.slice.injEq] at h1
    exact ⟨b, o, h1.1, h2, h3 i _ (List.getElem?_eq_getElem hi)⟩
theorem Lists.nil (w : World) (a : Option Addr) (c : Nat) (h : a = none → c = 0 := by intros; first | rfl | contradiction | simp_all) : Lists w (.slice a 0 c) [] := .inl ⟨rfl, a, c, rfl, h⟩

theorem bytes_lit (w : World) (l : List UInt8) : Bytes (w.alloc (.cells (bv l).toArray 5)) (.slice (some ⟨w.heap.size, 0, none⟩) l.length l.length) l :=
  .inr ⟨w.heap.size, 0, l.length, rfl, by simp, Nat.le_refl _, fun j x hx => by
    have : (bv l)[j]? = some (.int .u8 (x.toNat : Int)) := by simp [bv, hx]
    simp [this]⟩

/-- Bytes that are kept, and all that was there ahead. -/
def KeptB (w0 : World) (v : Value) (l : List UInt8) (w' : World) : Prop := Bytes w' v l ∧ w0.heap.size < w'.heap.size ∧ Below w0.heap.size w0 w'
theorem KeptB.later {w0 w1 w2 : World} {v : Value} {l : List UInt8} (h : KeptB w0 v l w1) (hb : Below w1.heap.size w1 w2) : KeptB w0 v l w2 :=
  ⟨h.1.later hb, Nat.lt_of_lt_of_le h.2.1 hb.size, h.2.2.trans (hb.mono (Nat.le_of_lt h.2.1))⟩
theorem KeptB.drew {w0 w1 : World} {v : Value} {l : List UInt8} (h : KeptB w0 v l w1) : KeptB w0 v l w1.drew := h.later (Below.refl _ _).drew
theorem KeptB.alloc {w0 w1 : World} {v : Value} {l : List UInt8} (h : KeptB w0 v l w1) (o : Obj) : KeptB w0 v l (w1.alloc o) := h.later ((Below.refl _ _).alloc (Nat.le_refl _) o)
theorem KeptB.allocDrew {w0 w1 : World} {v : Value} {l : List UInt8} (h : KeptB w0 v l w1) (o : Obj) : KeptB w0 v l (w1.alloc o).drew := (h.alloc o).drew

theorem ret_u {k : IntKind} {a : Nat} {b : Int} (h : (a : Int) = b) : Ending.returned (.int k a) = .returned (.int k b) := by rw [h]
theorem bytes_take {w : World} {b : Option Addr} {n c : Nat} {l : List UInt8} (h : Bytes w (.slice b n c) l) {k : Nat} (hk : k ≤ l.length) : Bytes w (.slice b k c) (l.take k) := by
  rcases h with ⟨rfl, a, c', h1, h2⟩ | ⟨bl, o, c', h1, h2, hp, h3⟩
  · simp only [Value.slice.injEq] at h1
    obtain ⟨rfl, rfl, rfl⟩ := h1
    have : k = 0 := by simpa using hk
    subst this
    exact .inl ⟨by simp, _, _, rfl, h2⟩
  · simp only [Value.slice.injEq] at h1
    obtain ⟨rfl, rfl, rfl⟩ := h1
    refine .inr ⟨bl, o, c, by rw [List.length_take, Nat.min_eq_left hk], h2, by rw [List.length_take]; omega, fun j x hx => h3 j x ?_⟩
    rw [List.getElem?_take] at hx
    split at hx
    · exact hx
    · cases hx
theorem bytes_drop {w : World} {bl o c : Nat} {l : List UInt8} {n : Nat} (h : Bytes w (.slice (some ⟨bl, o, none⟩) n c) l) (k : Nat) (m : Nat) (hm : m = l.length - k) (d : Nat) (hd : m ≤ d) : Bytes w (.slice (some ⟨bl, o + k, none⟩) m d) (l.drop k) := by
  subst hm
  rcases h with ⟨rfl, a, c', h1, h2⟩ | ⟨bl, o, c', h1, h2, hp, h3⟩
  · simp only [Value.slice.injEq] at h1
    exact .inl ⟨by simp, some ⟨bl, o + k, none⟩, d, by simp, fun h => by cases h⟩
  · simp only [Value.slice.injEq, Option.some.injEq, Addr.mk.injEq] at h1
    obtain ⟨⟨rfl, rfl, _⟩, rfl, rfl⟩ := h1
    refine .inr ⟨bl, o + k, d, by simp, h2, by simpa using hd, fun j x hx => ?_⟩
    rw [List.getElem?_drop] at hx
    rw [Nat.add_assoc]
    exact h3 (k + j) x hx

theorem lists_one3 {W : World} {v : Value} {l : List UInt8} {n : Nat} (h : Bytes W v l) (hc : W.cell? ⟨n, 0, none⟩ = some v) (hn : n < W.heap.size) : Lists W (.slice (some ⟨n, 0, none⟩) 1 1) [l] :=
  .inr ⟨n, 0, 1, rfl, hn, Nat.le_refl _, fun j x hx => by
    match j, hx with
    | 0, hx => simp at hx; subst hx; exact ⟨v, hc, h⟩⟩
theorem lists_two3 {W : World} {u v : Value} {k l : List UInt8} {n : Nat} (g : Bytes W u k) (h : Bytes W v l) (hu : W.cell? ⟨n, 0, none⟩ = some u) (hc : W.cell? ⟨n, 1, none⟩ = some v) (hn : n < W.heap.size) : Lists W (.slice (some ⟨n, 0, none⟩) 2 2) [k, l] :=
  .inr ⟨n, 0, 2, rfl, hn, Nat.le_refl _, fun j x hx => by
    match j, hx with
    | 0, hx => simp at hx; subst hx; exact ⟨u, by simpa using hu, g⟩
    | 1, hx => simp at hx; subst hx; exact ⟨v, by simpa using hc, h⟩⟩

theorem Bytes.cap {w : World} {a : Option Addr} {n c : Nat} {l : List UInt8} (h : Bytes w (.slice a n c) l) : l.length ≤ c := by
  rcases h with ⟨rfl, _⟩ | ⟨b, o, c', e1, e2, e3, e4⟩
  · simp
  · simp only [Value.slice.injEq] at e1
    obtain ⟨rfl, rfl, rfl⟩ := e1
    exact e3
/-- What is cut out of a slice reads as the part. -/
theorem Bytes.sliced {w : World} {a : Option Addr} {n c : Nat} {l : List UInt8} (h : Bytes w (.slice a n c) l) {lo hi m : Nat} (h1 : lo ≤ hi) (h2 : hi ≤ l.length) (h3 : hi ≤ m) (h4 : m ≤ c) : Bytes w (Go.sliced a lo hi m 1) ((l.take hi).drop lo) := by
  unfold Go.sliced
  rcases h with ⟨rfl, a', c', e1, e2⟩ | ⟨b, o, c', e1, e2, e3, e4⟩
  · simp only [Value.slice.injEq] at e1
    obtain ⟨rfl, rfl, rfl⟩ := e1
    have : hi = 0 := by simpa using h2
    subst this
    have : lo = 0 := by omega
    subst this
    refine .inl ⟨by simp, _, _, rfl, fun h => ?_⟩
    split at h
    · omega
    · have : a = none := by simpa using h
      have := e2 this
      omega
  · simp only [Value.slice.injEq] at e1
    obtain ⟨rfl, rfl, rfl⟩ := e1
    rcases Nat.eq_or_lt_of_le h1 with rfl | h5
    · refine .inl ⟨by simp, _, _, by rw [Nat.sub_self], fun h => ?_⟩
      split at h <;> simp at h
    · have hlen : ((l.take hi).drop lo).length = hi - lo := by simp; omega
      rw [if_neg (by omega)]
      refine .inr ⟨b, o + lo, m - lo, ?_, e2, by omega, fun j x hx => ?_⟩
      · rw [hlen]
        simp only [Option.map_some, Nat.mul_one, Value.slice.injEq, and_true]
        unfold Addr.add
        by_cases h0 : lo = 0 <;> simp [h0]
      · rw [List.getElem?_drop, List.getElem?_take] at hx
        split at hx
        · have := e4 (lo + j) x hx
          rw [Nat.add_assoc]; exact this
        · cases hx
end Go.Proofs.Ytbfkjdnopiadjaa

namespace Go.Proofs.Ytbfkjdnopiadjaa
open Go.RowKit

def Row (w : World) (v : Value) (xs : List Value) : Prop :=
  (xs = [] ∧ ∃ a c, v = .slice a 0 c ∧ (a = none → c = 0)) ∨
  ∃ b o c, v = .slice (some ⟨b, o, none⟩) xs.length c ∧ b < w.heap.size ∧ xs.length ≤ c ∧ ∀ j x, xs[j]? = some x → w.cell? ⟨b, o + j, none⟩ = some x
theorem Row.later {w w' : World} {v : Value} {l : List Value} (h : Row w v l) (hb : Below w.heap.size w w') : Row w' v l := by
  rcases h with h | ⟨b, o, c, h1, h2, hp, h3⟩
  · exact .inl h
  · exact .inr ⟨b, o, c, h1, Nat.lt_of_lt_of_le h2 hb.size, hp, fun j x hx => cell_later hb (h3 j x hx)⟩
theorem Row.form {w : World} {v : Value} {l : List Value} (h : Row w v l) : ∃ a c, v = .slice a l.length c := by
  rcases h with ⟨rfl, a, c, rfl, _⟩ | ⟨b, o, c, rfl, _, _⟩
  · exact ⟨a, c, rfl⟩
  · exact ⟨_, c, rfl⟩
theorem Row.at {w : World} {a : Option Addr} {n c : Nat} {l : List Value} (h : Row w (.slice a n c) l) {i : Nat} {x : Value} (hi : l[i]? = some x) :
    ∃ b o, a = some ⟨b, o, none⟩ ∧ b < w.heap.size ∧ w.cell? ⟨b, o + i, none⟩ = some x := by
  rcases h with ⟨rfl, _⟩ | ⟨b, o, c', h1, h2, _, h3⟩
  · simp at hi
  · simp only [Value.slice.injEq] at h1
    exact ⟨b, o, h1.1, h2, h3 i _ hi⟩
theorem Row.of_own {w : World} {base : Nat} {e : TypeId} {v : Value} {n : Nat} {l : List Value} (h : w.ownsRow base e 1 v n l) : Row w v l := by
  obtain ⟨hl, h0 | ⟨g, cap, cur, rfl, hb, hg, hn, hm, hc, ht⟩⟩ := h
  · obtain ⟨rfl, rfl⟩ := h0
    simp at hl
    subst hl
    exact .inl ⟨rfl, _, _, rfl, fun _ => rfl⟩
  · have hln : l.length = n := by simpa using hl
    subst hln
    refine .inr ⟨g, 0, cap, rfl, ?_, hn, fun j x hx => ?_⟩
    · rcases Nat.lt_or_ge g w.heap.size with h1 | h1
      · exact h1
      · rw [Array.getElem?_eq_none h1] at hg; cases hg
    · rw [Nat.zero_add, cell_of_row w g j cur e (0, 0) hg]
      have hj : j < l.length := (List.getElem?_eq_some_iff.1 hx).1
      have : l[j]? = some x := hx
      rw [← ht, List.getElem?_take, if_pos (by omega)] at this
      simpa using this
theorem Row.of_bytes {w : World} {v : Value} {l : List UInt8} (h : Bytes w v l) : Row w v (bv l) := by
  rcases h with ⟨rfl, a, c, rfl, h1⟩ | ⟨b, o, c, rfl, h2, hp, h3⟩
  · exact .inl ⟨rfl, a, c, rfl, h1⟩
  · refine .inr ⟨b, o, c, by simp [bv], h2, by simpa [bv] using hp, fun j x hx => ?_⟩
    simp only [bv, List.getElem?_map, Option.map_eq_some_iff] at hx
    obtain ⟨y, hy, rfl⟩ := hx
    exact h3 j y hy
theorem ownsRow_later {w w' : World} {B : Nat} {e : TypeId} {s n : Nat} {v : Value} {xs : List Value} (h : w.ownsRow B e s v n xs) (hb : Below w.heap.size w w') : w'.ownsRow B e s v n xs := by
  obtain ⟨hl, h0 | ⟨g, cap, cur, rfl, hb1, hg, hn, hm, hc, ht⟩⟩ := h
  · exact ⟨hl, .inl h0⟩
  · refine ⟨hl, .inr ⟨g, cap, cur, rfl, hb1, ?_, hn, hm, hc, ht⟩⟩
    rw [hb.block g ?_]
    · exact hg
    · rcases Nat.lt_or_ge g w.heap.size with h1 | h1
      · exact h1
      · rw [Array.getElem?_eq_none h1] at hg; cases hg
def iv (l : List Int) : List Value := l.map fun z => .int .i64 z
theorem iv_at {zs : List Int} {k : Nat} (h : k < zs.length) : (iv zs)[k]? = some (.int .i64 zs[k]) := by simp [iv, h]
end Go.Proofs.Ytbfkjdnopiadjaa

namespace Go.Proofs.Ytbfkjdnopiadjaa
open Go.ChangeShapes Go.WideShapes Go.ChangeAt Go.RowKit

theorem lt_u8 {a : Int} (h : 0 ≤ a ∧ a ≤ 255) : a < 256 := by omega
theorem lt_u16 {a : Int} (h : 0 ≤ a ∧ a ≤ 65535) : a < 65536 := by omega
theorem lt_u32 {a : Int} (h : 0 ≤ a ∧ a ≤ 4294967295) : a < 4294967296 := by omega
theorem lt_u64 {a : Int} (h : 0 ≤ a ∧ a ≤ 18446744073709551615) : a < 18446744073709551616 := by omega

theorem own : ownKnob Try.prog.godebug = none := by kernel_rfl
theorem laidOut : laidOutB Try.prog = true := by kernel_rfl


theorem spot_none {W : World} {a : Addr} {v : Value} (h : W.cell? (a.add 0) = some v) : a.spot = none := by
  obtain ⟨b, o, sp⟩ := a
  cases sp with
  | none => rfl
  | some s =>
    simp [World.cell?, Addr.add] at h
    split at h <;> cases h
theorem bytes_of_ints {W : World} {A : Option Addr} {len cap : Nat} {zs : List Int} (hl : len ≤ cap) (hz : zs.length = cap) (hwz : ∀ n ∈ zs, (Lit.int .u8 n).wf = true) (h0 : A = none → cap = 0)
    (hc : ∀ a, A = some a → ∀ c, c < cap → W.cell? (a.add c) = some (.int .u8 (zs.getD c 0))) : Bytes W (.slice A len cap) ((zs.take len).map fun z => UInt8.ofNat z.toNat) := by
  have hlen : ((zs.take len).map fun z => UInt8.ofNat z.toNat).length = len := by simp; omega
  rcases Nat.eq_zero_or_pos len with hp | hp
  · subst hp
    exact .inl ⟨by simp, A, cap, rfl, h0⟩
  · cases A with
    | none => have := h0 rfl; omega
    | some x =>
      have hcell := hc x rfl
      have hc0 := hcell 0 (by omega)
      have hsp := spot_none hc0
      obtain ⟨b, o, sp⟩ := x
      simp only at hsp
      subst hsp
      refine .inr ⟨b, o, cap, by rw [hlen], ?_, by rw [hlen]; exact hl, ?_⟩
      · have := World.block_lt_of_cell? _ _ hc0
        simpa [Addr.add] using this
      · intro j y hy
        simp only [List.getElem?_map, Option.map_eq_some_iff] at hy
        obtain ⟨z, hz1, rfl⟩ := hy
        have hj : j < len := by
          have := (List.getElem?_eq_some_iff.1 hz1).1
          simp at this; omega
        have hz2 : zs[j]? = some z := by rw [List.getElem?_take, if_pos hj] at hz1; exact hz1
        have hb := bounds_u8 (hwz z (List.mem_of_getElem? hz2))
        have hcj := hcell j (by omega)
        have he : zs.getD j 0 = z := by simp [List.getD, hz2]
        rw [he] at hcj
        have hn : ((UInt8.ofNat z.toNat).toNat : Int) = z := by rw [UInt8.toNat_ofNat']; omega
        rw [hn]
        cases j with
        | zero => simpa [Addr.add] using hcj
        | succ j => simpa [Addr.add] using hcj

set_option maxRecDepth 100000 in
theorem open_introw {H : Type} {enc : TypeId × Value → H} {W : World} {base : Nat} {v : Value} {d : DataW H} {p : List MemPlace}
    (hv : Value.okWide Try.prog W .any base 70 v) (h : DataW.Trod enc Try.prog W 0 (fun _ => true) true 70 v d p) :
    ∃ zs : List Int, Row W v (iv zs) ∧ zs.length ≤ 9223372036854775807 ∧ ∀ z ∈ zs, -9223372036854775808 ≤ z ∧ z ≤ 9223372036854775807 := by
  obtain ⟨a, len, cap, rfl⟩ := okWide_slice Try.underlying70 hv
  obtain ⟨fuel, hf⟩ := h
  rcases open_ints Try.underlying70 Try.underlying3 (by kernel_rfl) hf with ⟨hcs, _⟩ | ⟨x, l, c, zs, hcs, _, hl, hm, hz, _, hcell, hwz⟩
  · simp [Value.cells] at hcs
    obtain ⟨rfl, rfl, rfl⟩ := hcs
    exact ⟨[], .inl ⟨rfl, _, _, rfl, fun _ => rfl⟩, by simp, by simp⟩
  · simp [Value.cells] at hcs
    obtain ⟨rfl, rfl, rfl⟩ := hcs
    unfold maxLen at hm
    have hzl : zs.length = cap := by simpa using hz
    refine ⟨zs.take len, ?_, by simp; omega, fun z hz2 => bounds_i64 (hwz z (List.mem_of_mem_take hz2))⟩
    rcases Nat.eq_zero_or_pos len with hp | hp
    · subst hp
      exact .inl ⟨by simp [iv], _, _, rfl, fun h => by cases h⟩
    · have hc0 := hcell 0 (by omega)
      have hsp := spot_none hc0
      obtain ⟨b, o, sp⟩ := x
      simp only at hsp
      subst hsp
      have hlen : (iv (zs.take len)).length = len := by simp [iv]; omega
      refine .inr ⟨b, o, cap, by rw [hlen], ?_, by rw [hlen]; exact hl, ?_⟩
      · have := World.block_lt_of_cell? _ _ hc0
        simpa [Addr.add] using this
      · intro j y hy
        simp only [iv, List.getElem?_map, Option.map_eq_some_iff] at hy
        obtain ⟨z, hz1, rfl⟩ := hy
        have hj : j < len := by
          have := (List.getElem?_eq_some_iff.1 hz1).1
          simp at this; omega
        have hz2 : zs[j]? = some z := by rw [List.getElem?_take, if_pos hj] at hz1; exact hz1
        have hcj := hcell j (by omega)
        have he : zs.getD j 0 = z := by simp [List.getD, hz2]
        rw [he] at hcj
        cases j with
        | zero => simpa [Addr.add] using hcj
        | succ j => simpa [Addr.add] using hcj

end Go.Proofs.Ytbfkjdnopiadjaa

namespace Go.Proofs.Ytbfkjdnopiadjaa
namespace Wp

/-- The first n of 32 bits, the others noughts. -/
def fst (a n : Int) : Int := a / 2 ^ (32 - n).toNat * 2 ^ (32 - n).toNat
/-- A prefix that may be. -/
def mayB (a n : Int) : Bool := decide (0 ≤ n) && (decide (n ≤ 32) && decide (fst a n = a))
def hasB (a n b : Int) : Bool := mayB a n && decide (fst b n = a)
def inB (a n b m : Int) : Bool := mayB a n && (mayB b m && (decide (n ≤ m) && decide (fst b n = a)))
def cmpI (a n b m : Int) : Int := if a < b then -1 else if b < a then 1 else if n < m then -1 else if m < n then 1 else 0

theorem pow_pos' (k : Nat) : (0 : Int) < 2 ^ k := Int.pow_pos (by decide)

theorem fst_nonneg {a n : Int} (h : 0 ≤ a) : 0 ≤ fst a n := by
  unfold fst
  exact Int.mul_nonneg (Int.ediv_nonneg h (Int.le_of_lt (pow_pos' _))) (Int.le_of_lt (pow_pos' _))
theorem fst_le {a n : Int} : fst a n ≤ a := by
  unfold fst
  exact Int.ediv_mul_le a (Int.ne_of_gt (pow_pos' _))

/-- The shift to the left leaves nothing: the bits behind the first n are noughts. -/
theorem shl_zero {a n : Int} (hn : 0 ≤ n) (hn2 : n ≤ 32) : (a * 2 ^ n.toNat % 4294967296 == 0) = decide (fst a n = a) := by
  have e : (4294967296 : Int) = 2 ^ (32 - n).toNat * 2 ^ n.toNat := by
    rw [← Int.pow_add]
    have : (32 - n).toNat + n.toNat = 32 := by omega
    rw [this]; decide
  have hp := pow_pos' n.toNat
  rw [Bool.eq_iff_iff]
  simp only [beq_iff_eq, decide_eq_true_eq]
  rw [e, Int.mul_comm a, Int.mul_comm (2 ^ (32 - n).toNat : Int), Int.mul_emod_mul_of_pos _ _ hp]
  constructor
  · intro h
    have h2 : a % 2 ^ (32 - n).toNat = 0 := by
      rcases Int.mul_eq_zero.1 h with h | h
      · omega
      · exact h
    unfold fst
    have := Int.mul_ediv_add_emod a (2 ^ (32 - n).toNat)
    rw [h2] at this
    rw [Int.mul_comm]; omega
  · intro h
    unfold fst at h
    have := Int.mul_ediv_add_emod a (2 ^ (32 - n).toNat)
    rw [Int.mul_comm] at h
    have h2 : a % 2 ^ (32 - n).toNat = 0 := by omega
    rw [h2]; simp


theorem div_lo (a : Int) (k : Nat) (h : 0 ≤ a) : 0 ≤ a / 2 ^ k := Int.ediv_nonneg h (Int.le_of_lt (pow_pos' _))
theorem div_hi (a : Int) (k : Nat) (h : 0 ≤ a) (h2 : a < 4294967296) : a / 2 ^ k < 4294967296 := by
  have := Int.ediv_le_self (2 ^ k) h
  omega
theorem div_succ (a : Int) (k : Nat) : a / 2 ^ (k + 1) = a / 2 ^ k / 2 := by
  rw [Int.pow_succ, Int.ediv_ediv_of_nonneg (Int.le_of_lt (pow_pos' _))]

theorem nat_xor_self_iff (a b : Nat) : a ^^^ b = 0 ↔ a = b := by
  constructor
  · intro h
    have h2 : a ^^^ b ^^^ b = 0 ^^^ b := by rw [h]
    rw [Nat.xor_assoc, Nat.xor_self, Nat.xor_zero, Nat.zero_xor] at h2
    exact h2
  · rintro rfl; exact Nat.xor_self a
theorem nat_xor_zero (a b k : Nat) : ((a ^^^ b) / 2 ^ k = 0) ↔ a / 2 ^ k = b / 2 ^ k := by
  rw [← Nat.shiftRight_eq_div_pow, ← Nat.shiftRight_eq_div_pow, ← Nat.shiftRight_eq_div_pow, Nat.shiftRight_xor_distrib]
  exact nat_xor_self_iff _ _
theorem fst_nat (a k : Nat) (n : Int) (hk : (32 - n).toNat = k) : fst (a : Int) n = ((a / 2 ^ k * 2 ^ k : Nat) : Int) := by
  unfold fst; rw [hk]; simp
theorem xor_fst (a b k : Nat) (n : Int) (hk : (32 - n).toNat = k) (h : fst (a : Int) n = a) : ((((a ^^^ b : Nat) : Int) / 2 ^ k) == 0) = decide (fst (b : Int) n = (a : Int)) := by
  rw [Bool.eq_iff_iff, decide_eq_true_eq, beq_iff_eq]
  rw [fst_nat b k n hk]
  rw [fst_nat a k n hk] at h
  have e : ((((a ^^^ b : Nat) : Int) / 2 ^ k) = 0) ↔ ((a ^^^ b) / 2 ^ k = 0) := by
    constructor
    · intro h2
      have : (((a ^^^ b) / 2 ^ k : Nat) : Int) = 0 := by simpa using h2
      omega
    · intro h2
      have : (((a ^^^ b) / 2 ^ k : Nat) : Int) = 0 := by rw [h2]; rfl
      simpa using this
  rw [e, nat_xor_zero]
  have hp : 0 < 2 ^ k := Nat.pow_pos (by decide)
  constructor
  · intro h2; rw [← h2]; exact h
  · intro h2
    have h3 : a / 2 ^ k * 2 ^ k = b / 2 ^ k * 2 ^ k := by omega
    exact Nat.eq_of_mul_eq_mul_right hp h3

theorem mul_lo (a : Int) (m k : Nat) (h : 0 ≤ a) : 0 ≤ a / 2 ^ m * 2 ^ k := Int.mul_nonneg (div_lo a m h) (Int.le_of_lt (pow_pos' _))
theorem mul_hi (a : Int) (m k : Nat) (h : 0 ≤ a) (h2 : a < 4294967296) (hk : k ≤ m) : a / 2 ^ m * 2 ^ k < 4294967296 := by
  have h3 : a / 2 ^ m * 2 ^ k ≤ a / 2 ^ m * 2 ^ m := by
    refine Int.mul_le_mul_of_nonneg_left ?_ (div_lo a m h)
    have := Nat.pow_le_pow_right (n := 2) (by decide) hk
    exact_mod_cast this
  have h4 := Int.ediv_mul_le a (Int.ne_of_gt (pow_pos' m))
  omega
theorem mul_succ' (a : Int) (m k : Nat) : a / 2 ^ m * 2 ^ (k + 1) = a / 2 ^ m * 2 ^ k * 2 := by
  rw [Int.pow_succ, Int.mul_assoc]
theorem mul_hi2 (a : Int) (m k : Nat) (h : 0 ≤ a) (h2 : a < 4294967296) (hk : k + 1 ≤ m) : a / 2 ^ m * 2 ^ k * 2 < 4294967296 := by
  rw [← mul_succ']; exact mul_hi a m (k + 1) h h2 hk

theorem inB_has (a n b m : Int) : inB a n b m = (mayB b m && (decide (n ≤ m) && hasB a n b)) := by
  unfold inB hasB
  cases mayB a n <;> cases mayB b m <;> cases decide (n ≤ m) <;> simp

theorem atoi_range {l : List UInt8} {v : Int} (h : Lib.atoiAll l = .ok v) : -9223372036854775808 ≤ v ∧ v ≤ 9223372036854775807 := by
  unfold Lib.atoiAll at h
  split at h
  · cases h
  · dsimp only at h
    split at h
    · cases h
    · cases h
    · split at h
      · cases h
      · split at h
        · cases h
        · split at h <;> (injection h with h; omega)

theorem cut_len (l sep : List UInt8) : (Lib.cut l sep).1.length ≤ l.length ∧ (Lib.cut l sep).2.1.length ≤ l.length := by
  unfold Lib.cut
  split
  · simp; omega
  · simp
theorem bsize (t : ByteArray) : t.size = t.data.toList.length := by
  show t.data.size = _
  rw [Array.length_toList]
theorem cut_left {t p : ByteArray} {sep : List UInt8} (h : p.data.toList = (Lib.cut t.data.toList sep).1) (ht : t.size ≤ 1000000) : p.size ≤ 1000000 := by
  have h1 := (cut_len t.data.toList sep).1
  rw [← h] at h1
  have e1 := bsize p
  have e2 := bsize t
  omega
theorem cut_right {t p : ByteArray} {sep : List UInt8} (h : p.data.toList = (Lib.cut t.data.toList sep).2.1) (ht : t.size ≤ 1000000) : p.size ≤ 1000000 := by
  have h1 := (cut_len t.data.toList sep).2
  rw [← h] at h1
  have e1 := bsize p
  have e2 := bsize t
  omega
theorem pow256 {k : Nat} (h : k ≤ 3) : (256 : Int) ^ k ≤ 16777216 := by
  have : k = 0 ∨ k = 1 ∨ k = 2 ∨ k = 3 := by omega
  rcases this with rfl | rfl | rfl | rfl <;> decide

theorem pow256_succ {x n : Int} {k : Nat} (h : x < 256 ^ k) (hn : n ≤ 255) : x * 256 + n < 256 ^ (k + 1) := by
  rw [Int.pow_succ]; omega

end Wp
end Go.Proofs.Ytbfkjdnopiadjaa

namespace Go.Proofs.Ytbfkjdnopiadjaa
namespace Wp

theorem pow_split {n m : Int} (_h0 : 0 ≤ n) (h : n ≤ m) (h2 : m ≤ 32) : (2 : Int) ^ (32 - n).toNat = 2 ^ (32 - m).toNat * 2 ^ (m - n).toNat := by
  rw [← Int.pow_add]
  congr 1
  omega
theorem fst_fst {c n m : Int} (h0 : 0 ≤ n) (h : n ≤ m) (h2 : m ≤ 32) : fst (fst c m) n = fst c n := by
  have hp := pow_pos' (32 - m).toNat
  unfold fst
  rw [pow_split h0 h h2, ← Int.ediv_ediv_of_nonneg (Int.le_of_lt hp), ← Int.ediv_ediv_of_nonneg (Int.le_of_lt hp), Int.mul_ediv_cancel _ (Int.ne_of_gt hp)]
theorem fst_mono {a b n : Int} (h : a ≤ b) : fst a n ≤ fst b n := by
  unfold fst
  exact Int.mul_le_mul_of_nonneg_right (Int.ediv_le_ediv (pow_pos' _) h) (Int.le_of_lt (pow_pos' _))
theorem fst_more {b n m : Int} (h0 : 0 ≤ m) (h : m ≤ n) (h2 : n ≤ 32) (hb : fst b m = b) : fst b n = b := by
  unfold fst at *
  have hp := pow_pos' (32 - n).toNat
  rw [pow_split h0 h h2] at hb
  have h3 : b % 2 ^ (32 - n).toNat = 0 := by
    rw [← hb, Int.mul_comm (2 ^ (32 - n).toNat : Int), ← Int.mul_assoc]
    exact Int.mul_emod_left _ _
  have := Int.mul_ediv_add_emod b (2 ^ (32 - n).toNat)
  rw [Int.mul_comm]; omega

theorem may_of {a n : Int} (h : mayB a n = true) : 0 ≤ n ∧ n ≤ 32 ∧ fst a n = a := by simpa [mayB] using h
theorem in_of {a n b m : Int} (h : inB a n b m = true) : mayB a n = true ∧ mayB b m = true ∧ n ≤ m ∧ fst b n = a := by simpa [inB] using h
theorem in_mk {a n b m : Int} (h1 : mayB a n = true) (h2 : mayB b m = true) (h3 : n ≤ m) (h4 : fst b n = a) : inB a n b m = true := by simp [inB, h1, h2, h3, h4]

theorem cmp_neg (a n b m : Int) : cmpI b m a n = - cmpI a n b m := by
  unfold cmpI; (repeat' split) <;> omega
theorem cmp_bd (a n b m : Int) : -1 ≤ cmpI a n b m ∧ cmpI a n b m ≤ 1 := by
  unfold cmpI; (repeat' split) <;> omega
theorem cmp_le {a n b m : Int} : cmpI a n b m ≤ 0 ↔ a < b ∨ (a = b ∧ n ≤ m) := by
  unfold cmpI; (repeat' split) <;> omega
theorem cmp_lt {a n b m : Int} : cmpI a n b m < 0 ↔ a < b ∨ (a = b ∧ n < m) := by
  unfold cmpI; (repeat' split) <;> omega
theorem cmp_tr {a n b m c r : Int} (h : cmpI a n b m < 0) (h2 : cmpI b m c r < 0) : cmpI a n c r < 0 := by
  rw [cmp_lt] at *; omega
theorem in_cmp {a n c r : Int} (h : inB a n c r = true) : cmpI a n c r ≤ 0 := by
  obtain ⟨_, _, h3, h4⟩ := in_of h
  have := fst_le (a := c) (n := n)
  rw [cmp_le]; omega
theorem in_mid {a n b m c r : Int} (h : inB a n c r = true) (hb : mayB b m = true) (h1 : cmpI a n b m ≤ 0) (h2 : cmpI b m c r ≤ 0) : inB a n b m = true := by
  obtain ⟨ha, _, h3, h4⟩ := in_of h
  obtain ⟨n0, n1, n2⟩ := may_of ha
  obtain ⟨m0, m1, m2⟩ := may_of hb
  rw [cmp_le] at h1 h2
  have e1 := fst_mono (a := a) (b := b) (n := n) (by omega)
  have e2 := fst_mono (a := b) (b := c) (n := n) (by omega)
  have e3 : fst b n = a := by omega
  refine in_mk ha hb ?_ e3
  rcases Int.lt_or_le m n with hlt | hle
  · have := fst_more m0 (Int.le_of_lt hlt) n1 m2
    omega
  · exact hle
theorem in_tr {a n b m c r : Int} (h : inB a n b m = true) (h2 : inB b m c r = true) : inB a n c r = true := by
  obtain ⟨ha, hb, h3, h4⟩ := in_of h
  obtain ⟨_, hc, h5, h6⟩ := in_of h2
  obtain ⟨n0, n1, n2⟩ := may_of ha
  obtain ⟨m0, m1, m2⟩ := may_of hb
  refine in_mk ha hc (by omega) ?_
  rw [← fst_fst n0 h3 m1, h6]; exact h4

end Wp
end Go.Proofs.Ytbfkjdnopiadjaa

namespace Go.Proofs.Ytbfkjdnopiadjaa
namespace Tp
open Wp

/-- A prefix: its address, its length. -/
abbrev Pf := Int × Int
/-- A prefix that may be, of an address. -/
structure Ok (p : Pf) : Prop where
  a0 : 0 ≤ p.1
  a1 : p.1 < 4294967296
  may : mayB p.1 p.2 = true
theorem Ok.n0 {p : Pf} (h : Ok p) : 0 ≤ p.2 := (may_of h.may).1
theorem Ok.n1 {p : Pf} (h : Ok p) : p.2 ≤ 32 := (may_of h.may).2.1
theorem Ok.fs {p : Pf} (h : Ok p) : fst p.1 p.2 = p.1 := (may_of h.may).2.2
/-- The bit behind the first n. -/
def bit (a n : Int) : Int := a / 2 ^ (31 - n).toNat % 2
theorem bit_or (a n : Int) : bit a n = 0 ∨ bit a n = 1 := by unfold bit; omega
/-- One bit more. -/
theorem fst_bit {a n : Int} (h0 : 0 ≤ n) (h1 : n ≤ 31) : fst a (n + 1) = fst a n + bit a n * 2 ^ (31 - n).toNat := by
  unfold fst bit
  have e1 : (32 - (n + 1)).toNat = (31 - n).toNat := by omega
  have e2 : (32 - n).toNat = (31 - n).toNat + 1 := by omega
  rw [e1, e2, Int.pow_succ]
  have hp := pow_pos' (31 - n).toNat
  obtain ⟨P, hP⟩ : ∃ P : Int, P = 2 ^ (31 - n).toNat := ⟨_, rfl⟩
  rw [← hP] at hp ⊢
  rw [← Int.ediv_ediv_of_nonneg (Int.le_of_lt hp)]
  obtain ⟨q, hq⟩ : ∃ q, q = a / P := ⟨_, rfl⟩
  rw [← hq]
  have := Int.mul_ediv_add_emod q 2
  have e3 : q / 2 * (P * 2) = (2 * (q / 2)) * P := by rw [Int.mul_comm P 2, ← Int.mul_assoc, Int.mul_comm (q / 2) 2]
  rw [e3, ← Int.add_mul]
  congr 1
  omega
theorem bit_eq {a b n : Int} (h0 : 0 ≤ n) (h1 : n ≤ 31) (h : fst a (n + 1) = fst b (n + 1)) (h2 : fst a n = fst b n) : bit a n = bit b n := by
  rw [fst_bit h0 h1, fst_bit h0 h1, h2] at h
  have hp := pow_pos' (31 - n).toNat
  have h3 : bit a n * 2 ^ (31 - n).toNat = bit b n * 2 ^ (31 - n).toNat := by omega
  exact Int.eq_of_mul_eq_mul_right (Int.ne_of_gt hp) h3
theorem eq_bit {a b n : Int} (h0 : 0 ≤ n) (h1 : n ≤ 31) (h : bit a n = bit b n) (h2 : fst a n = fst b n) : fst a (n + 1) = fst b (n + 1) := by
  rw [fst_bit h0 h1, fst_bit h0 h1, h2, h]
/-- Of the same first bits, that with the bit 0 is smaller. -/
theorem bit_lt {a b n : Int} (h0 : 0 ≤ n) (h1 : n ≤ 31) (h : fst a n = fst b n) (ha : bit a n = 0) (hb : bit b n = 1) : a < b := by
  rcases Int.lt_or_le a b with h2 | h2
  · exact h2
  · have h3 := fst_mono (n := n + 1) h2
    rw [fst_bit h0 h1, fst_bit h0 h1, h, ha, hb] at h3
    have hp := pow_pos' (31 - n).toNat
    omega
theorem fst_zero {a : Int} (h0 : 0 ≤ a) (h1 : a < 4294967296) : fst a 0 = 0 := by
  unfold fst
  have e : ((32 : Int) - 0).toNat = 32 := by decide
  have h2 : a / 2 ^ 32 = 0 := Int.ediv_eq_zero_of_lt h0 h1
  rw [e, h2, Int.zero_mul]
theorem fst_eq_less {a b n m : Int} (h0 : 0 ≤ n) (h : n ≤ m) (h2 : m ≤ 32) (e : fst a m = fst b m) : fst a n = fst b n := by
  rw [← fst_fst h0 h h2, e, fst_fst h0 h h2]

/-- q lies within p. -/
def wi (p q : Pf) : Bool := inB p.1 p.2 q.1 q.2
theorem wi_iff {p q : Pf} (hp : Ok p) (hq : Ok q) : wi p q = true ↔ p.2 ≤ q.2 ∧ fst q.1 p.2 = p.1 := by
  unfold wi
  constructor
  · intro h; obtain ⟨_, _, h3, h4⟩ := in_of h; exact ⟨h3, h4⟩
  · rintro ⟨h3, h4⟩; exact in_mk hp.may hq.may h3 h4
/-- The order. -/
def lt (p q : Pf) : Prop := p.1 < q.1 ∨ (p.1 = q.1 ∧ p.2 < q.2)
theorem lt_iff {p q : Pf} : lt p q ↔ cmpI p.1 p.2 q.1 q.2 < 0 := by unfold lt; rw [cmp_lt]
theorem lt_irrefl (p : Pf) : ¬ lt p p := by unfold lt; omega
theorem lt_trans {p q r : Pf} (h : lt p q) (h2 : lt q r) : lt p r := by unfold lt at *; omega
theorem lt_ne {p q : Pf} (h : lt p q) : p ≠ q := by rintro rfl; exact lt_irrefl _ h
theorem lt_tri (p q : Pf) : lt p q ∨ p = q ∨ lt q p := by
  obtain ⟨a, n⟩ := p
  obtain ⟨b, m⟩ := q
  unfold lt
  simp only [Prod.mk.injEq]
  omega
instance (p q : Pf) : Decidable (lt p q) := by unfold lt; infer_instance
/-- q lies below p, on its way b. -/
structure Bel (p : Pf) (b : Int) (q : Pf) : Prop where
  ok : Ok q
  len : p.2 < q.2
  fs : fst q.1 p.2 = p.1
  bt : bit q.1 p.2 = b
theorem Bel.n31 {p : Pf} {b : Int} {q : Pf} (h : Bel p b q) : p.2 ≤ 31 := by have := h.ok.n1; have := h.len; omega
theorem Bel.lt {p : Pf} {b : Int} {q : Pf} (h : Bel p b q) : lt p q := by
  have := fst_le (a := q.1) (n := p.2)
  have := h.fs
  have := h.len
  unfold Tp.lt; omega
theorem Bel.wi {p : Pf} {b : Int} {q : Pf} (hp : Ok p) (h : Bel p b q) : wi p q = true := (wi_iff hp h.ok).2 ⟨Int.le_of_lt h.len, h.fs⟩
theorem Bel.sides {p : Pf} {x y : Pf} (hp : Ok p) (hx : Bel p 0 x) (hy : Bel p 1 y) : Tp.lt x y := by
  have := bit_lt hp.n0 hx.n31 (hx.fs.trans hy.fs.symm) hx.bt hy.bt
  exact .inl this
theorem Bel.of {p q : Pf} (hp : Ok p) (hq : Ok q) (hw : Tp.wi p q = true) (hne : p ≠ q) : Bel p (bit q.1 p.2) q := by
  obtain ⟨h1, h2⟩ := (wi_iff hp hq).1 hw
  refine ⟨hq, ?_, h2, rfl⟩
  rcases Int.lt_or_le p.2 q.2 with h | h
  · exact h
  · have e : p.2 = q.2 := by omega
    have : q.1 = p.1 := by rw [← hq.fs, ← e]; exact h2
    exact absurd (Prod.ext this.symm e) hne

/-- Do they share so many bits? -/
def shr (p q : Pf) (n : Int) : Prop := n ≤ p.2 ∧ n ≤ q.2 ∧ fst p.1 n = fst q.1 n
instance (p q : Pf) (n : Int) : Decidable (shr p q n) := by unfold shr; infer_instance
/-- The longest prefix that both are within, up to a length. -/
def comF (p q : Pf) : Nat → Pf
  | 0 => (0, 0)
  | k + 1 => if shr p q ((k + 1 : Nat) : Int) then (fst p.1 ((k + 1 : Nat) : Int), ((k + 1 : Nat) : Int)) else comF p q k
def com (p q : Pf) : Pf := comF p q 32
theorem comF_eq {p q : Pf} (hp : Ok p) (n : Nat) (h : shr p q n) : ∀ k, n ≤ k → (∀ m, n < m → m ≤ k → ¬ shr p q (m : Int)) → comF p q k = (fst p.1 n, (n : Int))
  | 0, hk, _ => by
    obtain rfl : n = 0 := by omega
    simp only [comF]
    rw [show ((0 : Nat) : Int) = 0 from rfl, fst_zero hp.a0 hp.a1]
  | k + 1, hk, hf => by
    unfold comF
    by_cases hn : n = k + 1
    · subst hn; rw [if_pos h]
    · rw [if_neg (hf (k + 1) (by omega) (Nat.le_refl _))]
      exact comF_eq hp n h k (by omega) (fun m h1 h2 => hf m h1 (by omega))
/-- Where they part is the longest prefix of both. -/
theorem com_eq {p q : Pf} (hp : Ok p) {n : Int} (h0 : 0 ≤ n) (h : shr p q n) (hn : p.2 = n ∨ q.2 = n ∨ bit p.1 n ≠ bit q.1 n) : com p q = (fst p.1 n, n) := by
  obtain ⟨N, rfl⟩ := Int.eq_ofNat_of_zero_le h0
  have h32 : N ≤ 32 := by have := hp.n1; have := h.1; omega
  refine comF_eq hp N h 32 h32 (fun m h1 h2 hs => ?_)
  obtain ⟨s1, s2, s3⟩ := hs
  rcases hn with hn | hn | hn
  · omega
  · omega
  · have e := fst_eq_less (n := (N : Int) + 1) (by omega) (by omega) (by omega) s3
    exact hn (bit_eq (by omega) (by omega) e h.2.2)
theorem comF_ok {p q : Pf} (hp : Ok p) (hq : Ok q) : ∀ k : Nat, k ≤ 32 → ∃ n : Nat, n ≤ k ∧ shr p q n ∧ (∀ m, n < m → m ≤ k → ¬ shr p q (m : Int)) ∧ comF p q k = (fst p.1 n, (n : Int))
  | 0, _ => ⟨0, Nat.le_refl _, ⟨hp.n0, hq.n0, by rw [show ((0 : Nat) : Int) = 0 from rfl, fst_zero hp.a0 hp.a1, fst_zero hq.a0 hq.a1]⟩, fun m h1 h2 => by omega, by
      simp only [comF]
      rw [show ((0 : Nat) : Int) = 0 from rfl, fst_zero hp.a0 hp.a1]⟩
  | k + 1, hk => by
    by_cases hs : shr p q ((k + 1 : Nat) : Int)
    · exact ⟨k + 1, Nat.le_refl _, hs, fun m h1 h2 => by omega, by unfold comF; rw [if_pos hs]⟩
    · obtain ⟨n, h1, h2, h3, h4⟩ := comF_ok hp hq k (by omega)
      refine ⟨n, by omega, h2, fun m h5 h6 => ?_, by unfold comF; rw [if_neg hs]; exact h4⟩
      rcases Nat.lt_or_ge k m with h7 | h7
      · obtain rfl : m = k + 1 := by omega
        exact hs
      · exact h3 m h5 h7
theorem fst_may {a n : Int} (h0 : 0 ≤ n) (h1 : n ≤ 32) : mayB (fst a n) n = true := by
  unfold mayB
  simp only [Bool.and_eq_true, decide_eq_true_eq]
  exact ⟨h0, h1, fst_fst h0 (Int.le_refl _) h1⟩
/-- What the longest prefix of two is, where neither is within the other. -/
theorem com_part {p q : Pf} (hp : Ok p) (hq : Ok q) (h1 : wi p q = false) (h2 : wi q p = false) :
    Ok (com p q) ∧ Bel (com p q) (bit p.1 (com p q).2) p ∧ Bel (com p q) (bit q.1 (com p q).2) q ∧ bit p.1 (com p q).2 ≠ bit q.1 (com p q).2 := by
  obtain ⟨n, hn, hs, hm, he⟩ := comF_ok hp hq 32 (Nat.le_refl _)
  have e : com p q = (fst p.1 n, (n : Int)) := he
  obtain ⟨s1, s2, s3⟩ := hs
  have hpn : (n : Int) < p.2 := by
    rcases Int.lt_or_le (n : Int) p.2 with h | h
    · exact h
    · have e2 : p.2 = (n : Int) := by omega
      have : wi p q = true := (wi_iff hp hq).2 ⟨by omega, by rw [e2, ← s3, ← e2]; exact hp.fs⟩
      rw [h1] at this; cases this
  have hqn : (n : Int) < q.2 := by
    rcases Int.lt_or_le (n : Int) q.2 with h | h
    · exact h
    · have e2 : q.2 = (n : Int) := by omega
      have : wi q p = true := (wi_iff hq hp).2 ⟨by omega, by rw [e2, s3, ← e2]; exact hq.fs⟩
      rw [h2] at this; cases this
  have hp1 := hp.n1
  have hq1 := hq.n1
  have hb : bit p.1 n ≠ bit q.1 n := by
    intro hb
    have hx := eq_bit (by omega) (by omega) hb s3
    exact hm (n + 1) (by omega) (by omega) ⟨by omega, by omega, by simpa using hx⟩
  have hok : Ok (com p q) := by
    rw [e]
    exact ⟨fst_nonneg hp.a0, by have := fst_le (a := p.1) (n := (n : Int)); have := hp.a1; simp only; omega, fst_may (by omega) (by omega)⟩
  rw [e] at hok ⊢
  exact ⟨hok, ⟨hp, hpn, rfl, rfl⟩, ⟨hq, hqn, s3.symm, rfl⟩, hb⟩
/-- The longest prefix of two that lie below p on one way lies there, too. -/
theorem com_bel {p : Pf} {b : Int} {x y : Pf} (hp : Ok p) (hx : Bel p b x) (hy : Bel p b y) : Bel p b (com x y) := by
  obtain ⟨n, hn, hs, hm, he⟩ := comF_ok hx.ok hy.ok 32 (Nat.le_refl _)
  have e : com x y = (fst x.1 n, (n : Int)) := he
  have h31 := hx.n31
  have h0 := hp.n0
  have hlen : p.2 < (n : Int) := by
    rcases Int.lt_or_le p.2 (n : Int) with h | h
    · exact h
    · obtain ⟨P, hP⟩ := Int.eq_ofNat_of_zero_le h0
      have h1 := hx.len
      have h2 := hy.len
      have hx2 := eq_bit h0 h31 (hx.bt.trans hy.bt.symm) (hx.fs.trans hy.fs.symm)
      exact absurd ⟨by rw [hP] at h1; omega, by rw [hP] at h2; omega, by rw [hP] at hx2; simpa using hx2⟩ (hm (P + 1) (by omega) (by rw [hP] at h31; omega))
  have hx1 := hx.ok.n1
  have hle := hs.1
  rw [e]
  refine ⟨⟨fst_nonneg hx.ok.a0, by have := fst_le (a := x.1) (n := (n : Int)); have := hx.ok.a1; simp only; omega, fst_may (by omega) (by omega)⟩, hlen, ?_, ?_⟩
  · simp only
    rw [fst_fst h0 (Int.le_of_lt hlen) (by omega)]; exact hx.fs
  · simp only
    have e1 := fst_fst (c := x.1) (n := p.2 + 1) (m := (n : Int)) (by omega) (by omega) (by omega)
    have e2 := fst_fst (c := x.1) (n := p.2) (m := (n : Int)) (by omega) (by omega) (by omega)
    rw [bit_eq h0 h31 e1 e2]; exact hx.bt
/-- Of two on p's two ways, the longest prefix is p. -/
theorem com_sides {p : Pf} {x y : Pf} (hp : Ok p) (hx : Bel p 0 x) (hy : Bel p 1 y) : com x y = p := by
  have := com_eq hx.ok (n := p.2) hp.n0 ⟨Int.le_of_lt hx.len, Int.le_of_lt hy.len, hx.fs.trans hy.fs.symm⟩ (.inr (.inr (by rw [hx.bt, hy.bt]; decide)))
  rw [this, hx.fs]
theorem com_up {p : Pf} {b : Int} {y : Pf} (hp : Ok p) (hy : Bel p b y) : com p y = p := by
  have := com_eq hp (q := y) (n := p.2) hp.n0 ⟨Int.le_refl _, Int.le_of_lt hy.len, by rw [hp.fs]; exact hy.fs.symm⟩ (.inl rfl)
  rw [this, hp.fs]
end Tp
end Go.Proofs.Ytbfkjdnopiadjaa
