/- Slices of acts, prefixes, addresses, opened.
   Arguments that are bytes, and lists of bytes, opened.
   A row of one-cell elements in memory: a slice value that reads as a list of values.
   Lists of bytes in memory: a slice value that reads as a list of lists of bytes.
   Bytes in memory: a slice value that reads as a list of bytes; no function of the program in it. -/
import Derived.Test.YtbfkjdnopiadjaaRows
import Derived.WalkKit
import Derived.WalkSpells
import Derived.WalkLawsBesides
import Derived.Handy
import Derived.ProofKit
import Derived.OpenShut
import Derived.Deep.Matrix
import Derived.Deep.Slices
import Derived.Lib.SmallJoins
import Derived.Test.YtbfkjdnopiadjaaZ02
import Derived.Test.YtbfkjdnopiadjaaZ12

set_option linter.unusedSimpArgs false
set_option linter.unusedVariables false
namespace Go.Proofs.Ytbfkjdnopiadjaa
open Go.RowKit

def bv (l : List UInt8) : List Value := l.map fun b => .int .u8 (b.toNat : Int)

/-- The value reads as these bytes. -/
def Bytes (w : World) (v : Value) (l : List UInt8) : Prop :=
  (l = [] ∧ ∃ a c, v = .slice a 0 c ∧ (a = none → c = 0)) ∨
  ∃ b o c, v = .slice (some ⟨b, o, none⟩) l.length c ∧ b < w.heap.size ∧ l.length ≤ c ∧ ∀ j x, l[j]? = some x → w.cell? ⟨b, o + j, none⟩ = some (.int .u8 (x.toNat : Int))

theorem Bytes.later {w w' : World} {v : Value} {l : List UInt8} (h : Bytes w v l) (hb : Below w.heap.size w w') : Bytes w' v l := by
  rcases h with h | ⟨b, o, c, h1, h2, hp, h3⟩
  · exact .inl h
  · exact .inr ⟨b, o, c, h1, Nat.lt_of_lt_of_le h2 hb.size, hp, fun j x hx => cell_later hb (h3 j x hx)⟩

theorem cell_later' {w wr : World} {B : Nat} {b o : Nat} {v : Value} (h : Below B w wr) (hb : b < B) (hc : w.cell? ⟨b, o, none⟩ = some v) : wr.cell? ⟨b, o, none⟩ = some v :=
  (h.cell (p := ⟨b, o, none⟩) hb).trans hc

theorem own_ne {w : World} {B : Nat} {e : TypeId} {size n : Nat} {v : Value} {xs : List Value} {b : Nat} (h : w.ownsRow B e size v n xs) (hb : b < B) : some b ≠ v.ownBlock := by
  rcases h.2 with ⟨rfl, _⟩ | ⟨g, cap, cur, rfl, hg, _⟩
  · simp [Value.ownBlock]
  · simp [Value.ownBlock]; omega

theorem Bytes.form {w : World} {v : Value} {l : List UInt8} (h : Bytes w v l) : ∃ a c, v = .slice a l.length c := by
  rcases h with ⟨rfl, a, c, rfl, _⟩ | ⟨b, o, c, rfl, _, _⟩
  · exact ⟨a, c, rfl⟩
  · exact ⟨_, c, rfl⟩

theorem Bytes.nil (w : World) (a : Option Addr) (c : Nat) (h : a = none → c = 0 := by intros; first | rfl | contradiction | simp_all) : Bytes w (.slice a 0 c) [] := .inl ⟨rfl, a, c, rfl, h⟩
/-- Without an address there is nothing. -/
theorem Bytes.noaddr {w : World} {n c : Nat} {l : List UInt8} (h : Bytes w (.slice none n c) l) : n = 0 ∧ c = 0 ∧ l = [] := by
  rcases h with ⟨rfl, a, c', h1, h2⟩ | ⟨b, o, c', h1, _, _⟩
  · simp only [Value.slice.injEq] at h1
    obtain ⟨rfl, rfl, rfl⟩ := h1
    exact ⟨rfl, h2 rfl, rfl⟩
  · simp at h1

theorem Bytes.of_own {w : World} {base : Nat} {e : TypeId} {v : Value} {n : Nat} {l : List UInt8} (h : w.ownsRow base e 1 v n (bv l)) : Bytes w v l := by
  obtain ⟨hl, h0 | ⟨g, cap, cur, rfl, hb, hg, hn, hm, hc, ht⟩⟩ := h
  · obtain ⟨rfl, rfl⟩ := h0
    simp [bv] at hl
    subst hl
    exact Bytes.nil _ _ _
  · have hln : l.length = n := by simpa [bv] using hl
    subst hln
    refine .inr ⟨g, 0, cap, rfl, ?_, hn, fun j x hx => ?_⟩
    · rcases Nat.lt_or_ge g w.heap.size with h1 | h1
      · exact h1
      · rw [Array.getElem?_eq_none h1] at hg; cases hg
    · rw [Nat.zero_add, cell_of_row w g j cur e (0, 0) hg]
      have hj : j < l.length := (List.getElem?_eq_some_iff.1 hx).1
      have : (bv l)[j]? = some (.int .u8 (x.toNat : Int)) := by simp [bv, hx]
      rw [← ht, List.getElem?_take, if_pos (by omega)] at this
      simpa using this

theorem push_fold : ∀ (l : List UInt8) (s : ByteArray), (l.map fun b => (b.toNat : Int)).foldl (fun r n => r.push (UInt8.ofNat n.toNat)) s = ⟨(s.data.toList ++ l).toArray⟩
  | [], s => by simp
  | b :: l, s => by
    simp only [List.map_cons, List.foldl_cons]
    rw [push_fold l]
    have : (s.push (UInt8.ofNat ((b.toNat : Int)).toNat)).data.toList = s.data.toList ++ [b] := by
      simp [ByteArray.push]
    rw [this]
    simp

/-- string(b). -/
theorem Bytes.str {P : Program} {w : World} {v : Value} {l : List UInt8} (h : Bytes w v l) {src dst e : TypeId}
    (hs : P.underlying src = some (.slice e)) (he : P.underlying e = some (.int .u8)) (hd : P.underlying dst = some .string) :
    (convert src dst v).run P w = .ok (.string ⟨l.toArray⟩) w := by
  rcases h with ⟨rfl, a, c, rfl, _⟩ | ⟨b, o, c, rfl, hb, _, hc⟩
  · rw [run_convert_bytes_string w src dst e a 0 c hs he hd]
    cases a with
    | none => simp [Conv.bytesToString]; rfl
    | some a =>
      have := run_bytesToString (P := P) w a 0 c [] (by have := run_loadCells_list (P := P) w a [] (by simp); simpa using this)
      rw [this]; rfl
  · rw [run_convert_bytes_string w src dst e _ _ c hs he hd]
    have hl : (loadCells ⟨b, o, none⟩ l.length).run P w = .ok ((l.map fun b => (b.toNat : Int)).map (Value.int .u8)).toArray w := by
      have := run_loadCells_list (P := P) w ⟨b, o, none⟩ (bv l) (fun j u hu => by
        simp only [bv, List.getElem?_map, Option.map_eq_some_iff] at hu
        obtain ⟨x, hx, rfl⟩ := hu
        have := hc j x hx
        cases j with
        | zero => simpa [Addr.add] using this
        | succ j => simpa [Addr.add] using this)
      simpa [bv, List.map_map, Function.comp_def] using this
    rw [run_bytesToString (P := P) w _ _ c _ hl, push_fold]
    rfl

theorem str_eq {a b : List UInt8} (h : a = b) : ((⟨a.toArray⟩ : ByteArray).toList == (⟨b.toArray⟩ : ByteArray).toList) = true := by rw [h]; simp

theorem news_one (w : World) (v : Value) (t : TypeId) : ∀ (j : Nat) (u : Value), [v][j]? = some u → (w.alloc (.cells #[v] t)).cell? ((⟨w.heap.size, 0, none⟩ : Addr).add j) = some u := by
  intro j u hj
  match j, hj with
  | 0, hj => simp at hj; subst hj; simp [Addr.add]
theorem one_int (k : IntKind) (x : Int) : ∀ u ∈ [Value.int k x], u.oneCell' = true := by intro u hu; simp at hu; subst hu; rfl
theorem one_slice (a : Option Addr) (n c : Nat) : ∀ u ∈ [Value.slice a n c], u.oneCell' = true := by intro u hu; simp at hu; subst hu; rfl

theorem own_base {w : World} {B : Nat} {e : TypeId} {size n : Nat} {v : Value} {xs : List Value} (h : w.ownsRow B e size v n xs) {j : Nat} (hj : v.ownBlock = some j) : B ≤ j := by
  rcases h.2 with ⟨rfl, _⟩ | ⟨g, cap, cur, rfl, hg, _⟩
  · simp [Value.ownBlock] at hj
  · simp [Value.ownBlock] at hj; omega

theorem bv_append (a b : List UInt8) : bv (a ++ b) = bv a ++ bv b := by simp [bv]
theorem bv_one (l : List UInt8) : ∀ u ∈ bv l, u.oneCell' = true := by
  intro u hu
  simp only [bv, List.mem_map] at hu
  obtain ⟨b, _, rfl⟩ := hu
  rfl
theorem Bytes.news {w : World} {x : Addr} {n c : Nat} {l : List UInt8} (h : Bytes w (.slice (some x) n c) l) : ∀ (j : Nat) (u : Value), (bv l)[j]? = some u → w.cell? (x.add j) = some u := by
  intro j u hu
  simp only [bv, List.getElem?_map, Option.map_eq_some_iff] at hu
  obtain ⟨y, hy, rfl⟩ := hu
  rcases h with ⟨rfl, _⟩ | ⟨b, o, c', h1, h2, _, h3⟩
  · simp at hy
  · simp only [Value.slice.injEq, Option.some.injEq] at h1
    obtain ⟨rfl, rfl, rfl⟩ := h1
    have := h3 j y hy
    cases j with
    | zero => simpa [Addr.add] using this
    | succ j => simpa [Addr.add] using this
end Go.Proofs.Ytbfkjdnopiadjaa

namespace Go.Proofs.Ytbfkjdnopiadjaa
open Go.RowKit

/-- The value reads as these lists of bytes. -/
def Lists (w : World) (v : Value) (L : List (List UInt8)) : Prop :=
  (L = [] ∧ ∃ a c, v = .slice a 0 c ∧ (a = none → c = 0)) ∨
  ∃ b o c, v = .slice (some ⟨b, o, none⟩) L.length c ∧ b < w.heap.size ∧ L.length ≤ c ∧ ∀ j l, L[j]? = some l → ∃ u, w.cell? ⟨b, o + j, none⟩ = some u ∧ Bytes w u l

theorem Lists.later {w w' : World} {v : Value} {L : List (List UInt8)} (h : Lists w v L) (hb : Below w.heap.size w w') : Lists w' v L := by
  rcases h with h | ⟨b, o, c, h1, h2, hp, h3⟩
  · exact .inl h
  · refine .inr ⟨b, o, c, h1, Nat.lt_of_lt_of_le h2 hb.size, hp, fun j l hl => ?_⟩
    obtain ⟨u, hu, hx⟩ := h3 j l hl
    exact ⟨u, cell_later hb hu, hx.later hb⟩
theorem Lists.form {w : World} {v : Value} {L : List (List UInt8)} (h : Lists w v L) : ∃ a c, v = .slice a L.length c := by
  rcases h with ⟨rfl, a, c, rfl, _⟩ | ⟨b, o, c, rfl, _, _⟩
  · exact ⟨a, c, rfl⟩
  · exact ⟨_, c, rfl⟩
/-- The element at a place: where it lies, in every later world. -/
theorem Lists.at {w : World} {a : Option Addr} {n c : Nat} {L : List (List UInt8)} (h : Lists w (.slice a n c) L) {i : Nat} (hi : i < L.length) :
    ∃ b o, a = some ⟨b, o, none⟩ ∧ b < w.heap.size ∧ ∃ x d, w.cell? ⟨b, o + i, none⟩ = some (.slice x L[i].length d) ∧ Bytes w (.slice x L[i].length d) L[i] := by
  rcases h with ⟨rfl, _⟩ | ⟨b, o, c', h1, h2, _, h3⟩
  · simp at hi
  · obtain ⟨u, hu, hx⟩ := h3 i L[i] (List.getElem?_eq_getElem hi)
    obtain ⟨x, d, rfl⟩ := hx.form
    simp only [Value.slice.injEq] at h1
    exact ⟨b, o, h1.1, h2, x, d, hu, hx⟩
theorem Bytes.at {w : World} {a : Option Addr} {n c : Nat} {l : List UInt8} (h : Bytes w (.slice a n c) l) {i : Nat} (hi : i < l.length) :
    ∃ b o, a = some ⟨b, o, none⟩ ∧ b < w.heap.size ∧ w.cell? ⟨b, o + i, none⟩ = some (.int .u8 (l[i].toNat : Int)) := by
  rcases h with ⟨rfl, _⟩ | ⟨b, o, c', h1, h2, _, h3⟩
  · simp at hi
  · simp only [Value.slice.injEq] at h1
    exact ⟨b, o, h1.1, h2, h3 i _ (List.getElem?_eq_getElem hi)⟩
theorem Lists.nil (w : World) (a : Option Addr) (c : Nat) (h : a = none → c = 0 := by intros; first | rfl | contradiction | simp_all) : Lists w (.slice a 0 c) [] := .inl ⟨rfl, a, c, rfl, h⟩

theorem bytes_lit (w : World) (l : List UInt8) : Bytes (w.alloc (.cells (bv l).toArray 5)) (.slice (some ⟨w.heap.size, 0, none⟩) l.length l.length) l :=
  .inr ⟨w.heap.size, 0, l.length, rfl, by simp, Nat.le_refl _, fun j x hx => by
    have : (bv l)[j]? = some (.int .u8 (x.toNat : Int)) := by simp [bv, hx]
    simp [this]⟩

/-- Bytes that are kept, and all that was there ahead. -/
def KeptB (w0 : World) (v : Value) (l : List UInt8) (w' : World) : Prop := Bytes w' v l ∧ w0.heap.size < w'.heap.size ∧ Below w0.heap.size w0 w'
theorem KeptB.later {w0 w1 w2 : World} {v : Value} {l : List UInt8} (h : KeptB w0 v l w1) (hb : Below w1.heap.size w1 w2) : KeptB w0 v l w2 :=
  ⟨h.1.later hb, Nat.lt_of_lt_of_le h.2.1 hb.size, h.2.2.trans (hb.mono (Nat.le_of_lt h.2.1))⟩
theorem KeptB.drew {w0 w1 : World} {v : Value} {l : List UInt8} (h : KeptB w0 v l w1) : KeptB w0 v l w1.drew := h.later (Below.refl _ _).drew
theorem KeptB.alloc {w0 w1 : World} {v : Value} {l : List UInt8} (h : KeptB w0 v l w1) (o : Obj) : KeptB w0 v l (w1.alloc o) := h.later ((Below.refl _ _).alloc (Nat.le_refl _) o)
theorem KeptB.allocDrew {w0 w1 : World} {v : Value} {l : List UInt8} (h : KeptB w0 v l w1) (o : Obj) : KeptB w0 v l (w1.alloc o).drew := (h.alloc o).drew

theorem ret_u {k : IntKind} {a : Nat} {b : Int} (h : (a : Int) = b) : Ending.returned (.int k a) = .returned (.int k b) := by rw [h]
theorem bytes_take {w : World} {b : Option Addr} {n c : Nat} {l : List UInt8} (h : Bytes w (.slice b n c) l) {k : Nat} (hk : k ≤ l.length) : Bytes w (.slice b k c) (l.take k) := by
  rcases h with ⟨rfl, a, c', h1, h2⟩ | ⟨bl, o, c', h1, h2, hp, h3⟩
  · simp only [Value.slice.injEq] at h1
    obtain ⟨rfl, rfl, rfl⟩ := h1
    have : k = 0 := by simpa using hk
    subst this
    exact .inl ⟨by simp, _, _, rfl, h2⟩
  · simp only [Value.slice.injEq] at h1
    obtain ⟨rfl, rfl, rfl⟩ := h1
    refine .inr ⟨bl, o, c, by rw [List.length_take, Nat.min_eq_left hk], h2, by rw [List.length_take]; omega, fun j x hx => h3 j x ?_⟩
    rw [List.getElem?_take] at hx
    split at hx
    · exact hx
    · cases hx
theorem bytes_drop {w : World} {bl o c : Nat} {l : List UInt8} {n : Nat} (h : Bytes w (.slice (some ⟨bl, o, none⟩) n c) l) (k : Nat) (m : Nat) (hm : m = l.length - k) (d : Nat) (hd : m ≤ d) : Bytes w (.slice (some ⟨bl, o + k, none⟩) m d) (l.drop k) := by
  subst hm
  rcases h with ⟨rfl, a, c', h1, h2⟩ | ⟨bl, o, c', h1, h2, hp, h3⟩
  · simp only [Value.slice.injEq] at h1
    exact .inl ⟨by simp, some ⟨bl, o + k, none⟩, d, by simp, fun h => by cases h⟩
  · simp only [Value.slice.injEq, Option.some.injEq, Addr.mk.injEq] at h1
    obtain ⟨⟨rfl, rfl, _⟩, rfl, rfl⟩ := h1
    refine .inr ⟨bl, o + k, d, by simp, h2, by simpa using hd, fun j x hx => ?_⟩
    rw [List.getElem?_drop] at hx
    rw [Nat.add_assoc]
    exact h3 (k + j) x hx

theorem lists_one3 {W : World} {v : Value} {l : List UInt8} {n : Nat} (h : Bytes W v l) (hc : W.cell? ⟨n, 0, none⟩ = some v) (hn : n < W.heap.size) : Lists W (.slice (some ⟨n, 0, none⟩) 1 1) [l] :=
  .inr ⟨n, 0, 1, rfl, hn, Nat.le_refl _, fun j x hx => by
    match j, hx with
    | 0, hx => simp at hx; subst hx; exact ⟨v, hc, h⟩⟩
theorem lists_two3 {W : World} {u v : Value} {k l : List UInt8} {n : Nat} (g : Bytes W u k) (h : Bytes W v l) (hu : W.cell? ⟨n, 0, none⟩ = some u) (hc : W.cell? ⟨n, 1, none⟩ = some v) (hn : n < W.heap.size) : Lists W (.slice (some ⟨n, 0, none⟩) 2 2) [k, l] :=
  .inr ⟨n, 0, 2, rfl, hn, Nat.le_refl _, fun j x hx => by
    match j, hx with
    | 0, hx => simp at hx; subst hx; exact ⟨u, by simpa using hu, g⟩
    | 1, hx => simp at hx; subst hx; exact ⟨v, by simpa using hc, h⟩⟩

theorem Bytes.cap {w : World} {a : Option Addr} {n c : Nat} {l : List UInt8} (h : Bytes w (.slice a n c) l) : l.length ≤ c := by
  rcases h with ⟨rfl, _⟩ | ⟨b, o, c', e1, e2, e3, e4⟩
  · simp
  · simp only [Value.slice.injEq] at e1
    obtain ⟨rfl, rfl, rfl⟩ := e1
    exact e3
/-- What is cut out of a slice reads as the part. -/
theorem Bytes.sliced {w : World} {a : Option Addr} {n c : Nat} {l : List UInt8} (h : Bytes w (.slice a n c) l) {lo hi m : Nat} (h1 : lo ≤ hi) (h2 : hi ≤ l.length) (h3 : hi ≤ m) (h4 : m ≤ c) : Bytes w (Go.sliced a lo hi m 1) ((l.take hi).drop lo) := by
  unfold Go.sliced
  rcases h with ⟨rfl, a', c', e1, e2⟩ | ⟨b, o, c', e1, e2, e3, e4⟩
  · simp only [Value.slice.injEq] at e1
    obtain ⟨rfl, rfl, rfl⟩ := e1
    have : hi = 0 := by simpa using h2
    subst this
    have : lo = 0 := by omega
    subst this
    refine .inl ⟨by simp, _, _, rfl, fun h => ?_⟩
    split at h
    · omega
    · have : a = none := by simpa using h
      have := e2 this
      omega
  · simp only [Value.slice.injEq] at e1
    obtain ⟨rfl, rfl, rfl⟩ := e1
    rcases Nat.eq_or_lt_of_le h1 with rfl | h5
    · refine .inl ⟨by simp, _, _, by rw [Nat.sub_self], fun h => ?_⟩
      split at h <;> simp at h
    · have hlen : ((l.take hi).drop lo).length = hi - lo := by simp; omega
      rw [if_neg (by omega)]
      refine .inr ⟨b, o + lo, m - lo, ?_, e2, by omega, fun j x hx => ?_⟩
      · rw [hlen]
        simp only [Option.map_some, Nat.mul_one, Value.slice.injEq, and_true]
        unfold Addr.add
        by_cases h0 : lo = 0 <;> simp [h0]
      · rw [List.getElem?_drop, List.getElem?_take] at hx
        split at hx
        · have := e4 (lo + j) x hx
          rw [Nat.add_assoc]; exact this
        · cases hx
end Go.Proofs.Ytbfkjdnopiadjaa

namespace Go.Proofs.Ytbfkjdnopiadjaa
open Go.RowKit

def Row (w : World) (v : Value) (xs : List Value) : Prop :=
  (xs = [] ∧ ∃ a c, v = .slice a 0 c ∧ (a = none → c = 0)) ∨
  ∃ b o c, v = .slice (some ⟨b, o, none⟩) xs.length c ∧ b < w.heap.size ∧ xs.length ≤ c ∧ ∀ j x, xs[j]? = some x → w.cell? ⟨b, o + j, none⟩ = some x
theorem Row.later {w w' : World} {v : Value} {l : List Value} (h : Row w v l) (hb : Below w.heap.size w w') : Row w' v l := by
  rcases h with h | ⟨b, o, c, h1, h2, hp, h3⟩
  · exact .inl h
  · exact .inr ⟨b, o, c, h1, Nat.lt_of_lt_of_le h2 hb.size, hp, fun j x hx => cell_later hb (h3 j x hx)⟩
theorem Row.form {w : World} {v : Value} {l : List Value} (h : Row w v l) : ∃ a c, v = .slice a l.length c := by
  rcases h with ⟨rfl, a, c, rfl, _⟩ | ⟨b, o, c, rfl, _, _⟩
  · exact ⟨a, c, rfl⟩
  · exact ⟨_, c, rfl⟩
theorem Row.at {w : World} {a : Option Addr} {n c : Nat} {l : List Value} (h : Row w (.slice a n c) l) {i : Nat} {x : Value} (hi : l[i]? = some x) :
    ∃ b o, a = some ⟨b, o, none⟩ ∧ b < w.heap.size ∧ w.cell? ⟨b, o + i, none⟩ = some x := by
  rcases h with ⟨rfl, _⟩ | ⟨b, o, c', h1, h2, _, h3⟩
  · simp at hi
  · simp only [Value.slice.injEq] at h1
    exact ⟨b, o, h1.1, h2, h3 i _ hi⟩
theorem Row.of_own {w : World} {base : Nat} {e : TypeId} {v : Value} {n : Nat} {l : List Value} (h : w.ownsRow base e 1 v n l) : Row w v l := by
  obtain ⟨hl, h0 | ⟨g, cap, cur, rfl, hb, hg, hn, hm, hc, ht⟩⟩ := h
  · obtain ⟨rfl, rfl⟩ := h0
    simp at hl
    subst hl
    exact .inl ⟨rfl, _, _, rfl, fun _ => rfl⟩
  · have hln : l.length = n := by simpa using hl
    subst hln
    refine .inr ⟨g, 0, cap, rfl, ?_, hn, fun j x hx => ?_⟩
    · rcases Nat.lt_or_ge g w.heap.size with h1 | h1
      · exact h1
      · rw [Array.getElem?_eq_none h1] at hg; cases hg
    · rw [Nat.zero_add, cell_of_row w g j cur e (0, 0) hg]
      have hj : j < l.length := (List.getElem?_eq_some_iff.1 hx).1
      have : l[j]? = some x := hx
      rw [← ht, List.getElem?_take, if_pos (by omega)] at this
      simpa using this
theorem Row.of_bytes {w : World} {v : Value} {l : List UInt8} (h : Bytes w v l) : Row w v (bv l) := by
  rcases h with ⟨rfl, a, c, rfl, h1⟩ | ⟨b, o, c, rfl, h2, hp, h3⟩
  · exact .inl ⟨rfl, a, c, rfl, h1⟩
  · refine .inr ⟨b, o, c, by simp [bv], h2, by simpa [bv] using hp, fun j x hx => ?_⟩
    simp only [bv, List.getElem?_map, Option.map_eq_some_iff] at hx
    obtain ⟨y, hy, rfl⟩ := hx
    exact h3 j y hy
theorem ownsRow_later {w w' : World} {B : Nat} {e : TypeId} {s n : Nat} {v : Value} {xs : List Value} (h : w.ownsRow B e s v n xs) (hb : Below w.heap.size w w') : w'.ownsRow B e s v n xs := by
  obtain ⟨hl, h0 | ⟨g, cap, cur, rfl, hb1, hg, hn, hm, hc, ht⟩⟩ := h
  · exact ⟨hl, .inl h0⟩
  · refine ⟨hl, .inr ⟨g, cap, cur, rfl, hb1, ?_, hn, hm, hc, ht⟩⟩
    rw [hb.block g ?_]
    · exact hg
    · rcases Nat.lt_or_ge g w.heap.size with h1 | h1
      · exact h1
      · rw [Array.getElem?_eq_none h1] at hg; cases hg
def iv (l : List Int) : List Value := l.map fun z => .int .i64 z
theorem iv_at {zs : List Int} {k : Nat} (h : k < zs.length) : (iv zs)[k]? = some (.int .i64 zs[k]) := by simp [iv, h]
end Go.Proofs.Ytbfkjdnopiadjaa

namespace Go.Proofs.Ytbfkjdnopiadjaa
open Go.ChangeShapes Go.WideShapes Go.ChangeAt Go.RowKit

theorem lt_u8 {a : Int} (h : 0 ≤ a ∧ a ≤ 255) : a < 256 := by omega
theorem lt_u16 {a : Int} (h : 0 ≤ a ∧ a ≤ 65535) : a < 65536 := by omega
theorem lt_u32 {a : Int} (h : 0 ≤ a ∧ a ≤ 4294967295) : a < 4294967296 := by omega
theorem lt_u64 {a : Int} (h : 0 ≤ a ∧ a ≤ 18446744073709551615) : a < 18446744073709551616 := by omega

theorem own : ownKnob Try.prog.godebug = none := by kernel_rfl
theorem laidOut : laidOutB Try.prog = true := by kernel_rfl


theorem spot_none {W : World} {a : Addr} {v : Value} (h : W.cell? (a.add 0) = some v) : a.spot = none := by
  obtain ⟨b, o, sp⟩ := a
  cases sp with
  | none => rfl
  | some s =>
    simp [World.cell?, Addr.add] at h
    split at h <;> cases h
theorem bytes_of_ints {W : World} {A : Option Addr} {len cap : Nat} {zs : List Int} (hl : len ≤ cap) (hz : zs.length = cap) (hwz : ∀ n ∈ zs, (Lit.int .u8 n).wf = true) (h0 : A = none → cap = 0)
    (hc : ∀ a, A = some a → ∀ c, c < cap → W.cell? (a.add c) = some (.int .u8 (zs.getD c 0))) : Bytes W (.slice A len cap) ((zs.take len).map fun z => UInt8.ofNat z.toNat) := by
  have hlen : ((zs.take len).map fun z => UInt8.ofNat z.toNat).length = len := by simp; omega
  rcases Nat.eq_zero_or_pos len with hp | hp
  · subst hp
    exact .inl ⟨by simp, A, cap, rfl, h0⟩
  · cases A with
    | none => have := h0 rfl; omega
    | some x =>
      have hcell := hc x rfl
      have hc0 := hcell 0 (by omega)
      have hsp := spot_none hc0
      obtain ⟨b, o, sp⟩ := x
      simp only at hsp
      subst hsp
      refine .inr ⟨b, o, cap, by rw [hlen], ?_, by rw [hlen]; exact hl, ?_⟩
      · have := World.block_lt_of_cell? _ _ hc0
        simpa [Addr.add] using this
      · intro j y hy
        simp only [List.getElem?_map, Option.map_eq_some_iff] at hy
        obtain ⟨z, hz1, rfl⟩ := hy
        have hj : j < len := by
          have := (List.getElem?_eq_some_iff.1 hz1).1
          simp at this; omega
        have hz2 : zs[j]? = some z := by rw [List.getElem?_take, if_pos hj] at hz1; exact hz1
        have hb := bounds_u8 (hwz z (List.mem_of_getElem? hz2))
        have hcj := hcell j (by omega)
        have he : zs.getD j 0 = z := by simp [List.getD, hz2]
        rw [he] at hcj
        have hn : ((UInt8.ofNat z.toNat).toNat : Int) = z := by rw [UInt8.toNat_ofNat']; omega
        rw [hn]
        cases j with
        | zero => simpa [Addr.add] using hcj
        | succ j => simpa [Addr.add] using hcj

set_option maxRecDepth 100000 in
theorem open_introw {H : Type} {enc : TypeId × Value → H} {W : World} {base : Nat} {v : Value} {d : DataW H} {p : List MemPlace}
    (hv : Value.okWide Try.prog W .any base 70 v) (h : DataW.Trod enc Try.prog W 0 (fun _ => true) true 70 v d p) :
    ∃ zs : List Int, Row W v (iv zs) ∧ zs.length ≤ 9223372036854775807 ∧ ∀ z ∈ zs, -9223372036854775808 ≤ z ∧ z ≤ 9223372036854775807 := by
  obtain ⟨a, len, cap, rfl⟩ := okWide_slice Try.underlying70 hv
  obtain ⟨fuel, hf⟩ := h
  rcases open_ints Try.underlying70 Try.underlying3 (by kernel_rfl) hf with ⟨hcs, _⟩ | ⟨x, l, c, zs, hcs, _, hl, hm, hz, _, hcell, hwz⟩
  · simp [Value.cells] at hcs
    obtain ⟨rfl, rfl, rfl⟩ := hcs
    exact ⟨[], .inl ⟨rfl, _, _, rfl, fun _ => rfl⟩, by simp, by simp⟩
  · simp [Value.cells] at hcs
    obtain ⟨rfl, rfl, rfl⟩ := hcs
    unfold maxLen at hm
    have hzl : zs.length = cap := by simpa using hz
    refine ⟨zs.take len, ?_, by simp; omega, fun z hz2 => bounds_i64 (hwz z (List.mem_of_mem_take hz2))⟩
    rcases Nat.eq_zero_or_pos len with hp | hp
    · subst hp
      exact .inl ⟨by simp [iv], _, _, rfl, fun h => by cases h⟩
    · have hc0 := hcell 0 (by omega)
      have hsp := spot_none hc0
      obtain ⟨b, o, sp⟩ := x
      simp only at hsp
      subst hsp
      have hlen : (iv (zs.take len)).length = len := by simp [iv]; omega
      refine .inr ⟨b, o, cap, by rw [hlen], ?_, by rw [hlen]; exact hl, ?_⟩
      · have := World.block_lt_of_cell? _ _ hc0
        simpa [Addr.add] using this
      · intro j y hy
        simp only [iv, List.getElem?_map, Option.map_eq_some_iff] at hy
        obtain ⟨z, hz1, rfl⟩ := hy
        have hj : j < len := by
          have := (List.getElem?_eq_some_iff.1 hz1).1
          simp at this; omega
        have hz2 : zs[j]? = some z := by rw [List.getElem?_take, if_pos hj] at hz1; exact hz1
        have hcj := hcell j (by omega)
        have he : zs.getD j 0 = z := by simp [List.getD, hz2]
        rw [he] at hcj
        cases j with
        | zero => simpa [Addr.add] using hcj
        | succ j => simpa [Addr.add] using hcj

end Go.Proofs.Ytbfkjdnopiadjaa

namespace Go.Proofs.Ytbfkjdnopiadjaa
open Go.ChangeShapes Go.WideShapes Go.ChangeAt Go.RowKit Go.Joins Go.Deep
open Tp (Pf)

/-- The value reads as these, each of k cells. -/
def Rds {α : Type} (k : Nat) (f : α → List Value) (w : World) (v : Value) (L : List α) : Prop :=
  (L = [] ∧ ∃ a c, v = .slice a 0 c ∧ (a = none → c = 0)) ∨
  ∃ b o c, v = .slice (some ⟨b, o, none⟩) L.length c ∧ b < w.heap.size ∧ L.length ≤ c ∧ ∀ j x, L[j]? = some x → ∀ i u, (f x)[i]? = some u → w.cell? ⟨b, o + j * k + i, none⟩ = some u
section
variable {α : Type} {k : Nat} {f : α → List Value}
theorem Rds.later {w w' : World} {v : Value} {L : List α} (h : Rds k f w v L) (hb : Below w.heap.size w w') : Rds k f w' v L := by
  rcases h with h | ⟨b, o, c, h1, h2, hp, h3⟩
  · exact .inl h
  · exact .inr ⟨b, o, c, h1, Nat.lt_of_lt_of_le h2 hb.size, hp, fun j x hx i u hu => cell_later hb (h3 j x hx i u hu)⟩
theorem Rds.form {w : World} {v : Value} {L : List α} (h : Rds k f w v L) : ∃ a c, v = .slice a L.length c := by
  rcases h with ⟨rfl, a, c, rfl, _⟩ | ⟨b, o, c, rfl, _, _⟩
  · exact ⟨a, c, rfl⟩
  · exact ⟨_, c, rfl⟩
theorem Rds.at {w : World} {a : Option Addr} {n c : Nat} {L : List α} (h : Rds k f w (.slice a n c) L) {i : Nat} {x : α} (hx : L[i]? = some x) :
    ∃ b o, a = some ⟨b, o, none⟩ ∧ b < w.heap.size ∧ ∀ j u, (f x)[j]? = some u → w.cell? ⟨b, o + i * k + j, none⟩ = some u := by
  rcases h with ⟨rfl, _⟩ | ⟨b, o, c', h1, h2, _, h3⟩
  · simp at hx
  · simp only [Value.slice.injEq] at h1
    exact ⟨b, o, h1.1, h2, fun j u hu => h3 i x hx j u hu⟩
theorem open_rds [Inhabited α] {H : Type} {enc : TypeId × Value → H} {W : World} {base : Nat} {v : Value} {d : DataW H} {p : List MemPlace} {t : TypeId} (hu : Try.prog.underlying t = some (.slice (Try.prog.elem t))) (hC : Try.prog.cellsOf (Try.prog.elem t) = k) (hk : 0 < k) (Pr : α → Prop)
    (one : ∀ {n : Nat} {cs : List Value} {y : DataW H × List MemPlace}, DataW.trod enc Try.prog W 0 (fun _ => true) true n (Try.prog.elem t) cs = some y → cs.length = k → ∃ x : α, cs = f x ∧ Pr x)
    (hv : Value.okWide Try.prog W .any base t v) (h : DataW.Trod enc Try.prog W 0 (fun _ => true) true t v d p) :
    ∃ L : List α, Rds k f W v L ∧ L.length ≤ 9223372036854775807 ∧ ∀ x ∈ L, Pr x := by
  obtain ⟨a, len, cap, rfl⟩ := okWide_slice hu hv
  obtain ⟨fuel, hf⟩ := h
  rcases open_slice hu hf with ⟨hcs, _⟩ | ⟨x, l, c, m, n, D, Pl, hcs, _, hl, hm, hmm, _, hx⟩
  · simp [Value.cells] at hcs
    obtain ⟨rfl, rfl, rfl⟩ := hcs
    exact ⟨[], .inl ⟨rfl, _, _, rfl, fun _ => rfl⟩, by simp, by simp⟩
  · simp [Value.cells] at hcs
    obtain ⟨rfl, rfl, rfl⟩ := hcs
    unfold maxLen at hm
    have hm2 : m = cap := by simpa using hmm
    subst hm2
    rw [hC] at hx
    have each : ∀ i, i < m → ∃ u : α, ((f u).length = k ∧ ∀ j z, (f u)[j]? = some z → W.cell? ((x.add (i * k)).add j) = some z) ∧ Pr u := by
      intro i hi
      obtain ⟨cs', h1, h2⟩ := hx i hi
      obtain ⟨_, hlen, hcell⟩ := World.cells?_some h1
      obtain ⟨u, rfl, hu⟩ := one h2 hlen
      refine ⟨u, ⟨hlen, fun j z hz => ?_⟩, hu⟩
      have hj := (List.getElem?_eq_some_iff.1 hz).1
      exact (hcell j (by omega)).trans hz
    obtain ⟨F, hF⟩ := choose_lt each
    have hlen : ((List.range len).map F).length = len := by simp
    refine ⟨(List.range len).map F, ?_, by rw [hlen]; omega, ?_⟩
    · rcases Nat.eq_zero_or_pos len with hp | hp
      · subst hp
        exact .inl ⟨by simp, _, _, rfl, fun h => by cases h⟩
      · obtain ⟨⟨hl0, hc⟩, _⟩ := hF 0 (by omega)
        have hc0 := hc 0 _ (List.getElem?_eq_getElem (by omega))
        rw [Nat.zero_mul] at hc0
        have hsp := spot_none (a := x) (by simpa [Addr.add] using hc0)
        obtain ⟨b, o, sp⟩ := x
        simp only at hsp
        subst hsp
        refine .inr ⟨b, o, m, by rw [hlen], ?_, by rw [hlen]; exact hl, ?_⟩
        · have := World.block_lt_of_cell? _ _ hc0
          simpa [Addr.add] using this
        · intro j u hju i z hz
          simp only [List.getElem?_map, Option.map_eq_some_iff] at hju
          obtain ⟨r, hr1, rfl⟩ := hju
          have hj : j < len := by
            have := (List.getElem?_eq_some_iff.1 hr1).1
            simpa using this
          have hr : r = j := by
            rw [List.getElem?_range hj] at hr1
            exact (Option.some.inj hr1).symm
          subst hr
          have := (hF r (by omega)).1.2 i z hz
          have ad : ∀ b o k, (⟨b, o, none⟩ : Addr).add k = ⟨b, o + k, none⟩ := fun b o k => by cases k <;> simp [Addr.add]
          rw [ad, ad] at this
          exact this
    · intro u hu
      obtain ⟨r, hr, rfl⟩ := List.mem_map.1 hu
      have := List.mem_range.1 hr
      exact (hF r (by omega)).2
end
instance : Inhabited Ac := ⟨⟨false, (0, 0), 0⟩⟩
def pc (p : Pf) : List Value := [.int .u32 p.1, .int .i64 p.2]
def Ac.cs (a : Ac) : List Value := [.bool a.del, .int .u32 a.p.1, .int .i64 a.p.2, .int .i64 a.x]
def ic (n : Int) : List Value := [.int .i64 n]
def uc (n : Int) : List Value := [.int .u32 n]
structure Ac.Ok (a : Ac) : Prop where
  p : Ky a.p
  x0 : -9223372036854775808 ≤ a.x
  x1 : a.x ≤ 9223372036854775807
theorem Ky.ad {p : Pf} (h : Ky p) : Ad p := ⟨h.a0, h.a1⟩
section
variable {H : Type} {enc : TypeId × Value → H} {W : World} {base : Nat} {sp : Nat → Bool} {held : Bool}
theorem pfx_cells {n : Nat} {cs : List Value} {y : DataW H × List MemPlace} (h : DataW.trod enc Try.prog W base sp held n 37 cs = some y) (hl : cs.length = 2) :
    ∃ p : Pf, cs = pc p ∧ Ky p := by
  have k1 : Try.prog.cellsOf 3 = 1 := by kernel_rfl
  have k1' : Try.prog.cellsOf 35 = 1 := by kernel_rfl
  match cs, hl with
  | [c0, c1], _ =>
    obtain ⟨zs, m, _, hz, _, hzl, hgz⟩ := DataW.trod_struct Try.underlying37 h
    match zs, hzl with
    | [z0, z1], _ =>
      have g0 : DataW.trod enc Try.prog W base sp held m 35 [c0] = some z0 := by simpa [k1'] using hgz 0 _ rfl
      have g1 : DataW.trod enc Try.prog W base sp held m 3 [c1] = some z1 := by simpa [k1] using hgz 1 _ rfl
      obtain ⟨a0, e0, _, w0⟩ := DataW.trod_int Try.underlying35 g0
      obtain ⟨a1, e1, _, w1⟩ := DataW.trod_int Try.underlying3 g1
      simp only [List.cons.injEq, and_true] at e0 e1
      subst e0 e1
      have b0 := bounds_u32 w0
      have b1 := bounds_i64 w1
      exact ⟨(a0, a1), rfl, ⟨b0.1, by simp only; omega, b1.1, b1.2⟩⟩
theorem act_cells {n : Nat} {cs : List Value} {y : DataW H × List MemPlace} (h : DataW.trod enc Try.prog W base sp held n 39 cs = some y) (hl : cs.length = 4) :
    ∃ a : Ac, cs = a.cs ∧ a.Ok := by
  have k0 : Try.prog.cellsOf 4 = 1 := by kernel_rfl
  have k1 : Try.prog.cellsOf 3 = 1 := by kernel_rfl
  have k2 : Try.prog.cellsOf 37 = 2 := by kernel_rfl
  match cs, hl with
  | [c0, c1, c2, c3], _ =>
    obtain ⟨zs, m, _, hz, _, hzl, hgz⟩ := DataW.trod_struct Try.underlying39 h
    match zs, hzl with
    | [z0, z1, z2], _ =>
      have g0 : DataW.trod enc Try.prog W base sp held m 4 [c0] = some z0 := by simpa [k0] using hgz 0 _ rfl
      have g1 : DataW.trod enc Try.prog W base sp held m 37 [c1, c2] = some z1 := by simpa [k2] using hgz 1 _ rfl
      have g2 : DataW.trod enc Try.prog W base sp held m 3 [c3] = some z2 := by simpa [k1] using hgz 2 _ rfl
      obtain ⟨b, e0, _⟩ := DataW.trod_bool Try.underlying4 g0
      obtain ⟨q, e1, hq⟩ := pfx_cells g1 rfl
      obtain ⟨a2, e2, _, w2⟩ := DataW.trod_int Try.underlying3 g2
      simp only [pc, List.cons.injEq, and_true] at e0 e1 e2
      obtain ⟨e1, e1'⟩ := e1
      subst e0 e1 e1' e2
      have b2 := bounds_i64 w2
      exact ⟨⟨b, q, a2⟩, rfl, ⟨hq, b2.1, b2.2⟩⟩
theorem num_cells {n : Nat} {cs : List Value} {y : DataW H × List MemPlace} (h : DataW.trod enc Try.prog W base sp held n 3 cs = some y) (hl : cs.length = 1) :
    ∃ a : Int, cs = ic a ∧ -9223372036854775808 ≤ a ∧ a ≤ 9223372036854775807 := by
  obtain ⟨a0, e0, _, w0⟩ := DataW.trod_int Try.underlying3 h
  have b0 := bounds_i64 w0
  exact ⟨a0, e0, b0.1, b0.2⟩
theorem addr_cells {n : Nat} {cs : List Value} {y : DataW H × List MemPlace} (h : DataW.trod enc Try.prog W base sp held n 35 cs = some y) (hl : cs.length = 1) :
    ∃ a : Int, cs = uc a ∧ 0 ≤ a ∧ a < 4294967296 := by
  obtain ⟨a0, e0, _, w0⟩ := DataW.trod_int Try.underlying35 h
  have b0 := bounds_u32 w0
  exact ⟨a0, e0, b0.1, by omega⟩
end
section
variable {H : Type} {enc : TypeId × Value → H} {W : World} {base : Nat} {v : Value} {d : DataW H} {p : List MemPlace}
set_option maxRecDepth 100000 in
theorem open_acts9 (hv : Value.okWide Try.prog W .any base 22 v) (h : DataW.Trod enc Try.prog W 0 (fun _ => true) true 22 v d p) :
    ∃ L : List Ac, Rds 4 Ac.cs W v L ∧ L.length ≤ 9223372036854775807 ∧ ∀ x ∈ L, x.Ok :=
  open_rds Try.underlying22 (by kernel_rfl) (by decide) Ac.Ok (fun h hl => act_cells h hl) hv h
set_option maxRecDepth 100000 in
theorem open_pfs (hv : Value.okWide Try.prog W .any base 69 v) (h : DataW.Trod enc Try.prog W 0 (fun _ => true) true 69 v d p) :
    ∃ L : List Pf, Rds 2 pc W v L ∧ L.length ≤ 9223372036854775807 ∧ ∀ x ∈ L, Ky x :=
  open_rds Try.underlying69 (by kernel_rfl) (by decide) Ky (fun h hl => pfx_cells h hl) hv h
set_option maxRecDepth 100000 in
theorem open_addrs (hv : Value.okWide Try.prog W .any base 23 v) (h : DataW.Trod enc Try.prog W 0 (fun _ => true) true 23 v d p) :
    ∃ L : List Int, Rds 1 uc W v L ∧ L.length ≤ 9223372036854775807 ∧ ∀ x ∈ L, 0 ≤ x ∧ x < 4294967296 :=
  open_rds Try.underlying23 (by kernel_rfl) (by decide) (fun x => 0 ≤ x ∧ x < 4294967296) (fun h hl => addr_cells h hl) hv h
set_option maxRecDepth 100000 in
theorem open_nums (hv : Value.okWide Try.prog W .any base 70 v) (h : DataW.Trod enc Try.prog W 0 (fun _ => true) true 70 v d p) :
    ∃ L : List Int, Rds 1 ic W v L ∧ L.length ≤ 9223372036854775807 ∧ ∀ x ∈ L, -9223372036854775808 ≤ x ∧ x ≤ 9223372036854775807 :=
  open_rds Try.underlying70 (by kernel_rfl) (by decide) (fun x => -9223372036854775808 ≤ x ∧ x ≤ 9223372036854775807) (fun h hl => num_cells h hl) hv h
end
end Go.Proofs.Ytbfkjdnopiadjaa
