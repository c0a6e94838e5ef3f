/- A row of one-cell elements in memory: a slice value that reads as a list of values.
   What asks a store alone: the walks.
   A store: what it is, plainly; how the program's, and the reference's, lies in memory.
   A region that draws its order, cut at what is done: one lemma for each set of done operations.
   A struct's block in memory, of any type that is no byte.
   append on bytes that the call owns, whatever the source: one law in three forms.
   Lists of bytes in memory: a slice value that reads as a list of lists of bytes.
   What all walks import; small lemmas on endings and on what a call leaves as it was.
   Bytes in memory: a slice value that reads as a list of bytes; no function of the program in it. -/
import Derived.Test.YtfoojjmokdbpcaaRows
import Derived.WalkKit
import Derived.WalkSpells
import Derived.WalkLawsBesides
import Derived.Handy
import Derived.Lib.Hide
import Derived.Deep.QuietTactic
import Derived.BigQuiet
import Derived.Deep.RegionWith
import Derived.Deep.RegionHeld3
import Derived.StillTailTactics
import Derived.Deep.DrawnRows
import Derived.Laws.BitsAllLaws
import Derived.Deep.AppendLies
import Derived.Laws.AppendOwnNone
import Derived.Laws.OwnMore
import Derived.Deep.MidRow
import Derived.RangeFuncRecord
import Derived.IntWalk

set_option linter.unusedSimpArgs false
set_option linter.unusedVariables false
namespace Go.Proofs.Ytfoojjmokdbpcaa
open Go.RowKit

def bv (l : List UInt8) : List Value := l.map fun b => .int .u8 (b.toNat : Int)

/-- The value reads as these bytes. -/
def Bytes (w : World) (v : Value) (l : List UInt8) : Prop :=
  (l = [] ∧ ∃ a c, v = .slice a 0 c ∧ (a = none → c = 0)) ∨
  ∃ b o c, v = .slice (some ⟨b, o, none⟩) l.length c ∧ b < w.heap.size ∧ l.length ≤ c ∧ ∀ j x, l[j]? = some x → w.cell? ⟨b, o + j, none⟩ = some (.int .u8 (x.toNat : Int))

theorem Bytes.later {w w' : World} {v : Value} {l : List UInt8} (h : Bytes w v l) (hb : Below w.heap.size w w') : Bytes w' v l := by
  rcases h with h | ⟨b, o, c, h1, h2, hp, h3⟩
  · exact .inl h
  · exact .inr ⟨b, o, c, h1, Nat.lt_of_lt_of_le h2 hb.size, hp, fun j x hx => cell_later hb (h3 j x hx)⟩

theorem cell_later' {w wr : World} {B : Nat} {b o : Nat} {v : Value} (h : Below B w wr) (hb : b < B) (hc : w.cell? ⟨b, o, none⟩ = some v) : wr.cell? ⟨b, o, none⟩ = some v :=
  (h.cell (p := ⟨b, o, none⟩) hb).trans hc

theorem own_ne {w : World} {B : Nat} {e : TypeId} {size n : Nat} {v : Value} {xs : List Value} {b : Nat} (h : w.ownsRow B e size v n xs) (hb : b < B) : some b ≠ v.ownBlock := by
  rcases h.2 with ⟨rfl, _⟩ | ⟨g, cap, cur, rfl, hg, _⟩
  · simp [Value.ownBlock]
  · simp [Value.ownBlock]; omega

theorem Bytes.form {w : World} {v : Value} {l : List UInt8} (h : Bytes w v l) : ∃ a c, v = .slice a l.length c := by
  rcases h with ⟨rfl, a, c, rfl, _⟩ | ⟨b, o, c, rfl, _, _⟩
  · exact ⟨a, c, rfl⟩
  · exact ⟨_, c, rfl⟩

theorem Bytes.nil (w : World) (a : Option Addr) (c : Nat) (h : a = none → c = 0 := by intros; first | rfl | contradiction | simp_all) : Bytes w (.slice a 0 c) [] := .inl ⟨rfl, a, c, rfl, h⟩
/-- Without an address there is nothing. -/
theorem Bytes.noaddr {w : World} {n c : Nat} {l : List UInt8} (h : Bytes w (.slice none n c) l) : n = 0 ∧ c = 0 ∧ l = [] := by
  rcases h with ⟨rfl, a, c', h1, h2⟩ | ⟨b, o, c', h1, _, _⟩
  · simp only [Value.slice.injEq] at h1
    obtain ⟨rfl, rfl, rfl⟩ := h1
    exact ⟨rfl, h2 rfl, rfl⟩
  · simp at h1

theorem Bytes.of_own {w : World} {base : Nat} {e : TypeId} {v : Value} {n : Nat} {l : List UInt8} (h : w.ownsRow base e 1 v n (bv l)) : Bytes w v l := by
  obtain ⟨hl, h0 | ⟨g, cap, cur, rfl, hb, hg, hn, hm, hc, ht⟩⟩ := h
  · obtain ⟨rfl, rfl⟩ := h0
    simp [bv] at hl
    subst hl
    exact Bytes.nil _ _ _
  · have hln : l.length = n := by simpa [bv] using hl
    subst hln
    refine .inr ⟨g, 0, cap, rfl, ?_, hn, fun j x hx => ?_⟩
    · rcases Nat.lt_or_ge g w.heap.size with h1 | h1
      · exact h1
      · rw [Array.getElem?_eq_none h1] at hg; cases hg
    · rw [Nat.zero_add, cell_of_row w g j cur e (0, 0) hg]
      have hj : j < l.length := (List.getElem?_eq_some_iff.1 hx).1
      have : (bv l)[j]? = some (.int .u8 (x.toNat : Int)) := by simp [bv, hx]
      rw [← ht, List.getElem?_take, if_pos (by omega)] at this
      simpa using this

theorem push_fold : ∀ (l : List UInt8) (s : ByteArray), (l.map fun b => (b.toNat : Int)).foldl (fun r n => r.push (UInt8.ofNat n.toNat)) s = ⟨(s.data.toList ++ l).toArray⟩
  | [], s => by simp
  | b :: l, s => by
    simp only [List.map_cons, List.foldl_cons]
    rw [push_fold l]
    have : (s.push (UInt8.ofNat ((b.toNat : Int)).toNat)).data.toList = s.data.toList ++ [b] := by
      simp [ByteArray.push]
    rw [this]
    simp

/-- string(b). -/
theorem Bytes.str {P : Program} {w : World} {v : Value} {l : List UInt8} (h : Bytes w v l) {src dst e : TypeId}
    (hs : P.underlying src = some (.slice e)) (he : P.underlying e = some (.int .u8)) (hd : P.underlying dst = some .string) :
    (convert src dst v).run P w = .ok (.string ⟨l.toArray⟩) w := by
  rcases h with ⟨rfl, a, c, rfl, _⟩ | ⟨b, o, c, rfl, hb, _, hc⟩
  · rw [run_convert_bytes_string w src dst e a 0 c hs he hd]
    cases a with
    | none => simp [Conv.bytesToString]; rfl
    | some a =>
      have := run_bytesToString (P := P) w a 0 c [] (by have := run_loadCells_list (P := P) w a [] (by simp); simpa using this)
      rw [this]; rfl
  · rw [run_convert_bytes_string w src dst e _ _ c hs he hd]
    have hl : (loadCells ⟨b, o, none⟩ l.length).run P w = .ok ((l.map fun b => (b.toNat : Int)).map (Value.int .u8)).toArray w := by
      have := run_loadCells_list (P := P) w ⟨b, o, none⟩ (bv l) (fun j u hu => by
        simp only [bv, List.getElem?_map, Option.map_eq_some_iff] at hu
        obtain ⟨x, hx, rfl⟩ := hu
        have := hc j x hx
        cases j with
        | zero => simpa [Addr.add] using this
        | succ j => simpa [Addr.add] using this)
      simpa [bv, List.map_map, Function.comp_def] using this
    rw [run_bytesToString (P := P) w _ _ c _ hl, push_fold]
    rfl

theorem str_eq {a b : List UInt8} (h : a = b) : ((⟨a.toArray⟩ : ByteArray).toList == (⟨b.toArray⟩ : ByteArray).toList) = true := by rw [h]; simp

theorem news_one (w : World) (v : Value) (t : TypeId) : ∀ (j : Nat) (u : Value), [v][j]? = some u → (w.alloc (.cells #[v] t)).cell? ((⟨w.heap.size, 0, none⟩ : Addr).add j) = some u := by
  intro j u hj
  match j, hj with
  | 0, hj => simp at hj; subst hj; simp [Addr.add]
theorem one_int (k : IntKind) (x : Int) : ∀ u ∈ [Value.int k x], u.oneCell' = true := by intro u hu; simp at hu; subst hu; rfl
theorem one_slice (a : Option Addr) (n c : Nat) : ∀ u ∈ [Value.slice a n c], u.oneCell' = true := by intro u hu; simp at hu; subst hu; rfl

theorem own_base {w : World} {B : Nat} {e : TypeId} {size n : Nat} {v : Value} {xs : List Value} (h : w.ownsRow B e size v n xs) {j : Nat} (hj : v.ownBlock = some j) : B ≤ j := by
  rcases h.2 with ⟨rfl, _⟩ | ⟨g, cap, cur, rfl, hg, _⟩
  · simp [Value.ownBlock] at hj
  · simp [Value.ownBlock] at hj; omega

theorem bv_append (a b : List UInt8) : bv (a ++ b) = bv a ++ bv b := by simp [bv]
theorem bv_one (l : List UInt8) : ∀ u ∈ bv l, u.oneCell' = true := by
  intro u hu
  simp only [bv, List.mem_map] at hu
  obtain ⟨b, _, rfl⟩ := hu
  rfl
theorem Bytes.news {w : World} {x : Addr} {n c : Nat} {l : List UInt8} (h : Bytes w (.slice (some x) n c) l) : ∀ (j : Nat) (u : Value), (bv l)[j]? = some u → w.cell? (x.add j) = some u := by
  intro j u hu
  simp only [bv, List.getElem?_map, Option.map_eq_some_iff] at hu
  obtain ⟨y, hy, rfl⟩ := hu
  rcases h with ⟨rfl, _⟩ | ⟨b, o, c', h1, h2, _, h3⟩
  · simp at hy
  · simp only [Value.slice.injEq, Option.some.injEq] at h1
    obtain ⟨rfl, rfl, rfl⟩ := h1
    have := h3 j y hy
    cases j with
    | zero => simpa [Addr.add] using this
    | succ j => simpa [Addr.add] using this
end Go.Proofs.Ytfoojjmokdbpcaa

namespace Go.Proofs.Ytfoojjmokdbpcaa
open Go.RowKit
attribute [local go_sem ↓] Go.wp_at_zero Go.wp_at_succ

theorem ret_b {a b : Bool} (h : a = b) : Ending.returned (.bool a) = .returned (.bool b) := by rw [h]
theorem ret_i {k : IntKind} {a b : Int} (h : a = b) : Ending.returned (.int k a) = .returned (.int k b) := by rw [h]
theorem ret_ii {k k2 : IntKind} {a a' b b' : Int} (h : a = a') (h2 : b = b') : Ending.returned (.tuple #[.int k a, .int k2 b]) = .returned (.tuple #[.int k a', .int k2 b']) := by rw [h, h2]
theorem bcell {W w1 : World} (hb : Below W.heap.size W w1) : (∀ b o, b < W.heap.size → w1.cell? ⟨b, o, none⟩ = W.cell? ⟨b, o, none⟩) ∧ (∀ b o, b < W.heap.size → w1.frozen? ⟨b, o, none⟩ = W.frozen? ⟨b, o, none⟩) :=
  ⟨fun b o h => hb.cell (p := ⟨b, o, none⟩) h, fun b o h => hb.frozen (p := ⟨b, o, none⟩) h⟩
theorem below_of {w w1 w2 : World} (h : Below w.heap.size w w1) (h2 : Below w1.heap.size w1 w2) : Below w.heap.size w w2 := h.trans (h2.mono h.size)
theorem below_dr0 (B : Nat) (w : World) (n : Nat) : Below B w (w.drewN n) := ⟨rfl, rfl, rfl, Nat.le_refl _, fun _ _ => rfl⟩
theorem wrap8 (n : Int) : IntKind.u8.wrap n = n % 256 := rfl
theorem wrap16 (n : Int) : IntKind.u16.wrap n = n % 65536 := rfl
theorem wrap32 (n : Int) : IntKind.u32.wrap n = n % 4294967296 := rfl

end Go.Proofs.Ytfoojjmokdbpcaa

namespace Go.Proofs.Ytfoojjmokdbpcaa
open Go.RowKit

/-- The value reads as these lists of bytes. -/
def Lists (w : World) (v : Value) (L : List (List UInt8)) : Prop :=
  (L = [] ∧ ∃ a c, v = .slice a 0 c ∧ (a = none → c = 0)) ∨
  ∃ b o c, v = .slice (some ⟨b, o, none⟩) L.length c ∧ b < w.heap.size ∧ L.length ≤ c ∧ ∀ j l, L[j]? = some l → ∃ u, w.cell? ⟨b, o + j, none⟩ = some u ∧ Bytes w u l

theorem Lists.later {w w' : World} {v : Value} {L : List (List UInt8)} (h : Lists w v L) (hb : Below w.heap.size w w') : Lists w' v L := by
  rcases h with h | ⟨b, o, c, h1, h2, hp, h3⟩
  · exact .inl h
  · refine .inr ⟨b, o, c, h1, Nat.lt_of_lt_of_le h2 hb.size, hp, fun j l hl => ?_⟩
    obtain ⟨u, hu, hx⟩ := h3 j l hl
    exact ⟨u, cell_later hb hu, hx.later hb⟩
theorem Lists.form {w : World} {v : Value} {L : List (List UInt8)} (h : Lists w v L) : ∃ a c, v = .slice a L.length c := by
  rcases h with ⟨rfl, a, c, rfl, _⟩ | ⟨b, o, c, rfl, _, _⟩
  · exact ⟨a, c, rfl⟩
  · exact ⟨_, c, rfl⟩
/-- The element at a place: where it lies, in every later world. -/
theorem Lists.at {w : World} {a : Option Addr} {n c : Nat} {L : List (List UInt8)} (h : Lists w (.slice a n c) L) {i : Nat} (hi : i < L.length) :
    ∃ b o, a = some ⟨b, o, none⟩ ∧ b < w.heap.size ∧ ∃ x d, w.cell? ⟨b, o + i, none⟩ = some (.slice x L[i].length d) ∧ Bytes w (.slice x L[i].length d) L[i] := by
  rcases h with ⟨rfl, _⟩ | ⟨b, o, c', h1, h2, _, h3⟩
  · simp at hi
  · obtain ⟨u, hu, hx⟩ := h3 i L[i] (List.getElem?_eq_getElem hi)
    obtain ⟨x, d, rfl⟩ := hx.form
    simp only [Value.slice.injEq] at h1
    exact ⟨b, o, h1.1, h2, x, d, hu, hx⟩
theorem Bytes.at {w : World} {a : Option Addr} {n c : Nat} {l : List UInt8} (h : Bytes w (.slice a n c) l) {i : Nat} (hi : i < l.length) :
    ∃ b o, a = some ⟨b, o, none⟩ ∧ b < w.heap.size ∧ w.cell? ⟨b, o + i, none⟩ = some (.int .u8 (l[i].toNat : Int)) := by
  rcases h with ⟨rfl, _⟩ | ⟨b, o, c', h1, h2, _, h3⟩
  · simp at hi
  · simp only [Value.slice.injEq] at h1
    exact ⟨b, o, h1.1, h2, h3 i _ (List.getElem?_eq_getElem hi)⟩
theorem Lists.nil (w : World) (a : Option Addr) (c : Nat) (h : a = none → c = 0 := by intros; first | rfl | contradiction | simp_all) : Lists w (.slice a 0 c) [] := .inl ⟨rfl, a, c, rfl, h⟩

theorem bytes_lit (w : World) (l : List UInt8) : Bytes (w.alloc (.cells (bv l).toArray 5)) (.slice (some ⟨w.heap.size, 0, none⟩) l.length l.length) l :=
  .inr ⟨w.heap.size, 0, l.length, rfl, by simp, Nat.le_refl _, fun j x hx => by
    have : (bv l)[j]? = some (.int .u8 (x.toNat : Int)) := by simp [bv, hx]
    simp [this]⟩

/-- Bytes that are kept, and all that was there ahead. -/
def KeptB (w0 : World) (v : Value) (l : List UInt8) (w' : World) : Prop := Bytes w' v l ∧ w0.heap.size < w'.heap.size ∧ Below w0.heap.size w0 w'
theorem KeptB.later {w0 w1 w2 : World} {v : Value} {l : List UInt8} (h : KeptB w0 v l w1) (hb : Below w1.heap.size w1 w2) : KeptB w0 v l w2 :=
  ⟨h.1.later hb, Nat.lt_of_lt_of_le h.2.1 hb.size, h.2.2.trans (hb.mono (Nat.le_of_lt h.2.1))⟩
theorem KeptB.drew {w0 w1 : World} {v : Value} {l : List UInt8} (h : KeptB w0 v l w1) : KeptB w0 v l w1.drew := h.later (Below.refl _ _).drew
theorem KeptB.alloc {w0 w1 : World} {v : Value} {l : List UInt8} (h : KeptB w0 v l w1) (o : Obj) : KeptB w0 v l (w1.alloc o) := h.later ((Below.refl _ _).alloc (Nat.le_refl _) o)
theorem KeptB.allocDrew {w0 w1 : World} {v : Value} {l : List UInt8} (h : KeptB w0 v l w1) (o : Obj) : KeptB w0 v l (w1.alloc o).drew := (h.alloc o).drew

theorem ret_u {k : IntKind} {a : Nat} {b : Int} (h : (a : Int) = b) : Ending.returned (.int k a) = .returned (.int k b) := by rw [h]
theorem bytes_take {w : World} {b : Option Addr} {n c : Nat} {l : List UInt8} (h : Bytes w (.slice b n c) l) {k : Nat} (hk : k ≤ l.length) : Bytes w (.slice b k c) (l.take k) := by
  rcases h with ⟨rfl, a, c', h1, h2⟩ | ⟨bl, o, c', h1, h2, hp, h3⟩
  · simp only [Value.slice.injEq] at h1
    obtain ⟨rfl, rfl, rfl⟩ := h1
    have : k = 0 := by simpa using hk
    subst this
    exact .inl ⟨by simp, _, _, rfl, h2⟩
  · simp only [Value.slice.injEq] at h1
    obtain ⟨rfl, rfl, rfl⟩ := h1
    refine .inr ⟨bl, o, c, by rw [List.length_take, Nat.min_eq_left hk], h2, by rw [List.length_take]; omega, fun j x hx => h3 j x ?_⟩
    rw [List.getElem?_take] at hx
    split at hx
    · exact hx
    · cases hx
theorem bytes_drop {w : World} {bl o c : Nat} {l : List UInt8} {n : Nat} (h : Bytes w (.slice (some ⟨bl, o, none⟩) n c) l) (k : Nat) (m : Nat) (hm : m = l.length - k) (d : Nat) (hd : m ≤ d) : Bytes w (.slice (some ⟨bl, o + k, none⟩) m d) (l.drop k) := by
  subst hm
  rcases h with ⟨rfl, a, c', h1, h2⟩ | ⟨bl, o, c', h1, h2, hp, h3⟩
  · simp only [Value.slice.injEq] at h1
    exact .inl ⟨by simp, some ⟨bl, o + k, none⟩, d, by simp, fun h => by cases h⟩
  · simp only [Value.slice.injEq, Option.some.injEq, Addr.mk.injEq] at h1
    obtain ⟨⟨rfl, rfl, _⟩, rfl, rfl⟩ := h1
    refine .inr ⟨bl, o + k, d, by simp, h2, by simpa using hd, fun j x hx => ?_⟩
    rw [List.getElem?_drop] at hx
    rw [Nat.add_assoc]
    exact h3 (k + j) x hx

theorem lists_one3 {W : World} {v : Value} {l : List UInt8} {n : Nat} (h : Bytes W v l) (hc : W.cell? ⟨n, 0, none⟩ = some v) (hn : n < W.heap.size) : Lists W (.slice (some ⟨n, 0, none⟩) 1 1) [l] :=
  .inr ⟨n, 0, 1, rfl, hn, Nat.le_refl _, fun j x hx => by
    match j, hx with
    | 0, hx => simp at hx; subst hx; exact ⟨v, hc, h⟩⟩
theorem lists_two3 {W : World} {u v : Value} {k l : List UInt8} {n : Nat} (g : Bytes W u k) (h : Bytes W v l) (hu : W.cell? ⟨n, 0, none⟩ = some u) (hc : W.cell? ⟨n, 1, none⟩ = some v) (hn : n < W.heap.size) : Lists W (.slice (some ⟨n, 0, none⟩) 2 2) [k, l] :=
  .inr ⟨n, 0, 2, rfl, hn, Nat.le_refl _, fun j x hx => by
    match j, hx with
    | 0, hx => simp at hx; subst hx; exact ⟨u, by simpa using hu, g⟩
    | 1, hx => simp at hx; subst hx; exact ⟨v, by simpa using hc, h⟩⟩

theorem Bytes.cap {w : World} {a : Option Addr} {n c : Nat} {l : List UInt8} (h : Bytes w (.slice a n c) l) : l.length ≤ c := by
  rcases h with ⟨rfl, _⟩ | ⟨b, o, c', e1, e2, e3, e4⟩
  · simp
  · simp only [Value.slice.injEq] at e1
    obtain ⟨rfl, rfl, rfl⟩ := e1
    exact e3
/-- What is cut out of a slice reads as the part. -/
theorem Bytes.sliced {w : World} {a : Option Addr} {n c : Nat} {l : List UInt8} (h : Bytes w (.slice a n c) l) {lo hi m : Nat} (h1 : lo ≤ hi) (h2 : hi ≤ l.length) (h3 : hi ≤ m) (h4 : m ≤ c) : Bytes w (Go.sliced a lo hi m 1) ((l.take hi).drop lo) := by
  unfold Go.sliced
  rcases h with ⟨rfl, a', c', e1, e2⟩ | ⟨b, o, c', e1, e2, e3, e4⟩
  · simp only [Value.slice.injEq] at e1
    obtain ⟨rfl, rfl, rfl⟩ := e1
    have : hi = 0 := by simpa using h2
    subst this
    have : lo = 0 := by omega
    subst this
    refine .inl ⟨by simp, _, _, rfl, fun h => ?_⟩
    split at h
    · omega
    · have : a = none := by simpa using h
      have := e2 this
      omega
  · simp only [Value.slice.injEq] at e1
    obtain ⟨rfl, rfl, rfl⟩ := e1
    rcases Nat.eq_or_lt_of_le h1 with rfl | h5
    · refine .inl ⟨by simp, _, _, by rw [Nat.sub_self], fun h => ?_⟩
      split at h <;> simp at h
    · have hlen : ((l.take hi).drop lo).length = hi - lo := by simp; omega
      rw [if_neg (by omega)]
      refine .inr ⟨b, o + lo, m - lo, ?_, e2, by omega, fun j x hx => ?_⟩
      · rw [hlen]
        simp only [Option.map_some, Nat.mul_one, Value.slice.injEq, and_true]
        unfold Addr.add
        by_cases h0 : lo = 0 <;> simp [h0]
      · rw [List.getElem?_drop, List.getElem?_take] at hx
        split at hx
        · have := e4 (lo + j) x hx
          rw [Nat.add_assoc]; exact this
        · cases hx
theorem cells1 : (Try.prog.underlying 30) = some (.slice (Try.prog.elem 30)) := by kernel_rfl
theorem size1 (w : World) : (sizeOf (Try.prog.elem 30)).run Try.prog w = .ok 1 w := by kernel_rfl
/-- b[i:]. -/
theorem Bytes.cut_l {w : World} {a : Option Addr} {c : Nat} {l : List UInt8} (h : Bytes w (.slice a l.length c) l) (i : Int) (lo : Nat) (hi : i = lo) (hlo : lo ≤ l.length) :
    ∃ a', (∀ w, (Instr.slice 30 (.slice a l.length c) (some (.int .i64 i)) none none).run Try.prog w = .ok (.slice a' (l.length - lo) (c - lo)) w) ∧ Bytes w (.slice a' (l.length - lo) (c - lo)) (l.drop lo) := by
  have hc := h.cap
  subst hi
  have hb := h.sliced hlo (Nat.le_refl _) hc (Nat.le_refl _)
  rw [List.take_length] at hb
  refine ⟨_, fun w => ?_, hb⟩
  rw [run_slice_l w _ a _ _ cells1 _ _ (by omega) (by omega), size1]
  rfl
/-- b[:i]. -/
theorem Bytes.cut_h {w : World} {a : Option Addr} {n c : Nat} {l : List UInt8} (h : Bytes w (.slice a n c) l) (i : Int) (hi : Nat) (he : i = hi) (hlo : hi ≤ l.length) :
    (∀ w, (Instr.slice 30 (.slice a n c) none (some (.int .i64 i)) none).run Try.prog w = .ok (.slice a hi c) w) ∧ Bytes w (.slice a hi c) (l.take hi) := by
  have hc := h.cap
  subst he
  have hb := h.sliced (lo := 0) (Nat.zero_le _) hlo (by omega) (Nat.le_refl _)
  have e : Go.sliced a 0 hi c 1 = .slice a hi c := by
    unfold Go.sliced
    congr 1
    split
    · rfl
    · cases a <;> simp [Addr.add]
  refine ⟨fun w => ?_, bytes_take h hlo⟩
  rw [run_slice_h w _ a _ _ cells1 _ _ (by omega) (by omega), size1]
  show Result.ok (Go.sliced a 0 _ c 1) w = _
  rw [Int.toNat_natCast, e]
end Go.Proofs.Ytfoojjmokdbpcaa

namespace Go.Proofs.Ytfoojjmokdbpcaa
open Go.RowKit

/-- The value owns these bytes. -/
def OwnB (w : World) (B : Nat) (v : Value) (l : List UInt8) : Prop := w.ownsRow B 5 1 v l.length (bv l)
theorem OwnB.bytes {w : World} {B : Nat} {v : Value} {l : List UInt8} (h : OwnB w B v l) : Bytes w v l := Bytes.of_own h
theorem OwnB.nil (w : World) (B : Nat) : OwnB w B (.slice none 0 0) [] := World.ownsRow_nil w _ _ _
theorem OwnB.form {w : World} {B : Nat} {v : Value} {l : List UInt8} (h : OwnB w B v l) : ∃ a c, v = .slice a l.length c := (OwnB.bytes h).form
theorem OwnB.alloc {w : World} {B : Nat} {v : Value} {l : List UInt8} (h : OwnB w B v l) (o : Obj) : OwnB (w.alloc o) B v l := World.ownsRow.alloc h o
theorem OwnB.drew {w : World} {B : Nat} {v : Value} {l : List UInt8} (h : OwnB w B v l) : OwnB w.drew B v l := h
theorem info8 : ∃ i0, Try.prog.info? 5 = some i0 ∧ i0.zero = some (.int .u8 0) ∧ i0.size = 1 ∧ i0.bytes = 1 := by
  have hi5 : (Try.prog.info? 5).map (fun i => (i.zero, i.size, i.bytes)) = some (some (.int .u8 0), 1, 1) := by kernel_rfl
  obtain ⟨i0, hi, hx⟩ := Option.map_eq_some_iff.1 hi5
  simp only [Prod.mk.injEq] at hx
  exact ⟨i0, hi, hx.1, hx.2.1, hx.2.2⟩
/-- Behind a call that left what was there: what is owned is still owned. -/
theorem OwnB.later {w w' : World} {B : Nat} {v : Value} {l : List UInt8} (h : OwnB w B v l) (hb : Below w.heap.size w w') : OwnB w' B v l := by
  obtain ⟨hl, h0 | ⟨g, cap, cur, rfl, hb1, hg, hn, hm, hc, ht⟩⟩ := h
  · exact ⟨hl, .inl h0⟩
  · refine ⟨hl, .inr ⟨g, cap, cur, rfl, hb1, ?_, hn, hm, hc, ht⟩⟩
    rw [hb.block g ?_]
    · exact hg
    · rcases Nat.lt_or_ge g w.heap.size with h1 | h1
      · exact h1
      · rw [Array.getElem?_eq_none h1] at hg; cases hg

theorem OwnB.weak {w : World} {B B' : Nat} {v : Value} {l : List UInt8} (h : OwnB w B' v l) (hB : B ≤ B') : OwnB w B v l := by
  obtain ⟨hl, h0 | ⟨g, cap, cur, rfl, hb1, hr⟩⟩ := h
  · exact ⟨hl, .inl h0⟩
  · exact ⟨hl, .inr ⟨g, cap, cur, rfl, Nat.le_trans hB hb1, hr⟩⟩

theorem own_block {w : World} {B : Nat} {e : TypeId} {size n g : Nat} {v : Value} {xs : List Value} (h : w.ownsRow B e size v n xs) (hg : v.ownBlock = some g) : ∃ cur, w.heap[g]? = some (.cells cur e (0, 0)) := by
  rcases h.2 with ⟨rfl, _⟩ | ⟨g', cap, cur, rfl, _, hgg, _⟩
  · simp [Value.ownBlock] at hg
  · simp [Value.ownBlock] at hg; subst hg; exact ⟨_, hgg⟩
theorem grownBy_setCell_at (W : World) (b j : Nat) (v : Value) : W.grownBy (W.setCell ⟨b, j, none⟩ v) (some b) :=
  ⟨rfl, rfl, rfl, by simp, fun k _ hk => Below.heap_setCell _ _ _ k (fun e => hk (by rw [e]))⟩

theorem own_apart {w : World} {B B' : Nat} {e e' : TypeId} {size size' n n' : Nat} {v v' : Value} {xs xs' : List Value} (h : w.ownsRow B e size v n xs) (h' : w.ownsRow B' e' size' v' n' xs') (he : e ≠ e') : v.ownBlock = none ∨ v.ownBlock ≠ v'.ownBlock := by
  cases hv : v.ownBlock with
  | none => exact .inl rfl
  | some g =>
    refine .inr fun e2 => ?_
    obtain ⟨c1, h1⟩ := own_block h hv
    obtain ⟨c2, h2⟩ := own_block h' e2.symm
    rw [h1] at h2
    simp at h2
    exact he h2.2
/-- A slice that was just spelled out is owned. -/
theorem own_spelled (w : World) (B : Nat) (t : TypeId) (xs : List Value) (hB : B ≤ w.heap.size) (hm : xs.length ≤ maxLen) : (w.alloc (.cells xs.toArray t)).ownsRow B t 1 (.slice (some ⟨w.heap.size, 0, none⟩) xs.length xs.length) xs.length xs :=
  ⟨by simp, .inr ⟨w.heap.size, xs.length, xs.toArray, rfl, hB, (by show (w.heap.push _)[w.heap.size]? = _; exact Array.getElem?_push_size), Nat.le_refl _, hm, by simp, by simp⟩⟩

theorem run_app (w : World) (B : Nat) (ty : TypeId) (v u : Value) (l0 l1 : List UInt8) (hown : OwnB w B v l0) (hu : Bytes w u l1) (hn : l0.length + l1.length ≤ 140737488355328) (hB : B ≤ w.heap.size) :
    ∃ v' w', (Builtin.append_ #[30, 30] ty #[v, u]).run Try.prog w = .ok v' w' ∧ OwnB w' B v' (l0 ++ l1) ∧ Below B w w' ∧ w.grownBy w' v.ownBlock := by
  obtain ⟨i0, hi, hz0, hz1, hz2⟩ := info8
  obtain ⟨a, c, rfl⟩ := hu.form
  cases a with
  | none =>
    obtain ⟨e1, rfl, rfl⟩ := hu.noaddr
    have := run_append_owned_none (P := Try.prog) (w := w) B 30 ty 5 i0 1 Try.underlying30 hi v l0.length _ hown
    refine ⟨v, w, this, by simpa using hown, Below.refl _ _, ⟨rfl, rfl, rfl, Nat.le_refl _, fun _ _ _ => rfl⟩⟩
  | some x =>
    obtain ⟨v', w', h1, h2, h3, _⟩ := run_append_own (P := Try.prog) (w := w) B 30 ty 5 i0 (.int .u8 0) 1 1 Try.underlying30 hi hz0 hz1 hz2 rfl (by decide) v l0.length (bv l0) hown x l1.length c (bv l1) (by simp [bv]) hu.news (bv_one l1) (by unfold maxLen; omega) (by omega) hB
    refine ⟨v', w', h1, ?_, (Below.refl B w).grown h3 hB (fun j hj => own_base hown hj), h3⟩
    show World.ownsRow _ _ _ _ _ _ _
    rw [List.length_append, bv_append]; exact h2

theorem wp_app {w : World} {o : Oper} {a : Act} {K : Act → World → Prop} {Q : Exit → Act → World → Prop} (s x : Operand)
    (ho : o.op = .call { callee := .builtin .append, args := #[s, x], argTypes := #[30, 30] }) (B : Nat) (v u : Value) (l0 l1 : List UInt8) (hs : a.eval s = v) (hx : a.eval x = u)
    (hown : OwnB w B v l0) (hu : Bytes w u l1) (hn : l0.length + l1.length ≤ 140737488355328) (hB : B ≤ w.heap.size)
    (h : ∀ v' w', OwnB w' B v' (l0 ++ l1) → Below B w w' → w.grownBy w' v.ownBlock → K (a.put o.dst v') w') : o.wp Try.prog a w K Q := by
  obtain ⟨v', w', hr, h2, h3, h4⟩ := run_app w B o.type v u l0 l1 hown hu hn hB
  unfold Oper.wp execOp
  simp only [ho, resolve, invoke, builtin, Sem.run_bind, Sem.run_pure, Result.andThen_ok, List.map_toArray, List.map_cons, List.map_nil, hs, hx, hr]
  exact h v' w' h2 h3 h4
theorem wpList_app {w : World} {ops : Array Oper} {rest : List Oper} {o : Oper} {a : Act} {Q : Exit → Act → World → Prop} (hgd : o.guard = none) (s x : Operand)
    (ho : o.op = .call { callee := .builtin .append, args := #[s, x], argTypes := #[30, 30] }) (B : Nat) (v u : Value) (l0 l1 : List UInt8) (hs : a.eval s = v) (hx : a.eval x = u)
    (hown : OwnB w B v l0) (hu : Bytes w u l1) (hn : l0.length + l1.length ≤ 140737488355328) (hB : B ≤ w.heap.size)
    (h : ∀ v' w', OwnB w' B v' (l0 ++ l1) → Below B w w' → w.grownBy w' v.ownBlock → wpList Try.prog ops Q rest (a.put o.dst v') w') : wpList Try.prog ops Q (o :: rest) a w :=
  wpList_plain hgd fun _ hK => wp_app s x ho B v u l0 l1 hs hx hown hu hn hB fun v' w' h2 h3 h4 => hK _ _ (h v' w' h2 h3 h4)
/-- At a step of a region that draws its order. -/
theorem step_app {w : World} {ops : Array Oper} {o : Oper} {a : Act} {K : Act → World → Prop} {Q : Exit → Act → World → Prop} {E : Prop} (hgd : o.guard = none) (s x : Operand)
    (ho : o.op = .call { callee := .builtin .append, args := #[s, x], argTypes := #[30, 30] }) (B : Nat) (v u : Value) (l0 l1 : List UInt8) (hs : a.eval s = v) (hx : a.eval x = u)
    (hown : OwnB w B v l0) (hu : Bytes w u l1) (hn : l0.length + l1.length ≤ 140737488355328) (hB : B ≤ w.heap.size)
    (h : ∀ v' w', OwnB w' B v' (l0 ++ l1) → Below B w w' → w.grownBy w' v.ownBlock → K (a.put o.dst v') w') :
    if Region.wanted o (yielded ops a.tmps) = true then Oper.wp Try.prog o a w K Q else E := by
  have hw : Region.wanted o (yielded ops a.tmps) = true := by simp [Region.wanted, hgd]
  rw [if_pos hw]
  exact wp_app s x ho B v u l0 l1 hs hx hown hu hn hB h
end Go.Proofs.Ytfoojjmokdbpcaa

namespace Go.Proofs.Ytfoojjmokdbpcaa
open Go.RowKit

/-- A block whose cells are these. -/
def BlkAt (t : TypeId) (g : Nat) (cs : List Value) (w : World) : Prop := w.heap[g]? = some (.cells cs.toArray t (0, 0))
section
variable {t : TypeId}
theorem BlkAt.lt {g : Nat} {cs : List Value} {w : World} (h : BlkAt t g cs w) : g < w.heap.size := (Array.getElem?_eq_some_iff.1 h).1
theorem BlkAt.later {g : Nat} {cs : List Value} {w w' : World} (h : BlkAt t g cs w) (hb : Below w.heap.size w w') : BlkAt t g cs w' := (hb.block g h.lt).trans h
theorem BlkAt.new (w : World) (cs : List Value) : BlkAt t w.heap.size cs (w.alloc (.cells cs.toArray t)) := World.alloc_heap_new w _
theorem BlkAt.cell {g : Nat} {cs : List Value} {w : World} (h : BlkAt t g cs w) {j : Nat} {x : Value} (hx : cs[j]? = some x) : w.cell? ⟨g, j, none⟩ = some x := by
  rw [cell_of_row w g j cs.toArray _ (0, 0) h]; simpa using hx
theorem BlkAt.frozen {g : Nat} {cs : List Value} {w : World} (h : BlkAt t g cs w) (j : Nat) : w.frozen? ⟨g, j, none⟩ = false := by
  unfold World.frozen?; simp [show w.heap[g]? = _ from h]
theorem BlkAt.set {g : Nat} {cs : List Value} {w : World} (h : BlkAt t g cs w) (j : Nat) (x : Value) : BlkAt t g (cs.set j x) (w.setCell ⟨g, j, none⟩ x) := by
  have hl := h.lt
  have hk : w.heap[g] = .cells cs.toArray t (0, 0) := (Array.getElem?_eq_some_iff.1 h).2
  show (w.heap.modify g _)[g]? = _
  rw [Array.getElem?_eq_getElem (by rw [Array.size_modify]; exact hl), Array.getElem_modify_self, hk]
  simp
theorem BlkAt.other {g b : Nat} {cs : List Value} {w : World} (h : BlkAt t g cs w) (hne : g ≠ b) (j : Nat) (x : Value) : BlkAt t g cs (w.setCell ⟨b, j, none⟩ x) := by
  show (w.setCell ⟨b, j, none⟩ x).heap[g]? = _
  rw [Below.heap_setCell _ _ _ _ (by simpa using hne)]; exact h
theorem BlkAt.range {g : Nat} {cs : List Value} {w : World} (h : BlkAt t g cs w) : w.rangeAt g 0 cs := fun j v hv => by rw [Nat.zero_add]; exact h.cell hv
theorem BlkAt.ne_own {g : Nat} {cs : List Value} {w : World} (h : BlkAt t g cs w) (ht : t ≠ 5) {B : Nat} {v : Value} {l : List UInt8} (ho : OwnB w B v l) {b : Nat} (hv : v.ownBlock = some b) : b ≠ g := by
  intro e
  obtain ⟨cur, hc⟩ := own_block ho hv
  subst e
  have h2 : w.heap[b]? = _ := h
  rw [hc] at h2
  simp only [Option.some.injEq, Obj.cells.injEq] at h2
  exact ht h2.2.1.symm
theorem BlkAt.own {g : Nat} {cs : List Value} {w : World} (h : BlkAt t g cs w) (ht : t ≠ 5) (j : Nat) (x : Value) {B : Nat} {v : Value} {l : List UInt8} (ho : OwnB w B v l) : OwnB (w.setCell ⟨g, j, none⟩ x) B v l := by
  refine World.ownsRow.kept ho (grownBy_setCell_at w g j x) ?_
  cases hv : v.ownBlock with
  | none => exact .inl rfl
  | some b => exact .inr fun e => BlkAt.ne_own h ht ho hv (Option.some.inj e)
/-- The same, with the block above a world. -/
def BlkG (t : TypeId) (w0 : World) (g : Nat) (cs : List Value) (w : World) : Prop := BlkAt t g cs w ∧ w0.heap.size ≤ g
theorem BlkG.later {w0 : World} {g : Nat} {cs : List Value} {w w' : World} (h : BlkG t w0 g cs w) (hb : Below w.heap.size w w') : BlkG t w0 g cs w' := ⟨h.1.later hb, h.2⟩
/-- Three stores into such a block. -/
theorem BlkAt.set3 {g : Nat} {w : World} {c0 c1 c2 : Value} (h : BlkAt t g [c0, c1, c2] w) (x0 x1 x2 : Value) :
    BlkAt t g [x0, x1, x2] (((w.setCell ⟨g, 0, none⟩ x0).setCell ⟨g, 1, none⟩ x1).setCell ⟨g, 2, none⟩ x2) ∧ (∀ B, B ≤ g → Below B w (((w.setCell ⟨g, 0, none⟩ x0).setCell ⟨g, 1, none⟩ x1).setCell ⟨g, 2, none⟩ x2)) :=
  ⟨((h.set 0 x0).set 1 x1).set 2 x2, fun B hB => (((Below.refl _ _).setCell (p := ⟨g, 0, none⟩) hB x0).setCell (p := ⟨g, 1, none⟩) hB x1).setCell (p := ⟨g, 2, none⟩) hB x2⟩
/-- Seven stores into such a block. -/
theorem BlkAt.set7 {g : Nat} {w : World} {c0 c1 c2 c3 c4 c5 c6 : Value} (ht : t ≠ 5) (h : BlkAt t g [c0, c1, c2, c3, c4, c5, c6] w) (x0 x1 x2 x3 x4 x5 x6 : Value) :
    BlkAt t g [x0, x1, x2, x3, x4, x5, x6] (((((((w.setCell ⟨g, 0, none⟩ x0).setCell ⟨g, 1, none⟩ x1).setCell ⟨g, 2, none⟩ x2).setCell ⟨g, 3, none⟩ x3).setCell ⟨g, 4, none⟩ x4).setCell ⟨g, 5, none⟩ x5).setCell ⟨g, 6, none⟩ x6) ∧ (∀ B v l, OwnB w B v l → OwnB (((((((w.setCell ⟨g, 0, none⟩ x0).setCell ⟨g, 1, none⟩ x1).setCell ⟨g, 2, none⟩ x2).setCell ⟨g, 3, none⟩ x3).setCell ⟨g, 4, none⟩ x4).setCell ⟨g, 5, none⟩ x5).setCell ⟨g, 6, none⟩ x6) B v l) ∧ (∀ B, B ≤ g → Below B w (((((((w.setCell ⟨g, 0, none⟩ x0).setCell ⟨g, 1, none⟩ x1).setCell ⟨g, 2, none⟩ x2).setCell ⟨g, 3, none⟩ x3).setCell ⟨g, 4, none⟩ x4).setCell ⟨g, 5, none⟩ x5).setCell ⟨g, 6, none⟩ x6)) := by
  have h1 := BlkAt.set h 0 x0
  have h2 := BlkAt.set h1 1 x1
  have h3 := BlkAt.set h2 2 x2
  have h4 := BlkAt.set h3 3 x3
  have h5 := BlkAt.set h4 4 x4
  have h6 := BlkAt.set h5 5 x5
  have h7 := BlkAt.set h6 6 x6
  exact ⟨h7, fun B v l ho => (BlkAt.own h6 ht 6 x6 (BlkAt.own h5 ht 5 x5 (BlkAt.own h4 ht 4 x4 (BlkAt.own h3 ht 3 x3 (BlkAt.own h2 ht 2 x2 (BlkAt.own h1 ht 1 x1 (BlkAt.own h ht 0 x0 ho))))))), fun B hB => ((((((((Below.refl _ _).setCell (p := ⟨g, 0, none⟩) hB x0).setCell (p := ⟨g, 1, none⟩) hB x1).setCell (p := ⟨g, 2, none⟩) hB x2).setCell (p := ⟨g, 3, none⟩) hB x3).setCell (p := ⟨g, 4, none⟩) hB x4).setCell (p := ⟨g, 5, none⟩) hB x5).setCell (p := ⟨g, 6, none⟩) hB x6)⟩
end
end Go.Proofs.Ytfoojjmokdbpcaa

namespace Go.Proofs.Ytfoojjmokdbpcaa
open Go.RowKit
theorem wpAnyH_cut {P : Program} {md : Region.Mode} {ops : Array Oper} {Q : Exit → Act → World → Prop} {S : World → Prop} {fuel : Nat} {listed : Array Bool} {a : Act} {w : World}
    (m : Array Bool) (fm : Nat) (I : Act → World → Prop)
    (tail : ∀ (l : Array Bool) (A : Act) (w1 : World), l = m → I A w1 → S w1 → wpAnyH P md ops Q S fm l A w1)
    (main : (∀ (l : Array Bool) (A : Act) (w1 : World), l = m → I A w1 → S w1 → wpAnyH P md ops Q S fm l A w1) → wpAnyH P md ops Q S fuel listed a w) : wpAnyH P md ops Q S fuel listed a w := main tail
/-- A region, cut behind it: what its walk leaves is said once. -/
theorem wp_region_fin {P : Program} {Q : Exit → Act → World → Prop} {S : World → Prop} {id : Nat} {ops : Array Oper} {a : Act} {w : World} (I : Act → World → Prop) (hm : P.follows .mixedOrders = true) (hS : S w.drew) (h1 : ∀ A w3, I A w3 → Q .normal A w3)
    (h : (∀ A w3, I A w3 → Q .normal A w3) → S w.drew → wpAnyH P .any ops Q S ops.size (Array.replicate ops.size false) a w.drew) : (Code.region id ops true).wp P Q a w :=
  wp_region_held_drew hm hS (h h1)
/-- A region under a promise that holds more. -/
theorem wpAnyH_str {P : Program} {md : Region.Mode} {ops : Array Oper} {Q : Exit → Act → World → Prop} {S S' : World → Prop} (h : ∀ w, S' w → S w) : ∀ (fuel : Nat) (listed : Array Bool) (a : Act) (w : World), wpAnyH P md ops Q S' fuel listed a w → wpAnyH P md ops Q S fuel listed a w
  | 0, _, _, _, H => H
  | fuel + 1, _, _, _, H => ⟨H.1, fun i hi => wpOp_mono (fun a' w' h' => ⟨h _ h'.1, wpAnyH_str h fuel _ a' w' h'.2⟩) (H.2 i hi)⟩
/-- The list of what is done, spelled out. -/
theorem wpAnyH_at {P : Program} {md : Region.Mode} {ops : Array Oper} {Q : Exit → Act → World → Prop} {S : World → Prop} {fuel : Nat} {listed : Array Bool} {a : Act} {w : World} {m : Array Bool} (e : listed = m) (h : wpAnyH P md ops Q S fuel m a w) : wpAnyH P md ops Q S fuel listed a w := e ▸ h
end Go.Proofs.Ytfoojjmokdbpcaa

namespace Go.Proofs.Ytfoojjmokdbpcaa
open Go.RowKit

/-- A byte that lasts: its value; can it be read not? -/
abbrev Ce := UInt8 × Bool
structure St where
  c : List Ce
  dead : Bool
  fuse : Int
  by_ : UInt8
  torn : Bool
/-- Do so many bytes from a place on lie within? -/
def inn (n : Nat) (a k : Int) : Bool := decide (0 ≤ a) && (decide (0 ≤ k) && decide (k ≤ n - a))
theorem inn_iff {n : Nat} {a k : Int} : inn n a k = true ↔ 0 ≤ a ∧ 0 ≤ k ∧ k ≤ n - a := by simp [inn]
theorem inn_no {n : Nat} {a k : Int} : inn n a k = false ↔ ¬ (0 ≤ a ∧ 0 ≤ k ∧ k ≤ n - a) := by rw [← inn_iff]; simp
def St.step (s : St) (k : Nat) (x : UInt8) : St := { s with c := s.c.set k (x, false), fuse := if 0 < s.fuse then s.fuse - 1 else s.fuse }
def St.tear (s : St) (k : Nat) : St := { s with c := s.c.set k (s.by_, s.torn), dead := true }
/-- Bytes written one behind the other. -/
def wgo : List UInt8 → Nat → St → St
  | [], _, s => s
  | x :: r, k, s => if s.fuse = 0 then s.tear k else wgo r (k + 1) (s.step k x)
def wrS (s : St) (a : Int) (b : List UInt8) : St := if inn s.c.length a b.length = true ∧ s.dead = false then wgo b a.toNat s else s
def wrE (s : St) (a : Int) (b : List UInt8) : Int := if inn s.c.length a b.length = true then (if s.dead = true then 7 else if (wgo b a.toNat s).dead = true then 7 else 0) else 2
def rdL (s : St) (a n : Int) : List Ce := (s.c.drop a.toNat).take n.toNat
def rdE (s : St) (a n : Int) : Int := if inn s.c.length a n = true then (if s.dead = true then 7 else if (rdL s a n).any (fun c => c.2) = true then 8 else 0) else 2
def rdB (s : St) (a n : Int) : List UInt8 := if rdE s a n = 0 then (rdL s a n).map (fun c => c.1) else []
def fuS (s : St) (n : Int) (x : UInt8) (u : Bool) : St := { s with fuse := n, by_ := x, torn := u }
def raS (s : St) : St := { s with dead := false, fuse := -1 }
def spS (s : St) (a : Int) (x : UInt8) (u : Bool) : St := if inn s.c.length a 1 = true then { s with c := s.c.set a.toNat (x, u) } else s
def spE (s : St) (a : Int) : Int := if inn s.c.length a 1 = true then 0 else 2
def nw (n : Nat) : St := ⟨List.replicate n (0, false), false, -1, 0, false⟩
/-- The same, with one number for 'no fuse'. -/
def nfu (n : Int) : Int := if n < 0 then -1 else n
def nrm (s : St) : St := { s with fuse := nfu s.fuse }
theorem wgo_nrm : ∀ (b : List UInt8) (k : Nat) (s : St), wgo b k (nrm s) = nrm (wgo b k s)
  | [], _, _ => rfl
  | x :: r, k, s => by
    have e : (nrm s).fuse = 0 ↔ s.fuse = 0 := by unfold nrm nfu; simp only; split <;> omega
    unfold wgo
    by_cases h : s.fuse = 0
    · rw [if_pos h, if_pos (e.2 h)]; rfl
    · rw [if_neg h, if_neg (fun h2 => h (e.1 h2)), ← wgo_nrm r (k + 1) (s.step k x)]
      congr 1
      unfold St.step nrm nfu
      simp only [St.mk.injEq, true_and, and_true]
      split <;> split <;> first | omega | (split <;> omega) | skip
      all_goals (try split) <;> omega
theorem wgo_len : ∀ (b : List UInt8) (k : Nat) (s : St), (wgo b k s).c.length = s.c.length
  | [], _, _ => rfl
  | x :: r, k, s => by
    unfold wgo
    split
    · simp [St.tear]
    · rw [wgo_len r]; simp [St.step]
theorem wgo_fuse : ∀ (b : List UInt8) (k : Nat) (s : St), (wgo b k s).fuse ≤ s.fuse
  | [], _, _ => Int.le_refl _
  | x :: r, k, s => by
    unfold wgo
    split
    · exact Int.le_refl _
    · refine Int.le_trans (wgo_fuse r _ _) ?_
      unfold St.step; simp only; split <;> omega
theorem wrS_len (s : St) (a : Int) (b : List UInt8) : (wrS s a b).c.length = s.c.length := by unfold wrS; split; exact wgo_len _ _ _; rfl
theorem wrS_nrm (s : St) (a : Int) (b : List UInt8) : wrS (nrm s) a b = nrm (wrS s a b) := by
  unfold wrS
  rw [show (nrm s).c = s.c from rfl, show (nrm s).dead = s.dead from rfl, wgo_nrm]
  split <;> rfl
theorem wrE_nrm (s : St) (a : Int) (b : List UInt8) : wrE (nrm s) a b = wrE s a b := by
  unfold wrE
  rw [show (nrm s).c = s.c from rfl, show (nrm s).dead = s.dead from rfl, wgo_nrm]
  rfl
theorem rdE_nrm (s : St) (a n : Int) : rdE (nrm s) a n = rdE s a n := rfl
theorem rdB_nrm (s : St) (a n : Int) : rdB (nrm s) a n = rdB s a n := rfl
theorem fuS_nrm (s : St) (n : Int) (x : UInt8) (u : Bool) : fuS (nrm s) (nfu n) x u = nrm (fuS s n x u) := rfl
theorem raS_nrm (s : St) : raS (nrm s) = nrm (raS s) := rfl
theorem spS_nrm (s : St) (a : Int) (x : UInt8) (u : Bool) : spS (nrm s) a x u = nrm (spS s a x u) := by
  unfold spS
  rw [show (nrm s).c = s.c from rfl]
  split <;> rfl
theorem nw_nrm (n : Nat) : nrm (nw n) = nw n := rfl

/-- The cells of bytes that last. -/
def cc (l : List Ce) : List Value := l.flatMap fun c => [.int .u8 (c.1.toNat : Int), .bool c.2]
theorem cc_length (l : List Ce) : (cc l).length = l.length * 2 := by
  induction l with
  | nil => rfl
  | cons c l ih => simp only [cc, List.flatMap_cons, List.length_append, List.length_cons, List.length_nil] at ih ⊢; omega
theorem cc_cons (c : Ce) (l : List Ce) : cc (c :: l) = .int .u8 (c.1.toNat : Int) :: .bool c.2 :: cc l := rfl
theorem cc_append (l m : List Ce) : cc (l ++ m) = cc l ++ cc m := by simp [cc]
theorem cc_at : ∀ (l : List Ce) (j : Nat) (c : Ce), l[j]? = some c → (cc l)[j * 2]? = some (.int .u8 (c.1.toNat : Int)) ∧ (cc l)[j * 2 + 1]? = some (.bool c.2)
  | [], _, _, h => by simp at h
  | x :: l, 0, c, h => by simp at h; subst h; exact ⟨rfl, rfl⟩
  | x :: l, j + 1, c, h => by
    have := cc_at l j c (by simpa using h)
    rw [show (j + 1) * 2 = j * 2 + 1 + 1 by omega]
    exact this
theorem cc_set : ∀ (l : List Ce) (j : Nat) (c : Ce), ((cc l).set (j * 2) (.int .u8 (c.1.toNat : Int))).set (j * 2 + 1) (.bool c.2) = cc (l.set j c)
  | [], _, _ => rfl
  | x :: l, 0, c => rfl
  | x :: l, j + 1, c => by
    rw [show (j + 1) * 2 = j * 2 + 1 + 1 by omega]
    simp only [cc_cons, List.set_cons_succ]
    rw [cc_set l j c]

/-- All but these blocks stands as it was. -/
structure Chg (l : List Nat) (w w' : World) : Prop where
  low : Below 0 w w'
  rest : ∀ b, b < w.heap.size → b ∉ l → w'.heap[b]? = w.heap[b]?
theorem Chg.refl (l : List Nat) (w : World) : Chg l w w := ⟨Below.refl _ _, fun _ _ _ => rfl⟩
theorem Chg.size {l : List Nat} {w w' : World} (h : Chg l w w') : w.heap.size ≤ w'.heap.size := h.low.size
theorem Chg.trans {l : List Nat} {w w' w'' : World} (h : Chg l w w') (h' : Chg l w' w'') : Chg l w w'' :=
  ⟨h.low.trans h'.low, fun b hb hn => (h'.rest b (Nat.lt_of_lt_of_le hb h.size) hn).trans (h.rest b hb hn)⟩
theorem Chg.mono {l l' : List Nat} {w w' : World} (h : Chg l w w') (hl : ∀ b ∈ l, b ∈ l') : Chg l' w w' := ⟨h.low, fun b hb hn => h.rest b hb (fun h2 => hn (hl b h2))⟩
theorem Chg.of_below {w w' : World} (l : List Nat) (h : Below w.heap.size w w') : Chg l w w' := ⟨h.mono (Nat.zero_le _), fun b hb _ => h.block b hb⟩
theorem Chg.below {l : List Nat} {w w' : World} (h : Chg l w w') {B : Nat} (hB : B ≤ w.heap.size) (hl : ∀ b ∈ l, B ≤ b) : Below B w w' :=
  ⟨h.low.os, h.low.tape, h.low.output, h.low.size, fun b hb => h.rest b (by omega) (fun h2 => by have := hl b h2; omega)⟩
theorem Chg.set {l : List Nat} {w w' : World} (h : Chg l w w') {b : Nat} (hb : b ∈ l) (j : Nat) (x : Value) : Chg l w (w'.setCell ⟨b, j, none⟩ x) :=
  h.trans ⟨(Below.refl _ _).setCell (Nat.zero_le _) _, fun k _ hk => Below.heap_setCell _ _ _ _ (fun e => hk (by rw [e]; exact hb))⟩
theorem Chg.alloc {l : List Nat} {w w' : World} (h : Chg l w w') (o : Obj) : Chg l w (w'.alloc o) := h.trans (Chg.of_below _ ((Below.refl _ _).alloc (Nat.le_refl _) o))
theorem Chg.drew {l : List Nat} {w w' : World} (h : Chg l w w') : Chg l w w'.drew := ⟨h.low.drew, h.rest⟩
theorem Chg.blk {l : List Nat} {w w' : World} (hm : Chg l w w') {t : TypeId} {g : Nat} {cs : List Value} (h : BlkAt t g cs w) (hg : g ∉ l) : BlkAt t g cs w' := (hm.rest g h.lt hg).trans h
theorem Chg.heap {l : List Nat} {w w' : World} (hm : Chg l w w') {g : Nat} {o : Obj} (h : w.heap[g]? = some o) (hg : g ∉ l) : w'.heap[g]? = some o := (hm.rest g (Array.getElem?_eq_some_iff.1 h).1 hg).trans h
theorem Chg.owns {l : List Nat} {w w' : World} (hm : Chg l w w') {B : Nat} {e : TypeId} {size n : Nat} {v : Value} {xs : List Value} (h : w.ownsRow B e size v n xs) (hg : ∀ g, v.ownBlock = some g → g ∉ l) : w'.ownsRow B e size v n xs := by
  obtain ⟨hl, h0 | ⟨g, cap, cur, rfl, hb1, h2, hr⟩⟩ := h
  · exact ⟨hl, .inl h0⟩
  · exact ⟨hl, .inr ⟨g, cap, cur, rfl, hb1, hm.heap h2 (hg g rfl), hr⟩⟩

/-- The cells of the program's store. -/
def pcs (g cap : Nat) (s : St) : List Value := [.slice (some ⟨g, 0, none⟩) s.c.length cap, .bool s.dead, .int .i64 s.fuse, .int .u8 (s.by_.toNat : Int), .bool s.torn]
/-- The program's store, in memory. -/
structure PSt (p g cap : Nat) (s : St) (w : World) : Prop where
  blk : BlkAt 53 p (pcs g cap s) w
  row : w.ownsRow 0 51 2 (.slice (some ⟨g, 0, none⟩) s.c.length cap) s.c.length (cc s.c)
  ne : p ≠ g
  pos : 0 < s.c.length
  few : s.c.length ≤ 4096
  cap : s.c.length ≤ cap
  fu : s.fuse ≤ 9223372036854775807
/-- The cells of the reference's store. -/
def rcs (b u cb cu : Nat) (s : St) : List Value := [.slice (some ⟨b, 0, none⟩) s.c.length cb, .slice (some ⟨u, 0, none⟩) s.c.length cu, .int .i64 s.fuse, .int .u8 (s.by_.toNat : Int), .bool s.torn, .bool s.dead]
/-- The cells of flags. -/
def fv (l : List Ce) : List Value := l.map fun c => .bool c.2
/-- The reference's store, in memory. -/
structure RSt (q b u cb cu : Nat) (s : St) (w : World) : Prop where
  blk : BlkAt 46 q (rcs b u cb cu s) w
  row : w.ownsRow 0 5 1 (.slice (some ⟨b, 0, none⟩) s.c.length cb) s.c.length (bv (s.c.map fun c => c.1))
  flg : w.ownsRow 0 4 1 (.slice (some ⟨u, 0, none⟩) s.c.length cu) s.c.length (fv s.c)
  n1 : q ≠ b
  n2 : q ≠ u
  n3 : b ≠ u
  pos : 0 < s.c.length
  few : s.c.length ≤ 4096
  cb : s.c.length ≤ cb
  cu : s.c.length ≤ cu
  fu : s.fuse ≤ 9223372036854775807
theorem PSt.chg {p g cap : Nat} {s : St} {w w' : World} (h : PSt p g cap s w) {l : List Nat} (hm : Chg l w w') (h1 : p ∉ l) (h2 : g ∉ l) : PSt p g cap s w' :=
  ⟨hm.blk h.blk h1, hm.owns h.row (fun k hk => by simp [Value.ownBlock] at hk; subst hk; exact h2), h.ne, h.pos, h.few, h.cap, h.fu⟩
theorem RSt.chg {q b u cb cu : Nat} {s : St} {w w' : World} (h : RSt q b u cb cu s w) {l : List Nat} (hm : Chg l w w') (h1 : q ∉ l) (h2 : b ∉ l) (h3 : u ∉ l) : RSt q b u cb cu s w' :=
  ⟨hm.blk h.blk h1, hm.owns h.row (fun k hk => by simp [Value.ownBlock] at hk; subst hk; exact h2), hm.owns h.flg (fun k hk => by simp [Value.ownBlock] at hk; subst hk; exact h3), h.n1, h.n2, h.n3, h.pos, h.few, h.cb, h.cu, h.fu⟩
theorem PSt.lt {p g cap : Nat} {s : St} {w : World} (h : PSt p g cap s w) : p < w.heap.size ∧ g < w.heap.size := ⟨h.blk.lt, (h.row.lt g rfl).2⟩
theorem RSt.lt {q b u cb cu : Nat} {s : St} {w : World} (h : RSt q b u cb cu s w) : q < w.heap.size ∧ b < w.heap.size ∧ u < w.heap.size := ⟨h.blk.lt, (h.row.lt b rfl).2, (h.flg.lt u rfl).2⟩
theorem PSt.later {p g cap : Nat} {s : St} {w w' : World} (h : PSt p g cap s w) (hb : Below w.heap.size w w') : PSt p g cap s w' := h.chg (Chg.of_below [] hb) (by simp) (by simp)
theorem RSt.later {q b u cb cu : Nat} {s : St} {w w' : World} (h : RSt q b u cb cu s w) (hb : Below w.heap.size w w') : RSt q b u cb cu s w' := h.chg (Chg.of_below [] hb) (by simp) (by simp) (by simp)
theorem PSt.cells {p g cap : Nat} {s : St} {w : World} (h : PSt p g cap s w) :
    w.cell? ⟨p, 0, none⟩ = some (.slice (some ⟨g, 0, none⟩) s.c.length cap) ∧ w.cell? ⟨p, 1, none⟩ = some (.bool s.dead) ∧ w.cell? ⟨p, 2, none⟩ = some (.int .i64 s.fuse) ∧ w.cell? ⟨p, 3, none⟩ = some (.int .u8 (s.by_.toNat : Int)) ∧ w.cell? ⟨p, 4, none⟩ = some (.bool s.torn) :=
  ⟨h.blk.cell (j := 0) rfl, h.blk.cell (j := 1) rfl, h.blk.cell (j := 2) rfl, h.blk.cell (j := 3) rfl, h.blk.cell (j := 4) rfl⟩
theorem RSt.cells {q b u cb cu : Nat} {s : St} {w : World} (h : RSt q b u cb cu s w) :
    w.cell? ⟨q, 0, none⟩ = some (.slice (some ⟨b, 0, none⟩) s.c.length cb) ∧ w.cell? ⟨q, 1, none⟩ = some (.slice (some ⟨u, 0, none⟩) s.c.length cu) ∧ w.cell? ⟨q, 2, none⟩ = some (.int .i64 s.fuse) ∧ w.cell? ⟨q, 3, none⟩ = some (.int .u8 (s.by_.toNat : Int)) ∧ w.cell? ⟨q, 4, none⟩ = some (.bool s.torn) ∧ w.cell? ⟨q, 5, none⟩ = some (.bool s.dead) :=
  ⟨h.blk.cell (j := 0) rfl, h.blk.cell (j := 1) rfl, h.blk.cell (j := 2) rfl, h.blk.cell (j := 3) rfl, h.blk.cell (j := 4) rfl, h.blk.cell (j := 5) rfl⟩
theorem PSt.at {p g cap : Nat} {s : St} {w : World} (h : PSt p g cap s w) {j : Nat} {c : Ce} (hj : s.c[j]? = some c) :
    w.cell? ⟨g, j * 2, none⟩ = some (.int .u8 (c.1.toNat : Int)) ∧ w.cell? ⟨g, j * 2 + 1, none⟩ = some (.bool c.2) ∧ (∀ i, w.frozen? ⟨g, i, none⟩ = false) := by
  have hl := (List.getElem?_eq_some_iff.1 hj).1
  obtain ⟨e1, e2⟩ := cc_at s.c j c hj
  exact ⟨(h.row.cellAt (j * 2) (by omega)).trans e1, (h.row.cellAt (j * 2 + 1) (by omega)).trans e2, fun i => h.row.frozenAt i⟩
theorem RSt.atB {q b u cb cu : Nat} {s : St} {w : World} (h : RSt q b u cb cu s w) {j : Nat} {c : Ce} (hj : s.c[j]? = some c) :
    w.cell? ⟨b, j, none⟩ = some (.int .u8 (c.1.toNat : Int)) ∧ (∀ i, w.frozen? ⟨b, i, none⟩ = false) := by
  have hl := (List.getElem?_eq_some_iff.1 hj).1
  exact ⟨(h.row.cellAt j (by omega)).trans (by simp [bv, hj]), fun i => h.row.frozenAt i⟩
theorem RSt.atU {q b u cb cu : Nat} {s : St} {w : World} (h : RSt q b u cb cu s w) {j : Nat} {c : Ce} (hj : s.c[j]? = some c) :
    w.cell? ⟨u, j, none⟩ = some (.bool c.2) ∧ (∀ i, w.frozen? ⟨u, i, none⟩ = false) := by
  have hl := (List.getElem?_eq_some_iff.1 hj).1
  exact ⟨(h.flg.cellAt j (by omega)).trans (by simp [fv, hj]), fun i => h.flg.frozenAt i⟩
end Go.Proofs.Ytfoojjmokdbpcaa

namespace Go.Proofs.Ytfoojjmokdbpcaa
open Go.RowKit
attribute [local go_sem ↓] Go.wp_at_zero Go.wp_at_succ

/-- A store that is there, by its address. -/
def pt (p : Nat) : Value := .pointer (some ⟨p, 0, none⟩)
theorem allS {p g cap : Nat} {s : St} {w : World} (h : PSt p g cap s w) :
    Calls Try.prog 32 #[.pointer (some ⟨p, 0, none⟩)] w fun e w' => e = .returned (.slice (some ⟨g, 0, none⟩) s.c.length cap) ∧ w = w' := by
  obtain ⟨c0, c1, c2, c3, c4⟩ := h.cells
  clear h
  go_enter Try.func32, Try.ntmps32
  go_wp2_with fail
  go_ret
  exact ⟨rfl, rfl⟩
theorem lenS {p g cap : Nat} {s : St} {w : World} (h : PSt p g cap s w) :
    Calls Try.prog 23 #[.pointer (some ⟨p, 0, none⟩)] w fun e w' => e = .returned (.int .i64 (s.c.length : Int)) ∧ w = w' := by
  have H := Lib.hid (allS h)
  clear h
  go_enter Try.func23, Try.ntmps23
  go_wp2_with fail
  refine H.out.mono ?_
  rintro e w1 ⟨rfl, rfl⟩
  go_wp2_with fail
  go_ret
  exact ⟨rfl, rfl⟩
theorem noneS {p g cap : Nat} {s : St} {w : World} (h : PSt p g cap s w) :
    Calls Try.prog 29 #[.pointer (some ⟨p, 0, none⟩)] w fun e w' => e = .returned (.bool false) ∧ w = w' := by
  have H := Lib.hid (lenS h)
  have k : ((s.c.length : Int) == 0) = false := by have := h.pos; rw [beq_eq_false_iff_ne]; omega
  clear h
  go_enter Try.func29, Try.ntmps29
  go_wp2_with fail
  refine H.out.mono ?_
  rintro e w1 ⟨rfl, rfl⟩
  go_wp2_with fail
  go_ret
  exact ⟨by simp [k], rfl⟩
/-- What is wrong without power. -/
def pe (s : St) : Int := if s.dead = true then 7 else 0
theorem powerS {p g cap : Nat} {s : St} {w : World} (h : PSt p g cap s w) :
    Calls Try.prog 28 #[.pointer (some ⟨p, 0, none⟩)] w fun e w' => e = .returned (.int .i64 (pe s)) ∧ w = w' := by
  unfold pe
  obtain ⟨c0, c1, c2, c3, c4⟩ := h.cells
  obtain ⟨d, hd⟩ : ∃ d, d = s.dead := ⟨_, rfl⟩
  rw [← hd] at c1 ⊢
  clear h hd
  go_enter Try.func28, Try.ntmps28
  cases d
  · go_wp2_with fail
    go_ret
    exact ⟨rfl, rfl⟩
  · go_wp2_with fail
    go_ret
    exact ⟨rfl, rfl⟩
set_option maxRecDepth 100000 in
theorem deadS {p g cap : Nat} {s : St} {w : World} (h : PSt p g cap s w) :
    Calls Try.prog 15 #[.pointer (some ⟨p, 0, none⟩)] w fun e w' => e = .returned (.bool s.dead) ∧ w = w' := by
  have H := Lib.hid (noneS h)
  obtain ⟨c0, c1, c2, c3, c4⟩ := h.cells
  obtain ⟨d, hd⟩ : ∃ d, d = s.dead := ⟨_, rfl⟩
  rw [← hd] at c1 ⊢
  clear h hd
  go_enter Try.func15, Try.ntmps15
  go_wp2_with fail
  refine H.out.mono ?_
  rintro e w1 ⟨rfl, rfl⟩
  go_wp2_with fail
  go_ret
  exact ⟨rfl, rfl⟩
/-- Where they do not lie within. -/
def lieE (s : St) (a n : Int) : Int := if inn s.c.length a n = true then 0 else 2
set_option maxHeartbeats 1000000 in
set_option maxRecDepth 100000 in
theorem lieS {p g cap : Nat} {s : St} {w : World} (h : PSt p g cap s w) (a n : Int) (ha : a ≤ 9223372036854775807) :
    Calls Try.prog 34 #[.pointer (some ⟨p, 0, none⟩), .int .i64 a, .int .i64 n] w fun e w' => e = .returned (.int .i64 (lieE s a n)) ∧ w = w' := by
  have H := Lib.hid (noneS h)
  obtain ⟨c0, c1, c2, c3, c4⟩ := h.cells
  obtain ⟨m, hm⟩ : ∃ m, m = s.c.length := ⟨_, rfl⟩
  unfold lieE
  have hf := h.few
  rw [← hm] at c0 hf ⊢
  clear h hm c1 c2 c3 c4
  by_cases h0 : 0 ≤ a
  · by_cases h1 : 0 ≤ n
    · have e1 : wrap64 ((m : Int) - a) = m - a := IntWalk.wrap64_in _ ⟨by omega, by omega⟩
      have k1 : decide (a < 0) = false := by simp; omega
      have k2 : decide (n < 0) = false := by simp; omega
      by_cases h2 : n ≤ m - a
      · have k3 : decide ((m : Int) - a < n) = false := by simp; omega
        rw [if_pos (inn_iff.2 ⟨h0, h1, h2⟩)]
        clear hf ha
        go_enter Try.func34, Try.ntmps34
        go_wp2_with fail
        refine H.out.mono ?_
        rintro e w1 ⟨rfl, rfl⟩
        go_wp2_with fail
        go_ret
        exact ⟨rfl, rfl⟩
      · have k3 : decide ((m : Int) - a < n) = true := by simp; omega
        rw [if_neg (by rw [inn_iff]; omega)]
        clear hf ha h2
        go_enter Try.func34, Try.ntmps34
        go_wp2_with fail
        refine H.out.mono ?_
        rintro e w1 ⟨rfl, rfl⟩
        go_wp2_with fail
        go_ret
        exact ⟨rfl, rfl⟩
    · have k1 : decide (a < 0) = false := by simp; omega
      have k2 : decide (n < 0) = true := by simp; omega
      rw [if_neg (by rw [inn_iff]; omega)]
      clear hf ha h1
      go_enter Try.func34, Try.ntmps34
      go_wp2_with fail
      refine H.out.mono ?_
      rintro e w1 ⟨rfl, rfl⟩
      go_wp2_with fail
      go_ret
      exact ⟨rfl, rfl⟩
  · have k1 : decide (a < 0) = true := by simp; omega
    rw [if_neg (by rw [inn_iff]; omega)]
    clear hf ha h0
    go_enter Try.func34, Try.ntmps34
    go_wp2_with fail
    refine H.out.mono ?_
    rintro e w1 ⟨rfl, rfl⟩
    go_wp2_with fail
    go_ret
    exact ⟨rfl, rfl⟩
/-- What is wrong ahead of a write, or a read. -/
def redE (s : St) (a n : Int) : Int := if inn s.c.length a n = true then (if s.dead = true then 7 else 0) else 2
theorem readyS {p g cap : Nat} {s : St} {w : World} (h : PSt p g cap s w) (a n : Int) (ha : a ≤ 9223372036854775807) :
    Calls Try.prog 27 #[.pointer (some ⟨p, 0, none⟩), .int .i64 a, .int .i64 n] w fun e w' => e = .returned (.int .i64 (redE s a n)) ∧ w = w' := by
  have H := Lib.hid (lieS h a n ha)
  have H2 := Lib.hid (powerS h)
  unfold redE
  unfold lieE at H
  clear h ha
  by_cases hi : inn s.c.length a n = true
  · rw [if_pos hi] at H ⊢
    clear hi
    rw [show (if s.dead = true then (7 : Int) else 0) = pe s from rfl]
    obtain ⟨x, hx⟩ : ∃ x : Int, x = pe s := ⟨_, rfl⟩
    rw [← hx] at H2 ⊢
    clear hx
    go_enter Try.func27, Try.ntmps27
    go_wp2_with fail
    refine H.out.mono ?_
    rintro e w1 ⟨rfl, rfl⟩
    go_wp2_with fail
    refine H2.out.mono ?_
    rintro e w1 ⟨rfl, rfl⟩
    go_wp2_with fail
    go_ret
    exact ⟨rfl, rfl⟩
  · rw [if_neg hi] at H ⊢
    clear hi H2
    go_enter Try.func27, Try.ntmps27
    go_wp2_with fail
    refine H.out.mono ?_
    rintro e w1 ⟨rfl, rfl⟩
    go_wp2_with fail
    go_ret
    exact ⟨rfl, rfl⟩
theorem withinS {q b u cb cu : Nat} {s : St} {w : World} (h : RSt q b u cb cu s w) (a n : Int) (ha : -9223372036854775808 ≤ n) :
    Calls Try.prog 33 #[.pointer (some ⟨q, 0, none⟩), .int .i64 a, .int .i64 n] w fun e w' => e = .returned (.bool (inn s.c.length a n)) ∧ w = w' := by
  obtain ⟨c0, c1, c2, c3, c4, c5⟩ := h.cells
  obtain ⟨m, hm⟩ : ∃ m, m = s.c.length := ⟨_, rfl⟩
  have hf := h.few
  rw [← hm] at c0 hf ⊢
  clear h hm c1 c2 c3 c4 c5
  by_cases h0 : 0 ≤ a
  · by_cases h1 : 0 ≤ n
    · have k1 : decide (0 ≤ a) = true := by simp; omega
      have k2 : decide (0 ≤ n) = true := by simp; omega
      by_cases h2 : n ≤ m
      · have e1 : wrap64 ((m : Int) - n) = m - n := IntWalk.wrap64_in _ ⟨by omega, by omega⟩
        have k3 : decide (n ≤ (m : Int)) = true := by simp; omega
        have k4 : decide (a ≤ (m : Int) - n) = inn m a n := by
          rw [Bool.eq_iff_iff, inn_iff, decide_eq_true_iff]; omega
        clear hf ha
        go_enter Try.func33, Try.ntmps33
        go_wp2_with fail
        go_ret
        exact ⟨by simp [k4], rfl⟩
      · have k3 : decide (n ≤ (m : Int)) = false := by simp; omega
        rw [inn_no.2 (by omega)]
        clear hf ha h2
        go_enter Try.func33, Try.ntmps33
        go_wp2_with fail
        go_ret
        exact ⟨rfl, rfl⟩
    · have k1 : decide (0 ≤ a) = true := by simp; omega
      have k2 : decide (0 ≤ n) = false := by simp; omega
      rw [inn_no.2 (by omega)]
      clear hf ha h1
      go_enter Try.func33, Try.ntmps33
      go_wp2_with fail
      go_ret
      exact ⟨rfl, rfl⟩
  · have k1 : decide (0 ≤ a) = false := by simp; omega
    rw [inn_no.2 (by omega)]
    clear hf ha h0
    go_enter Try.func33, Try.ntmps33
    go_wp2_with fail
    go_ret
    exact ⟨rfl, rfl⟩
end Go.Proofs.Ytfoojjmokdbpcaa

namespace Go.Proofs.Ytfoojjmokdbpcaa
open Go.RowKit

def Row (w : World) (v : Value) (xs : List Value) : Prop :=
  (xs = [] ∧ ∃ a c, v = .slice a 0 c ∧ (a = none → c = 0)) ∨
  ∃ b o c, v = .slice (some ⟨b, o, none⟩) xs.length c ∧ b < w.heap.size ∧ xs.length ≤ c ∧ ∀ j x, xs[j]? = some x → w.cell? ⟨b, o + j, none⟩ = some x
theorem Row.later {w w' : World} {v : Value} {l : List Value} (h : Row w v l) (hb : Below w.heap.size w w') : Row w' v l := by
  rcases h with h | ⟨b, o, c, h1, h2, hp, h3⟩
  · exact .inl h
  · exact .inr ⟨b, o, c, h1, Nat.lt_of_lt_of_le h2 hb.size, hp, fun j x hx => cell_later hb (h3 j x hx)⟩
theorem Row.form {w : World} {v : Value} {l : List Value} (h : Row w v l) : ∃ a c, v = .slice a l.length c := by
  rcases h with ⟨rfl, a, c, rfl, _⟩ | ⟨b, o, c, rfl, _, _⟩
  · exact ⟨a, c, rfl⟩
  · exact ⟨_, c, rfl⟩
theorem Row.at {w : World} {a : Option Addr} {n c : Nat} {l : List Value} (h : Row w (.slice a n c) l) {i : Nat} {x : Value} (hi : l[i]? = some x) :
    ∃ b o, a = some ⟨b, o, none⟩ ∧ b < w.heap.size ∧ w.cell? ⟨b, o + i, none⟩ = some x := by
  rcases h with ⟨rfl, _⟩ | ⟨b, o, c', h1, h2, _, h3⟩
  · simp at hi
  · simp only [Value.slice.injEq] at h1
    exact ⟨b, o, h1.1, h2, h3 i _ hi⟩
theorem Row.of_own {w : World} {base : Nat} {e : TypeId} {v : Value} {n : Nat} {l : List Value} (h : w.ownsRow base e 1 v n l) : Row w v l := by
  obtain ⟨hl, h0 | ⟨g, cap, cur, rfl, hb, hg, hn, hm, hc, ht⟩⟩ := h
  · obtain ⟨rfl, rfl⟩ := h0
    simp at hl
    subst hl
    exact .inl ⟨rfl, _, _, rfl, fun _ => rfl⟩
  · have hln : l.length = n := by simpa using hl
    subst hln
    refine .inr ⟨g, 0, cap, rfl, ?_, hn, fun j x hx => ?_⟩
    · rcases Nat.lt_or_ge g w.heap.size with h1 | h1
      · exact h1
      · rw [Array.getElem?_eq_none h1] at hg; cases hg
    · rw [Nat.zero_add, cell_of_row w g j cur e (0, 0) hg]
      have hj : j < l.length := (List.getElem?_eq_some_iff.1 hx).1
      have : l[j]? = some x := hx
      rw [← ht, List.getElem?_take, if_pos (by omega)] at this
      simpa using this
theorem Row.of_bytes {w : World} {v : Value} {l : List UInt8} (h : Bytes w v l) : Row w v (bv l) := by
  rcases h with ⟨rfl, a, c, rfl, h1⟩ | ⟨b, o, c, rfl, h2, hp, h3⟩
  · exact .inl ⟨rfl, a, c, rfl, h1⟩
  · refine .inr ⟨b, o, c, by simp [bv], h2, by simpa [bv] using hp, fun j x hx => ?_⟩
    simp only [bv, List.getElem?_map, Option.map_eq_some_iff] at hx
    obtain ⟨y, hy, rfl⟩ := hx
    exact h3 j y hy
theorem ownsRow_later {w w' : World} {B : Nat} {e : TypeId} {s n : Nat} {v : Value} {xs : List Value} (h : w.ownsRow B e s v n xs) (hb : Below w.heap.size w w') : w'.ownsRow B e s v n xs := by
  obtain ⟨hl, h0 | ⟨g, cap, cur, rfl, hb1, hg, hn, hm, hc, ht⟩⟩ := h
  · exact ⟨hl, .inl h0⟩
  · refine ⟨hl, .inr ⟨g, cap, cur, rfl, hb1, ?_, hn, hm, hc, ht⟩⟩
    rw [hb.block g ?_]
    · exact hg
    · rcases Nat.lt_or_ge g w.heap.size with h1 | h1
      · exact h1
      · rw [Array.getElem?_eq_none h1] at hg; cases hg
def iv (l : List Int) : List Value := l.map fun z => .int .i64 z
theorem iv_at {zs : List Int} {k : Nat} (h : k < zs.length) : (iv zs)[k]? = some (.int .i64 zs[k]) := by simp [iv, h]
end Go.Proofs.Ytfoojjmokdbpcaa
