/- adj.New, View, Say, Accepts, anew, Drop, due, Tick: the walks.
   An adjacency, plainly, and how it lies in memory; adj.none, mayNode, mayTicks, mayHello, zero, elder, came: the walks.
   A region that draws its order, cut at what is done: one lemma for each set of done operations.
   What changes: all but some blocks stands.
   A struct's block in memory, of any type that is no byte.
   A block of cells in memory, whatever its type.
   append on bytes that the call owns, whatever the source: one law in three forms.
   Lists of bytes in memory: a slice value that reads as a list of lists of bytes.
   What all walks import; small lemmas on endings and on what a call leaves as it was.
   Bytes in memory: a slice value that reads as a list of bytes; no function of the program in it. -/
import Derived.Test.YtcedninipbafaaaRows
import Derived.WalkKit
import Derived.WalkSpells
import Derived.WalkLawsBesides
import Derived.Handy
import Derived.Lib.Hide
import Derived.Deep.QuietTactic
import Derived.BigQuiet
import Derived.Deep.RegionWith
import Derived.Deep.RegionHeld3
import Derived.StillTailTactics
import Derived.Deep.DrawnRows
import Derived.Laws.BitsAllLaws
import Derived.Deep.AppendLies
import Derived.Laws.AppendOwnNone
import Derived.Laws.OwnMore
import Derived.Deep.MidRow
import Derived.RangeFuncRecord

set_option linter.unusedSimpArgs false
set_option linter.unusedVariables false
namespace Go.Proofs.Ytcedninipbafaaa
open Go.RowKit

def bv (l : List UInt8) : List Value := l.map fun b => .int .u8 (b.toNat : Int)

/-- The value reads as these bytes. -/
def Bytes (w : World) (v : Value) (l : List UInt8) : Prop :=
  (l = [] ∧ ∃ a c, v = .slice a 0 c ∧ (a = none → c = 0)) ∨
  ∃ b o c, v = .slice (some ⟨b, o, none⟩) l.length c ∧ b < w.heap.size ∧ l.length ≤ c ∧ ∀ j x, l[j]? = some x → w.cell? ⟨b, o + j, none⟩ = some (.int .u8 (x.toNat : Int))

theorem Bytes.later {w w' : World} {v : Value} {l : List UInt8} (h : Bytes w v l) (hb : Below w.heap.size w w') : Bytes w' v l := by
  rcases h with h | ⟨b, o, c, h1, h2, hp, h3⟩
  · exact .inl h
  · exact .inr ⟨b, o, c, h1, Nat.lt_of_lt_of_le h2 hb.size, hp, fun j x hx => cell_later hb (h3 j x hx)⟩

theorem cell_later' {w wr : World} {B : Nat} {b o : Nat} {v : Value} (h : Below B w wr) (hb : b < B) (hc : w.cell? ⟨b, o, none⟩ = some v) : wr.cell? ⟨b, o, none⟩ = some v :=
  (h.cell (p := ⟨b, o, none⟩) hb).trans hc

theorem own_ne {w : World} {B : Nat} {e : TypeId} {size n : Nat} {v : Value} {xs : List Value} {b : Nat} (h : w.ownsRow B e size v n xs) (hb : b < B) : some b ≠ v.ownBlock := by
  rcases h.2 with ⟨rfl, _⟩ | ⟨g, cap, cur, rfl, hg, _⟩
  · simp [Value.ownBlock]
  · simp [Value.ownBlock]; omega

theorem Bytes.form {w : World} {v : Value} {l : List UInt8} (h : Bytes w v l) : ∃ a c, v = .slice a l.length c := by
  rcases h with ⟨rfl, a, c, rfl, _⟩ | ⟨b, o, c, rfl, _, _⟩
  · exact ⟨a, c, rfl⟩
  · exact ⟨_, c, rfl⟩

theorem Bytes.nil (w : World) (a : Option Addr) (c : Nat) (h : a = none → c = 0 := by intros; first | rfl | contradiction | simp_all) : Bytes w (.slice a 0 c) [] := .inl ⟨rfl, a, c, rfl, h⟩
/-- Without an address there is nothing. -/
theorem Bytes.noaddr {w : World} {n c : Nat} {l : List UInt8} (h : Bytes w (.slice none n c) l) : n = 0 ∧ c = 0 ∧ l = [] := by
  rcases h with ⟨rfl, a, c', h1, h2⟩ | ⟨b, o, c', h1, _, _⟩
  · simp only [Value.slice.injEq] at h1
    obtain ⟨rfl, rfl, rfl⟩ := h1
    exact ⟨rfl, h2 rfl, rfl⟩
  · simp at h1

theorem Bytes.of_own {w : World} {base : Nat} {e : TypeId} {v : Value} {n : Nat} {l : List UInt8} (h : w.ownsRow base e 1 v n (bv l)) : Bytes w v l := by
  obtain ⟨hl, h0 | ⟨g, cap, cur, rfl, hb, hg, hn, hm, hc, ht⟩⟩ := h
  · obtain ⟨rfl, rfl⟩ := h0
    simp [bv] at hl
    subst hl
    exact Bytes.nil _ _ _
  · have hln : l.length = n := by simpa [bv] using hl
    subst hln
    refine .inr ⟨g, 0, cap, rfl, ?_, hn, fun j x hx => ?_⟩
    · rcases Nat.lt_or_ge g w.heap.size with h1 | h1
      · exact h1
      · rw [Array.getElem?_eq_none h1] at hg; cases hg
    · rw [Nat.zero_add, cell_of_row w g j cur e (0, 0) hg]
      have hj : j < l.length := (List.getElem?_eq_some_iff.1 hx).1
      have : (bv l)[j]? = some (.int .u8 (x.toNat : Int)) := by simp [bv, hx]
      rw [← ht, List.getElem?_take, if_pos (by omega)] at this
      simpa using this

theorem push_fold : ∀ (l : List UInt8) (s : ByteArray), (l.map fun b => (b.toNat : Int)).foldl (fun r n => r.push (UInt8.ofNat n.toNat)) s = ⟨(s.data.toList ++ l).toArray⟩
  | [], s => by simp
  | b :: l, s => by
    simp only [List.map_cons, List.foldl_cons]
    rw [push_fold l]
    have : (s.push (UInt8.ofNat ((b.toNat : Int)).toNat)).data.toList = s.data.toList ++ [b] := by
      simp [ByteArray.push]
    rw [this]
    simp

/-- string(b). -/
theorem Bytes.str {P : Program} {w : World} {v : Value} {l : List UInt8} (h : Bytes w v l) {src dst e : TypeId}
    (hs : P.underlying src = some (.slice e)) (he : P.underlying e = some (.int .u8)) (hd : P.underlying dst = some .string) :
    (convert src dst v).run P w = .ok (.string ⟨l.toArray⟩) w := by
  rcases h with ⟨rfl, a, c, rfl, _⟩ | ⟨b, o, c, rfl, hb, _, hc⟩
  · rw [run_convert_bytes_string w src dst e a 0 c hs he hd]
    cases a with
    | none => simp [Conv.bytesToString]; rfl
    | some a =>
      have := run_bytesToString (P := P) w a 0 c [] (by have := run_loadCells_list (P := P) w a [] (by simp); simpa using this)
      rw [this]; rfl
  · rw [run_convert_bytes_string w src dst e _ _ c hs he hd]
    have hl : (loadCells ⟨b, o, none⟩ l.length).run P w = .ok ((l.map fun b => (b.toNat : Int)).map (Value.int .u8)).toArray w := by
      have := run_loadCells_list (P := P) w ⟨b, o, none⟩ (bv l) (fun j u hu => by
        simp only [bv, List.getElem?_map, Option.map_eq_some_iff] at hu
        obtain ⟨x, hx, rfl⟩ := hu
        have := hc j x hx
        cases j with
        | zero => simpa [Addr.add] using this
        | succ j => simpa [Addr.add] using this)
      simpa [bv, List.map_map, Function.comp_def] using this
    rw [run_bytesToString (P := P) w _ _ c _ hl, push_fold]
    rfl

theorem str_eq {a b : List UInt8} (h : a = b) : ((⟨a.toArray⟩ : ByteArray).toList == (⟨b.toArray⟩ : ByteArray).toList) = true := by rw [h]; simp

theorem news_one (w : World) (v : Value) (t : TypeId) : ∀ (j : Nat) (u : Value), [v][j]? = some u → (w.alloc (.cells #[v] t)).cell? ((⟨w.heap.size, 0, none⟩ : Addr).add j) = some u := by
  intro j u hj
  match j, hj with
  | 0, hj => simp at hj; subst hj; simp [Addr.add]
theorem one_int (k : IntKind) (x : Int) : ∀ u ∈ [Value.int k x], u.oneCell' = true := by intro u hu; simp at hu; subst hu; rfl
theorem one_slice (a : Option Addr) (n c : Nat) : ∀ u ∈ [Value.slice a n c], u.oneCell' = true := by intro u hu; simp at hu; subst hu; rfl

theorem own_base {w : World} {B : Nat} {e : TypeId} {size n : Nat} {v : Value} {xs : List Value} (h : w.ownsRow B e size v n xs) {j : Nat} (hj : v.ownBlock = some j) : B ≤ j := by
  rcases h.2 with ⟨rfl, _⟩ | ⟨g, cap, cur, rfl, hg, _⟩
  · simp [Value.ownBlock] at hj
  · simp [Value.ownBlock] at hj; omega

theorem bv_append (a b : List UInt8) : bv (a ++ b) = bv a ++ bv b := by simp [bv]
theorem bv_one (l : List UInt8) : ∀ u ∈ bv l, u.oneCell' = true := by
  intro u hu
  simp only [bv, List.mem_map] at hu
  obtain ⟨b, _, rfl⟩ := hu
  rfl
theorem Bytes.news {w : World} {x : Addr} {n c : Nat} {l : List UInt8} (h : Bytes w (.slice (some x) n c) l) : ∀ (j : Nat) (u : Value), (bv l)[j]? = some u → w.cell? (x.add j) = some u := by
  intro j u hu
  simp only [bv, List.getElem?_map, Option.map_eq_some_iff] at hu
  obtain ⟨y, hy, rfl⟩ := hu
  rcases h with ⟨rfl, _⟩ | ⟨b, o, c', h1, h2, _, h3⟩
  · simp at hy
  · simp only [Value.slice.injEq, Option.some.injEq] at h1
    obtain ⟨rfl, rfl, rfl⟩ := h1
    have := h3 j y hy
    cases j with
    | zero => simpa [Addr.add] using this
    | succ j => simpa [Addr.add] using this
end Go.Proofs.Ytcedninipbafaaa

namespace Go.Proofs.Ytcedninipbafaaa
open Go.RowKit
attribute [local go_sem ↓] Go.wp_at_zero Go.wp_at_succ

theorem ret_b {a b : Bool} (h : a = b) : Ending.returned (.bool a) = .returned (.bool b) := by rw [h]
theorem ret_i {k : IntKind} {a b : Int} (h : a = b) : Ending.returned (.int k a) = .returned (.int k b) := by rw [h]
theorem ret_ii {k k2 : IntKind} {a a' b b' : Int} (h : a = a') (h2 : b = b') : Ending.returned (.tuple #[.int k a, .int k2 b]) = .returned (.tuple #[.int k a', .int k2 b']) := by rw [h, h2]
theorem bcell {W w1 : World} (hb : Below W.heap.size W w1) : (∀ b o, b < W.heap.size → w1.cell? ⟨b, o, none⟩ = W.cell? ⟨b, o, none⟩) ∧ (∀ b o, b < W.heap.size → w1.frozen? ⟨b, o, none⟩ = W.frozen? ⟨b, o, none⟩) :=
  ⟨fun b o h => hb.cell (p := ⟨b, o, none⟩) h, fun b o h => hb.frozen (p := ⟨b, o, none⟩) h⟩
theorem below_of {w w1 w2 : World} (h : Below w.heap.size w w1) (h2 : Below w1.heap.size w1 w2) : Below w.heap.size w w2 := h.trans (h2.mono h.size)
theorem ba1 (w : World) (o : Obj) : Below w.heap.size w (w.alloc o) := (Below.refl _ _).alloc (Nat.le_refl _) _
theorem below_dr0 (B : Nat) (w : World) (n : Nat) : Below B w (w.drewN n) := ⟨rfl, rfl, rfl, Nat.le_refl _, fun _ _ => rfl⟩
theorem wrap8 (n : Int) : IntKind.u8.wrap n = n % 256 := rfl
theorem wrap16 (n : Int) : IntKind.u16.wrap n = n % 65536 := rfl
theorem wrap32 (n : Int) : IntKind.u32.wrap n = n % 4294967296 := rfl

end Go.Proofs.Ytcedninipbafaaa

namespace Go.Proofs.Ytcedninipbafaaa
open Go.RowKit

/-- The value reads as these lists of bytes. -/
def Lists (w : World) (v : Value) (L : List (List UInt8)) : Prop :=
  (L = [] ∧ ∃ a c, v = .slice a 0 c ∧ (a = none → c = 0)) ∨
  ∃ b o c, v = .slice (some ⟨b, o, none⟩) L.length c ∧ b < w.heap.size ∧ L.length ≤ c ∧ ∀ j l, L[j]? = some l → ∃ u, w.cell? ⟨b, o + j, none⟩ = some u ∧ Bytes w u l

theorem Lists.later {w w' : World} {v : Value} {L : List (List UInt8)} (h : Lists w v L) (hb : Below w.heap.size w w') : Lists w' v L := by
  rcases h with h | ⟨b, o, c, h1, h2, hp, h3⟩
  · exact .inl h
  · refine .inr ⟨b, o, c, h1, Nat.lt_of_lt_of_le h2 hb.size, hp, fun j l hl => ?_⟩
    obtain ⟨u, hu, hx⟩ := h3 j l hl
    exact ⟨u, cell_later hb hu, hx.later hb⟩
theorem Lists.form {w : World} {v : Value} {L : List (List UInt8)} (h : Lists w v L) : ∃ a c, v = .slice a L.length c := by
  rcases h with ⟨rfl, a, c, rfl, _⟩ | ⟨b, o, c, rfl, _, _⟩
  · exact ⟨a, c, rfl⟩
  · exact ⟨_, c, rfl⟩
/-- The element at a place: where it lies, in every later world. -/
theorem Lists.at {w : World} {a : Option Addr} {n c : Nat} {L : List (List UInt8)} (h : Lists w (.slice a n c) L) {i : Nat} (hi : i < L.length) :
    ∃ b o, a = some ⟨b, o, none⟩ ∧ b < w.heap.size ∧ ∃ x d, w.cell? ⟨b, o + i, none⟩ = some (.slice x L[i].length d) ∧ Bytes w (.slice x L[i].length d) L[i] := by
  rcases h with ⟨rfl, _⟩ | ⟨b, o, c', h1, h2, _, h3⟩
  · simp at hi
  · obtain ⟨u, hu, hx⟩ := h3 i L[i] (List.getElem?_eq_getElem hi)
    obtain ⟨x, d, rfl⟩ := hx.form
    simp only [Value.slice.injEq] at h1
    exact ⟨b, o, h1.1, h2, x, d, hu, hx⟩
theorem Bytes.at {w : World} {a : Option Addr} {n c : Nat} {l : List UInt8} (h : Bytes w (.slice a n c) l) {i : Nat} (hi : i < l.length) :
    ∃ b o, a = some ⟨b, o, none⟩ ∧ b < w.heap.size ∧ w.cell? ⟨b, o + i, none⟩ = some (.int .u8 (l[i].toNat : Int)) := by
  rcases h with ⟨rfl, _⟩ | ⟨b, o, c', h1, h2, _, h3⟩
  · simp at hi
  · simp only [Value.slice.injEq] at h1
    exact ⟨b, o, h1.1, h2, h3 i _ (List.getElem?_eq_getElem hi)⟩
theorem Lists.nil (w : World) (a : Option Addr) (c : Nat) (h : a = none → c = 0 := by intros; first | rfl | contradiction | simp_all) : Lists w (.slice a 0 c) [] := .inl ⟨rfl, a, c, rfl, h⟩

theorem bytes_lit (w : World) (l : List UInt8) : Bytes (w.alloc (.cells (bv l).toArray 5)) (.slice (some ⟨w.heap.size, 0, none⟩) l.length l.length) l :=
  .inr ⟨w.heap.size, 0, l.length, rfl, by simp, Nat.le_refl _, fun j x hx => by
    have : (bv l)[j]? = some (.int .u8 (x.toNat : Int)) := by simp [bv, hx]
    simp [this]⟩

/-- Bytes that are kept, and all that was there ahead. -/
def KeptB (w0 : World) (v : Value) (l : List UInt8) (w' : World) : Prop := Bytes w' v l ∧ w0.heap.size < w'.heap.size ∧ Below w0.heap.size w0 w'
theorem KeptB.later {w0 w1 w2 : World} {v : Value} {l : List UInt8} (h : KeptB w0 v l w1) (hb : Below w1.heap.size w1 w2) : KeptB w0 v l w2 :=
  ⟨h.1.later hb, Nat.lt_of_lt_of_le h.2.1 hb.size, h.2.2.trans (hb.mono (Nat.le_of_lt h.2.1))⟩
theorem KeptB.drew {w0 w1 : World} {v : Value} {l : List UInt8} (h : KeptB w0 v l w1) : KeptB w0 v l w1.drew := h.later (Below.refl _ _).drew
theorem KeptB.alloc {w0 w1 : World} {v : Value} {l : List UInt8} (h : KeptB w0 v l w1) (o : Obj) : KeptB w0 v l (w1.alloc o) := h.later ((Below.refl _ _).alloc (Nat.le_refl _) o)
theorem KeptB.allocDrew {w0 w1 : World} {v : Value} {l : List UInt8} (h : KeptB w0 v l w1) (o : Obj) : KeptB w0 v l (w1.alloc o).drew := (h.alloc o).drew

theorem ret_u {k : IntKind} {a : Nat} {b : Int} (h : (a : Int) = b) : Ending.returned (.int k a) = .returned (.int k b) := by rw [h]
theorem bytes_take {w : World} {b : Option Addr} {n c : Nat} {l : List UInt8} (h : Bytes w (.slice b n c) l) {k : Nat} (hk : k ≤ l.length) : Bytes w (.slice b k c) (l.take k) := by
  rcases h with ⟨rfl, a, c', h1, h2⟩ | ⟨bl, o, c', h1, h2, hp, h3⟩
  · simp only [Value.slice.injEq] at h1
    obtain ⟨rfl, rfl, rfl⟩ := h1
    have : k = 0 := by simpa using hk
    subst this
    exact .inl ⟨by simp, _, _, rfl, h2⟩
  · simp only [Value.slice.injEq] at h1
    obtain ⟨rfl, rfl, rfl⟩ := h1
    refine .inr ⟨bl, o, c, by rw [List.length_take, Nat.min_eq_left hk], h2, by rw [List.length_take]; omega, fun j x hx => h3 j x ?_⟩
    rw [List.getElem?_take] at hx
    split at hx
    · exact hx
    · cases hx
theorem bytes_drop {w : World} {bl o c : Nat} {l : List UInt8} {n : Nat} (h : Bytes w (.slice (some ⟨bl, o, none⟩) n c) l) (k : Nat) (m : Nat) (hm : m = l.length - k) (d : Nat) (hd : m ≤ d) : Bytes w (.slice (some ⟨bl, o + k, none⟩) m d) (l.drop k) := by
  subst hm
  rcases h with ⟨rfl, a, c', h1, h2⟩ | ⟨bl, o, c', h1, h2, hp, h3⟩
  · simp only [Value.slice.injEq] at h1
    exact .inl ⟨by simp, some ⟨bl, o + k, none⟩, d, by simp, fun h => by cases h⟩
  · simp only [Value.slice.injEq, Option.some.injEq, Addr.mk.injEq] at h1
    obtain ⟨⟨rfl, rfl, _⟩, rfl, rfl⟩ := h1
    refine .inr ⟨bl, o + k, d, by simp, h2, by simpa using hd, fun j x hx => ?_⟩
    rw [List.getElem?_drop] at hx
    rw [Nat.add_assoc]
    exact h3 (k + j) x hx

theorem lists_one3 {W : World} {v : Value} {l : List UInt8} {n : Nat} (h : Bytes W v l) (hc : W.cell? ⟨n, 0, none⟩ = some v) (hn : n < W.heap.size) : Lists W (.slice (some ⟨n, 0, none⟩) 1 1) [l] :=
  .inr ⟨n, 0, 1, rfl, hn, Nat.le_refl _, fun j x hx => by
    match j, hx with
    | 0, hx => simp at hx; subst hx; exact ⟨v, hc, h⟩⟩
theorem lists_two3 {W : World} {u v : Value} {k l : List UInt8} {n : Nat} (g : Bytes W u k) (h : Bytes W v l) (hu : W.cell? ⟨n, 0, none⟩ = some u) (hc : W.cell? ⟨n, 1, none⟩ = some v) (hn : n < W.heap.size) : Lists W (.slice (some ⟨n, 0, none⟩) 2 2) [k, l] :=
  .inr ⟨n, 0, 2, rfl, hn, Nat.le_refl _, fun j x hx => by
    match j, hx with
    | 0, hx => simp at hx; subst hx; exact ⟨u, by simpa using hu, g⟩
    | 1, hx => simp at hx; subst hx; exact ⟨v, by simpa using hc, h⟩⟩

theorem Bytes.cap {w : World} {a : Option Addr} {n c : Nat} {l : List UInt8} (h : Bytes w (.slice a n c) l) : l.length ≤ c := by
  rcases h with ⟨rfl, _⟩ | ⟨b, o, c', e1, e2, e3, e4⟩
  · simp
  · simp only [Value.slice.injEq] at e1
    obtain ⟨rfl, rfl, rfl⟩ := e1
    exact e3
/-- What is cut out of a slice reads as the part. -/
theorem Bytes.sliced {w : World} {a : Option Addr} {n c : Nat} {l : List UInt8} (h : Bytes w (.slice a n c) l) {lo hi m : Nat} (h1 : lo ≤ hi) (h2 : hi ≤ l.length) (h3 : hi ≤ m) (h4 : m ≤ c) : Bytes w (Go.sliced a lo hi m 1) ((l.take hi).drop lo) := by
  unfold Go.sliced
  rcases h with ⟨rfl, a', c', e1, e2⟩ | ⟨b, o, c', e1, e2, e3, e4⟩
  · simp only [Value.slice.injEq] at e1
    obtain ⟨rfl, rfl, rfl⟩ := e1
    have : hi = 0 := by simpa using h2
    subst this
    have : lo = 0 := by omega
    subst this
    refine .inl ⟨by simp, _, _, rfl, fun h => ?_⟩
    split at h
    · omega
    · have : a = none := by simpa using h
      have := e2 this
      omega
  · simp only [Value.slice.injEq] at e1
    obtain ⟨rfl, rfl, rfl⟩ := e1
    rcases Nat.eq_or_lt_of_le h1 with rfl | h5
    · refine .inl ⟨by simp, _, _, by rw [Nat.sub_self], fun h => ?_⟩
      split at h <;> simp at h
    · have hlen : ((l.take hi).drop lo).length = hi - lo := by simp; omega
      rw [if_neg (by omega)]
      refine .inr ⟨b, o + lo, m - lo, ?_, e2, by omega, fun j x hx => ?_⟩
      · rw [hlen]
        simp only [Option.map_some, Nat.mul_one, Value.slice.injEq, and_true]
        unfold Addr.add
        by_cases h0 : lo = 0 <;> simp [h0]
      · rw [List.getElem?_drop, List.getElem?_take] at hx
        split at hx
        · have := e4 (lo + j) x hx
          rw [Nat.add_assoc]; exact this
        · cases hx
end Go.Proofs.Ytcedninipbafaaa

namespace Go.Proofs.Ytcedninipbafaaa
open Go.RowKit

/-- The value owns these bytes. -/
def OwnB (w : World) (B : Nat) (v : Value) (l : List UInt8) : Prop := w.ownsRow B 5 1 v l.length (bv l)
theorem OwnB.bytes {w : World} {B : Nat} {v : Value} {l : List UInt8} (h : OwnB w B v l) : Bytes w v l := Bytes.of_own h
theorem OwnB.nil (w : World) (B : Nat) : OwnB w B (.slice none 0 0) [] := World.ownsRow_nil w _ _ _
theorem OwnB.form {w : World} {B : Nat} {v : Value} {l : List UInt8} (h : OwnB w B v l) : ∃ a c, v = .slice a l.length c := (OwnB.bytes h).form
theorem OwnB.alloc {w : World} {B : Nat} {v : Value} {l : List UInt8} (h : OwnB w B v l) (o : Obj) : OwnB (w.alloc o) B v l := World.ownsRow.alloc h o
theorem OwnB.drew {w : World} {B : Nat} {v : Value} {l : List UInt8} (h : OwnB w B v l) : OwnB w.drew B v l := h
theorem info8 : ∃ i0, Try.prog.info? 5 = some i0 ∧ i0.zero = some (.int .u8 0) ∧ i0.size = 1 ∧ i0.bytes = 1 := by
  have hi5 : (Try.prog.info? 5).map (fun i => (i.zero, i.size, i.bytes)) = some (some (.int .u8 0), 1, 1) := by kernel_rfl
  obtain ⟨i0, hi, hx⟩ := Option.map_eq_some_iff.1 hi5
  simp only [Prod.mk.injEq] at hx
  exact ⟨i0, hi, hx.1, hx.2.1, hx.2.2⟩
/-- Behind a call that left what was there: what is owned is still owned. -/
theorem OwnB.later {w w' : World} {B : Nat} {v : Value} {l : List UInt8} (h : OwnB w B v l) (hb : Below w.heap.size w w') : OwnB w' B v l := by
  obtain ⟨hl, h0 | ⟨g, cap, cur, rfl, hb1, hg, hn, hm, hc, ht⟩⟩ := h
  · exact ⟨hl, .inl h0⟩
  · refine ⟨hl, .inr ⟨g, cap, cur, rfl, hb1, ?_, hn, hm, hc, ht⟩⟩
    rw [hb.block g ?_]
    · exact hg
    · rcases Nat.lt_or_ge g w.heap.size with h1 | h1
      · exact h1
      · rw [Array.getElem?_eq_none h1] at hg; cases hg

theorem OwnB.weak {w : World} {B B' : Nat} {v : Value} {l : List UInt8} (h : OwnB w B' v l) (hB : B ≤ B') : OwnB w B v l := by
  obtain ⟨hl, h0 | ⟨g, cap, cur, rfl, hb1, hr⟩⟩ := h
  · exact ⟨hl, .inl h0⟩
  · exact ⟨hl, .inr ⟨g, cap, cur, rfl, Nat.le_trans hB hb1, hr⟩⟩

theorem own_block {w : World} {B : Nat} {e : TypeId} {size n g : Nat} {v : Value} {xs : List Value} (h : w.ownsRow B e size v n xs) (hg : v.ownBlock = some g) : ∃ cur, w.heap[g]? = some (.cells cur e (0, 0)) := by
  rcases h.2 with ⟨rfl, _⟩ | ⟨g', cap, cur, rfl, _, hgg, _⟩
  · simp [Value.ownBlock] at hg
  · simp [Value.ownBlock] at hg; subst hg; exact ⟨_, hgg⟩
theorem grownBy_setCell_at (W : World) (b j : Nat) (v : Value) : W.grownBy (W.setCell ⟨b, j, none⟩ v) (some b) :=
  ⟨rfl, rfl, rfl, by simp, fun k _ hk => Below.heap_setCell _ _ _ k (fun e => hk (by rw [e]))⟩

theorem own_apart {w : World} {B B' : Nat} {e e' : TypeId} {size size' n n' : Nat} {v v' : Value} {xs xs' : List Value} (h : w.ownsRow B e size v n xs) (h' : w.ownsRow B' e' size' v' n' xs') (he : e ≠ e') : v.ownBlock = none ∨ v.ownBlock ≠ v'.ownBlock := by
  cases hv : v.ownBlock with
  | none => exact .inl rfl
  | some g =>
    refine .inr fun e2 => ?_
    obtain ⟨c1, h1⟩ := own_block h hv
    obtain ⟨c2, h2⟩ := own_block h' e2.symm
    rw [h1] at h2
    simp at h2
    exact he h2.2
/-- A slice that was just spelled out is owned. -/
theorem own_spelled (w : World) (B : Nat) (t : TypeId) (xs : List Value) (hB : B ≤ w.heap.size) (hm : xs.length ≤ maxLen) : (w.alloc (.cells xs.toArray t)).ownsRow B t 1 (.slice (some ⟨w.heap.size, 0, none⟩) xs.length xs.length) xs.length xs :=
  ⟨by simp, .inr ⟨w.heap.size, xs.length, xs.toArray, rfl, hB, (by show (w.heap.push _)[w.heap.size]? = _; exact Array.getElem?_push_size), Nat.le_refl _, hm, by simp, by simp⟩⟩

end Go.Proofs.Ytcedninipbafaaa

namespace Go.Proofs.Ytcedninipbafaaa
open Go.RowKit

/-- A block whose cells are these. -/
def BlkAt (t : TypeId) (g : Nat) (cs : List Value) (w : World) : Prop := w.heap[g]? = some (.cells cs.toArray t (0, 0))
section
variable {t : TypeId}
theorem BlkAt.lt {g : Nat} {cs : List Value} {w : World} (h : BlkAt t g cs w) : g < w.heap.size := (Array.getElem?_eq_some_iff.1 h).1
theorem BlkAt.later {g : Nat} {cs : List Value} {w w' : World} (h : BlkAt t g cs w) (hb : Below w.heap.size w w') : BlkAt t g cs w' := (hb.block g h.lt).trans h
theorem BlkAt.new (w : World) (cs : List Value) : BlkAt t w.heap.size cs (w.alloc (.cells cs.toArray t)) := World.alloc_heap_new w _
theorem BlkAt.cell {g : Nat} {cs : List Value} {w : World} (h : BlkAt t g cs w) {j : Nat} {x : Value} (hx : cs[j]? = some x) : w.cell? ⟨g, j, none⟩ = some x := by
  rw [cell_of_row w g j cs.toArray _ (0, 0) h]; simpa using hx
theorem BlkAt.frozen {g : Nat} {cs : List Value} {w : World} (h : BlkAt t g cs w) (j : Nat) : w.frozen? ⟨g, j, none⟩ = false := by
  unfold World.frozen?; simp [show w.heap[g]? = _ from h]
theorem BlkAt.set {g : Nat} {cs : List Value} {w : World} (h : BlkAt t g cs w) (j : Nat) (x : Value) : BlkAt t g (cs.set j x) (w.setCell ⟨g, j, none⟩ x) := by
  have hl := h.lt
  have hk : w.heap[g] = .cells cs.toArray t (0, 0) := (Array.getElem?_eq_some_iff.1 h).2
  show (w.heap.modify g _)[g]? = _
  rw [Array.getElem?_eq_getElem (by rw [Array.size_modify]; exact hl), Array.getElem_modify_self, hk]
  simp
theorem BlkAt.other {g b : Nat} {cs : List Value} {w : World} (h : BlkAt t g cs w) (hne : g ≠ b) (j : Nat) (x : Value) : BlkAt t g cs (w.setCell ⟨b, j, none⟩ x) := by
  show (w.setCell ⟨b, j, none⟩ x).heap[g]? = _
  rw [Below.heap_setCell _ _ _ _ (by simpa using hne)]; exact h
theorem BlkAt.range {g : Nat} {cs : List Value} {w : World} (h : BlkAt t g cs w) : w.rangeAt g 0 cs := fun j v hv => by rw [Nat.zero_add]; exact h.cell hv
end
end Go.Proofs.Ytcedninipbafaaa

namespace Go.Proofs.Ytcedninipbafaaa
open Go.RowKit

section
variable {t : TypeId}
theorem BlkAt.ne_own {g : Nat} {cs : List Value} {w : World} (h : BlkAt t g cs w) (ht : t ≠ 5) {B : Nat} {v : Value} {l : List UInt8} (ho : OwnB w B v l) {b : Nat} (hv : v.ownBlock = some b) : b ≠ g := by
  intro e
  obtain ⟨cur, hc⟩ := own_block ho hv
  subst e
  have h2 : w.heap[b]? = _ := h
  rw [hc] at h2
  simp only [Option.some.injEq, Obj.cells.injEq] at h2
  exact ht h2.2.1.symm
theorem BlkAt.own {g : Nat} {cs : List Value} {w : World} (h : BlkAt t g cs w) (ht : t ≠ 5) (j : Nat) (x : Value) {B : Nat} {v : Value} {l : List UInt8} (ho : OwnB w B v l) : OwnB (w.setCell ⟨g, j, none⟩ x) B v l := by
  refine World.ownsRow.kept ho (grownBy_setCell_at w g j x) ?_
  cases hv : v.ownBlock with
  | none => exact .inl rfl
  | some b => exact .inr fun e => BlkAt.ne_own h ht ho hv (Option.some.inj e)
/-- The same, with the block above a world. -/
def BlkG (t : TypeId) (w0 : World) (g : Nat) (cs : List Value) (w : World) : Prop := BlkAt t g cs w ∧ w0.heap.size ≤ g
theorem BlkG.later {w0 : World} {g : Nat} {cs : List Value} {w w' : World} (h : BlkG t w0 g cs w) (hb : Below w.heap.size w w') : BlkG t w0 g cs w' := ⟨h.1.later hb, h.2⟩
/-- Three stores into such a block. -/
theorem BlkAt.set3 {g : Nat} {w : World} {c0 c1 c2 : Value} (h : BlkAt t g [c0, c1, c2] w) (x0 x1 x2 : Value) :
    BlkAt t g [x0, x1, x2] (((w.setCell ⟨g, 0, none⟩ x0).setCell ⟨g, 1, none⟩ x1).setCell ⟨g, 2, none⟩ x2) ∧ (∀ B, B ≤ g → Below B w (((w.setCell ⟨g, 0, none⟩ x0).setCell ⟨g, 1, none⟩ x1).setCell ⟨g, 2, none⟩ x2)) :=
  ⟨((h.set 0 x0).set 1 x1).set 2 x2, fun B hB => (((Below.refl _ _).setCell (p := ⟨g, 0, none⟩) hB x0).setCell (p := ⟨g, 1, none⟩) hB x1).setCell (p := ⟨g, 2, none⟩) hB x2⟩
/-- Seven stores into such a block. -/
theorem BlkAt.set7 {g : Nat} {w : World} {c0 c1 c2 c3 c4 c5 c6 : Value} (ht : t ≠ 5) (h : BlkAt t g [c0, c1, c2, c3, c4, c5, c6] w) (x0 x1 x2 x3 x4 x5 x6 : Value) :
    BlkAt t g [x0, x1, x2, x3, x4, x5, x6] (((((((w.setCell ⟨g, 0, none⟩ x0).setCell ⟨g, 1, none⟩ x1).setCell ⟨g, 2, none⟩ x2).setCell ⟨g, 3, none⟩ x3).setCell ⟨g, 4, none⟩ x4).setCell ⟨g, 5, none⟩ x5).setCell ⟨g, 6, none⟩ x6) ∧ (∀ B v l, OwnB w B v l → OwnB (((((((w.setCell ⟨g, 0, none⟩ x0).setCell ⟨g, 1, none⟩ x1).setCell ⟨g, 2, none⟩ x2).setCell ⟨g, 3, none⟩ x3).setCell ⟨g, 4, none⟩ x4).setCell ⟨g, 5, none⟩ x5).setCell ⟨g, 6, none⟩ x6) B v l) ∧ (∀ B, B ≤ g → Below B w (((((((w.setCell ⟨g, 0, none⟩ x0).setCell ⟨g, 1, none⟩ x1).setCell ⟨g, 2, none⟩ x2).setCell ⟨g, 3, none⟩ x3).setCell ⟨g, 4, none⟩ x4).setCell ⟨g, 5, none⟩ x5).setCell ⟨g, 6, none⟩ x6)) := by
  have h1 := BlkAt.set h 0 x0
  have h2 := BlkAt.set h1 1 x1
  have h3 := BlkAt.set h2 2 x2
  have h4 := BlkAt.set h3 3 x3
  have h5 := BlkAt.set h4 4 x4
  have h6 := BlkAt.set h5 5 x5
  have h7 := BlkAt.set h6 6 x6
  exact ⟨h7, fun B v l ho => (BlkAt.own h6 ht 6 x6 (BlkAt.own h5 ht 5 x5 (BlkAt.own h4 ht 4 x4 (BlkAt.own h3 ht 3 x3 (BlkAt.own h2 ht 2 x2 (BlkAt.own h1 ht 1 x1 (BlkAt.own h ht 0 x0 ho))))))), fun B hB => ((((((((Below.refl _ _).setCell (p := ⟨g, 0, none⟩) hB x0).setCell (p := ⟨g, 1, none⟩) hB x1).setCell (p := ⟨g, 2, none⟩) hB x2).setCell (p := ⟨g, 3, none⟩) hB x3).setCell (p := ⟨g, 4, none⟩) hB x4).setCell (p := ⟨g, 5, none⟩) hB x5).setCell (p := ⟨g, 6, none⟩) hB x6)⟩
end
end Go.Proofs.Ytcedninipbafaaa

namespace Go.Proofs.Ytcedninipbafaaa
open Go.RowKit

/-- All but these blocks stands as it was. -/
structure Chg (l : List Nat) (w w' : World) : Prop where
  low : Below 0 w w'
  rest : ∀ b, b < w.heap.size → b ∉ l → w'.heap[b]? = w.heap[b]?
theorem Chg.refl (l : List Nat) (w : World) : Chg l w w := ⟨Below.refl _ _, fun _ _ _ => rfl⟩
theorem Chg.size {l : List Nat} {w w' : World} (h : Chg l w w') : w.heap.size ≤ w'.heap.size := h.low.size
theorem Chg.trans {l : List Nat} {w w' w'' : World} (h : Chg l w w') (h' : Chg l w' w'') : Chg l w w'' :=
  ⟨h.low.trans h'.low, fun b hb hn => (h'.rest b (Nat.lt_of_lt_of_le hb h.size) hn).trans (h.rest b hb hn)⟩
theorem Chg.mono {l l' : List Nat} {w w' : World} (h : Chg l w w') (hl : ∀ b ∈ l, b ∈ l') : Chg l' w w' := ⟨h.low, fun b hb hn => h.rest b hb (fun h2 => hn (hl b h2))⟩
theorem Chg.of_below {w w' : World} (l : List Nat) (h : Below w.heap.size w w') : Chg l w w' := ⟨h.mono (Nat.zero_le _), fun b hb _ => h.block b hb⟩
theorem Chg.below {l : List Nat} {w w' : World} (h : Chg l w w') {B : Nat} (hB : B ≤ w.heap.size) (hl : ∀ b ∈ l, B ≤ b) : Below B w w' :=
  ⟨h.low.os, h.low.tape, h.low.output, h.low.size, fun b hb => h.rest b (by omega) (fun h2 => by have := hl b h2; omega)⟩
theorem Chg.set {l : List Nat} {w w' : World} (h : Chg l w w') {b : Nat} (hb : b ∈ l) (j : Nat) (x : Value) : Chg l w (w'.setCell ⟨b, j, none⟩ x) :=
  h.trans ⟨(Below.refl _ _).setCell (Nat.zero_le _) _, fun k _ hk => Below.heap_setCell _ _ _ _ (fun e => hk (by rw [e]; exact hb))⟩
theorem Chg.alloc {l : List Nat} {w w' : World} (h : Chg l w w') (o : Obj) : Chg l w (w'.alloc o) := h.trans (Chg.of_below _ ((Below.refl _ _).alloc (Nat.le_refl _) o))
theorem Chg.drew {l : List Nat} {w w' : World} (h : Chg l w w') : Chg l w w'.drew := ⟨h.low.drew, h.rest⟩
theorem Chg.blk {l : List Nat} {w w' : World} (hm : Chg l w w') {t : TypeId} {g : Nat} {cs : List Value} (h : BlkAt t g cs w) (hg : g ∉ l) : BlkAt t g cs w' := (hm.rest g h.lt hg).trans h
theorem Chg.heap {l : List Nat} {w w' : World} (hm : Chg l w w') {g : Nat} {o : Obj} (h : w.heap[g]? = some o) (hg : g ∉ l) : w'.heap[g]? = some o := (hm.rest g (Array.getElem?_eq_some_iff.1 h).1 hg).trans h
theorem Chg.owns {l : List Nat} {w w' : World} (hm : Chg l w w') {B : Nat} {e : TypeId} {size n : Nat} {v : Value} {xs : List Value} (h : w.ownsRow B e size v n xs) (hg : ∀ g, v.ownBlock = some g → g ∉ l) : w'.ownsRow B e size v n xs := by
  obtain ⟨hl, h0 | ⟨g, cap, cur, rfl, hb1, h2, hr⟩⟩ := h
  · exact ⟨hl, .inl h0⟩
  · exact ⟨hl, .inr ⟨g, cap, cur, rfl, hb1, hm.heap h2 (hg g rfl), hr⟩⟩
theorem Chg.cell {l : List Nat} {w w' : World} (hm : Chg l w w') {a : Addr} {u : Value} (h : w.cell? a = some u) (hg : a.block ∉ l) : w'.cell? a = some u := by
  rw [World.cell?_of_block (hm.rest a.block (World.block_lt_of_cell? _ _ h) hg)]; exact h
end Go.Proofs.Ytcedninipbafaaa

namespace Go.Proofs.Ytcedninipbafaaa
open Go.RowKit
theorem wpAnyH_cut {P : Program} {md : Region.Mode} {ops : Array Oper} {Q : Exit → Act → World → Prop} {S : World → Prop} {fuel : Nat} {listed : Array Bool} {a : Act} {w : World}
    (m : Array Bool) (fm : Nat) (I : Act → World → Prop)
    (tail : ∀ (l : Array Bool) (A : Act) (w1 : World), l = m → I A w1 → S w1 → wpAnyH P md ops Q S fm l A w1)
    (main : (∀ (l : Array Bool) (A : Act) (w1 : World), l = m → I A w1 → S w1 → wpAnyH P md ops Q S fm l A w1) → wpAnyH P md ops Q S fuel listed a w) : wpAnyH P md ops Q S fuel listed a w := main tail
/-- A region, cut behind it: what its walk leaves is said once. -/
theorem wp_region_fin {P : Program} {Q : Exit → Act → World → Prop} {S : World → Prop} {id : Nat} {ops : Array Oper} {a : Act} {w : World} (I : Act → World → Prop) (hm : P.follows .mixedOrders = true) (hS : S w.drew) (h1 : ∀ A w3, I A w3 → Q .normal A w3)
    (h : (∀ A w3, I A w3 → Q .normal A w3) → S w.drew → wpAnyH P .any ops Q S ops.size (Array.replicate ops.size false) a w.drew) : (Code.region id ops true).wp P Q a w :=
  wp_region_held_drew hm hS (h h1)
/-- A region under a promise that holds more. -/
theorem wpAnyH_str {P : Program} {md : Region.Mode} {ops : Array Oper} {Q : Exit → Act → World → Prop} {S S' : World → Prop} (h : ∀ w, S' w → S w) : ∀ (fuel : Nat) (listed : Array Bool) (a : Act) (w : World), wpAnyH P md ops Q S' fuel listed a w → wpAnyH P md ops Q S fuel listed a w
  | 0, _, _, _, H => H
  | fuel + 1, _, _, _, H => ⟨H.1, fun i hi => wpOp_mono (fun a' w' h' => ⟨h _ h'.1, wpAnyH_str h fuel _ a' w' h'.2⟩) (H.2 i hi)⟩
/-- The list of what is done, spelled out. -/
theorem wpAnyH_at {P : Program} {md : Region.Mode} {ops : Array Oper} {Q : Exit → Act → World → Prop} {S : World → Prop} {fuel : Nat} {listed : Array Bool} {a : Act} {w : World} {m : Array Bool} (e : listed = m) (h : wpAnyH P md ops Q S fuel m a w) : wpAnyH P md ops Q S fuel listed a w := e ▸ h
end Go.Proofs.Ytcedninipbafaaa

namespace Go.Proofs.Ytcedninipbafaaa
open Go.RowKit
attribute [local go_sem ↓] Go.wp_at_zero Go.wp_at_succ

/-- A view: the state, its own tag, the neighbour's, who that is. -/
structure Vw where
  st : Int
  mb : Int
  mt : Int
  tb : Int
  tt : Int
  n : Int
/-- The program's adjacency. -/
structure Ad where
  node : Int
  every : Int
  dead : Int
  said : Int
  sil : Int
  v : Vw
/-- The reference's. -/
structure Rf where
  node : Int
  every : Int
  dead : Int
  v : Vw
  ss : Int
  said : Bool
  sil : Int
/-- A hello. -/
structure Hl where
  n : Int
  mb : Int
  mt : Int
  hb : Int
  ht : Int
def PA (p : Nat) (a : Ad) (w : World) : Prop := BlkAt 59 p [.int .i64 a.node, .int .i64 a.every, .int .i64 a.dead, .int .i64 a.said, .int .i64 a.sil, .int .i64 a.v.st, .int .u64 a.v.mb, .int .u64 a.v.mt, .int .u64 a.v.tb, .int .u64 a.v.tt, .int .i64 a.v.n] w
def RA (p : Nat) (r : Rf) (w : World) : Prop := BlkAt 44 p [.int .i64 r.node, .int .i64 r.every, .int .i64 r.dead, .int .i64 r.v.st, .int .u64 r.v.mb, .int .u64 r.v.mt, .int .u64 r.v.tb, .int .u64 r.v.tt, .int .i64 r.v.n, .int .i64 r.ss, .bool r.said, .int .i64 r.sil] w
theorem PA.cells {p : Nat} {a : Ad} {w : World} (h : PA p a w) : w.cell? ⟨p, 0, none⟩ = some (.int .i64 a.node) ∧ w.cell? ⟨p, 1, none⟩ = some (.int .i64 a.every) ∧ w.cell? ⟨p, 2, none⟩ = some (.int .i64 a.dead) ∧ w.cell? ⟨p, 3, none⟩ = some (.int .i64 a.said) ∧ w.cell? ⟨p, 4, none⟩ = some (.int .i64 a.sil) ∧ w.cell? ⟨p, 5, none⟩ = some (.int .i64 a.v.st) ∧ w.cell? ⟨p, 6, none⟩ = some (.int .u64 a.v.mb) ∧ w.cell? ⟨p, 7, none⟩ = some (.int .u64 a.v.mt) ∧ w.cell? ⟨p, 8, none⟩ = some (.int .u64 a.v.tb) ∧ w.cell? ⟨p, 9, none⟩ = some (.int .u64 a.v.tt) ∧ w.cell? ⟨p, 10, none⟩ = some (.int .i64 a.v.n) :=
  ⟨BlkAt.cell h (j := 0) rfl, BlkAt.cell h (j := 1) rfl, BlkAt.cell h (j := 2) rfl, BlkAt.cell h (j := 3) rfl, BlkAt.cell h (j := 4) rfl, BlkAt.cell h (j := 5) rfl, BlkAt.cell h (j := 6) rfl, BlkAt.cell h (j := 7) rfl, BlkAt.cell h (j := 8) rfl, BlkAt.cell h (j := 9) rfl, BlkAt.cell h (j := 10) rfl⟩
theorem RA.cells {p : Nat} {a : Rf} {w : World} (h : RA p a w) : w.cell? ⟨p, 0, none⟩ = some (.int .i64 a.node) ∧ w.cell? ⟨p, 1, none⟩ = some (.int .i64 a.every) ∧ w.cell? ⟨p, 2, none⟩ = some (.int .i64 a.dead) ∧ w.cell? ⟨p, 3, none⟩ = some (.int .i64 a.v.st) ∧ w.cell? ⟨p, 4, none⟩ = some (.int .u64 a.v.mb) ∧ w.cell? ⟨p, 5, none⟩ = some (.int .u64 a.v.mt) ∧ w.cell? ⟨p, 6, none⟩ = some (.int .u64 a.v.tb) ∧ w.cell? ⟨p, 7, none⟩ = some (.int .u64 a.v.tt) ∧ w.cell? ⟨p, 8, none⟩ = some (.int .i64 a.v.n) ∧ w.cell? ⟨p, 9, none⟩ = some (.int .i64 a.ss) ∧ w.cell? ⟨p, 10, none⟩ = some (.bool a.said) ∧ w.cell? ⟨p, 11, none⟩ = some (.int .i64 a.sil) :=
  ⟨BlkAt.cell h (j := 0) rfl, BlkAt.cell h (j := 1) rfl, BlkAt.cell h (j := 2) rfl, BlkAt.cell h (j := 3) rfl, BlkAt.cell h (j := 4) rfl, BlkAt.cell h (j := 5) rfl, BlkAt.cell h (j := 6) rfl, BlkAt.cell h (j := 7) rfl, BlkAt.cell h (j := 8) rfl, BlkAt.cell h (j := 9) rfl, BlkAt.cell h (j := 10) rfl, BlkAt.cell h (j := 11) rfl⟩
theorem PA.lt {p : Nat} {a : Ad} {w : World} (h : PA p a w) : p < w.heap.size := BlkAt.lt h
theorem RA.lt {p : Nat} {a : Rf} {w : World} (h : RA p a w) : p < w.heap.size := BlkAt.lt h
theorem PA.later {p : Nat} {a : Ad} {w w' : World} (h : PA p a w) (hb : Below w.heap.size w w') : PA p a w' := BlkAt.later h hb
theorem RA.later {p : Nat} {a : Rf} {w w' : World} (h : RA p a w) (hb : Below w.heap.size w w') : RA p a w' := BlkAt.later h hb
theorem PA.chg {p : Nat} {a : Ad} {w w' : World} (h : PA p a w) {l : List Nat} (hm : Chg l w w') (hp : p ∉ l) : PA p a w' := hm.blk h hp
theorem RA.chg {p : Nat} {a : Rf} {w w' : World} (h : RA p a w) {l : List Nat} (hm : Chg l w w') (hp : p ∉ l) : RA p a w' := hm.blk h hp

/-- Two tags held against each other; two views. -/
def sameTI (a b c d : Int) : Bool := decide (a = c ∧ b = d)
def sameVI (s a b c d n s' a' b' c' d' n' : Int) : Bool := decide (s = s' ∧ a = a' ∧ b = b' ∧ c = c' ∧ d = d' ∧ n = n')
theorem sameTI_iff {a b c d : Int} : sameTI a b c d = true ↔ a = c ∧ b = d := by simp [sameTI]
theorem sameTI_no {a b c d : Int} (h : ¬ (a = c ∧ b = d)) : sameTI a b c d = false := decide_eq_false h
theorem sameVI_iff {s a b c d n s' a' b' c' d' n' : Int} : sameVI s a b c d n s' a' b' c' d' n' = true ↔ s = s' ∧ a = a' ∧ b = b' ∧ c = c' ∧ d = d' ∧ n = n' := by simp [sameVI]
def sameVw (v u : Vw) : Bool := sameVI v.st v.mb v.mt v.tb v.tt v.n u.st u.mb u.mt u.tb u.tt u.n
theorem sameVw_iff {v u : Vw} : sameVw v u = true ↔ v = u := by
  unfold sameVw
  rw [sameVI_iff]
  constructor
  · rintro ⟨h1, h2, h3, h4, h5, h6⟩
    cases v; cases u; simp only at h1 h2 h3 h4 h5 h6; subst h1 h2 h3 h4 h5 h6; rfl
  · rintro rfl; exact ⟨rfl, rfl, rfl, rfl, rfl, rfl⟩
theorem eqTI (a b c d : Int) (W : World) : (binOp .eql 25 (.agg #[.int .u64 a, .int .u64 b]) (.agg #[.int .u64 c, .int .u64 d])).run Try.prog W = .ok (.bool (sameTI a b c d)) W := by
  simp [go_sem, sameTI]
  by_cases h1 : a = c <;> by_cases h2 : b = d <;> simp [h1, h2]
theorem neTI (a b c d : Int) (W : World) : (binOp .neq 25 (.agg #[.int .u64 a, .int .u64 b]) (.agg #[.int .u64 c, .int .u64 d])).run Try.prog W = .ok (.bool (!sameTI a b c d)) W := by
  simp [go_sem, sameTI]
  by_cases h1 : a = c <;> by_cases h2 : b = d <;> simp [h1, h2]
theorem eqVI (s a b c d n s' a' b' c' d' n' : Int) (W : World) : (binOp .eql 40 (.agg #[.int .i64 s, .int .u64 a, .int .u64 b, .int .u64 c, .int .u64 d, .int .i64 n]) (.agg #[.int .i64 s', .int .u64 a', .int .u64 b', .int .u64 c', .int .u64 d', .int .i64 n'])).run Try.prog W = .ok (.bool (sameVI s a b c d n s' a' b' c' d' n')) W := by
  simp [go_sem, sameVI]
  by_cases h1 : s = s' <;> by_cases h2 : a = a' <;> by_cases h3 : b = b' <;> by_cases h4 : c = c' <;> by_cases h5 : d = d' <;> by_cases h6 : n = n' <;> simp [h1, h2, h3, h4, h5, h6]
theorem neVI (s a b c d n s' a' b' c' d' n' : Int) (W : World) : (binOp .neq 40 (.agg #[.int .i64 s, .int .u64 a, .int .u64 b, .int .u64 c, .int .u64 d, .int .i64 n]) (.agg #[.int .i64 s', .int .u64 a', .int .u64 b', .int .u64 c', .int .u64 d', .int .i64 n'])).run Try.prog W = .ok (.bool (!sameVI s a b c d n s' a' b' c' d' n')) W := by
  simp [go_sem, sameVI]
  by_cases h1 : s = s' <;> by_cases h2 : a = a' <;> by_cases h3 : b = b' <;> by_cases h4 : c = c' <;> by_cases h5 : d = d' <;> by_cases h6 : n = n' <;> simp [h1, h2, h3, h4, h5, h6]
attribute [local go_sem ↓ high] eqTI neTI eqVI neVI

theorem noneA {p : Nat} {a : Ad} {w : World} (h : PA p a w) (hn : a.node ≠ 0) : Calls Try.prog 24 #[.pointer (some ⟨p, 0, none⟩)] w fun e w' => e = .returned (.bool false) ∧ w = w' := by
  obtain ⟨c0, _⟩ := h.cells
  have t : (a.node == 0) = false := beq_eq_false_iff_ne.2 hn
  clear h hn
  go_enter Try.func24, Try.ntmps24
  go_wp2_with fail
  go_ret
  exact ⟨rfl, rfl⟩
theorem noneZ {p : Nat} {a : Ad} {w : World} (h : PA p a w) (hn : a.node = 0) : Calls Try.prog 24 #[.pointer (some ⟨p, 0, none⟩)] w fun e w' => e = .returned (.bool true) ∧ w = w' := by
  obtain ⟨c0, _⟩ := h.cells
  have t : (a.node == 0) = true := beq_iff_eq.2 hn
  clear h hn
  go_enter Try.func24, Try.ntmps24
  go_wp2_with fail
  go_ret
  exact ⟨rfl, rfl⟩
theorem noneN (w : World) : Calls Try.prog 24 #[.pointer none] w fun e w' => e = .returned (.bool true) ∧ w = w' := by
  go_enter Try.func24, Try.ntmps24
  go_wp2_with fail
  go_ret
  exact ⟨rfl, rfl⟩
def inI (a n b : Int) : Bool := decide (a ≤ n ∧ n ≤ b)
theorem nodeW (n : Int) (w : World) : Calls Try.prog 18 #[.int .i64 n] w fun e w' => e = .returned (.bool (inI 1 n 16)) ∧ w = w' := by
  by_cases h : 1 ≤ n
  · by_cases h2 : n ≤ 16
    · have t1 : decide (1 ≤ n) = true := decide_eq_true h
      have t2 : decide (n ≤ 16) = true := decide_eq_true h2
      have e : inI 1 n 16 = true := decide_eq_true ⟨h, h2⟩
      rw [e]
      clear h h2 e
      go_enter Try.func18, Try.ntmps18
      go_wp2_with fail
      go_ret
      exact ⟨rfl, rfl⟩
    · have t1 : decide (1 ≤ n) = true := decide_eq_true h
      have t2 : decide (n ≤ 16) = false := decide_eq_false h2
      have e : inI 1 n 16 = false := decide_eq_false (fun q => h2 q.2)
      rw [e]
      clear h h2 e
      go_enter Try.func18, Try.ntmps18
      go_wp2_with fail
      go_ret
      exact ⟨rfl, rfl⟩
  · have t1 : decide (1 ≤ n) = false := decide_eq_false h
    have e : inI 1 n 16 = false := decide_eq_false (fun q => h q.1)
    rw [e]
    clear h e
    go_enter Try.func18, Try.ntmps18
    go_wp2_with fail
    go_ret
    exact ⟨rfl, rfl⟩
theorem ticksW (n : Int) (w : World) (h : 1 ≤ n) (h2 : n ≤ 100) : Calls Try.prog 19 #[.int .i64 n] w fun e w' => e = .returned (.bool true) ∧ w = w' := by
  have t1 : decide (1 ≤ n) = true := decide_eq_true h
  have t2 : decide (n ≤ 100) = true := decide_eq_true h2
  clear h h2
  go_enter Try.func19, Try.ntmps19
  go_wp2_with fail
  go_ret
  exact ⟨rfl, rfl⟩
/-- May a hello be? -/
def mayHl (h : Hl) : Bool := inI 1 h.n 16 && (!decide (h.mb = 0) && !decide (h.mt = 0))
def eldI (a b c d : Int) : Bool := decide (a < c ∨ a = c ∧ b < d)
set_option maxHeartbeats 1000000 in
theorem helloW (h : Hl) (w : World) : Calls Try.prog 25 #[.agg #[.int .i64 h.n, .int .u64 h.mb, .int .u64 h.mt, .int .u64 h.hb, .int .u64 h.ht]] w fun e w' => e = .returned (.bool (mayHl h)) ∧ Below w.heap.size w w' := by
  have HB : Hid (Below w.heap.size w (w.alloc (.cells #[.int .i64 h.n, .int .u64 h.mb, .int .u64 h.mt, .int .u64 h.hb, .int .u64 h.ht] 35))) := (Below.refl _ _).alloc (Nat.le_refl _) _
  have HN := fun W => nodeW h.n W
  cases e : inI 1 h.n 16 with
  | false =>
    have HE : Hid (mayHl h = false) := by
      have : mayHl h = false := by unfold mayHl; rw [e]; rfl
      exact this
    rw [HE.out]
    rw [e] at HN
    have HN2 := Lib.hid HN
    clear e HE HN
    go_enter Try.func25, Try.ntmps25
    go_wp2_with fail
    refine (HN2.out _).mono ?_
    rintro e w1 ⟨rfl, rfl⟩
    go_wp2_with fail
    go_ret
    exact ⟨rfl, HB.out⟩
  | true =>
    have HE : Hid (mayHl h = (!decide (h.mb = 0) && !decide (h.mt = 0))) := by
      have : mayHl h = (!decide (h.mb = 0) && !decide (h.mt = 0)) := by unfold mayHl; rw [e]; rfl
      exact this
    rw [HE.out]
    rw [e] at HN
    have HN2 := Lib.hid HN
    clear e HE HN
    by_cases h1 : h.mb = 0
    · have t1 : (h.mb != 0) = false := by simp [h1]
      rw [decide_eq_true h1]
      clear h1
      go_enter Try.func25, Try.ntmps25
      go_wp2_with fail
      refine (HN2.out _).mono ?_
      rintro e w1 ⟨rfl, rfl⟩
      go_wp2_with fail
      go_ret
      exact ⟨rfl, HB.out⟩
    · have t1 : (h.mb != 0) = true := by simp [h1]
      rw [decide_eq_false h1]
      clear h1
      go_enter Try.func25, Try.ntmps25
      go_wp2_with fail
      refine (HN2.out _).mono ?_
      rintro e w1 ⟨rfl, rfl⟩
      go_wp2_with fail
      go_ret
      exact ⟨ret_b (by by_cases q : h.mt = 0 <;> simp [q]), HB.out⟩
theorem zeroW (a b : Int) (w : World) : Calls Try.prog 32 #[.agg #[.int .u64 a, .int .u64 b]] w fun e w' => e = .returned (.bool (sameTI a b 0 0)) ∧ Below w.heap.size w w' := by
  go_enter Try.func32, Try.ntmps32
  go_wp2_with fail
  go_ret
  exact ⟨rfl, by go_grown⟩
theorem elderW (a b c d : Int) (w : World) : Calls Try.prog 31 #[.agg #[.int .u64 a, .int .u64 b], .agg #[.int .u64 c, .int .u64 d]] w fun e w' => e = .returned (.bool (eldI a b c d)) ∧ Below w.heap.size w w' := by
  by_cases h1 : a < c
  · have t1 : decide (a < c) = true := decide_eq_true h1
    have e : eldI a b c d = true := decide_eq_true (.inl h1)
    rw [e]
    clear h1 e
    go_enter Try.func31, Try.ntmps31
    go_wp2_with fail
    go_ret
    exact ⟨rfl, by go_grown⟩
  · have t1 : decide (a < c) = false := decide_eq_false h1
    by_cases h2 : a = c
    · have t2 : (a == c) = true := beq_iff_eq.2 h2
      have e : eldI a b c d = decide (b < d) := by unfold eldI; rw [decide_eq_decide]; exact ⟨fun q => by rcases q with q | q; exact absurd q h1; exact q.2, fun q => .inr ⟨h2, q⟩⟩
      rw [e]
      clear h1 h2 e
      go_enter Try.func31, Try.ntmps31
      go_wp2_with fail
      go_ret
      exact ⟨rfl, by go_grown⟩
    · have t2 : (a == c) = false := beq_eq_false_iff_ne.2 h2
      have e : eldI a b c d = false := decide_eq_false (by omega)
      rw [e]
      clear h1 h2 e
      go_enter Try.func31, Try.ntmps31
      go_wp2_with fail
      go_ret
      exact ⟨rfl, by go_grown⟩
/-- What came of a step. -/
def cameI (v u : Vw) : Int := if sameVw v u = true then 0 else if u.st = 2 then 1 else if v.st = 2 then 2 else 0
theorem cameW (v u : Vw) (w : World) : Calls Try.prog 27 #[.agg #[.int .i64 v.st, .int .u64 v.mb, .int .u64 v.mt, .int .u64 v.tb, .int .u64 v.tt, .int .i64 v.n], .agg #[.int .i64 u.st, .int .u64 u.mb, .int .u64 u.mt, .int .u64 u.tb, .int .u64 u.tt, .int .i64 u.n]] w fun e w' => e = .returned (.int .i64 (cameI v u)) ∧ Below w.heap.size w w' := by
  by_cases h : sameVw v u = true
  · have e : cameI v u = 0 := if_pos h
    rw [e]
    unfold sameVw at h
    clear e
    go_enter Try.func27, Try.ntmps27
    go_wp2_with fail
    go_ret
    exact ⟨rfl, by go_grown⟩
  · by_cases h2 : u.st = 2
    · have e : cameI v u = 1 := by unfold cameI; rw [if_neg h, if_pos h2]
      rw [e]
      have t2 : (u.st == 2) = true := beq_iff_eq.2 h2
      have h := Bool.eq_false_iff.2 h
      unfold sameVw at h
      clear e h2
      go_enter Try.func27, Try.ntmps27
      go_wp2_with fail
      go_ret
      exact ⟨rfl, by go_grown⟩
    · by_cases h3 : v.st = 2
      · have e : cameI v u = 2 := by unfold cameI; rw [if_neg h, if_neg h2, if_pos h3]
        rw [e]
        have t2 : (u.st == 2) = false := beq_eq_false_iff_ne.2 h2
        have t3 : (v.st == 2) = true := beq_iff_eq.2 h3
        have h := Bool.eq_false_iff.2 h
        unfold sameVw at h
        clear e h2 h3
        go_enter Try.func27, Try.ntmps27
        go_wp2_with fail
        go_ret
        exact ⟨rfl, by go_grown⟩
      · have e : cameI v u = 0 := by unfold cameI; rw [if_neg h, if_neg h2, if_neg h3]
        rw [e]
        have t2 : (u.st == 2) = false := beq_eq_false_iff_ne.2 h2
        have t3 : (v.st == 2) = false := beq_eq_false_iff_ne.2 h3
        have h := Bool.eq_false_iff.2 h
        unfold sameVw at h
        clear e h2 h3
        go_enter Try.func27, Try.ntmps27
        go_wp2_with fail
        go_ret
        exact ⟨rfl, by go_grown⟩
end Go.Proofs.Ytcedninipbafaaa

namespace Go.Proofs.Ytcedninipbafaaa
open Go.RowKit
attribute [local go_sem ↓] Go.wp_at_zero Go.wp_at_succ
attribute [local go_sem ↓ high] eqTI neTI eqVI neVI

theorem PA.dr {p : Nat} {a : Ad} {w : World} (h : PA p a w) (n : Nat) : PA p a (w.drewN n) := h
theorem PA.setSaid {p : Nat} {a : Ad} {w : World} (h : PA p a w) {s : Int} : PA p ⟨a.node, a.every, a.dead, s, a.sil, a.v⟩ (w.setCell ⟨p, 3, none⟩ (.int .i64 s)) := BlkAt.set h 3 _
theorem PA.setSil {p : Nat} {a : Ad} {w : World} (h : PA p a w) {s : Int} : PA p ⟨a.node, a.every, a.dead, a.said, s, a.v⟩ (w.setCell ⟨p, 4, none⟩ (.int .i64 s)) := BlkAt.set h 4 _
theorem RA.dr {p : Nat} {a : Rf} {w : World} (h : RA p a w) (n : Nat) : RA p a (w.drewN n) := h
theorem Chg.dr {l : List Nat} {w w' : World} (h : Chg l w w') (n : Nat) : Chg l w (w'.drewN n) := ⟨below_drewN h.low _, h.rest⟩
theorem Chg.onA {w0 w w' : World} {l : List Nat} (hB : Below w0.heap.size w0 w) (h : Chg l w w') (hl : ∀ b ∈ l, w0.heap.size ≤ b) : Below w0.heap.size w0 w' := hB.trans (h.below hB.size hl)
/-- One cell told as a named result, alone, and with a value. -/
theorem results_c1 {fn : Func} {p : Tmp} {ty : TypeId} (h : fn.results = #[.cell p ty]) {tmps : Array Value} {P : Program} {w : World} {g : Nat} {v : Value}
    (hp : tmps.getD p undef = .pointer (some ⟨g, 0, none⟩)) (hg : (loadVar ty ⟨g, 0, none⟩).run P w = .ok v w) : (results fn tmps).run P w = .ok v w := by
  have hp' : tmps[p]?.getD undef = .pointer (some ⟨g, 0, none⟩) := by simpa using hp
  simp [results, h, hp', asAddr, hg, Result.andThen]
theorem results_ct {fn : Func} {p u : Tmp} {ty : TypeId} (h : fn.results = #[.cell p ty, .tmp u]) {tmps : Array Value} {P : Program} {w : World} {g : Nat} {v x : Value}
    (hp : tmps.getD p undef = .pointer (some ⟨g, 0, none⟩)) (hg : (loadVar ty ⟨g, 0, none⟩).run P w = .ok v w) (hu : tmps.getD u undef = x) : (results fn tmps).run P w = .ok (.tuple #[v, x]) w := by
  have hp' : tmps[p]?.getD undef = .pointer (some ⟨g, 0, none⟩) := by simpa using hp
  have hu' : tmps[u]?.getD undef = x := by simpa using hu
  simp [results, h, hp', hu', asAddr, hg, Result.andThen]
theorem load_V {b : Nat} {v : Vw} {w : World} (h : BlkAt 40 b [.int .i64 v.st, .int .u64 v.mb, .int .u64 v.mt, .int .u64 v.tb, .int .u64 v.tt, .int .i64 v.n] w) : (loadVar 40 ⟨b, 0, none⟩).run Try.prog w = .ok (.agg #[.int .i64 v.st, .int .u64 v.mb, .int .u64 v.mt, .int .u64 v.tb, .int .u64 v.tt, .int .i64 v.n]) w :=
  run_loadVar_row w b _ _ _ (0, 0) _ h Try.underlying40 (by rfl) (by kernel_rfl)
theorem load_H {b : Nat} {v : Hl} {w : World} (h : BlkAt 35 b [.int .i64 v.n, .int .u64 v.mb, .int .u64 v.mt, .int .u64 v.hb, .int .u64 v.ht] w) : (loadVar 35 ⟨b, 0, none⟩).run Try.prog w = .ok (.agg #[.int .i64 v.n, .int .u64 v.mb, .int .u64 v.mt, .int .u64 v.hb, .int .u64 v.ht]) w :=
  run_loadVar_row w b _ _ _ (0, 0) _ h Try.underlying35 (by rfl) (by kernel_rfl)
set_option maxHeartbeats 1000000 in
theorem viewW {p : Nat} {a : Ad} {w : World} (h : PA p a w) (hn : a.node ≠ 0) : Calls Try.prog 11 #[.pointer (some ⟨p, 0, none⟩)] w fun e w' => e = .returned (.agg #[.int .i64 a.v.st, .int .u64 a.v.mb, .int .u64 a.v.mt, .int .u64 a.v.tb, .int .u64 a.v.tt, .int .i64 a.v.n]) ∧ Below w.heap.size w w' := by
  have hb : Below w.heap.size w (w.alloc (.cells #[.int .i64 0, .int .u64 0, .int .u64 0, .int .u64 0, .int .u64 0, .int .i64 0] 40)) := (Below.refl _ _).alloc (Nat.le_refl _) _
  have hP := h.later hb
  have HN := Lib.hid (noneA hP hn)
  obtain ⟨c0, c1, c2, c3, c4, c5, c6, c7, c8, c9, c10⟩ := hP.cells
  have HL := Lib.hid h.lt
  clear h hn hb hP
  go_enter Try.func11, Try.ntmps11
  go_wp2_with fail
  refine HN.out.mono ?_
  rintro e w1 ⟨rfl, rfl⟩
  go_wp2_with fail
  exact bodyPost_ret (results_c1 rfl rfl (load_V (BlkAt.new w _))) rfl ⟨rfl, (Below.refl _ _).alloc (Nat.le_refl _) _⟩
set_option maxHeartbeats 1000000 in
theorem sayW {p : Nat} {a : Ad} {w : World} (h : PA p a w) (hn : a.node ≠ 0) : Calls Try.prog 16 #[.pointer (some ⟨p, 0, none⟩)] w fun e w' => e = .returned (.tuple #[.agg #[.int .i64 a.node, .int .u64 a.v.mb, .int .u64 a.v.mt, .int .u64 a.v.tb, .int .u64 a.v.tt], .int .i64 0]) ∧ Below w.heap.size w w' := by
  have hb : Below w.heap.size w (w.alloc (.cells #[.int .i64 0, .int .u64 0, .int .u64 0, .int .u64 0, .int .u64 0] 35)) := (Below.refl _ _).alloc (Nat.le_refl _) _
  have hB := BlkAt.new (t := 35) w [.int .i64 0, .int .u64 0, .int .u64 0, .int .u64 0, .int .u64 0]
  obtain ⟨W1, hW1⟩ : ∃ W1, W1 = w.alloc (.cells #[.int .i64 0, .int .u64 0, .int .u64 0, .int .u64 0, .int .u64 0] 35) := ⟨_, rfl⟩
  have hP := h.later hb
  rw [← hW1] at hP hb hB
  have HN := Lib.hid (noneA hP hn)
  obtain ⟨c0, c1, c2, c3, c4, c5, c6, c7, c8, c9, c10⟩ := hP.cells
  have HB := Lib.hid hb
  have HBK := Lib.hid hB
  have HL := Lib.hid h.lt
  clear h hn hb hP hB
  have HW := Lib.hid hW1
  clear hW1
  go_enter Try.func16, Try.ntmps16
  go_wp2_with fail
  rw [← HW.out]
  refine HN.out.mono ?_
  rintro e w1 ⟨rfl, rfl⟩
  go_wp2_with fail
  go_still_tail 15, (by kernel_rfl)
  change wpList _ _ _ _ _ W1.drew
  obtain ⟨W2, hW2⟩ : ∃ W2, W2 = W1.drew := ⟨_, rfl⟩
  rw [← hW2]
  have hB2 : BlkAt 35 w.heap.size [.int .i64 0, .int .u64 0, .int .u64 0, .int .u64 0, .int .u64 0] W2 := by rw [hW2]; exact HBK.out
  have HB2 := Lib.hid hB2
  have HD2 : Hid (Below w.heap.size w W2) := by
    have : Below w.heap.size w W2 := by rw [hW2]; exact HB.out.drew
    exact this
  have hfB : ∀ j, W2.frozen? ⟨w.heap.size, j, none⟩ = false := fun j => BlkAt.frozen hB2 j
  have b0 := BlkAt.cell hB2 (j := 0) rfl; have b1 := BlkAt.cell hB2 (j := 1) rfl; have b2 := BlkAt.cell hB2 (j := 2) rfl; have b3 := BlkAt.cell hB2 (j := 3) rfl; have b4 := BlkAt.cell hB2 (j := 4) rfl
  clear hB2 hW2
  go_wp2_with fail
  refine ⟨rfl, .tuple #[.agg #[.int .i64 a.node, .int .u64 a.v.mb, .int .u64 a.v.mt, .int .u64 a.v.tb, .int .u64 a.v.tt], .int .i64 0], results_ct rfl rfl (load_H (v := ⟨a.node, a.v.mb, a.v.mt, a.v.tb, a.v.tt⟩) ?_) rfl, rfl, ?_⟩
  · exact ((((BlkAt.set HB2.out 0 _).set 1 _).set 2 _).set 3 _).set 4 _
  · exact (((((HD2.out.setCell (Nat.le_refl _) _).setCell (Nat.le_refl _) _).setCell (Nat.le_refl _) _).setCell (Nat.le_refl _) _).setCell (Nat.le_refl _) _)
set_option maxHeartbeats 1000000 in
theorem anewW {p : Nat} {a : Ad} {w : World} (h : PA p a w) : Calls Try.prog 29 #[.pointer (some ⟨p, 0, none⟩)] w fun e w' => (∃ v, e = .returned v) ∧ PA p ⟨a.node, a.every, a.dead, a.said, a.sil, 0, a.v.mb, IntKind.u64.wrap (a.v.mt + 1), 0, 0, 0⟩ w' ∧ Chg [p] w w' := by
  obtain ⟨c0, c1, c2, c3, c4, c5, c6, c7, c8, c9, c10⟩ := h.cells
  have hW : ∀ x, PA p a (w.alloc (.cells #[.int .u64 a.v.mb, .int .u64 x] 25)) := fun x => h.later ((Below.refl _ _).alloc (Nat.le_refl _) _)
  have hfz : ∀ x j, (w.alloc (.cells #[.int .u64 a.v.mb, .int .u64 x] 25)).frozen? ⟨p, j, none⟩ = false := fun x j => BlkAt.frozen (hW x) j
  have d5 := fun x => (hW x).cells.2.2.2.2.2.1
  have d6 := fun x => (hW x).cells.2.2.2.2.2.2.1
  have d7 := fun x => (hW x).cells.2.2.2.2.2.2.2.1
  have d8 := fun x => (hW x).cells.2.2.2.2.2.2.2.2.1
  have d9 := fun x => (hW x).cells.2.2.2.2.2.2.2.2.2.1
  have d10 := fun x => (hW x).cells.2.2.2.2.2.2.2.2.2.2
  have HP := Lib.hid h
  clear h hW
  go_enter Try.func29, Try.ntmps29
  go_wp2_with fail
  go_end0
  refine ⟨⟨_, rfl⟩, ?_, ?_⟩
  · exact (((((BlkAt.set (HP.out.later ((Below.refl _ _).alloc (Nat.le_refl _) _)) 5 _).set 6 _).set 7 _).set 8 _).set 9 _).set 10 _
  · exact ((((((((Chg.refl [p] w).alloc _).set (by simp) 5 _).set (by simp) 6 _).set (by simp) 7 _).set (by simp) 8 _).set (by simp) 9 _).set (by simp) 10 _)
set_option maxHeartbeats 1000000 in
theorem dueW {p : Nat} {a : Ad} {w : World} (h : PA p a w) : Calls Try.prog 28 #[.pointer (some ⟨p, 0, none⟩)] w fun e w' => ∃ b s, e = .returned (.bool b) ∧ PA p ⟨a.node, a.every, a.dead, s, a.sil, a.v⟩ w' ∧ Chg [p] w w' := by
  obtain ⟨c0, c1, c2, c3, c4, c5, c6, c7, c8, c9, c10⟩ := h.cells
  have hfz : ∀ j, w.frozen? ⟨p, j, none⟩ = false := fun j => BlkAt.frozen h j
  have HP := Lib.hid h
  clear h
  go_enter Try.func28, Try.ntmps28
  go_wp2_with fail
  go_quiet (fail)
  go_wp2
  · go_ret
    exact ⟨_, _, rfl, HP.out.setSaid.dr _, ((Chg.refl [p] w).set (by simp) 3 _).dr _⟩
  · go_ret
    exact ⟨_, _, rfl, (HP.out.setSaid.dr _).setSaid, (((Chg.refl [p] w).set (by simp) 3 _).dr _).set (by simp) 3 _⟩
end Go.Proofs.Ytcedninipbafaaa
