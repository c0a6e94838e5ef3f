/- Bodies, a line of them, a stream, in memory; append, clear and a cut of the line.
   What changes: all but some blocks stands.
   A struct's block in memory, of any type that is no byte.
   A block of cells in memory, whatever its type.
   append on bytes that the call owns, whatever the source: one law in three forms.
   Lists of bytes in memory: a slice value that reads as a list of lists of bytes.
   Bytes in memory: a slice value that reads as a list of bytes; no function of the program in it.
   A stream, plainly: what it is, and what each act makes of it.
   All loops of a function's code.
   What all walks import; small lemmas on endings and on what a call leaves as it was. -/
import Derived.Test.YtghaajmalhcgbaaRows
import Derived.WalkKit
import Derived.WalkSpells
import Derived.WalkLawsBesides
import Derived.Lib.Hide
import Derived.Deep.QuietTactic
import Derived.BigQuiet
import Derived.Handy
import Derived.Deep.RegionWith
import Derived.Deep.RegionHeld3
import Derived.StillTailTactics
import Derived.Deep.DrawnRows
import Derived.Laws.BitsAllLaws
import Derived.Deep.AppendLies
import Derived.Laws.AppendOwnNone
import Derived.Laws.OwnMore
import Derived.Deep.MidRow
import Derived.RangeFuncRecord
import Derived.Lib.SliceRun
import Derived.Laws.IdiomCopy
import Derived.ArgAppend

set_option linter.unusedSimpArgs false
set_option linter.unusedVariables false
namespace Go.Proofs.Ytghaajmalhcgbaa
open Go.RowKit
attribute [local go_sem ↓] Go.wp_at_zero Go.wp_at_succ

theorem ret_b {a b : Bool} (h : a = b) : Ending.returned (.bool a) = .returned (.bool b) := by rw [h]
theorem ret_i {k : IntKind} {a b : Int} (h : a = b) : Ending.returned (.int k a) = .returned (.int k b) := by rw [h]
theorem ret_ii {k k2 : IntKind} {a a' b b' : Int} (h : a = a') (h2 : b = b') : Ending.returned (.tuple #[.int k a, .int k2 b]) = .returned (.tuple #[.int k a', .int k2 b']) := by rw [h, h2]
theorem bcell {W w1 : World} (hb : Below W.heap.size W w1) : (∀ b o, b < W.heap.size → w1.cell? ⟨b, o, none⟩ = W.cell? ⟨b, o, none⟩) ∧ (∀ b o, b < W.heap.size → w1.frozen? ⟨b, o, none⟩ = W.frozen? ⟨b, o, none⟩) :=
  ⟨fun b o h => hb.cell (p := ⟨b, o, none⟩) h, fun b o h => hb.frozen (p := ⟨b, o, none⟩) h⟩
theorem below_of {w w1 w2 : World} (h : Below w.heap.size w w1) (h2 : Below w1.heap.size w1 w2) : Below w.heap.size w w2 := h.trans (h2.mono h.size)
theorem ba1 (w : World) (o : Obj) : Below w.heap.size w (w.alloc o) := (Below.refl _ _).alloc (Nat.le_refl _) _
theorem below_dr0 (B : Nat) (w : World) (n : Nat) : Below B w (w.drewN n) := ⟨rfl, rfl, rfl, Nat.le_refl _, fun _ _ => rfl⟩
theorem wrap8 (n : Int) : IntKind.u8.wrap n = n % 256 := rfl
theorem wrap16 (n : Int) : IntKind.u16.wrap n = n % 65536 := rfl
theorem wrap32 (n : Int) : IntKind.u32.wrap n = n % 4294967296 := rfl

end Go.Proofs.Ytghaajmalhcgbaa

namespace Go.Proofs.Ytghaajmalhcgbaa

def loops : Code → List Code
  | .loop c => c :: loops c
  | .seq a b => loops a ++ loops b
  | .block _ c => loops c
  | .scope c => loops c
  | .cond _ a b => loops a ++ loops b
  | _ => []
end Go.Proofs.Ytghaajmalhcgbaa

namespace Go.Proofs.Ytghaajmalhcgbaa

/-- A segment: Seq, Ack, Body. -/
structure Sg where
  q : Nat
  a : Nat
  b : List UInt8
/-- A stream: again; what is not acknowledged; how many of these were told; ticks; up to which all are acknowledged, and were taken; owes it an answer? -/
structure Sm where
  ag : Int
  line : List (List UInt8)
  told : Nat
  ti : Int
  ac : Nat
  tk : Nat
  ow : Bool
def smN (ag : Int) : Sm := ⟨ag, [], 0, 0, 0, 0, false⟩
structure Sm.Ok (s : Sm) (N : Nat) : Prop where
  ag1 : 1 ≤ s.ag
  ag2 : s.ag ≤ 100
  t1 : s.told ≤ s.line.length
  t8 : s.told ≤ 8
  ti0 : s.told = 0 → s.ti = 0
  ti1 : 0 ≤ s.ti
  ti2 : s.ti < 100
  few : s.ac + s.line.length ≤ N
  tkN : s.tk ≤ N
  NN : N ≤ 1000000
  len : ∀ b ∈ s.line, b.length ≤ 1024
/-- What tells messages wants. -/
structure Sm.Tl (s : Sm) : Prop where
  t1 : s.told ≤ s.line.length
  t8 : s.told ≤ 8
  few : s.ac + s.line.length ≤ 1000000
  tkN : s.tk ≤ 1000000
  len : ∀ b ∈ s.line, b.length ≤ 1024
theorem Sm.Ok.tl {s : Sm} {N : Nat} (h : s.Ok N) : s.Tl := ⟨h.t1, h.t8, by have := h.few; have := h.NN; omega, by have := h.tkN; have := h.NN; omega, h.len⟩
/-- Messages as segments. -/
def segL (n a : Nat) : List (List UInt8) → List Sg
  | [] => []
  | b :: r => ⟨n + 1, a, b⟩ :: segL (n + 1) a r
theorem segL_len (a : Nat) : ∀ (l : List (List UInt8)) (n : Nat), (segL n a l).length = l.length
  | [], _ => rfl
  | _ :: r, n => by simp [segL, segL_len a r]
theorem segL_snoc (a : Nat) (b : List UInt8) : ∀ (l : List (List UInt8)) (n : Nat), segL n a (l ++ [b]) = segL n a l ++ [⟨n + l.length + 1, a, b⟩]
  | [], _ => by simp [segL]
  | _ :: r, n => by simp only [List.cons_append, segL, segL_snoc a b r, List.length_cons]; simp; omega
theorem segL_get (a : Nat) : ∀ (l : List (List UInt8)) (n i : Nat) (b : List UInt8), l[i]? = some b → (segL n a l)[i]? = some ⟨n + i + 1, a, b⟩
  | [], _, _, _, h => by simp at h
  | x :: r, n, 0, b, h => by simp at h; subst h; simp [segL]
  | x :: r, n, i + 1, b, h => by
    have := segL_get a r (n + 1) i b (by simpa using h)
    simp only [segL, List.getElem?_cons_succ, this]
    simp; omega
def sendM (s : Sm) (b : List UInt8) : Sm := { s with line := s.line ++ [b] }
def ackM (s : Sm) (a : Nat) : Sm := if s.ac < a ∧ a ≤ s.ac + s.told then { s with line := s.line.drop (a - s.ac), told := s.told - (a - s.ac), ac := a, ti := 0 } else s
def takeM (s : Sm) (q a : Nat) : Sm := { ackM s a with ow := (s.ow || decide (q ≠ 0)), tk := if q = s.tk + 1 then s.tk + 1 else s.tk }
def tellM (s : Sm) : Sm := { s with ti := 0, ow := false }
def tickM (s : Sm) : Sm := if s.told = 0 then s else if s.ti + 1 < s.ag then { s with ti := s.ti + 1 } else tellM s
def tickL (s : Sm) : List Sg := if s.told = 0 then [] else if s.ti + 1 < s.ag then [] else segL s.ac s.tk (s.line.take s.told)
def upM (s : Sm) : Nat := min s.line.length 8
def dueM (s : Sm) : Sm := if s.told < upM s then tellM { s with told := upM s } else { s with ow := false }
def dueL (s : Sm) : List Sg := if s.told < upM s then segL (s.ac + s.told) s.tk ((s.line.take (upM s)).drop s.told) else if s.ow = true then [⟨0, s.tk, []⟩] else []
theorem ackM_tk (s : Sm) (a : Nat) : (ackM s a).tk = s.tk := by unfold ackM; split <;> rfl
theorem ackM_ow (s : Sm) (a : Nat) : (ackM s a).ow = s.ow := by unfold ackM; split <;> rfl
theorem smN_ok (ag : Int) (h1 : 1 ≤ ag) (h2 : ag ≤ 100) : (smN ag).Ok 0 := ⟨h1, h2, by simp [smN], by simp [smN], by simp [smN], by simp [smN], by simp [smN], by simp [smN], by simp [smN], by omega, by simp [smN]⟩
theorem Sm.Ok.more {s : Sm} {N M : Nat} (h : s.Ok N) (h1 : N ≤ M) (h2 : M ≤ 1000000) : s.Ok M := ⟨h.ag1, h.ag2, h.t1, h.t8, h.ti0, h.ti1, h.ti2, by have := h.few; omega, by have := h.tkN; omega, h2, h.len⟩
theorem sendM_ok {s : Sm} {N : Nat} (h : s.Ok N) (hN : N + 1 ≤ 1000000) (b : List UInt8) (hb : b.length ≤ 1024) : (sendM s b).Ok (N + 1) :=
  ⟨h.ag1, h.ag2, by have := h.t1; simp [sendM]; omega, h.t8, h.ti0, h.ti1, h.ti2, by have := h.few; simp [sendM]; omega, by have := h.tkN; simp [sendM]; omega, hN, by intro c hc; simp only [sendM, List.mem_append, List.mem_singleton] at hc; rcases hc with hc | rfl; exact h.len c hc; exact hb⟩
theorem ackM_ok {s : Sm} {N : Nat} (h : s.Ok N) (a : Nat) : (ackM s a).Ok N := by
  have h1 := h.t1
  have h2 := h.t8
  have h3 := h.few
  unfold ackM
  split
  · exact ⟨h.ag1, h.ag2, by simp; omega, by simp; omega, fun _ => rfl, Int.le_refl _, by simp, by simp; omega, h.tkN, h.NN, fun b hb => h.len b (List.mem_of_mem_drop hb)⟩
  · exact h
theorem takeM_ok {s : Sm} {N : Nat} (h : s.Ok N) (hN : N + 1 ≤ 1000000) (q a : Nat) : (takeM s q a).Ok (N + 1) := by
  have h1 := ackM_ok h a
  have h2 := h1.few
  have h3 := h.tkN
  refine ⟨h1.ag1, h1.ag2, h1.t1, h1.t8, h1.ti0, h1.ti1, h1.ti2, by show (ackM s a).ac + (ackM s a).line.length ≤ _; omega, ?_, hN, h1.len⟩
  show (if q = s.tk + 1 then s.tk + 1 else s.tk) ≤ _
  split <;> omega
theorem tellM_ok {s : Sm} {N : Nat} (h : s.Ok N) : (tellM s).Ok N := ⟨h.ag1, h.ag2, h.t1, h.t8, fun _ => rfl, Int.le_refl _, by simp [tellM], h.few, h.tkN, h.NN, h.len⟩
theorem tickM_ok {s : Sm} {N : Nat} (h : s.Ok N) : (tickM s).Ok N := by
  have h1 := h.ti1
  have h2 := h.ag2
  unfold tickM
  split
  · exact h
  · split
    · exact ⟨h.ag1, h.ag2, h.t1, h.t8, fun e => by rename_i h3 _; exact absurd e h3, by simp; omega, by simp; omega, h.few, h.tkN, h.NN, h.len⟩
    · exact tellM_ok h
theorem dueM_ok {s : Sm} {N : Nat} (h : s.Ok N) : (dueM s).Ok N := by
  unfold dueM upM
  split
  · exact ⟨h.ag1, h.ag2, by simp [tellM]; omega, by simp [tellM]; omega, fun _ => rfl, Int.le_refl _, by simp [tellM], h.few, h.tkN, h.NN, h.len⟩
  · exact ⟨h.ag1, h.ag2, h.t1, h.t8, h.ti0, h.ti1, h.ti2, h.few, h.tkN, h.NN, h.len⟩
theorem up_told {s : Sm} {N : Nat} (h : s.Ok N) : s.told ≤ upM s := by have := h.t1; have := h.t8; unfold upM; omega
end Go.Proofs.Ytghaajmalhcgbaa

namespace Go.Proofs.Ytghaajmalhcgbaa
open Go.RowKit

def bv (l : List UInt8) : List Value := l.map fun b => .int .u8 (b.toNat : Int)

/-- The value reads as these bytes. -/
def Bytes (w : World) (v : Value) (l : List UInt8) : Prop :=
  (l = [] ∧ ∃ a c, v = .slice a 0 c ∧ (a = none → c = 0)) ∨
  ∃ b o c, v = .slice (some ⟨b, o, none⟩) l.length c ∧ b < w.heap.size ∧ l.length ≤ c ∧ ∀ j x, l[j]? = some x → w.cell? ⟨b, o + j, none⟩ = some (.int .u8 (x.toNat : Int))

theorem Bytes.later {w w' : World} {v : Value} {l : List UInt8} (h : Bytes w v l) (hb : Below w.heap.size w w') : Bytes w' v l := by
  rcases h with h | ⟨b, o, c, h1, h2, hp, h3⟩
  · exact .inl h
  · exact .inr ⟨b, o, c, h1, Nat.lt_of_lt_of_le h2 hb.size, hp, fun j x hx => cell_later hb (h3 j x hx)⟩

theorem cell_later' {w wr : World} {B : Nat} {b o : Nat} {v : Value} (h : Below B w wr) (hb : b < B) (hc : w.cell? ⟨b, o, none⟩ = some v) : wr.cell? ⟨b, o, none⟩ = some v :=
  (h.cell (p := ⟨b, o, none⟩) hb).trans hc

theorem own_ne {w : World} {B : Nat} {e : TypeId} {size n : Nat} {v : Value} {xs : List Value} {b : Nat} (h : w.ownsRow B e size v n xs) (hb : b < B) : some b ≠ v.ownBlock := by
  rcases h.2 with ⟨rfl, _⟩ | ⟨g, cap, cur, rfl, hg, _⟩
  · simp [Value.ownBlock]
  · simp [Value.ownBlock]; omega

theorem Bytes.form {w : World} {v : Value} {l : List UInt8} (h : Bytes w v l) : ∃ a c, v = .slice a l.length c := by
  rcases h with ⟨rfl, a, c, rfl, _⟩ | ⟨b, o, c, rfl, _, _⟩
  · exact ⟨a, c, rfl⟩
  · exact ⟨_, c, rfl⟩

theorem Bytes.nil (w : World) (a : Option Addr) (c : Nat) (h : a = none → c = 0 := by intros; first | rfl | contradiction | simp_all) : Bytes w (.slice a 0 c) [] := .inl ⟨rfl, a, c, rfl, h⟩
/-- Without an address there is nothing. -/
theorem Bytes.noaddr {w : World} {n c : Nat} {l : List UInt8} (h : Bytes w (.slice none n c) l) : n = 0 ∧ c = 0 ∧ l = [] := by
  rcases h with ⟨rfl, a, c', h1, h2⟩ | ⟨b, o, c', h1, _, _⟩
  · simp only [Value.slice.injEq] at h1
    obtain ⟨rfl, rfl, rfl⟩ := h1
    exact ⟨rfl, h2 rfl, rfl⟩
  · simp at h1

theorem Bytes.of_own {w : World} {base : Nat} {e : TypeId} {v : Value} {n : Nat} {l : List UInt8} (h : w.ownsRow base e 1 v n (bv l)) : Bytes w v l := by
  obtain ⟨hl, h0 | ⟨g, cap, cur, rfl, hb, hg, hn, hm, hc, ht⟩⟩ := h
  · obtain ⟨rfl, rfl⟩ := h0
    simp [bv] at hl
    subst hl
    exact Bytes.nil _ _ _
  · have hln : l.length = n := by simpa [bv] using hl
    subst hln
    refine .inr ⟨g, 0, cap, rfl, ?_, hn, fun j x hx => ?_⟩
    · rcases Nat.lt_or_ge g w.heap.size with h1 | h1
      · exact h1
      · rw [Array.getElem?_eq_none h1] at hg; cases hg
    · rw [Nat.zero_add, cell_of_row w g j cur e (0, 0) hg]
      have hj : j < l.length := (List.getElem?_eq_some_iff.1 hx).1
      have : (bv l)[j]? = some (.int .u8 (x.toNat : Int)) := by simp [bv, hx]
      rw [← ht, List.getElem?_take, if_pos (by omega)] at this
      simpa using this

theorem push_fold : ∀ (l : List UInt8) (s : ByteArray), (l.map fun b => (b.toNat : Int)).foldl (fun r n => r.push (UInt8.ofNat n.toNat)) s = ⟨(s.data.toList ++ l).toArray⟩
  | [], s => by simp
  | b :: l, s => by
    simp only [List.map_cons, List.foldl_cons]
    rw [push_fold l]
    have : (s.push (UInt8.ofNat ((b.toNat : Int)).toNat)).data.toList = s.data.toList ++ [b] := by
      simp [ByteArray.push]
    rw [this]
    simp

/-- string(b). -/
theorem Bytes.str {P : Program} {w : World} {v : Value} {l : List UInt8} (h : Bytes w v l) {src dst e : TypeId}
    (hs : P.underlying src = some (.slice e)) (he : P.underlying e = some (.int .u8)) (hd : P.underlying dst = some .string) :
    (convert src dst v).run P w = .ok (.string ⟨l.toArray⟩) w := by
  rcases h with ⟨rfl, a, c, rfl, _⟩ | ⟨b, o, c, rfl, hb, _, hc⟩
  · rw [run_convert_bytes_string w src dst e a 0 c hs he hd]
    cases a with
    | none => simp [Conv.bytesToString]; rfl
    | some a =>
      have := run_bytesToString (P := P) w a 0 c [] (by have := run_loadCells_list (P := P) w a [] (by simp); simpa using this)
      rw [this]; rfl
  · rw [run_convert_bytes_string w src dst e _ _ c hs he hd]
    have hl : (loadCells ⟨b, o, none⟩ l.length).run P w = .ok ((l.map fun b => (b.toNat : Int)).map (Value.int .u8)).toArray w := by
      have := run_loadCells_list (P := P) w ⟨b, o, none⟩ (bv l) (fun j u hu => by
        simp only [bv, List.getElem?_map, Option.map_eq_some_iff] at hu
        obtain ⟨x, hx, rfl⟩ := hu
        have := hc j x hx
        cases j with
        | zero => simpa [Addr.add] using this
        | succ j => simpa [Addr.add] using this)
      simpa [bv, List.map_map, Function.comp_def] using this
    rw [run_bytesToString (P := P) w _ _ c _ hl, push_fold]
    rfl

theorem str_eq {a b : List UInt8} (h : a = b) : ((⟨a.toArray⟩ : ByteArray).toList == (⟨b.toArray⟩ : ByteArray).toList) = true := by rw [h]; simp

theorem news_one (w : World) (v : Value) (t : TypeId) : ∀ (j : Nat) (u : Value), [v][j]? = some u → (w.alloc (.cells #[v] t)).cell? ((⟨w.heap.size, 0, none⟩ : Addr).add j) = some u := by
  intro j u hj
  match j, hj with
  | 0, hj => simp at hj; subst hj; simp [Addr.add]
theorem one_int (k : IntKind) (x : Int) : ∀ u ∈ [Value.int k x], u.oneCell' = true := by intro u hu; simp at hu; subst hu; rfl
theorem one_slice (a : Option Addr) (n c : Nat) : ∀ u ∈ [Value.slice a n c], u.oneCell' = true := by intro u hu; simp at hu; subst hu; rfl

theorem own_base {w : World} {B : Nat} {e : TypeId} {size n : Nat} {v : Value} {xs : List Value} (h : w.ownsRow B e size v n xs) {j : Nat} (hj : v.ownBlock = some j) : B ≤ j := by
  rcases h.2 with ⟨rfl, _⟩ | ⟨g, cap, cur, rfl, hg, _⟩
  · simp [Value.ownBlock] at hj
  · simp [Value.ownBlock] at hj; omega

theorem bv_append (a b : List UInt8) : bv (a ++ b) = bv a ++ bv b := by simp [bv]
theorem bv_one (l : List UInt8) : ∀ u ∈ bv l, u.oneCell' = true := by
  intro u hu
  simp only [bv, List.mem_map] at hu
  obtain ⟨b, _, rfl⟩ := hu
  rfl
theorem Bytes.news {w : World} {x : Addr} {n c : Nat} {l : List UInt8} (h : Bytes w (.slice (some x) n c) l) : ∀ (j : Nat) (u : Value), (bv l)[j]? = some u → w.cell? (x.add j) = some u := by
  intro j u hu
  simp only [bv, List.getElem?_map, Option.map_eq_some_iff] at hu
  obtain ⟨y, hy, rfl⟩ := hu
  rcases h with ⟨rfl, _⟩ | ⟨b, o, c', h1, h2, _, h3⟩
  · simp at hy
  · simp only [Value.slice.injEq, Option.some.injEq] at h1
    obtain ⟨rfl, rfl, rfl⟩ := h1
    have := h3 j y hy
    cases j with
    | zero => simpa [Addr.add] using this
    | succ j => simpa [Addr.add] using this
end Go.Proofs.Ytghaajmalhcgbaa

namespace Go.Proofs.Ytghaajmalhcgbaa
open Go.RowKit

/-- The value reads as these lists of bytes. -/
def Lists (w : World) (v : Value) (L : List (List UInt8)) : Prop :=
  (L = [] ∧ ∃ a c, v = .slice a 0 c ∧ (a = none → c = 0)) ∨
  ∃ b o c, v = .slice (some ⟨b, o, none⟩) L.length c ∧ b < w.heap.size ∧ L.length ≤ c ∧ ∀ j l, L[j]? = some l → ∃ u, w.cell? ⟨b, o + j, none⟩ = some u ∧ Bytes w u l

theorem Lists.later {w w' : World} {v : Value} {L : List (List UInt8)} (h : Lists w v L) (hb : Below w.heap.size w w') : Lists w' v L := by
  rcases h with h | ⟨b, o, c, h1, h2, hp, h3⟩
  · exact .inl h
  · refine .inr ⟨b, o, c, h1, Nat.lt_of_lt_of_le h2 hb.size, hp, fun j l hl => ?_⟩
    obtain ⟨u, hu, hx⟩ := h3 j l hl
    exact ⟨u, cell_later hb hu, hx.later hb⟩
theorem Lists.form {w : World} {v : Value} {L : List (List UInt8)} (h : Lists w v L) : ∃ a c, v = .slice a L.length c := by
  rcases h with ⟨rfl, a, c, rfl, _⟩ | ⟨b, o, c, rfl, _, _⟩
  · exact ⟨a, c, rfl⟩
  · exact ⟨_, c, rfl⟩
/-- The element at a place: where it lies, in every later world. -/
theorem Lists.at {w : World} {a : Option Addr} {n c : Nat} {L : List (List UInt8)} (h : Lists w (.slice a n c) L) {i : Nat} (hi : i < L.length) :
    ∃ b o, a = some ⟨b, o, none⟩ ∧ b < w.heap.size ∧ ∃ x d, w.cell? ⟨b, o + i, none⟩ = some (.slice x L[i].length d) ∧ Bytes w (.slice x L[i].length d) L[i] := by
  rcases h with ⟨rfl, _⟩ | ⟨b, o, c', h1, h2, _, h3⟩
  · simp at hi
  · obtain ⟨u, hu, hx⟩ := h3 i L[i] (List.getElem?_eq_getElem hi)
    obtain ⟨x, d, rfl⟩ := hx.form
    simp only [Value.slice.injEq] at h1
    exact ⟨b, o, h1.1, h2, x, d, hu, hx⟩
theorem Bytes.at {w : World} {a : Option Addr} {n c : Nat} {l : List UInt8} (h : Bytes w (.slice a n c) l) {i : Nat} (hi : i < l.length) :
    ∃ b o, a = some ⟨b, o, none⟩ ∧ b < w.heap.size ∧ w.cell? ⟨b, o + i, none⟩ = some (.int .u8 (l[i].toNat : Int)) := by
  rcases h with ⟨rfl, _⟩ | ⟨b, o, c', h1, h2, _, h3⟩
  · simp at hi
  · simp only [Value.slice.injEq] at h1
    exact ⟨b, o, h1.1, h2, h3 i _ (List.getElem?_eq_getElem hi)⟩
theorem Lists.nil (w : World) (a : Option Addr) (c : Nat) (h : a = none → c = 0 := by intros; first | rfl | contradiction | simp_all) : Lists w (.slice a 0 c) [] := .inl ⟨rfl, a, c, rfl, h⟩

theorem bytes_lit (w : World) (l : List UInt8) : Bytes (w.alloc (.cells (bv l).toArray 5)) (.slice (some ⟨w.heap.size, 0, none⟩) l.length l.length) l :=
  .inr ⟨w.heap.size, 0, l.length, rfl, by simp, Nat.le_refl _, fun j x hx => by
    have : (bv l)[j]? = some (.int .u8 (x.toNat : Int)) := by simp [bv, hx]
    simp [this]⟩

/-- Bytes that are kept, and all that was there ahead. -/
def KeptB (w0 : World) (v : Value) (l : List UInt8) (w' : World) : Prop := Bytes w' v l ∧ w0.heap.size < w'.heap.size ∧ Below w0.heap.size w0 w'
theorem KeptB.later {w0 w1 w2 : World} {v : Value} {l : List UInt8} (h : KeptB w0 v l w1) (hb : Below w1.heap.size w1 w2) : KeptB w0 v l w2 :=
  ⟨h.1.later hb, Nat.lt_of_lt_of_le h.2.1 hb.size, h.2.2.trans (hb.mono (Nat.le_of_lt h.2.1))⟩
theorem KeptB.drew {w0 w1 : World} {v : Value} {l : List UInt8} (h : KeptB w0 v l w1) : KeptB w0 v l w1.drew := h.later (Below.refl _ _).drew
theorem KeptB.alloc {w0 w1 : World} {v : Value} {l : List UInt8} (h : KeptB w0 v l w1) (o : Obj) : KeptB w0 v l (w1.alloc o) := h.later ((Below.refl _ _).alloc (Nat.le_refl _) o)
theorem KeptB.allocDrew {w0 w1 : World} {v : Value} {l : List UInt8} (h : KeptB w0 v l w1) (o : Obj) : KeptB w0 v l (w1.alloc o).drew := (h.alloc o).drew

theorem ret_u {k : IntKind} {a : Nat} {b : Int} (h : (a : Int) = b) : Ending.returned (.int k a) = .returned (.int k b) := by rw [h]
theorem bytes_take {w : World} {b : Option Addr} {n c : Nat} {l : List UInt8} (h : Bytes w (.slice b n c) l) {k : Nat} (hk : k ≤ l.length) : Bytes w (.slice b k c) (l.take k) := by
  rcases h with ⟨rfl, a, c', h1, h2⟩ | ⟨bl, o, c', h1, h2, hp, h3⟩
  · simp only [Value.slice.injEq] at h1
    obtain ⟨rfl, rfl, rfl⟩ := h1
    have : k = 0 := by simpa using hk
    subst this
    exact .inl ⟨by simp, _, _, rfl, h2⟩
  · simp only [Value.slice.injEq] at h1
    obtain ⟨rfl, rfl, rfl⟩ := h1
    refine .inr ⟨bl, o, c, by rw [List.length_take, Nat.min_eq_left hk], h2, by rw [List.length_take]; omega, fun j x hx => h3 j x ?_⟩
    rw [List.getElem?_take] at hx
    split at hx
    · exact hx
    · cases hx
theorem bytes_drop {w : World} {bl o c : Nat} {l : List UInt8} {n : Nat} (h : Bytes w (.slice (some ⟨bl, o, none⟩) n c) l) (k : Nat) (m : Nat) (hm : m = l.length - k) (d : Nat) (hd : m ≤ d) : Bytes w (.slice (some ⟨bl, o + k, none⟩) m d) (l.drop k) := by
  subst hm
  rcases h with ⟨rfl, a, c', h1, h2⟩ | ⟨bl, o, c', h1, h2, hp, h3⟩
  · simp only [Value.slice.injEq] at h1
    exact .inl ⟨by simp, some ⟨bl, o + k, none⟩, d, by simp, fun h => by cases h⟩
  · simp only [Value.slice.injEq, Option.some.injEq, Addr.mk.injEq] at h1
    obtain ⟨⟨rfl, rfl, _⟩, rfl, rfl⟩ := h1
    refine .inr ⟨bl, o + k, d, by simp, h2, by simpa using hd, fun j x hx => ?_⟩
    rw [List.getElem?_drop] at hx
    rw [Nat.add_assoc]
    exact h3 (k + j) x hx

theorem lists_one3 {W : World} {v : Value} {l : List UInt8} {n : Nat} (h : Bytes W v l) (hc : W.cell? ⟨n, 0, none⟩ = some v) (hn : n < W.heap.size) : Lists W (.slice (some ⟨n, 0, none⟩) 1 1) [l] :=
  .inr ⟨n, 0, 1, rfl, hn, Nat.le_refl _, fun j x hx => by
    match j, hx with
    | 0, hx => simp at hx; subst hx; exact ⟨v, hc, h⟩⟩
theorem lists_two3 {W : World} {u v : Value} {k l : List UInt8} {n : Nat} (g : Bytes W u k) (h : Bytes W v l) (hu : W.cell? ⟨n, 0, none⟩ = some u) (hc : W.cell? ⟨n, 1, none⟩ = some v) (hn : n < W.heap.size) : Lists W (.slice (some ⟨n, 0, none⟩) 2 2) [k, l] :=
  .inr ⟨n, 0, 2, rfl, hn, Nat.le_refl _, fun j x hx => by
    match j, hx with
    | 0, hx => simp at hx; subst hx; exact ⟨u, by simpa using hu, g⟩
    | 1, hx => simp at hx; subst hx; exact ⟨v, by simpa using hc, h⟩⟩

theorem Bytes.cap {w : World} {a : Option Addr} {n c : Nat} {l : List UInt8} (h : Bytes w (.slice a n c) l) : l.length ≤ c := by
  rcases h with ⟨rfl, _⟩ | ⟨b, o, c', e1, e2, e3, e4⟩
  · simp
  · simp only [Value.slice.injEq] at e1
    obtain ⟨rfl, rfl, rfl⟩ := e1
    exact e3
/-- What is cut out of a slice reads as the part. -/
theorem Bytes.sliced {w : World} {a : Option Addr} {n c : Nat} {l : List UInt8} (h : Bytes w (.slice a n c) l) {lo hi m : Nat} (h1 : lo ≤ hi) (h2 : hi ≤ l.length) (h3 : hi ≤ m) (h4 : m ≤ c) : Bytes w (Go.sliced a lo hi m 1) ((l.take hi).drop lo) := by
  unfold Go.sliced
  rcases h with ⟨rfl, a', c', e1, e2⟩ | ⟨b, o, c', e1, e2, e3, e4⟩
  · simp only [Value.slice.injEq] at e1
    obtain ⟨rfl, rfl, rfl⟩ := e1
    have : hi = 0 := by simpa using h2
    subst this
    have : lo = 0 := by omega
    subst this
    refine .inl ⟨by simp, _, _, rfl, fun h => ?_⟩
    split at h
    · omega
    · have : a = none := by simpa using h
      have := e2 this
      omega
  · simp only [Value.slice.injEq] at e1
    obtain ⟨rfl, rfl, rfl⟩ := e1
    rcases Nat.eq_or_lt_of_le h1 with rfl | h5
    · refine .inl ⟨by simp, _, _, by rw [Nat.sub_self], fun h => ?_⟩
      split at h <;> simp at h
    · have hlen : ((l.take hi).drop lo).length = hi - lo := by simp; omega
      rw [if_neg (by omega)]
      refine .inr ⟨b, o + lo, m - lo, ?_, e2, by omega, fun j x hx => ?_⟩
      · rw [hlen]
        simp only [Option.map_some, Nat.mul_one, Value.slice.injEq, and_true]
        unfold Addr.add
        by_cases h0 : lo = 0 <;> simp [h0]
      · rw [List.getElem?_drop, List.getElem?_take] at hx
        split at hx
        · have := e4 (lo + j) x hx
          rw [Nat.add_assoc]; exact this
        · cases hx
theorem cells1 : (Try.prog.underlying 90) = some (.slice (Try.prog.elem 90)) := by kernel_rfl
theorem size1 (w : World) : (sizeOf (Try.prog.elem 90)).run Try.prog w = .ok 1 w := by kernel_rfl
/-- b[i:]. -/
theorem Bytes.cut_l {w : World} {a : Option Addr} {c : Nat} {l : List UInt8} (h : Bytes w (.slice a l.length c) l) (i : Int) (lo : Nat) (hi : i = lo) (hlo : lo ≤ l.length) :
    ∃ a', (∀ w, (Instr.slice 90 (.slice a l.length c) (some (.int .i64 i)) none none).run Try.prog w = .ok (.slice a' (l.length - lo) (c - lo)) w) ∧ Bytes w (.slice a' (l.length - lo) (c - lo)) (l.drop lo) := by
  have hc := h.cap
  subst hi
  have hb := h.sliced hlo (Nat.le_refl _) hc (Nat.le_refl _)
  rw [List.take_length] at hb
  refine ⟨_, fun w => ?_, hb⟩
  rw [run_slice_l w _ a _ _ cells1 _ _ (by omega) (by omega), size1]
  rfl
/-- b[:i]. -/
theorem Bytes.cut_h {w : World} {a : Option Addr} {n c : Nat} {l : List UInt8} (h : Bytes w (.slice a n c) l) (i : Int) (hi : Nat) (he : i = hi) (hlo : hi ≤ l.length) :
    (∀ w, (Instr.slice 90 (.slice a n c) none (some (.int .i64 i)) none).run Try.prog w = .ok (.slice a hi c) w) ∧ Bytes w (.slice a hi c) (l.take hi) := by
  have hc := h.cap
  subst he
  have hb := h.sliced (lo := 0) (Nat.zero_le _) hlo (by omega) (Nat.le_refl _)
  have e : Go.sliced a 0 hi c 1 = .slice a hi c := by
    unfold Go.sliced
    congr 1
    split
    · rfl
    · cases a <;> simp [Addr.add]
  refine ⟨fun w => ?_, bytes_take h hlo⟩
  rw [run_slice_h w _ a _ _ cells1 _ _ (by omega) (by omega), size1]
  show Result.ok (Go.sliced a 0 _ c 1) w = _
  rw [Int.toNat_natCast, e]
end Go.Proofs.Ytghaajmalhcgbaa

namespace Go.Proofs.Ytghaajmalhcgbaa
open Go.RowKit

/-- The value owns these bytes. -/
def OwnB (w : World) (B : Nat) (v : Value) (l : List UInt8) : Prop := w.ownsRow B 5 1 v l.length (bv l)
theorem OwnB.bytes {w : World} {B : Nat} {v : Value} {l : List UInt8} (h : OwnB w B v l) : Bytes w v l := Bytes.of_own h
theorem OwnB.nil (w : World) (B : Nat) : OwnB w B (.slice none 0 0) [] := World.ownsRow_nil w _ _ _
theorem OwnB.form {w : World} {B : Nat} {v : Value} {l : List UInt8} (h : OwnB w B v l) : ∃ a c, v = .slice a l.length c := (OwnB.bytes h).form
theorem OwnB.alloc {w : World} {B : Nat} {v : Value} {l : List UInt8} (h : OwnB w B v l) (o : Obj) : OwnB (w.alloc o) B v l := World.ownsRow.alloc h o
theorem OwnB.drew {w : World} {B : Nat} {v : Value} {l : List UInt8} (h : OwnB w B v l) : OwnB w.drew B v l := h
theorem info8 : ∃ i0, Try.prog.info? 5 = some i0 ∧ i0.zero = some (.int .u8 0) ∧ i0.size = 1 ∧ i0.bytes = 1 := by
  have hi5 : (Try.prog.info? 5).map (fun i => (i.zero, i.size, i.bytes)) = some (some (.int .u8 0), 1, 1) := by kernel_rfl
  obtain ⟨i0, hi, hx⟩ := Option.map_eq_some_iff.1 hi5
  simp only [Prod.mk.injEq] at hx
  exact ⟨i0, hi, hx.1, hx.2.1, hx.2.2⟩
/-- Behind a call that left what was there: what is owned is still owned. -/
theorem OwnB.later {w w' : World} {B : Nat} {v : Value} {l : List UInt8} (h : OwnB w B v l) (hb : Below w.heap.size w w') : OwnB w' B v l := by
  obtain ⟨hl, h0 | ⟨g, cap, cur, rfl, hb1, hg, hn, hm, hc, ht⟩⟩ := h
  · exact ⟨hl, .inl h0⟩
  · refine ⟨hl, .inr ⟨g, cap, cur, rfl, hb1, ?_, hn, hm, hc, ht⟩⟩
    rw [hb.block g ?_]
    · exact hg
    · rcases Nat.lt_or_ge g w.heap.size with h1 | h1
      · exact h1
      · rw [Array.getElem?_eq_none h1] at hg; cases hg

theorem OwnB.weak {w : World} {B B' : Nat} {v : Value} {l : List UInt8} (h : OwnB w B' v l) (hB : B ≤ B') : OwnB w B v l := by
  obtain ⟨hl, h0 | ⟨g, cap, cur, rfl, hb1, hr⟩⟩ := h
  · exact ⟨hl, .inl h0⟩
  · exact ⟨hl, .inr ⟨g, cap, cur, rfl, Nat.le_trans hB hb1, hr⟩⟩

theorem own_block {w : World} {B : Nat} {e : TypeId} {size n g : Nat} {v : Value} {xs : List Value} (h : w.ownsRow B e size v n xs) (hg : v.ownBlock = some g) : ∃ cur, w.heap[g]? = some (.cells cur e (0, 0)) := by
  rcases h.2 with ⟨rfl, _⟩ | ⟨g', cap, cur, rfl, _, hgg, _⟩
  · simp [Value.ownBlock] at hg
  · simp [Value.ownBlock] at hg; subst hg; exact ⟨_, hgg⟩
theorem grownBy_setCell_at (W : World) (b j : Nat) (v : Value) : W.grownBy (W.setCell ⟨b, j, none⟩ v) (some b) :=
  ⟨rfl, rfl, rfl, by simp, fun k _ hk => Below.heap_setCell _ _ _ k (fun e => hk (by rw [e]))⟩

theorem own_apart {w : World} {B B' : Nat} {e e' : TypeId} {size size' n n' : Nat} {v v' : Value} {xs xs' : List Value} (h : w.ownsRow B e size v n xs) (h' : w.ownsRow B' e' size' v' n' xs') (he : e ≠ e') : v.ownBlock = none ∨ v.ownBlock ≠ v'.ownBlock := by
  cases hv : v.ownBlock with
  | none => exact .inl rfl
  | some g =>
    refine .inr fun e2 => ?_
    obtain ⟨c1, h1⟩ := own_block h hv
    obtain ⟨c2, h2⟩ := own_block h' e2.symm
    rw [h1] at h2
    simp at h2
    exact he h2.2
/-- A slice that was just spelled out is owned. -/
theorem own_spelled (w : World) (B : Nat) (t : TypeId) (xs : List Value) (hB : B ≤ w.heap.size) (hm : xs.length ≤ maxLen) : (w.alloc (.cells xs.toArray t)).ownsRow B t 1 (.slice (some ⟨w.heap.size, 0, none⟩) xs.length xs.length) xs.length xs :=
  ⟨by simp, .inr ⟨w.heap.size, xs.length, xs.toArray, rfl, hB, (by show (w.heap.push _)[w.heap.size]? = _; exact Array.getElem?_push_size), Nat.le_refl _, hm, by simp, by simp⟩⟩

theorem run_app (w : World) (B : Nat) (ty : TypeId) (v u : Value) (l0 l1 : List UInt8) (hown : OwnB w B v l0) (hu : Bytes w u l1) (hn : l0.length + l1.length ≤ 140737488355328) (hB : B ≤ w.heap.size) :
    ∃ v' w', (Builtin.append_ #[90, 90] ty #[v, u]).run Try.prog w = .ok v' w' ∧ OwnB w' B v' (l0 ++ l1) ∧ Below B w w' ∧ w.grownBy w' v.ownBlock := by
  obtain ⟨i0, hi, hz0, hz1, hz2⟩ := info8
  obtain ⟨a, c, rfl⟩ := hu.form
  cases a with
  | none =>
    obtain ⟨e1, rfl, rfl⟩ := hu.noaddr
    have := run_append_owned_none (P := Try.prog) (w := w) B 90 ty 5 i0 1 Try.underlying90 hi v l0.length _ hown
    refine ⟨v, w, this, by simpa using hown, Below.refl _ _, ⟨rfl, rfl, rfl, Nat.le_refl _, fun _ _ _ => rfl⟩⟩
  | some x =>
    obtain ⟨v', w', h1, h2, h3, _⟩ := run_append_own (P := Try.prog) (w := w) B 90 ty 5 i0 (.int .u8 0) 1 1 Try.underlying90 hi hz0 hz1 hz2 rfl (by decide) v l0.length (bv l0) hown x l1.length c (bv l1) (by simp [bv]) hu.news (bv_one l1) (by unfold maxLen; omega) (by omega) hB
    refine ⟨v', w', h1, ?_, (Below.refl B w).grown h3 hB (fun j hj => own_base hown hj), h3⟩
    show World.ownsRow _ _ _ _ _ _ _
    rw [List.length_append, bv_append]; exact h2

theorem wp_app {w : World} {o : Oper} {a : Act} {K : Act → World → Prop} {Q : Exit → Act → World → Prop} (s x : Operand)
    (ho : o.op = .call { callee := .builtin .append, args := #[s, x], argTypes := #[90, 90] }) (B : Nat) (v u : Value) (l0 l1 : List UInt8) (hs : a.eval s = v) (hx : a.eval x = u)
    (hown : OwnB w B v l0) (hu : Bytes w u l1) (hn : l0.length + l1.length ≤ 140737488355328) (hB : B ≤ w.heap.size)
    (h : ∀ v' w', OwnB w' B v' (l0 ++ l1) → Below B w w' → w.grownBy w' v.ownBlock → K (a.put o.dst v') w') : o.wp Try.prog a w K Q := by
  obtain ⟨v', w', hr, h2, h3, h4⟩ := run_app w B o.type v u l0 l1 hown hu hn hB
  unfold Oper.wp execOp
  simp only [ho, resolve, invoke, builtin, Sem.run_bind, Sem.run_pure, Result.andThen_ok, List.map_toArray, List.map_cons, List.map_nil, hs, hx, hr]
  exact h v' w' h2 h3 h4
theorem wpList_app {w : World} {ops : Array Oper} {rest : List Oper} {o : Oper} {a : Act} {Q : Exit → Act → World → Prop} (hgd : o.guard = none) (s x : Operand)
    (ho : o.op = .call { callee := .builtin .append, args := #[s, x], argTypes := #[90, 90] }) (B : Nat) (v u : Value) (l0 l1 : List UInt8) (hs : a.eval s = v) (hx : a.eval x = u)
    (hown : OwnB w B v l0) (hu : Bytes w u l1) (hn : l0.length + l1.length ≤ 140737488355328) (hB : B ≤ w.heap.size)
    (h : ∀ v' w', OwnB w' B v' (l0 ++ l1) → Below B w w' → w.grownBy w' v.ownBlock → wpList Try.prog ops Q rest (a.put o.dst v') w') : wpList Try.prog ops Q (o :: rest) a w :=
  wpList_plain hgd fun _ hK => wp_app s x ho B v u l0 l1 hs hx hown hu hn hB fun v' w' h2 h3 h4 => hK _ _ (h v' w' h2 h3 h4)
/-- At a step of a region that draws its order. -/
theorem step_app {w : World} {ops : Array Oper} {o : Oper} {a : Act} {K : Act → World → Prop} {Q : Exit → Act → World → Prop} {E : Prop} (hgd : o.guard = none) (s x : Operand)
    (ho : o.op = .call { callee := .builtin .append, args := #[s, x], argTypes := #[90, 90] }) (B : Nat) (v u : Value) (l0 l1 : List UInt8) (hs : a.eval s = v) (hx : a.eval x = u)
    (hown : OwnB w B v l0) (hu : Bytes w u l1) (hn : l0.length + l1.length ≤ 140737488355328) (hB : B ≤ w.heap.size)
    (h : ∀ v' w', OwnB w' B v' (l0 ++ l1) → Below B w w' → w.grownBy w' v.ownBlock → K (a.put o.dst v') w') :
    if Region.wanted o (yielded ops a.tmps) = true then Oper.wp Try.prog o a w K Q else E := by
  have hw : Region.wanted o (yielded ops a.tmps) = true := by simp [Region.wanted, hgd]
  rw [if_pos hw]
  exact wp_app s x ho B v u l0 l1 hs hx hown hu hn hB h
end Go.Proofs.Ytghaajmalhcgbaa

namespace Go.Proofs.Ytghaajmalhcgbaa
open Go.RowKit

/-- A block whose cells are these. -/
def BlkAt (t : TypeId) (g : Nat) (cs : List Value) (w : World) : Prop := w.heap[g]? = some (.cells cs.toArray t (0, 0))
section
variable {t : TypeId}
theorem BlkAt.lt {g : Nat} {cs : List Value} {w : World} (h : BlkAt t g cs w) : g < w.heap.size := (Array.getElem?_eq_some_iff.1 h).1
theorem BlkAt.later {g : Nat} {cs : List Value} {w w' : World} (h : BlkAt t g cs w) (hb : Below w.heap.size w w') : BlkAt t g cs w' := (hb.block g h.lt).trans h
theorem BlkAt.new (w : World) (cs : List Value) : BlkAt t w.heap.size cs (w.alloc (.cells cs.toArray t)) := World.alloc_heap_new w _
theorem BlkAt.cell {g : Nat} {cs : List Value} {w : World} (h : BlkAt t g cs w) {j : Nat} {x : Value} (hx : cs[j]? = some x) : w.cell? ⟨g, j, none⟩ = some x := by
  rw [cell_of_row w g j cs.toArray _ (0, 0) h]; simpa using hx
theorem BlkAt.frozen {g : Nat} {cs : List Value} {w : World} (h : BlkAt t g cs w) (j : Nat) : w.frozen? ⟨g, j, none⟩ = false := by
  unfold World.frozen?; simp [show w.heap[g]? = _ from h]
theorem BlkAt.set {g : Nat} {cs : List Value} {w : World} (h : BlkAt t g cs w) (j : Nat) (x : Value) : BlkAt t g (cs.set j x) (w.setCell ⟨g, j, none⟩ x) := by
  have hl := h.lt
  have hk : w.heap[g] = .cells cs.toArray t (0, 0) := (Array.getElem?_eq_some_iff.1 h).2
  show (w.heap.modify g _)[g]? = _
  rw [Array.getElem?_eq_getElem (by rw [Array.size_modify]; exact hl), Array.getElem_modify_self, hk]
  simp
theorem BlkAt.other {g b : Nat} {cs : List Value} {w : World} (h : BlkAt t g cs w) (hne : g ≠ b) (j : Nat) (x : Value) : BlkAt t g cs (w.setCell ⟨b, j, none⟩ x) := by
  show (w.setCell ⟨b, j, none⟩ x).heap[g]? = _
  rw [Below.heap_setCell _ _ _ _ (by simpa using hne)]; exact h
theorem BlkAt.range {g : Nat} {cs : List Value} {w : World} (h : BlkAt t g cs w) : w.rangeAt g 0 cs := fun j v hv => by rw [Nat.zero_add]; exact h.cell hv
end
end Go.Proofs.Ytghaajmalhcgbaa

namespace Go.Proofs.Ytghaajmalhcgbaa
open Go.RowKit

section
variable {t : TypeId}
theorem BlkAt.ne_own {g : Nat} {cs : List Value} {w : World} (h : BlkAt t g cs w) (ht : t ≠ 5) {B : Nat} {v : Value} {l : List UInt8} (ho : OwnB w B v l) {b : Nat} (hv : v.ownBlock = some b) : b ≠ g := by
  intro e
  obtain ⟨cur, hc⟩ := own_block ho hv
  subst e
  have h2 : w.heap[b]? = _ := h
  rw [hc] at h2
  simp only [Option.some.injEq, Obj.cells.injEq] at h2
  exact ht h2.2.1.symm
theorem BlkAt.own {g : Nat} {cs : List Value} {w : World} (h : BlkAt t g cs w) (ht : t ≠ 5) (j : Nat) (x : Value) {B : Nat} {v : Value} {l : List UInt8} (ho : OwnB w B v l) : OwnB (w.setCell ⟨g, j, none⟩ x) B v l := by
  refine World.ownsRow.kept ho (grownBy_setCell_at w g j x) ?_
  cases hv : v.ownBlock with
  | none => exact .inl rfl
  | some b => exact .inr fun e => BlkAt.ne_own h ht ho hv (Option.some.inj e)
/-- The same, with the block above a world. -/
def BlkG (t : TypeId) (w0 : World) (g : Nat) (cs : List Value) (w : World) : Prop := BlkAt t g cs w ∧ w0.heap.size ≤ g
theorem BlkG.later {w0 : World} {g : Nat} {cs : List Value} {w w' : World} (h : BlkG t w0 g cs w) (hb : Below w.heap.size w w') : BlkG t w0 g cs w' := ⟨h.1.later hb, h.2⟩
/-- Three stores into such a block. -/
theorem BlkAt.set3 {g : Nat} {w : World} {c0 c1 c2 : Value} (h : BlkAt t g [c0, c1, c2] w) (x0 x1 x2 : Value) :
    BlkAt t g [x0, x1, x2] (((w.setCell ⟨g, 0, none⟩ x0).setCell ⟨g, 1, none⟩ x1).setCell ⟨g, 2, none⟩ x2) ∧ (∀ B, B ≤ g → Below B w (((w.setCell ⟨g, 0, none⟩ x0).setCell ⟨g, 1, none⟩ x1).setCell ⟨g, 2, none⟩ x2)) :=
  ⟨((h.set 0 x0).set 1 x1).set 2 x2, fun B hB => (((Below.refl _ _).setCell (p := ⟨g, 0, none⟩) hB x0).setCell (p := ⟨g, 1, none⟩) hB x1).setCell (p := ⟨g, 2, none⟩) hB x2⟩
/-- Seven stores into such a block. -/
theorem BlkAt.set7 {g : Nat} {w : World} {c0 c1 c2 c3 c4 c5 c6 : Value} (ht : t ≠ 5) (h : BlkAt t g [c0, c1, c2, c3, c4, c5, c6] w) (x0 x1 x2 x3 x4 x5 x6 : Value) :
    BlkAt t g [x0, x1, x2, x3, x4, x5, x6] (((((((w.setCell ⟨g, 0, none⟩ x0).setCell ⟨g, 1, none⟩ x1).setCell ⟨g, 2, none⟩ x2).setCell ⟨g, 3, none⟩ x3).setCell ⟨g, 4, none⟩ x4).setCell ⟨g, 5, none⟩ x5).setCell ⟨g, 6, none⟩ x6) ∧ (∀ B v l, OwnB w B v l → OwnB (((((((w.setCell ⟨g, 0, none⟩ x0).setCell ⟨g, 1, none⟩ x1).setCell ⟨g, 2, none⟩ x2).setCell ⟨g, 3, none⟩ x3).setCell ⟨g, 4, none⟩ x4).setCell ⟨g, 5, none⟩ x5).setCell ⟨g, 6, none⟩ x6) B v l) ∧ (∀ B, B ≤ g → Below B w (((((((w.setCell ⟨g, 0, none⟩ x0).setCell ⟨g, 1, none⟩ x1).setCell ⟨g, 2, none⟩ x2).setCell ⟨g, 3, none⟩ x3).setCell ⟨g, 4, none⟩ x4).setCell ⟨g, 5, none⟩ x5).setCell ⟨g, 6, none⟩ x6)) := by
  have h1 := BlkAt.set h 0 x0
  have h2 := BlkAt.set h1 1 x1
  have h3 := BlkAt.set h2 2 x2
  have h4 := BlkAt.set h3 3 x3
  have h5 := BlkAt.set h4 4 x4
  have h6 := BlkAt.set h5 5 x5
  have h7 := BlkAt.set h6 6 x6
  exact ⟨h7, fun B v l ho => (BlkAt.own h6 ht 6 x6 (BlkAt.own h5 ht 5 x5 (BlkAt.own h4 ht 4 x4 (BlkAt.own h3 ht 3 x3 (BlkAt.own h2 ht 2 x2 (BlkAt.own h1 ht 1 x1 (BlkAt.own h ht 0 x0 ho))))))), fun B hB => ((((((((Below.refl _ _).setCell (p := ⟨g, 0, none⟩) hB x0).setCell (p := ⟨g, 1, none⟩) hB x1).setCell (p := ⟨g, 2, none⟩) hB x2).setCell (p := ⟨g, 3, none⟩) hB x3).setCell (p := ⟨g, 4, none⟩) hB x4).setCell (p := ⟨g, 5, none⟩) hB x5).setCell (p := ⟨g, 6, none⟩) hB x6)⟩
end
end Go.Proofs.Ytghaajmalhcgbaa

namespace Go.Proofs.Ytghaajmalhcgbaa
open Go.RowKit

/-- All but these blocks stands as it was. -/
structure Chg (l : List Nat) (w w' : World) : Prop where
  low : Below 0 w w'
  rest : ∀ b, b < w.heap.size → b ∉ l → w'.heap[b]? = w.heap[b]?
theorem Chg.refl (l : List Nat) (w : World) : Chg l w w := ⟨Below.refl _ _, fun _ _ _ => rfl⟩
theorem Chg.size {l : List Nat} {w w' : World} (h : Chg l w w') : w.heap.size ≤ w'.heap.size := h.low.size
theorem Chg.trans {l : List Nat} {w w' w'' : World} (h : Chg l w w') (h' : Chg l w' w'') : Chg l w w'' :=
  ⟨h.low.trans h'.low, fun b hb hn => (h'.rest b (Nat.lt_of_lt_of_le hb h.size) hn).trans (h.rest b hb hn)⟩
theorem Chg.mono {l l' : List Nat} {w w' : World} (h : Chg l w w') (hl : ∀ b ∈ l, b ∈ l') : Chg l' w w' := ⟨h.low, fun b hb hn => h.rest b hb (fun h2 => hn (hl b h2))⟩
theorem Chg.of_below {w w' : World} (l : List Nat) (h : Below w.heap.size w w') : Chg l w w' := ⟨h.mono (Nat.zero_le _), fun b hb _ => h.block b hb⟩
theorem Chg.below {l : List Nat} {w w' : World} (h : Chg l w w') {B : Nat} (hB : B ≤ w.heap.size) (hl : ∀ b ∈ l, B ≤ b) : Below B w w' :=
  ⟨h.low.os, h.low.tape, h.low.output, h.low.size, fun b hb => h.rest b (by omega) (fun h2 => by have := hl b h2; omega)⟩
theorem Chg.set {l : List Nat} {w w' : World} (h : Chg l w w') {b : Nat} (hb : b ∈ l) (j : Nat) (x : Value) : Chg l w (w'.setCell ⟨b, j, none⟩ x) :=
  h.trans ⟨(Below.refl _ _).setCell (Nat.zero_le _) _, fun k _ hk => Below.heap_setCell _ _ _ _ (fun e => hk (by rw [e]; exact hb))⟩
theorem Chg.alloc {l : List Nat} {w w' : World} (h : Chg l w w') (o : Obj) : Chg l w (w'.alloc o) := h.trans (Chg.of_below _ ((Below.refl _ _).alloc (Nat.le_refl _) o))
theorem Chg.drew {l : List Nat} {w w' : World} (h : Chg l w w') : Chg l w w'.drew := ⟨h.low.drew, h.rest⟩
theorem Chg.blk {l : List Nat} {w w' : World} (hm : Chg l w w') {t : TypeId} {g : Nat} {cs : List Value} (h : BlkAt t g cs w) (hg : g ∉ l) : BlkAt t g cs w' := (hm.rest g h.lt hg).trans h
theorem Chg.heap {l : List Nat} {w w' : World} (hm : Chg l w w') {g : Nat} {o : Obj} (h : w.heap[g]? = some o) (hg : g ∉ l) : w'.heap[g]? = some o := (hm.rest g (Array.getElem?_eq_some_iff.1 h).1 hg).trans h
theorem Chg.owns {l : List Nat} {w w' : World} (hm : Chg l w w') {B : Nat} {e : TypeId} {size n : Nat} {v : Value} {xs : List Value} (h : w.ownsRow B e size v n xs) (hg : ∀ g, v.ownBlock = some g → g ∉ l) : w'.ownsRow B e size v n xs := by
  obtain ⟨hl, h0 | ⟨g, cap, cur, rfl, hb1, h2, hr⟩⟩ := h
  · exact ⟨hl, .inl h0⟩
  · exact ⟨hl, .inr ⟨g, cap, cur, rfl, hb1, hm.heap h2 (hg g rfl), hr⟩⟩
theorem Chg.cell {l : List Nat} {w w' : World} (hm : Chg l w w') {a : Addr} {u : Value} (h : w.cell? a = some u) (hg : a.block ∉ l) : w'.cell? a = some u := by
  rw [World.cell?_of_block (hm.rest a.block (World.block_lt_of_cell? _ _ h) hg)]; exact h
end Go.Proofs.Ytghaajmalhcgbaa

namespace Go.Proofs.Ytghaajmalhcgbaa
open Go.RowKit

/-- No block of bytes. -/
def NoB (w : World) (k : Nat) : Prop := ∀ cur fr, w.heap[k]? ≠ some (.cells cur 5 fr)
/-- The value reads as these bytes, and their block is none of these. -/
def Bod (w : World) (X : List Nat) (u : Value) (l : List UInt8) : Prop :=
  (l = [] ∧ ∃ a c, u = .slice a 0 c ∧ (a = none → c = 0)) ∨
  ∃ b o c cur fr, u = .slice (some ⟨b, o, none⟩) l.length c ∧ w.heap[b]? = some (.cells cur 5 fr) ∧ b ∉ X ∧ l.length ≤ c ∧ ∀ j x, l[j]? = some x → w.cell? ⟨b, o + j, none⟩ = some (.int .u8 (x.toNat : Int))
theorem heap_lt {w : World} {b : Nat} {o : Obj} (h : w.heap[b]? = some o) : b < w.heap.size := (Array.getElem?_eq_some_iff.1 h).1
theorem Bod.bytes {w : World} {X : List Nat} {u : Value} {l : List UInt8} (h : Bod w X u l) : Bytes w u l := by
  rcases h with h | ⟨b, o, c, cur, fr, h1, h2, h3, h4, h5⟩
  · exact .inl h
  · exact .inr ⟨b, o, c, h1, heap_lt h2, h4, h5⟩
theorem Bod.form {w : World} {X : List Nat} {u : Value} {l : List UInt8} (h : Bod w X u l) : ∃ a c, u = .slice a l.length c := h.bytes.form
theorem Bod.chg {w w' : World} {X L : List Nat} {u : Value} {l : List UInt8} (h : Bod w X u l) (hm : Chg L w w') (hL : ∀ k ∈ L, NoB w k ∨ k ∈ X) : Bod w' X u l := by
  rcases h with h | ⟨b, o, c, cur, fr, h1, h2, h3, h4, h5⟩
  · exact .inl h
  · have hb : b ∉ L := fun hk => by
      rcases hL b hk with h | h
      · exact h _ _ h2
      · exact h3 h
    exact .inr ⟨b, o, c, cur, fr, h1, hm.heap h2 hb, h3, h4, fun j x hx => hm.cell (h5 j x hx) hb⟩
theorem Bod.later {w w' : World} {X : List Nat} {u : Value} {l : List UInt8} (h : Bod w X u l) (hb : Below w.heap.size w w') : Bod w' X u l := h.chg (Chg.of_below [] hb) (by simp)
theorem Bod.more {w : World} {X : List Nat} {u : Value} {l : List UInt8} (h : Bod w X u l) {k : Nat} (hk : w.heap.size ≤ k) : Bod w (k :: X) u l := by
  rcases h with h | ⟨b, o, c, cur, fr, h1, h2, h3, h4, h5⟩
  · exact .inl h
  · have := heap_lt h2
    exact .inr ⟨b, o, c, cur, fr, h1, h2, by simp only [List.mem_cons]; rintro (h | h); omega; exact h3 h, h4, h5⟩
theorem Bod.less {w : World} {X Y : List Nat} {u : Value} {l : List UInt8} (h : Bod w X u l) (hY : ∀ k ∈ Y, k ∈ X) : Bod w Y u l := by
  rcases h with h | ⟨b, o, c, cur, fr, h1, h2, h3, h4, h5⟩
  · exact .inl h
  · exact .inr ⟨b, o, c, cur, fr, h1, h2, fun hk => h3 (hY b hk), h4, h5⟩
/-- Bytes that were just made. -/
theorem Bod.own {w : World} {B : Nat} {X : List Nat} {u : Value} {l : List UInt8} (h : OwnB w B u l) (hX : ∀ k ∈ X, k < B) : Bod w X u l := by
  obtain ⟨hl, ⟨rfl, h0⟩ | ⟨g, cap, cur, rfl, hb, hg, hn, hm, hc, ht⟩⟩ := h
  · exact .inl ⟨List.length_eq_zero_iff.1 h0, none, 0, rfl, fun _ => rfl⟩
  · refine .inr ⟨g, 0, cap, cur, (0, 0), rfl, hg, fun hk => by have := hX g hk; omega, hn, fun j x hx => ?_⟩
    rw [Nat.zero_add, cell_of_row w g j cur _ (0, 0) hg]
    have hj : j < l.length := (List.getElem?_eq_some_iff.1 hx).1
    have : (bv l)[j]? = some (.int .u8 (x.toNat : Int)) := by simp [bv, hx]
    rw [← ht, List.getElem?_take, if_pos (by omega)] at this
    simpa using this
theorem noB_blk {t : TypeId} {g : Nat} {cs : List Value} {w : World} (h : BlkAt t g cs w) (ht : t ≠ 5) : NoB w g := fun cur fr h2 => by
  have h3 : w.heap[g]? = _ := h
  rw [h3] at h2
  simp at h2
  exact ht h2.2.1
theorem noB_new {w : World} {k : Nat} (h : w.heap.size ≤ k) : NoB w k := fun cur fr h2 => by have := heap_lt h2; omega
theorem NoB.chg {w w' : World} {L : List Nat} {k : Nat} (h : NoB w k) (hm : Chg L w w') (hk : k < w.heap.size) (hL : k ∉ L) : NoB w' k := fun cur fr h2 => by
  rw [hm.rest k hk hL] at h2
  exact h cur fr h2

/-- A line of bodies. -/
def LnAt (w : World) (p g : Nat) (X : List Nat) (v : Value) (P : List (List UInt8)) : Prop :=
  (P = [] ∧ g = p ∧ ∃ a, v = .slice a 0 0) ∨
  ∃ o cap cs, v = .slice (some ⟨g, o, none⟩) P.length cap ∧ g ≠ p ∧ BlkAt 90 g cs w ∧ o + cap ≤ cs.length ∧ P.length ≤ cap ∧ ∀ j b, P[j]? = some b → ∃ u, cs[o + j]? = some u ∧ Bod w X u b
theorem LnAt.form {w : World} {p g : Nat} {X : List Nat} {v : Value} {P : List (List UInt8)} (h : LnAt w p g X v P) : ∃ a c, v = .slice a P.length c := by
  rcases h with ⟨rfl, _, a, rfl⟩ | ⟨o, cap, cs, rfl, _⟩
  · exact ⟨a, 0, rfl⟩
  · exact ⟨_, cap, rfl⟩
theorem LnAt.noB {w : World} {p g : Nat} {X : List Nat} {v : Value} {P : List (List UInt8)} (h : LnAt w p g X v P) (hp : NoB w p) : NoB w g := by
  rcases h with ⟨_, rfl, _⟩ | ⟨o, cap, cs, _, _, hb, _⟩
  · exact hp
  · exact noB_blk hb (by decide)
theorem LnAt.lt {w : World} {p g : Nat} {X : List Nat} {v : Value} {P : List (List UInt8)} (h : LnAt w p g X v P) (hp : p < w.heap.size) : g < w.heap.size := by
  rcases h with ⟨_, rfl, _⟩ | ⟨o, cap, cs, _, _, hb, _⟩
  · exact hp
  · exact hb.lt
theorem LnAt.chg {w w' : World} {p g : Nat} {X L : List Nat} {v : Value} {P : List (List UInt8)} (h : LnAt w p g X v P) (hm : Chg L w w') (hg : g ≠ p → g ∉ L) (hL : ∀ k ∈ L, NoB w k ∨ k ∈ X) : LnAt w' p g X v P := by
  rcases h with h | ⟨o, cap, cs, h1, h2, h3, h4, h5, h6⟩
  · exact .inl h
  · exact .inr ⟨o, cap, cs, h1, h2, hm.blk h3 (hg h2), h4, h5, fun j b hb => by
      obtain ⟨u, hu, hx⟩ := h6 j b hb
      exact ⟨u, hu, hx.chg hm hL⟩⟩
theorem LnAt.later {w w' : World} {p g : Nat} {X : List Nat} {v : Value} {P : List (List UInt8)} (h : LnAt w p g X v P) (hb : Below w.heap.size w w') : LnAt w' p g X v P := h.chg (Chg.of_below [] hb) (by simp) (by simp)
/-- The body at a place. -/
theorem LnAt.at {w : World} {p g : Nat} {X : List Nat} {a : Option Addr} {n c : Nat} {P : List (List UInt8)} (h : LnAt w p g X (.slice a n c) P) {j : Nat} {b : List UInt8} (hj : P[j]? = some b) :
    ∃ o, a = some ⟨g, o, none⟩ ∧ ∃ u, w.cell? ⟨g, o + j, none⟩ = some u ∧ Bod w X u b := by
  rcases h with ⟨rfl, _⟩ | ⟨o, cap, cs, h1, h2, h3, h4, h5, h6⟩
  · simp at hj
  · obtain ⟨u, hu, hx⟩ := h6 j b hj
    simp only [Value.slice.injEq] at h1
    exact ⟨o, h1.1, u, h3.cell hu, hx⟩
theorem infoL : ∃ i0, Try.prog.info? 90 = some i0 ∧ i0.zero = some (.slice none 0 0) ∧ i0.size = 1 ∧ i0.bytes = 24 := by
  have hi5 : (Try.prog.info? 90).map (fun i => (i.zero, i.size, i.bytes)) = some (some (.slice none 0 0), 1, 24) := by kernel_rfl
  obtain ⟨i0, hi, hx⟩ := Option.map_eq_some_iff.1 hi5
  simp only [Prod.mk.injEq] at hx
  exact ⟨i0, hi, hx.1, hx.2.1, hx.2.2⟩
theorem bod_one {w : World} {X : List Nat} {u : Value} {l : List UInt8} (h : Bod w X u l) : u.oneCell' = true := by obtain ⟨a, c, rfl⟩ := h.form; rfl
theorem ln_snoc {w' : World} {X : List Nat} {P : List (List UInt8)} {l : List UInt8} {u : Value} {cs : List Value} {o : Nat} (hu : Bod w' X u l) (hn : cs[o + P.length]? = some u)
    (hP : ∀ j b, P[j]? = some b → ∃ u, cs[o + j]? = some u ∧ Bod w' X u b) : ∀ j b, (P ++ [l])[j]? = some b → ∃ u, cs[o + j]? = some u ∧ Bod w' X u b := by
  intro j b hj
  rcases Nat.lt_or_ge j P.length with h | h
  · rw [List.getElem?_append_left h] at hj; exact hP j b hj
  · rw [List.getElem?_append_right h] at hj
    have h0 : j - P.length = 0 := by have := (List.getElem?_eq_some_iff.1 hj).1; simp at this; omega
    rw [h0] at hj
    simp only [List.getElem?_cons_zero, Option.some.injEq] at hj
    subst hj
    exact ⟨u, by rw [show j = P.length by omega]; exact hn, hu⟩
/-- Behind an append: either in its place, or in a new row. -/
theorem ln_app {w : World} {p g : Nat} {X : List Nat} {v : Value} {P : List (List UInt8)} (h : LnAt w p g X v P) (hp : p < w.heap.size) {u : Value} {l : List UInt8} (hu : Bod w X u l) {e : Nat} (hc : w.cell? ⟨e, 0, none⟩ = some u) (hn : P.length ≤ 1000000) (ty : TypeId) :
    ∃ v' w', (Builtin.append_ #[135, 135] ty #[v, .slice (some ⟨e, 0, none⟩) 1 1]).run Try.prog w = .ok v' w' ∧ ∃ g', LnAt w' p g' X v' (P ++ [l]) ∧ Chg [g] w w' ∧ w'.heap[p]? = w.heap[p]? ∧ (g' = g ∨ w.heap.size ≤ g') := by
  obtain ⟨i0, hi, hz0, hz1, hz2⟩ := infoL
  have hnews : ∀ (j : Nat) (x : Value), [u][j]? = some x → w.cell? ((⟨e, 0, none⟩ : Addr).add j) = some x := fun j x hx => by
    match j, hx with
    | 0, hx => simp at hx; subst hx; simpa [Addr.add] using hc
  have fin : ∀ (olds : List Value) (v' : Value) (w' : World), olds.length = P.length → w'.ownsRow w.heap.size 90 1 v' (P.length + 1) (olds ++ [u]) → Below w.heap.size w w' → (∀ (j : Nat) (b : List UInt8), P[j]? = some b → ∃ u : Value, olds[j]? = some u ∧ Bod w X u b) → ∃ g', LnAt w' p g' X v' (P ++ [l]) ∧ Chg [g] w w' ∧ w'.heap[p]? = w.heap[p]? ∧ (g' = g ∨ w.heap.size ≤ g') := by
    intro olds v' w' hol hown hb hP
    obtain ⟨e1, ⟨rfl, e2⟩ | ⟨g', cap, cur, rfl, e3, e4, e5, e6, e7, e8⟩⟩ := hown
    · omega
    · refine ⟨g', .inr ⟨0, cap, cur.toList, by simp, by omega, by show _ = _; rw [e4], by simp; omega, by simp; omega, ?_⟩, Chg.of_below _ hb, hb.block p hp, .inr e3⟩
      have key : ∀ j x, (olds ++ [u])[j]? = some x → cur.toList[0 + j]? = some x := fun j x hx => by
        rw [← e8, List.getElem?_take] at hx
        split at hx
        · rw [Nat.zero_add]; exact hx
        · cases hx
      refine ln_snoc (hu.later hb) (key _ _ (by rw [List.getElem?_append_right (by omega), hol]; simp)) (fun j b hj => ?_)
      obtain ⟨x, hx, hbx⟩ := hP j b hj
      exact ⟨x, key j x (by rw [List.getElem?_append_left (List.getElem?_eq_some_iff.1 hx).1]; exact hx), hbx.later hb⟩
  rcases h with ⟨rfl, rfl, a, rfl⟩ | ⟨o, cap, cs, rfl, h2, h3, h4, h5, h6⟩
  · cases a with
    | none =>
      obtain ⟨v', w', hr, hown, hg, _⟩ := run_append_own (P := Try.prog) (w := w) w.heap.size 135 ty 90 i0 _ 1 24 Try.underlying135 hi hz0 hz1 hz2 rfl (by decide) _ 0 [] (World.ownsRow_nil w _ _ _) ⟨e, 0, none⟩ 1 1 [u] rfl hnews (by intro x hx; simp at hx; subst hx; exact bod_one hu) (by decide) (by decide) (Nat.le_refl _)
      exact ⟨v', w', hr, fin [] v' w' rfl (by simpa using hown) ((Below.refl _ _).grown hg (Nat.le_refl _) (by simp [Value.ownBlock])) (by simp)⟩
    | some b =>
      obtain ⟨v', w', hr, hown, hg⟩ := run_append_arg_grows (P := Try.prog) w 135 ty 90 i0 _ 1 24 Try.underlying135 hi hz0 hz1 hz2 rfl (by decide) b 0 0 [] rfl (by simp) ⟨e, 0, none⟩ 1 1 [u] rfl hnews (by decide) (by decide) (by decide)
      exact ⟨v', w', hr, fin [] v' w' rfl (by simpa using hown) ((Below.refl _ _).grown hg (Nat.le_refl _) (by simp)) (by simp)⟩
  · rcases Nat.lt_or_ge cap (P.length + 1) with hlt | hge
    · have holds : ∀ j x, ((cs.drop o).take P.length)[j]? = some x → w.cell? ((⟨g, o, none⟩ : Addr).add j) = some x := fun j x hx => by
        rw [Addr.add_lit]
        rw [List.getElem?_take] at hx
        split at hx
        · rw [List.getElem?_drop] at hx; exact h3.cell hx
        · cases hx
      obtain ⟨v', w', hr, hown, hg⟩ := run_append_arg_grows (P := Try.prog) w 135 ty 90 i0 _ 1 24 Try.underlying135 hi hz0 hz1 hz2 rfl (by decide) ⟨g, o, none⟩ P.length cap ((cs.drop o).take P.length) (by simp; omega) holds ⟨e, 0, none⟩ 1 1 [u] rfl hnews (by omega) (by unfold maxLen; omega) (by omega)
      refine ⟨v', w', hr, fin _ v' w' (by simp; omega) hown ((Below.refl _ _).grown hg (Nat.le_refl _) (by simp)) (fun j b hj => ?_)⟩
      obtain ⟨x, hx, hbx⟩ := h6 j b hj
      have hjl := (List.getElem?_eq_some_iff.1 hj).1
      exact ⟨x, by rw [List.getElem?_take, if_pos hjl, List.getElem?_drop]; exact hx, hbx⟩
    · have hr := run_append_room_cells (P := Try.prog) w 135 ty 90 i0 Try.underlying135 hi g o P.length cap ⟨e, 0, none⟩ 1 1 [u] (by rw [hz1]; rfl) hnews (by intro x hx; simp at hx; subst hx; exact bod_one hu) hge
        (fun j hj => by
          have h0 : j = 0 := by simpa using hj
          subst h0
          rw [hz1, h3.cell (List.getElem?_eq_getElem (show o + P.length * 1 + 0 < cs.length by omega))]; rfl)
        (fun j _ => h3.frozen _)
      rw [hz1] at hr
      refine ⟨_, _, hr, g, ?_⟩
      have hcg : Chg [g] w (w.setCells g (o + P.length * 1) [u]) := (Chg.refl _ _).set (by simp) _ _
      have hNB : ∀ k ∈ [g], NoB w k ∨ k ∈ X := fun k hk => by simp at hk; subst hk; exact .inl (noB_blk h3 (by decide))
      refine ⟨.inr ⟨o, cap, cs.set (o + P.length * 1) u, by simp, h2, h3.set _ _, by simp; omega, by simp; omega, ?_⟩, hcg, hcg.rest p hp (by simp; omega), .inl rfl⟩
      refine ln_snoc (hu.chg hcg hNB) ?_ (fun j b hj => ?_)
      · rw [Nat.mul_one, List.getElem?_set_self (by omega)]
      · obtain ⟨x, hx, hbx⟩ := h6 j b hj
        have hjl := (List.getElem?_eq_some_iff.1 hj).1
        exact ⟨x, by rw [List.getElem?_set_ne (by omega)]; exact hx, hbx.chg hcg hNB⟩
end Go.Proofs.Ytghaajmalhcgbaa
