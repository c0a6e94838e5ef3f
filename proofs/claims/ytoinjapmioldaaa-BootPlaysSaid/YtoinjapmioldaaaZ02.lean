/- A store made, its fuse laid, raised, spoilt: the walks.
   A row of one-cell elements in memory: a slice value that reads as a list of values.
   boot.Slot, boot.Good, bytes.Equal: the walks.
   What asks a store alone: the walks.
   The walks of slices.Grow of nothing, slices.Concat, wire.Join.
   The walks of the first reference's Much and Join.
   boot's slots, plainly: their bytes, which are good, the counter, and what a beginning leaves.
   A store: what it is, plainly; how the program's, and the reference's, lies in memory. -/
import Derived.Deep.AppendLies
import Derived.Laws.AppendOwnNone
import Derived.Lib.SliceRun
import Derived.Lib.AppendZerosOnto
import Derived.IntWalk
import Derived.Laws.MakeOwn
import Derived.Laws.OwnMore
import Derived.Test.YtoinjapmioldaaaZ01

set_option linter.unusedSimpArgs false
set_option linter.unusedVariables false
namespace Go.Proofs.Ytoinjapmioldaaa
open Go.RowKit

/-- A byte that lasts: its value; can it be read not? -/
abbrev Ce := UInt8 × Bool
structure St where
  c : List Ce
  dead : Bool
  fuse : Int
  by_ : UInt8
  torn : Bool
/-- Do so many bytes from a place on lie within? -/
def inn (n : Nat) (a k : Int) : Bool := decide (0 ≤ a) && (decide (0 ≤ k) && decide (k ≤ n - a))
theorem inn_iff {n : Nat} {a k : Int} : inn n a k = true ↔ 0 ≤ a ∧ 0 ≤ k ∧ k ≤ n - a := by simp [inn]
theorem inn_no {n : Nat} {a k : Int} : inn n a k = false ↔ ¬ (0 ≤ a ∧ 0 ≤ k ∧ k ≤ n - a) := by rw [← inn_iff]; simp
def St.step (s : St) (k : Nat) (x : UInt8) : St := { s with c := s.c.set k (x, false), fuse := if 0 < s.fuse then s.fuse - 1 else s.fuse }
def St.tear (s : St) (k : Nat) : St := { s with c := s.c.set k (s.by_, s.torn), dead := true }
/-- Bytes written one behind the other. -/
def wgo : List UInt8 → Nat → St → St
  | [], _, s => s
  | x :: r, k, s => if s.fuse = 0 then s.tear k else wgo r (k + 1) (s.step k x)
def wrS (s : St) (a : Int) (b : List UInt8) : St := if inn s.c.length a b.length = true ∧ s.dead = false then wgo b a.toNat s else s
def wrE (s : St) (a : Int) (b : List UInt8) : Int := if inn s.c.length a b.length = true then (if s.dead = true then 7 else if (wgo b a.toNat s).dead = true then 7 else 0) else 2
def rdL (s : St) (a n : Int) : List Ce := (s.c.drop a.toNat).take n.toNat
def rdE (s : St) (a n : Int) : Int := if inn s.c.length a n = true then (if s.dead = true then 7 else if (rdL s a n).any (fun c => c.2) = true then 8 else 0) else 2
def rdB (s : St) (a n : Int) : List UInt8 := if rdE s a n = 0 then (rdL s a n).map (fun c => c.1) else []
def fuS (s : St) (n : Int) (x : UInt8) (u : Bool) : St := { s with fuse := n, by_ := x, torn := u }
def raS (s : St) : St := { s with dead := false, fuse := -1 }
def spS (s : St) (a : Int) (x : UInt8) (u : Bool) : St := if inn s.c.length a 1 = true then { s with c := s.c.set a.toNat (x, u) } else s
def spE (s : St) (a : Int) : Int := if inn s.c.length a 1 = true then 0 else 2
def nw (n : Nat) : St := ⟨List.replicate n (0, false), false, -1, 0, false⟩
/-- The same, with one number for 'no fuse'. -/
def nfu (n : Int) : Int := if n < 0 then -1 else n
def nrm (s : St) : St := { s with fuse := nfu s.fuse }
theorem wgo_nrm : ∀ (b : List UInt8) (k : Nat) (s : St), wgo b k (nrm s) = nrm (wgo b k s)
  | [], _, _ => rfl
  | x :: r, k, s => by
    have e : (nrm s).fuse = 0 ↔ s.fuse = 0 := by unfold nrm nfu; simp only; split <;> omega
    unfold wgo
    by_cases h : s.fuse = 0
    · rw [if_pos h, if_pos (e.2 h)]; rfl
    · rw [if_neg h, if_neg (fun h2 => h (e.1 h2)), ← wgo_nrm r (k + 1) (s.step k x)]
      congr 1
      unfold St.step nrm nfu
      simp only [St.mk.injEq, true_and, and_true]
      split <;> split <;> first | omega | (split <;> omega) | skip
      all_goals (try split) <;> omega
theorem wgo_len : ∀ (b : List UInt8) (k : Nat) (s : St), (wgo b k s).c.length = s.c.length
  | [], _, _ => rfl
  | x :: r, k, s => by
    unfold wgo
    split
    · simp [St.tear]
    · rw [wgo_len r]; simp [St.step]
theorem wgo_fuse : ∀ (b : List UInt8) (k : Nat) (s : St), (wgo b k s).fuse ≤ s.fuse
  | [], _, _ => Int.le_refl _
  | x :: r, k, s => by
    unfold wgo
    split
    · exact Int.le_refl _
    · refine Int.le_trans (wgo_fuse r _ _) ?_
      unfold St.step; simp only; split <;> omega
theorem wrS_len (s : St) (a : Int) (b : List UInt8) : (wrS s a b).c.length = s.c.length := by unfold wrS; split; exact wgo_len _ _ _; rfl
theorem wrS_nrm (s : St) (a : Int) (b : List UInt8) : wrS (nrm s) a b = nrm (wrS s a b) := by
  unfold wrS
  rw [show (nrm s).c = s.c from rfl, show (nrm s).dead = s.dead from rfl, wgo_nrm]
  split <;> rfl
theorem wrE_nrm (s : St) (a : Int) (b : List UInt8) : wrE (nrm s) a b = wrE s a b := by
  unfold wrE
  rw [show (nrm s).c = s.c from rfl, show (nrm s).dead = s.dead from rfl, wgo_nrm]
  rfl
theorem rdE_nrm (s : St) (a n : Int) : rdE (nrm s) a n = rdE s a n := rfl
theorem rdB_nrm (s : St) (a n : Int) : rdB (nrm s) a n = rdB s a n := rfl
theorem fuS_nrm (s : St) (n : Int) (x : UInt8) (u : Bool) : fuS (nrm s) (nfu n) x u = nrm (fuS s n x u) := rfl
theorem raS_nrm (s : St) : raS (nrm s) = nrm (raS s) := rfl
theorem spS_nrm (s : St) (a : Int) (x : UInt8) (u : Bool) : spS (nrm s) a x u = nrm (spS s a x u) := by
  unfold spS
  rw [show (nrm s).c = s.c from rfl]
  split <;> rfl
theorem nw_nrm (n : Nat) : nrm (nw n) = nw n := rfl

/-- The cells of bytes that last. -/
def cc (l : List Ce) : List Value := l.flatMap fun c => [.int .u8 (c.1.toNat : Int), .bool c.2]
theorem cc_length (l : List Ce) : (cc l).length = l.length * 2 := by
  induction l with
  | nil => rfl
  | cons c l ih => simp only [cc, List.flatMap_cons, List.length_append, List.length_cons, List.length_nil] at ih ⊢; omega
theorem cc_cons (c : Ce) (l : List Ce) : cc (c :: l) = .int .u8 (c.1.toNat : Int) :: .bool c.2 :: cc l := rfl
theorem cc_append (l m : List Ce) : cc (l ++ m) = cc l ++ cc m := by simp [cc]
theorem cc_at : ∀ (l : List Ce) (j : Nat) (c : Ce), l[j]? = some c → (cc l)[j * 2]? = some (.int .u8 (c.1.toNat : Int)) ∧ (cc l)[j * 2 + 1]? = some (.bool c.2)
  | [], _, _, h => by simp at h
  | x :: l, 0, c, h => by simp at h; subst h; exact ⟨rfl, rfl⟩
  | x :: l, j + 1, c, h => by
    have := cc_at l j c (by simpa using h)
    rw [show (j + 1) * 2 = j * 2 + 1 + 1 by omega]
    exact this
theorem cc_set : ∀ (l : List Ce) (j : Nat) (c : Ce), ((cc l).set (j * 2) (.int .u8 (c.1.toNat : Int))).set (j * 2 + 1) (.bool c.2) = cc (l.set j c)
  | [], _, _ => rfl
  | x :: l, 0, c => rfl
  | x :: l, j + 1, c => by
    rw [show (j + 1) * 2 = j * 2 + 1 + 1 by omega]
    simp only [cc_cons, List.set_cons_succ]
    rw [cc_set l j c]

/-- All but these blocks stands as it was. -/
structure Chg (l : List Nat) (w w' : World) : Prop where
  low : Below 0 w w'
  rest : ∀ b, b < w.heap.size → b ∉ l → w'.heap[b]? = w.heap[b]?
theorem Chg.refl (l : List Nat) (w : World) : Chg l w w := ⟨Below.refl _ _, fun _ _ _ => rfl⟩
theorem Chg.size {l : List Nat} {w w' : World} (h : Chg l w w') : w.heap.size ≤ w'.heap.size := h.low.size
theorem Chg.trans {l : List Nat} {w w' w'' : World} (h : Chg l w w') (h' : Chg l w' w'') : Chg l w w'' :=
  ⟨h.low.trans h'.low, fun b hb hn => (h'.rest b (Nat.lt_of_lt_of_le hb h.size) hn).trans (h.rest b hb hn)⟩
theorem Chg.mono {l l' : List Nat} {w w' : World} (h : Chg l w w') (hl : ∀ b ∈ l, b ∈ l') : Chg l' w w' := ⟨h.low, fun b hb hn => h.rest b hb (fun h2 => hn (hl b h2))⟩
theorem Chg.of_below {w w' : World} (l : List Nat) (h : Below w.heap.size w w') : Chg l w w' := ⟨h.mono (Nat.zero_le _), fun b hb _ => h.block b hb⟩
theorem Chg.below {l : List Nat} {w w' : World} (h : Chg l w w') {B : Nat} (hB : B ≤ w.heap.size) (hl : ∀ b ∈ l, B ≤ b) : Below B w w' :=
  ⟨h.low.os, h.low.tape, h.low.output, h.low.size, fun b hb => h.rest b (by omega) (fun h2 => by have := hl b h2; omega)⟩
theorem Chg.set {l : List Nat} {w w' : World} (h : Chg l w w') {b : Nat} (hb : b ∈ l) (j : Nat) (x : Value) : Chg l w (w'.setCell ⟨b, j, none⟩ x) :=
  h.trans ⟨(Below.refl _ _).setCell (Nat.zero_le _) _, fun k _ hk => Below.heap_setCell _ _ _ _ (fun e => hk (by rw [e]; exact hb))⟩
theorem Chg.alloc {l : List Nat} {w w' : World} (h : Chg l w w') (o : Obj) : Chg l w (w'.alloc o) := h.trans (Chg.of_below _ ((Below.refl _ _).alloc (Nat.le_refl _) o))
theorem Chg.drew {l : List Nat} {w w' : World} (h : Chg l w w') : Chg l w w'.drew := ⟨h.low.drew, h.rest⟩
theorem Chg.blk {l : List Nat} {w w' : World} (hm : Chg l w w') {t : TypeId} {g : Nat} {cs : List Value} (h : BlkAt t g cs w) (hg : g ∉ l) : BlkAt t g cs w' := (hm.rest g h.lt hg).trans h
theorem Chg.heap {l : List Nat} {w w' : World} (hm : Chg l w w') {g : Nat} {o : Obj} (h : w.heap[g]? = some o) (hg : g ∉ l) : w'.heap[g]? = some o := (hm.rest g (Array.getElem?_eq_some_iff.1 h).1 hg).trans h
theorem Chg.owns {l : List Nat} {w w' : World} (hm : Chg l w w') {B : Nat} {e : TypeId} {size n : Nat} {v : Value} {xs : List Value} (h : w.ownsRow B e size v n xs) (hg : ∀ g, v.ownBlock = some g → g ∉ l) : w'.ownsRow B e size v n xs := by
  obtain ⟨hl, h0 | ⟨g, cap, cur, rfl, hb1, h2, hr⟩⟩ := h
  · exact ⟨hl, .inl h0⟩
  · exact ⟨hl, .inr ⟨g, cap, cur, rfl, hb1, hm.heap h2 (hg g rfl), hr⟩⟩

/-- The cells of the program's store. -/
def pcs (g cap : Nat) (s : St) : List Value := [.slice (some ⟨g, 0, none⟩) s.c.length cap, .bool s.dead, .int .i64 s.fuse, .int .u8 (s.by_.toNat : Int), .bool s.torn]
/-- The program's store, in memory. -/
structure PSt (p g cap : Nat) (s : St) (w : World) : Prop where
  blk : BlkAt 58 p (pcs g cap s) w
  row : w.ownsRow 0 56 2 (.slice (some ⟨g, 0, none⟩) s.c.length cap) s.c.length (cc s.c)
  ne : p ≠ g
  pos : 0 < s.c.length
  few : s.c.length ≤ 4096
  cap : s.c.length ≤ cap
  fu : s.fuse ≤ 9223372036854775807
/-- The cells of the reference's store. -/
def rcs (b u cb cu : Nat) (s : St) : List Value := [.slice (some ⟨b, 0, none⟩) s.c.length cb, .slice (some ⟨u, 0, none⟩) s.c.length cu, .int .i64 s.fuse, .int .u8 (s.by_.toNat : Int), .bool s.torn, .bool s.dead]
/-- The cells of flags. -/
def fv (l : List Ce) : List Value := l.map fun c => .bool c.2
/-- The reference's store, in memory. -/
structure RSt (q b u cb cu : Nat) (s : St) (w : World) : Prop where
  blk : BlkAt 35 q (rcs b u cb cu s) w
  row : w.ownsRow 0 5 1 (.slice (some ⟨b, 0, none⟩) s.c.length cb) s.c.length (bv (s.c.map fun c => c.1))
  flg : w.ownsRow 0 4 1 (.slice (some ⟨u, 0, none⟩) s.c.length cu) s.c.length (fv s.c)
  n1 : q ≠ b
  n2 : q ≠ u
  n3 : b ≠ u
  pos : 0 < s.c.length
  few : s.c.length ≤ 4096
  cb : s.c.length ≤ cb
  cu : s.c.length ≤ cu
  fu : s.fuse ≤ 9223372036854775807
theorem PSt.chg {p g cap : Nat} {s : St} {w w' : World} (h : PSt p g cap s w) {l : List Nat} (hm : Chg l w w') (h1 : p ∉ l) (h2 : g ∉ l) : PSt p g cap s w' :=
  ⟨hm.blk h.blk h1, hm.owns h.row (fun k hk => by simp [Value.ownBlock] at hk; subst hk; exact h2), h.ne, h.pos, h.few, h.cap, h.fu⟩
theorem RSt.chg {q b u cb cu : Nat} {s : St} {w w' : World} (h : RSt q b u cb cu s w) {l : List Nat} (hm : Chg l w w') (h1 : q ∉ l) (h2 : b ∉ l) (h3 : u ∉ l) : RSt q b u cb cu s w' :=
  ⟨hm.blk h.blk h1, hm.owns h.row (fun k hk => by simp [Value.ownBlock] at hk; subst hk; exact h2), hm.owns h.flg (fun k hk => by simp [Value.ownBlock] at hk; subst hk; exact h3), h.n1, h.n2, h.n3, h.pos, h.few, h.cb, h.cu, h.fu⟩
theorem PSt.lt {p g cap : Nat} {s : St} {w : World} (h : PSt p g cap s w) : p < w.heap.size ∧ g < w.heap.size := ⟨h.blk.lt, (h.row.lt g rfl).2⟩
theorem RSt.lt {q b u cb cu : Nat} {s : St} {w : World} (h : RSt q b u cb cu s w) : q < w.heap.size ∧ b < w.heap.size ∧ u < w.heap.size := ⟨h.blk.lt, (h.row.lt b rfl).2, (h.flg.lt u rfl).2⟩
theorem PSt.later {p g cap : Nat} {s : St} {w w' : World} (h : PSt p g cap s w) (hb : Below w.heap.size w w') : PSt p g cap s w' := h.chg (Chg.of_below [] hb) (by simp) (by simp)
theorem RSt.later {q b u cb cu : Nat} {s : St} {w w' : World} (h : RSt q b u cb cu s w) (hb : Below w.heap.size w w') : RSt q b u cb cu s w' := h.chg (Chg.of_below [] hb) (by simp) (by simp) (by simp)
theorem PSt.cells {p g cap : Nat} {s : St} {w : World} (h : PSt p g cap s w) :
    w.cell? ⟨p, 0, none⟩ = some (.slice (some ⟨g, 0, none⟩) s.c.length cap) ∧ w.cell? ⟨p, 1, none⟩ = some (.bool s.dead) ∧ w.cell? ⟨p, 2, none⟩ = some (.int .i64 s.fuse) ∧ w.cell? ⟨p, 3, none⟩ = some (.int .u8 (s.by_.toNat : Int)) ∧ w.cell? ⟨p, 4, none⟩ = some (.bool s.torn) :=
  ⟨h.blk.cell (j := 0) rfl, h.blk.cell (j := 1) rfl, h.blk.cell (j := 2) rfl, h.blk.cell (j := 3) rfl, h.blk.cell (j := 4) rfl⟩
theorem RSt.cells {q b u cb cu : Nat} {s : St} {w : World} (h : RSt q b u cb cu s w) :
    w.cell? ⟨q, 0, none⟩ = some (.slice (some ⟨b, 0, none⟩) s.c.length cb) ∧ w.cell? ⟨q, 1, none⟩ = some (.slice (some ⟨u, 0, none⟩) s.c.length cu) ∧ w.cell? ⟨q, 2, none⟩ = some (.int .i64 s.fuse) ∧ w.cell? ⟨q, 3, none⟩ = some (.int .u8 (s.by_.toNat : Int)) ∧ w.cell? ⟨q, 4, none⟩ = some (.bool s.torn) ∧ w.cell? ⟨q, 5, none⟩ = some (.bool s.dead) :=
  ⟨h.blk.cell (j := 0) rfl, h.blk.cell (j := 1) rfl, h.blk.cell (j := 2) rfl, h.blk.cell (j := 3) rfl, h.blk.cell (j := 4) rfl, h.blk.cell (j := 5) rfl⟩
theorem PSt.at {p g cap : Nat} {s : St} {w : World} (h : PSt p g cap s w) {j : Nat} {c : Ce} (hj : s.c[j]? = some c) :
    w.cell? ⟨g, j * 2, none⟩ = some (.int .u8 (c.1.toNat : Int)) ∧ w.cell? ⟨g, j * 2 + 1, none⟩ = some (.bool c.2) ∧ (∀ i, w.frozen? ⟨g, i, none⟩ = false) := by
  have hl := (List.getElem?_eq_some_iff.1 hj).1
  obtain ⟨e1, e2⟩ := cc_at s.c j c hj
  exact ⟨(h.row.cellAt (j * 2) (by omega)).trans e1, (h.row.cellAt (j * 2 + 1) (by omega)).trans e2, fun i => h.row.frozenAt i⟩
theorem RSt.atB {q b u cb cu : Nat} {s : St} {w : World} (h : RSt q b u cb cu s w) {j : Nat} {c : Ce} (hj : s.c[j]? = some c) :
    w.cell? ⟨b, j, none⟩ = some (.int .u8 (c.1.toNat : Int)) ∧ (∀ i, w.frozen? ⟨b, i, none⟩ = false) := by
  have hl := (List.getElem?_eq_some_iff.1 hj).1
  exact ⟨(h.row.cellAt j (by omega)).trans (by simp [bv, hj]), fun i => h.row.frozenAt i⟩
theorem RSt.atU {q b u cb cu : Nat} {s : St} {w : World} (h : RSt q b u cb cu s w) {j : Nat} {c : Ce} (hj : s.c[j]? = some c) :
    w.cell? ⟨u, j, none⟩ = some (.bool c.2) ∧ (∀ i, w.frozen? ⟨u, i, none⟩ = false) := by
  have hl := (List.getElem?_eq_some_iff.1 hj).1
  exact ⟨(h.flg.cellAt j (by omega)).trans (by simp [fv, hj]), fun i => h.flg.frozenAt i⟩
end Go.Proofs.Ytoinjapmioldaaa

namespace Go.Proofs.Ytoinjapmioldaaa
open Go.RowKit

/-- A slot's bytes. -/
def sl (n : Nat) : List UInt8 := putL n 8 ++ putL (18446744073709551615 - n) 8
theorem sl_length (n : Nat) : (sl n).length = 16 := by simp [sl, putL_length]
/-- Are they a slot's? -/
def gdO (b : List UInt8) : Bool := decide (b.length = 16) && decide (getL (b.take 8) + getL (b.drop 8) = 18446744073709551615)
def gdN (b : List UInt8) : Nat := if gdO b = true then getL (b.take 8) else 0
theorem gd_sl {n : Nat} (h : n < 18446744073709551616) : gdO (sl n) = true ∧ gdN (sl n) = n := by
  have e1 : (sl n).take 8 = putL n 8 := by
    unfold sl; rw [List.take_append_of_le_length (by rw [putL_length]; omega), List.take_of_length_le (by rw [putL_length]; omega)]
  have e2 : (sl n).drop 8 = putL (18446744073709551615 - n) 8 := by
    unfold sl; rw [List.drop_append_of_le_length (by rw [putL_length]; omega), List.drop_of_length_le (by rw [putL_length]; omega)]; rfl
  have h1 : getL (putL n 8) = n := by rw [get_put, Nat.mod_eq_of_lt (show n < 256 ^ 8 from h)]
  have h2 : getL (putL (18446744073709551615 - n) 8) = 18446744073709551615 - n := by rw [get_put, Nat.mod_eq_of_lt (show _ < 256 ^ 8 by omega)]
  have hO : gdO (sl n) = true := by
    unfold gdO
    rw [e1, e2, h1, h2, sl_length]
    simp; omega
  exact ⟨hO, by unfold gdN; rw [if_pos hO, e1, h1]⟩
theorem gdN_lt (b : List UInt8) : gdN b < 18446744073709551616 := by
  unfold gdN
  split
  · rename_i h
    unfold gdO at h
    simp only [Bool.and_eq_true, decide_eq_true_eq] at h
    omega
  · omega
theorem gd_nil : gdO [] = false ∧ gdN [] = 0 := ⟨by decide, by decide⟩
theorem gdN_no {b : List UInt8} (h : gdO b = false) : gdN b = 0 := by unfold gdN; rw [if_neg (by rw [h]; simp)]
/-- Halves fit, if each byte does. -/
theorem fit_all : ∀ (k : Nat) (a c : List UInt8), a.length = k → c.length = k → ((∀ (i : Nat) (x y : UInt8), a[i]? = some x → c[i]? = some y → x.toNat + y.toNat = 255) ↔ getL a + getL c = 256 ^ k - 1) := by
  intro k
  induction k with
  | zero =>
    intro a c ha hc
    obtain rfl := List.eq_nil_of_length_eq_zero ha
    obtain rfl := List.eq_nil_of_length_eq_zero hc
    simp [getL]
  | succ k ih =>
    intro a c ha hc
    obtain ⟨a', x, rfl⟩ : ∃ r b, a = r ++ [b] := ⟨a.dropLast, a.getLast (by intro e; subst e; simp at ha), (List.dropLast_concat_getLast _).symm⟩
    obtain ⟨c', y, rfl⟩ : ∃ r b, c = r ++ [b] := ⟨c.dropLast, c.getLast (by intro e; subst e; simp at hc), (List.dropLast_concat_getLast _).symm⟩
    simp only [List.length_append, List.length_cons, List.length_nil] at ha hc
    have hi := ih a' c' (by omega) (by omega)
    have l1 := getL_lt k a' (by omega)
    have l2 := getL_lt k c' (by omega)
    rw [getL_snoc, getL_snoc, Nat.pow_succ]
    have hp : 0 < 256 ^ k := Nat.pow_pos (by decide)
    have hx := x.toNat_lt
    have hy := y.toNat_lt
    constructor
    · intro h
      have h1 := hi.1 (fun i u v hu hv => h i u v (by rw [List.getElem?_append_left (List.getElem?_eq_some_iff.1 hu).1]; exact hu) (by rw [List.getElem?_append_left (List.getElem?_eq_some_iff.1 hv).1]; exact hv))
      have h2 := h k x y (by rw [List.getElem?_append_right (by omega)]; simp [show k - a'.length = 0 by omega]) (by rw [List.getElem?_append_right (by omega)]; simp [show k - c'.length = 0 by omega])
      omega
    · intro h
      have h2 : x.toNat + y.toNat = 255 := by omega
      have h1 := hi.2 (by omega)
      intro i u v hu hv
      rcases Nat.lt_or_ge i k with h3 | h3
      · rw [List.getElem?_append_left (by omega)] at hu hv
        exact h1 i u v hu hv
      · have hi2 : i < k + 1 := by have := (List.getElem?_eq_some_iff.1 hu).1; simp at this; omega
        obtain rfl : i = k := by omega
        rw [List.getElem?_append_right (by omega)] at hu hv
        simp [show i - a'.length = 0 by omega] at hu
        simp [show i - c'.length = 0 by omega] at hv
        subst hu hv
        exact h2
theorem gdO_all {b : List UInt8} (h : b.length = 16) : gdO b = true ↔ ∀ (i : Nat) (x y : UInt8), i < 8 → b[i]? = some x → b[8 + i]? = some y → x.toNat + y.toNat = 255 := by
  have hf := fit_all 8 (b.take 8) (b.drop 8) (by simp; omega) (by simp; omega)
  rw [show (256 ^ 8 - 1 : Nat) = 18446744073709551615 from rfl] at hf
  unfold gdO
  rw [h]
  simp only [decide_true, Bool.true_and, decide_eq_true_eq]
  rw [← hf]
  constructor
  · intro h2 i x y hi hx hy
    exact h2 i x y (by rw [List.getElem?_take, if_pos hi]; exact hx) (by rw [List.getElem?_drop]; exact hy)
  · intro h2 i x y hx hy
    have hi : i < 8 := by have := (List.getElem?_eq_some_iff.1 hx).1; simp at this; omega
    rw [List.getElem?_take, if_pos hi] at hx
    rw [List.getElem?_drop] at hy
    exact h2 i x y hi hx hy

/-- A slot of a store: its number; is it good? -/
def sN (s : St) (k : Nat) : Nat := gdN (rdB s ((16 * k : Nat) : Int) 16)
def sO (s : St) (k : Nat) : Bool := gdO (rdB s ((16 * k : Nat) : Int) 16)
def cE (s : St) : Int := if s.c.length < 32 then 2 else if s.dead = true then 7 else if sO s 0 = false ∧ sO s 1 = false then 8 else 0
/-- Which slot is not needed? -/
def fr (s : St) : Nat := if sO s 1 = false ∨ sN s 1 < sN s 0 then 1 else 0
def cM (s : St) : Nat := if sO s 1 = false ∨ sN s 1 < sN s 0 then sN s 0 else sN s 1
def cN (s : St) : Nat := if cE s = 0 then cM s else 0
def fF (s : St) : Nat := if cE s = 0 then fr s else 0
theorem cM_lt (s : St) : cM s < 18446744073709551616 := by unfold cM; split <;> exact gdN_lt _
/-- What a beginning answers, and leaves. -/
def bE (s : St) : Int := if cE s ≠ 0 then cE s else if cM s = 18446744073709551615 then 5 else wrE s ((16 * fr s : Nat) : Int) (sl (cM s + 1))
def bN (s : St) : Nat := if bE s = 0 then cM s + 1 else 0
def bS (s : St) : St := if cE s = 0 ∧ cM s ≠ 18446744073709551615 then wrS s ((16 * fr s : Nat) : Int) (sl (cM s + 1)) else s
theorem fr_le (s : St) : fr s ≤ 1 := by unfold fr; split <;> omega
/-- Where the power stands, all is written. -/
theorem wgo_ok : ∀ (b : List UInt8) (k : Nat) (s : St), (wgo b k s).dead = false → k + b.length ≤ s.c.length →
    ∀ j, (wgo b k s).c[j]? = if k ≤ j ∧ j < k + b.length then (b[j - k]?).map (fun x => (x, false)) else s.c[j]?
  | [], k, s, _, _ => fun j => by rw [if_neg (by simp only [List.length_nil]; omega)]; rfl
  | x :: r, k, s, hd, hl => by
    simp only [List.length_cons] at hl
    unfold wgo at hd ⊢
    by_cases hf : s.fuse = 0
    · rw [if_pos hf] at hd
      simp [St.tear] at hd
    · rw [if_neg hf] at hd ⊢
      have hl2 : (s.step k x).c.length = s.c.length := by simp [St.step]
      have h3 := wgo_ok r (k + 1) (s.step k x) hd (by rw [hl2]; omega)
      intro j
      rw [h3 j]
      simp only [List.length_cons]
      by_cases hk : j = k
      · subst hk
        rw [if_neg (by omega), if_pos (by omega)]
        simp only [St.step, Nat.sub_self]
        rw [List.getElem?_set_self (by omega)]
        rfl
      · by_cases h4 : k ≤ j ∧ j < k + (r.length + 1)
        · rw [if_pos h4, if_pos (by omega), show j - k = (j - (k + 1)) + 1 by omega]
          rfl
        · rw [if_neg h4, if_neg (by omega)]
          simp only [St.step]
          rw [List.getElem?_set_ne (by omega)]
theorem wrE_zero {s : St} {a : Int} {b : List UInt8} (h : wrE s a b = 0) : inn s.c.length a b.length = true ∧ s.dead = false ∧ (wgo b a.toNat s).dead = false ∧ wrS s a b = wgo b a.toNat s := by
  unfold wrE at h
  by_cases hi : inn s.c.length a b.length = true
  · rw [if_pos hi] at h
    by_cases hd : s.dead = true
    · rw [if_pos hd] at h; cases h
    · rw [if_neg hd] at h
      by_cases hg : (wgo b a.toNat s).dead = true
      · rw [if_pos hg] at h; cases h
      · have hd2 : s.dead = false := by simpa using hd
        refine ⟨hi, hd2, by simpa using hg, ?_⟩
        unfold wrS
        rw [if_pos ⟨hi, hd2⟩]
  · rw [if_neg hi] at h; cases h
/-- What was written with power is read back. -/
theorem rd_wr {s : St} {a : Int} {b : List UInt8} (h : wrE s a b = 0) : rdE (wrS s a b) a b.length = 0 ∧ rdB (wrS s a b) a b.length = b := by
  obtain ⟨hi, _, hg, e⟩ := wrE_zero h
  obtain ⟨h0, _, h2⟩ := inn_iff.1 hi
  have hw := wgo_ok b a.toNat s hg (by omega)
  have hlen := wgo_len b a.toNat s
  rw [e]
  have hL : rdL (wgo b a.toNat s) a b.length = b.map fun x => (x, false) := by
    apply List.ext_getElem?
    intro j
    unfold rdL
    rw [Int.toNat_natCast, List.getElem?_take]
    by_cases hj : j < b.length
    · rw [if_pos hj, List.getElem?_drop, hw, if_pos (by omega), List.getElem?_map, show a.toNat + j - a.toNat = j by omega]
    · rw [if_neg hj, List.getElem?_eq_none (by simp; omega)]
  have e1 : rdE (wgo b a.toNat s) a b.length = 0 := by
    unfold rdE
    rw [if_pos (by rw [hlen]; exact hi), if_neg (by rw [hg]; simp), hL]
    simp
  refine ⟨e1, ?_⟩
  unfold rdB
  rw [if_pos e1, hL, List.map_map]
  exact List.map_id b
end Go.Proofs.Ytoinjapmioldaaa

namespace Go.Proofs.Ytoinjapmioldaaa
open Go.RowKit
attribute [local go_sem ↓] Go.wp_at_zero Go.wp_at_succ

/-- What the count of the first lists comes to. -/
def msum (L : List (List UInt8)) : Nat → Nat
  | 0 => 0
  | k + 1 => msum L k + min (L[k]?.getD []).length 9001
def lsum (L : List (List UInt8)) : Nat → Nat
  | 0 => 0
  | k + 1 => lsum L k + (L[k]?.getD []).length
theorem msum_le (L : List (List UInt8)) : ∀ k, msum L k ≤ lsum L k
  | 0 => Nat.le_refl _
  | k + 1 => by have := msum_le L k; unfold msum lsum; omega
theorem msum_eq (L : List (List UInt8)) : ∀ k, msum L k ≤ 9000 → msum L k = lsum L k
  | 0, _ => rfl
  | k + 1, h => by
    unfold msum at h ⊢
    unfold lsum
    have e := msum_eq L k (by omega)
    omega
theorem lsum_take (L : List (List UInt8)) : ∀ k, k ≤ L.length → lsum L k = (L.take k).flatten.length
  | 0, _ => by simp [lsum]
  | k + 1, h => by
    unfold lsum
    rw [lsum_take L k (by omega), List.take_succ_eq_append_getElem (by omega), List.flatten_append, List.length_append, List.flatten_singleton, List.getElem?_eq_getElem (by omega)]
    rfl
theorem lsum_all (L : List (List UInt8)) : lsum L L.length = L.flatten.length := by rw [lsum_take L _ (Nat.le_refl _), List.take_length]
theorem lsum_mono (L : List (List UInt8)) {i k : Nat} (h : i ≤ k) : lsum L i ≤ lsum L k := by
  induction k with
  | zero => have : i = 0 := by omega
            subst this; exact Nat.le_refl _
  | succ k ih =>
    rcases Nat.eq_or_lt_of_le h with rfl | h
    · exact Nat.le_refl _
    · have := ih (by omega)
      show _ ≤ lsum L k + _
      omega
/-- More than so many bytes and parts. -/
def muchB (L : List (List UInt8)) : Bool := decide (9000 < L.length + L.flatten.length)

end Go.Proofs.Ytoinjapmioldaaa

namespace Go.Proofs.Ytoinjapmioldaaa
open Go.RowKit
attribute [local go_sem ↓] Go.wp_at_zero Go.wp_at_succ

set_option maxRecDepth 100000 in
theorem growW_some (n : Nat) (w : World) (h0 : 0 < n) (hn : n ≤ 100000) :
    Calls Try.prog 49 #[.slice none 0 0, .int .i64 (n : Int)] w fun e w' => ∃ v, e = .returned v ∧ OwnB w' w.heap.size v [] ∧ Below w.heap.size w w' := by
  obtain ⟨i0, hi, hz0, hz1, hz2⟩ := info8
  have hold : (Builtin.firstCells i0.size 0 (.slice none 0 0)).run Try.prog w.drew = .ok #[] w.drew := run_firstCells_none w.drew i0.size 0 0 0
  have hrz : ∀ ty, (Builtin.append_ #[22, 3] ty #[.slice none 0 0, .int .i64 (n : Int)]).run Try.prog w =
      .ok (.slice (some ⟨w.heap.size, 0, none⟩) n (grownCap w n 0 5)) (w.drew.alloc (.cells (([] : List Value).toArray ++ Builtin.zeroCells (Value.int .u8 0).cells n ++ Builtin.zeroCells (Value.int .u8 0).cells (grownCap w n 0 5 - n)) 5)) := fun ty => by
    have h := Lib.run_append_grow_zeros w 22 3 ty 5 i0 (.int .u8 0) .i64 .i64 Try.underlying22 Try.underlying3 hi hz0 none 0 0 [] hold n (by omega) (by omega) (by omega) (by omega)
      (by rw [hz2]; omega) (by rw [Nat.zero_add]; exact growslice_fits h0 (by rw [hz2]; omega))
    rw [Nat.zero_add] at h
    exact h
  have hGn : n ≤ grownCap w n 0 5 := grownCap_ge w _ _ _
  have hG63 := grownCap_le_maxLen w n 0 5 (by unfold maxLen; omega)
  obtain ⟨G, hG⟩ : ∃ G, G = grownCap w n 0 5 := ⟨_, rfl⟩
  rw [← hG] at hrz hGn hG63
  have hsz : (([] : List Value).toArray ++ Builtin.zeroCells (Value.int .u8 0).cells n ++ Builtin.zeroCells (Value.int .u8 0).cells (G - n)).size = G * 1 := by
    have e : ∀ k, (Builtin.zeroCells (Value.int .u8 0).cells k).size = k := fun k => by simp [Builtin.zeroCells, Value.cells]
    simp [e]; omega
  obtain ⟨cur, hcur⟩ : ∃ cur, cur = (([] : List Value).toArray ++ Builtin.zeroCells (Value.int .u8 0).cells n ++ Builtin.zeroCells (Value.int .u8 0).cells (G - n)) := ⟨_, rfl⟩
  rw [← hcur] at hrz hsz
  have hown : OwnB (w.drew.alloc (.cells cur 5)) w.heap.size (.slice (some ⟨w.heap.size, 0, none⟩) 0 G) [] :=
    World.ownsRow_made (w := w.drew) cur G (Nat.le_refl _) hG63 hsz
  have HO := Lib.hid hown
  have HB := Lib.hid (show Below w.heap.size w (w.drew.alloc (.cells cur 5)) from ((Below.refl _ _).drew).alloc (Nat.le_refl _) _)
  have g1 : (0 : Int) < n := by omega
  have g2 : (n : Int) ≤ 100000 := by omega
  clear hold hG hcur hsz hown hG63 hGn hn h0
  go_enter Try.func49, Try.ntmps49
  go_wp2_with (at_builtin; refine Lib.wpList_append_run _ rfl _ _ _ _ rfl _ _ rfl rfl _ _ (hrz _) ?_)
  all_goals
    go_ret
    exact ⟨_, rfl, HO.out, HB.out⟩
theorem growW_none (w : World) :
    Calls Try.prog 49 #[.slice none 0 0, .int .i64 0] w fun e w' => e = .returned (.slice none 0 0) ∧ w = w' := by
  go_enter Try.func49, Try.ntmps49
  go_wp2_with fail
  go_ret
  exact ⟨rfl, rfl⟩

set_option maxHeartbeats 2000000 in
set_option maxRecDepth 100000 in
theorem concatW_some (b : Option Addr) (c : Nat) (L : List (List UInt8)) (w : World) (hv : Lists w (.slice b L.length c) L) (hL : L.length ≤ 10000) (hS : L.flatten.length ≤ 100000) :
    Calls Try.prog 48 #[.slice b L.length c] w fun e w' => ∃ v, e = .returned v ∧ OwnB w' w.heap.size v L.flatten ∧ Below w.heap.size w w' := by
  have HV := Lib.hid hv
  clear hv
  go_enter Try.func48, Try.ntmps48
  go_wp2_with fail
  go_loop [3, 11] (fun s i => ∃ k : Nat, k ≤ L.length ∧ i = .int .i64 k ∧ s = .int .i64 (lsum L k)) (fun _ i => L.length - (intOf i).toNat)
  case atStart => exact ⟨0, Nat.zero_le _, rfl, rfl⟩
  case round =>
    obtain ⟨k, hk, rfl, rfl⟩ := hrel
    have hz1 := lsum_mono L hk
    rw [lsum_all] at hz1
    obtain ⟨z, hz⟩ : ∃ z, z = lsum L k := ⟨_, rfl⟩
    rw [← hz] at hz1 ⊢
    have Hz := Lib.hid hz
    have HZ1 := Lib.hid (show z ≤ 100000 by omega)
    clear hz hz1
    rcases Nat.lt_or_ge k L.length with hlt | hge
    · obtain ⟨bl, bo, rfl, hbl, x, d, he, hbe⟩ := HV.out.at hlt
      have hs2 : lsum L (k + 1) = z + L[k].length := by
        show lsum L k + _ = _
        rw [List.getElem?_eq_getElem hlt, Hz.out]; rfl
      have hz2 := lsum_mono L (show k + 1 ≤ L.length by omega)
      rw [lsum_all] at hz2
      obtain ⟨m, hm⟩ : ∃ m, m = L[k].length := ⟨_, rfl⟩
      rw [← hm] at he hs2
      have hm2 : (z : Int) + m ≤ 100000 := by omega
      have Hs2 := Lib.hid hs2
      have g1 : (k : Int) < L.length := by omega
      clear hm hs2 hbe hz2
      go_wp2_with fail
      go_round
      case rel => exact ⟨k + 1, by omega, by go_num, by rw [Hs2.out]; go_num⟩
      case measure => simp [intOf]; omega
    · have e : k = L.length := by omega
      subst e
      have hgrow : Calls Try.prog 49 #[.slice none 0 0, .int .i64 (z : Int)] w fun e w' => ∃ v, e = .returned v ∧ OwnB w' w.heap.size v [] ∧ Below w.heap.size w w' := by
        rcases Nat.eq_zero_or_pos z with h0 | h0
        · subst h0
          exact (growW_none w).mono fun e w' ⟨h1, h2⟩ => by subst h2; exact ⟨_, h1, OwnB.nil _ _, Below.refl _ _⟩
        · exact growW_some z w h0 (by have := HZ1.out; omega)
      have hz2 : (z : Int) ≤ 100000 := by have := HZ1.out; omega
      go_wp2_with fail
      refine hgrow.mono ?_
      rintro e w1 ⟨v1, rfl, ho1, hb1⟩
      have HO := Lib.hid ho1
      have HB1 := Lib.hid hb1
      clear ho1 hb1 hgrow hz2
      go_wp2_with fail
      go_loopw [6, 27] (fun v i wr => ∃ k : Nat, k ≤ L.length ∧ i = .int .i64 k ∧ Hid (OwnB wr w.heap.size v (L.take k).flatten) ∧ Hid (Below w.heap.size w wr)) (fun _ i _ => L.length - (intOf i).toNat)
      case atStart => exact ⟨0, Nat.zero_le _, rfl, HO.out, HB1.out⟩
      case round =>
        obtain ⟨k, hk, rfl, HW, HB⟩ := hrel
        rcases Nat.lt_or_ge k L.length with hlt | hge2
        · have g1 : (k : Int) < L.length := by omega
          obtain ⟨bl, bo, rfl, hbl, x, d, he, hbe⟩ := HV.out.at hlt
          have he' := cell_later' HB.out hbl he
          have b1 : bl < wr.heap.size := Nat.lt_of_lt_of_le hbl HB.out.size
          have hbw := hbe.later HB.out
          have hsz := lsum_take L (k + 1) (by omega)
          have hsz2 := lsum_mono L (i := k + 1) (k := L.length) (by omega)
          rw [lsum_all, hsz] at hsz2
          have hfl : (L.take (k + 1)).flatten = (L.take k).flatten ++ L[k] := by rw [List.take_succ_eq_append_getElem hlt, List.flatten_append, List.flatten_singleton]
          have hfn : (L.take k).flatten.length + L[k].length ≤ 100000 := by rw [← List.length_append, ← hfl]; omega
          have Hfl := Lib.hid hfl
          have Hbw := Lib.hid hbw
          have Hfn := Lib.hid hfn
          clear hfn hfl hsz hsz2 hbe he hbw
          go_wp2_with (at_builtin; refine wpList_app rfl _ _ rfl w.heap.size _ _ _ L[k] rfl rfl HW.out Hbw.out (by have := Hfn.out; omega) HB.out.size ?_)
          intro v' w2 ho2 hb2 hg2
          have HO2 := Lib.hid ho2
          rw [← Hfl.out] at HO2
          have HB2 := Lib.hid (HB.out.trans hb2)
          clear ho2 hb2 hg2
          go_wp2_with fail
          go_roundw
          case rel => exact ⟨k + 1, by omega, by go_num, HO2, HB2⟩
          case measure => simp [intOf]; omega
        · have e : k = L.length := by omega
          subst e
          rw [List.take_length] at HW
          go_wp2_with fail
          go_ret
          exact ⟨_, rfl, HW.out, HB.out⟩
theorem joinW_own (v : Value) (L : List (List UInt8)) (w : World) (hv : Lists w v L) (hL : L.length ≤ 10000) (hS : L.flatten.length ≤ 100000) :
    Calls Try.prog 39 #[v] w fun e w' => ∃ v, e = .returned v ∧ OwnB w' w.heap.size v L.flatten ∧ Below w.heap.size w w' := by
  obtain ⟨b, c, rfl⟩ := hv.form
  have HV := Lib.hid hv
  clear hv
  go_enter Try.func39, Try.ntmps39
  go_wp2_with fail
  refine (concatW_some b c L w HV.out hL hS).mono ?_
  rintro e w1 ⟨v1, rfl, h1, hb1⟩
  have H1 := Lib.hid h1
  clear h1
  go_wp2_with fail
  go_ret
  exact ⟨_, rfl, H1.out, hb1⟩
theorem joinW_any (v : Value) (L : List (List UInt8)) (w : World) (hv : Lists w v L) (hL : L.length ≤ 10000) (hS : L.flatten.length ≤ 100000) :
    Calls Try.prog 39 #[v] w fun e w' => ∃ v, e = .returned v ∧ Bytes w' v L.flatten ∧ Below w.heap.size w w' :=
  (joinW_own v L w hv hL hS).mono fun _ _ ⟨v, h1, h2, h3⟩ => ⟨v, h1, h2.bytes, h3⟩
end Go.Proofs.Ytoinjapmioldaaa

namespace Go.Proofs.Ytoinjapmioldaaa
open Go.RowKit
attribute [local go_sem ↓] Go.wp_at_zero Go.wp_at_succ

/-- A store that is there, by its address. -/
def pt (p : Nat) : Value := .pointer (some ⟨p, 0, none⟩)
theorem allS {p g cap : Nat} {s : St} {w : World} (h : PSt p g cap s w) :
    Calls Try.prog 34 #[.pointer (some ⟨p, 0, none⟩)] w fun e w' => e = .returned (.slice (some ⟨g, 0, none⟩) s.c.length cap) ∧ w = w' := by
  obtain ⟨c0, c1, c2, c3, c4⟩ := h.cells
  clear h
  go_enter Try.func34, Try.ntmps34
  go_wp2_with fail
  go_ret
  exact ⟨rfl, rfl⟩
theorem lenS {p g cap : Nat} {s : St} {w : World} (h : PSt p g cap s w) :
    Calls Try.prog 42 #[.pointer (some ⟨p, 0, none⟩)] w fun e w' => e = .returned (.int .i64 (s.c.length : Int)) ∧ w = w' := by
  have H := Lib.hid (allS h)
  clear h
  go_enter Try.func42, Try.ntmps42
  go_wp2_with fail
  refine H.out.mono ?_
  rintro e w1 ⟨rfl, rfl⟩
  go_wp2_with fail
  go_ret
  exact ⟨rfl, rfl⟩
theorem noneS {p g cap : Nat} {s : St} {w : World} (h : PSt p g cap s w) :
    Calls Try.prog 29 #[.pointer (some ⟨p, 0, none⟩)] w fun e w' => e = .returned (.bool false) ∧ w = w' := by
  have H := Lib.hid (lenS h)
  have k : ((s.c.length : Int) == 0) = false := by have := h.pos; rw [beq_eq_false_iff_ne]; omega
  clear h
  go_enter Try.func29, Try.ntmps29
  go_wp2_with fail
  refine H.out.mono ?_
  rintro e w1 ⟨rfl, rfl⟩
  go_wp2_with fail
  go_ret
  exact ⟨by simp [k], rfl⟩
/-- What is wrong without power. -/
def pe (s : St) : Int := if s.dead = true then 7 else 0
theorem powerS {p g cap : Nat} {s : St} {w : World} (h : PSt p g cap s w) :
    Calls Try.prog 41 #[.pointer (some ⟨p, 0, none⟩)] w fun e w' => e = .returned (.int .i64 (pe s)) ∧ w = w' := by
  unfold pe
  obtain ⟨c0, c1, c2, c3, c4⟩ := h.cells
  obtain ⟨d, hd⟩ : ∃ d, d = s.dead := ⟨_, rfl⟩
  rw [← hd] at c1 ⊢
  clear h hd
  go_enter Try.func41, Try.ntmps41
  cases d
  · go_wp2_with fail
    go_ret
    exact ⟨rfl, rfl⟩
  · go_wp2_with fail
    go_ret
    exact ⟨rfl, rfl⟩
set_option maxRecDepth 100000 in
theorem deadS {p g cap : Nat} {s : St} {w : World} (h : PSt p g cap s w) :
    Calls Try.prog 19 #[.pointer (some ⟨p, 0, none⟩)] w fun e w' => e = .returned (.bool s.dead) ∧ w = w' := by
  have H := Lib.hid (noneS h)
  obtain ⟨c0, c1, c2, c3, c4⟩ := h.cells
  obtain ⟨d, hd⟩ : ∃ d, d = s.dead := ⟨_, rfl⟩
  rw [← hd] at c1 ⊢
  clear h hd
  go_enter Try.func19, Try.ntmps19
  go_wp2_with fail
  refine H.out.mono ?_
  rintro e w1 ⟨rfl, rfl⟩
  go_wp2_with fail
  go_ret
  exact ⟨rfl, rfl⟩
/-- Where they do not lie within. -/
def lieE (s : St) (a n : Int) : Int := if inn s.c.length a n = true then 0 else 2
set_option maxHeartbeats 1000000 in
set_option maxRecDepth 100000 in
theorem lieS {p g cap : Nat} {s : St} {w : World} (h : PSt p g cap s w) (a n : Int) (ha : a ≤ 9223372036854775807) :
    Calls Try.prog 28 #[.pointer (some ⟨p, 0, none⟩), .int .i64 a, .int .i64 n] w fun e w' => e = .returned (.int .i64 (lieE s a n)) ∧ w = w' := by
  have H := Lib.hid (noneS h)
  obtain ⟨c0, c1, c2, c3, c4⟩ := h.cells
  obtain ⟨m, hm⟩ : ∃ m, m = s.c.length := ⟨_, rfl⟩
  unfold lieE
  have hf := h.few
  rw [← hm] at c0 hf ⊢
  clear h hm c1 c2 c3 c4
  by_cases h0 : 0 ≤ a
  · by_cases h1 : 0 ≤ n
    · have e1 : wrap64 ((m : Int) - a) = m - a := IntWalk.wrap64_in _ ⟨by omega, by omega⟩
      have k1 : decide (a < 0) = false := by simp; omega
      have k2 : decide (n < 0) = false := by simp; omega
      by_cases h2 : n ≤ m - a
      · have k3 : decide ((m : Int) - a < n) = false := by simp; omega
        rw [if_pos (inn_iff.2 ⟨h0, h1, h2⟩)]
        clear hf ha
        go_enter Try.func28, Try.ntmps28
        go_wp2_with fail
        refine H.out.mono ?_
        rintro e w1 ⟨rfl, rfl⟩
        go_wp2_with fail
        go_ret
        exact ⟨rfl, rfl⟩
      · have k3 : decide ((m : Int) - a < n) = true := by simp; omega
        rw [if_neg (by rw [inn_iff]; omega)]
        clear hf ha h2
        go_enter Try.func28, Try.ntmps28
        go_wp2_with fail
        refine H.out.mono ?_
        rintro e w1 ⟨rfl, rfl⟩
        go_wp2_with fail
        go_ret
        exact ⟨rfl, rfl⟩
    · have k1 : decide (a < 0) = false := by simp; omega
      have k2 : decide (n < 0) = true := by simp; omega
      rw [if_neg (by rw [inn_iff]; omega)]
      clear hf ha h1
      go_enter Try.func28, Try.ntmps28
      go_wp2_with fail
      refine H.out.mono ?_
      rintro e w1 ⟨rfl, rfl⟩
      go_wp2_with fail
      go_ret
      exact ⟨rfl, rfl⟩
  · have k1 : decide (a < 0) = true := by simp; omega
    rw [if_neg (by rw [inn_iff]; omega)]
    clear hf ha h0
    go_enter Try.func28, Try.ntmps28
    go_wp2_with fail
    refine H.out.mono ?_
    rintro e w1 ⟨rfl, rfl⟩
    go_wp2_with fail
    go_ret
    exact ⟨rfl, rfl⟩
/-- What is wrong ahead of a write, or a read. -/
def redE (s : St) (a n : Int) : Int := if inn s.c.length a n = true then (if s.dead = true then 7 else 0) else 2
theorem readyS {p g cap : Nat} {s : St} {w : World} (h : PSt p g cap s w) (a n : Int) (ha : a ≤ 9223372036854775807) :
    Calls Try.prog 37 #[.pointer (some ⟨p, 0, none⟩), .int .i64 a, .int .i64 n] w fun e w' => e = .returned (.int .i64 (redE s a n)) ∧ w = w' := by
  have H := Lib.hid (lieS h a n ha)
  have H2 := Lib.hid (powerS h)
  unfold redE
  unfold lieE at H
  clear h ha
  by_cases hi : inn s.c.length a n = true
  · rw [if_pos hi] at H ⊢
    clear hi
    rw [show (if s.dead = true then (7 : Int) else 0) = pe s from rfl]
    obtain ⟨x, hx⟩ : ∃ x : Int, x = pe s := ⟨_, rfl⟩
    rw [← hx] at H2 ⊢
    clear hx
    go_enter Try.func37, Try.ntmps37
    go_wp2_with fail
    refine H.out.mono ?_
    rintro e w1 ⟨rfl, rfl⟩
    go_wp2_with fail
    refine H2.out.mono ?_
    rintro e w1 ⟨rfl, rfl⟩
    go_wp2_with fail
    go_ret
    exact ⟨rfl, rfl⟩
  · rw [if_neg hi] at H ⊢
    clear hi H2
    go_enter Try.func37, Try.ntmps37
    go_wp2_with fail
    refine H.out.mono ?_
    rintro e w1 ⟨rfl, rfl⟩
    go_wp2_with fail
    go_ret
    exact ⟨rfl, rfl⟩
theorem withinS {q b u cb cu : Nat} {s : St} {w : World} (h : RSt q b u cb cu s w) (a n : Int) (ha : -9223372036854775808 ≤ n) :
    Calls Try.prog 47 #[.pointer (some ⟨q, 0, none⟩), .int .i64 a, .int .i64 n] w fun e w' => e = .returned (.bool (inn s.c.length a n)) ∧ w = w' := by
  obtain ⟨c0, c1, c2, c3, c4, c5⟩ := h.cells
  obtain ⟨m, hm⟩ : ∃ m, m = s.c.length := ⟨_, rfl⟩
  have hf := h.few
  rw [← hm] at c0 hf ⊢
  clear h hm c1 c2 c3 c4 c5
  by_cases h0 : 0 ≤ a
  · by_cases h1 : 0 ≤ n
    · have k1 : decide (0 ≤ a) = true := by simp; omega
      have k2 : decide (0 ≤ n) = true := by simp; omega
      by_cases h2 : n ≤ m
      · have e1 : wrap64 ((m : Int) - n) = m - n := IntWalk.wrap64_in _ ⟨by omega, by omega⟩
        have k3 : decide (n ≤ (m : Int)) = true := by simp; omega
        have k4 : decide (a ≤ (m : Int) - n) = inn m a n := by
          rw [Bool.eq_iff_iff, inn_iff, decide_eq_true_iff]; omega
        clear hf ha
        go_enter Try.func47, Try.ntmps47
        go_wp2_with fail
        go_ret
        exact ⟨by simp [k4], rfl⟩
      · have k3 : decide (n ≤ (m : Int)) = false := by simp; omega
        rw [inn_no.2 (by omega)]
        clear hf ha h2
        go_enter Try.func47, Try.ntmps47
        go_wp2_with fail
        go_ret
        exact ⟨rfl, rfl⟩
    · have k1 : decide (0 ≤ a) = true := by simp; omega
      have k2 : decide (0 ≤ n) = false := by simp; omega
      rw [inn_no.2 (by omega)]
      clear hf ha h1
      go_enter Try.func47, Try.ntmps47
      go_wp2_with fail
      go_ret
      exact ⟨rfl, rfl⟩
  · have k1 : decide (0 ≤ a) = false := by simp; omega
    rw [inn_no.2 (by omega)]
    clear hf ha h0
    go_enter Try.func47, Try.ntmps47
    go_wp2_with fail
    go_ret
    exact ⟨rfl, rfl⟩
end Go.Proofs.Ytoinjapmioldaaa

namespace Go.Proofs.Ytoinjapmioldaaa
open Go.RowKit
attribute [local go_sem ↓] Go.wp_at_zero Go.wp_at_succ

theorem eqB {u v : Value} {l m : List UInt8} {w : World} (hu : Bytes w u l) (hv : Bytes w v m) :
    Calls Try.prog 46 #[u, v] w fun e w' => e = .returned (.bool (l == m)) ∧ w = w' := by
  obtain ⟨a, c, rfl⟩ := hu.form
  obtain ⟨b, d, rfl⟩ := hv.form
  have h1 := hu.str (P := Try.prog) (src := 22) (dst := 9) Try.underlying22 Try.underlying5 Try.underlying9
  have h2 := hv.str (P := Try.prog) (src := 22) (dst := 9) Try.underlying22 Try.underlying5 Try.underlying9
  obtain ⟨A, hA⟩ : ∃ A : ByteArray, A = ⟨l.toArray⟩ := ⟨_, rfl⟩
  obtain ⟨B, hB⟩ : ∃ B : ByteArray, B = ⟨m.toArray⟩ := ⟨_, rfl⟩
  rw [← hA] at h1
  rw [← hB] at h2
  obtain ⟨q, hq⟩ : ∃ q, q = (A.toList == B.toList) := ⟨_, rfl⟩
  have HQ : Hid (q = (l == m)) := by
    have : q = (l == m) := by rw [hq, hA, hB]; simp
    exact this
  clear hu hv
  go_enter Try.func46, Try.ntmps46
  go_wp2_with fail
  go_ret
  exact ⟨rfl, rfl⟩
theorem not64 {n : Nat} (h : n < 18446744073709551616) : bits .xor .u64 (IntKind.u64.max) (n : Int) = ((18446744073709551615 - n : Nat) : Int) := by
  have e : IntKind.u64.max = ((18446744073709551615 : Nat) : Int) := by decide
  rw [e, u64_xor_nat _ _ (by omega) (by omega)]
  congr 1
  apply Nat.eq_of_testBit_eq
  intro i
  have e1 : (18446744073709551615 : Nat) = 2 ^ 64 - 1 := by decide
  have e2 : 18446744073709551615 - n = 2 ^ 64 - (n + 1) := by omega
  rw [e2, Nat.testBit_two_pow_sub_succ (x := n) (n := 64) h, Nat.testBit_xor, e1, Nat.testBit_two_pow_sub_one]
  by_cases hi : i < 64
  · simp [hi]
  · have : n.testBit i = false := Nat.testBit_lt_two_pow (Nat.lt_of_lt_of_le (show n < 2 ^ 64 from h) (Nat.pow_le_pow_right (n := 2) (by decide) (show 64 ≤ i by omega)))
    simp [hi, this]
theorem ownDown {w : World} {B B' : Nat} {v : Value} {l : List UInt8} (h : OwnB w B v l) (hB : B' ≤ B) : OwnB w B' v l := by
  obtain ⟨hl, h0 | ⟨g, cap, cur, e, hb, h2⟩⟩ := h
  · exact ⟨hl, .inl h0⟩
  · exact ⟨hl, .inr ⟨g, cap, cur, e, Nat.le_trans hB hb, h2⟩⟩
theorem lists2 {w : World} {u v : Value} {k l : List UInt8} (g : Bytes w u k) (h : Bytes w v l) : Lists (w.alloc (.cells #[u, v] 22)) (.slice (some ⟨w.heap.size, 0, none⟩) 2 2) [k, l] :=
  .inr ⟨w.heap.size, 0, 2, rfl, by simp, Nat.le_refl _, fun j x hx => by
    match j, hx with
    | 0, hx => simp at hx; subst hx; exact ⟨u, by simp, g.later (ba1 _ _)⟩
    | 1, hx => simp at hx; subst hx; exact ⟨v, by simp, h.later (ba1 _ _)⟩⟩
set_option maxHeartbeats 1000000 in
set_option maxRecDepth 100000 in
theorem slotW (n : Nat) (w : World) (h : n < 18446744073709551616) :
    Calls Try.prog 22 #[.int .u64 (n : Int)] w fun e w' => ∃ v, e = .returned v ∧ OwnB w' w.heap.size v (sl n) ∧ Below w.heap.size w w' := by
  have hx := not64 h
  go_enter Try.func22, Try.ntmps22
  go_wp2_with fail
  refine (putW_yes n 8 w (by omega) (by omega) h).mono ?_
  rintro e w1 ⟨v1, rfl, hb1, hB1⟩
  obtain ⟨a1, c1, rfl⟩ := hb1.form
  rw [putL_length] at hb1 ⊢
  have HB1 := Lib.hid hB1
  have HV1 := Lib.hid hb1
  clear hb1 hB1
  go_wp2_with fail
  refine (putW_yes (18446744073709551615 - n) 8 w1 (by omega) (by omega) (by omega)).mono ?_
  rintro e w2 ⟨v2, rfl, hb2, hB2⟩
  obtain ⟨a2, c2, rfl⟩ := hb2.form
  rw [putL_length] at hb2 ⊢
  have HL := Lib.hid (lists2 (HV1.out.later hB2) hb2)
  have HB2 := Lib.hid ((below_of HB1.out hB2).alloc (by have := HB1.out.size; have := hB2.size; omega) (.cells #[.slice a1 8 c1, .slice a2 8 c2] 22))
  clear hb2 hB2 HV1
  go_wp2_with fail
  refine (joinW_own _ _ _ HL.out (by simp) (by simp [putL_length])).mono ?_
  rintro e w3 ⟨v3, rfl, hb3, hB3⟩
  go_wp2_with fail
  go_ret
  refine ⟨_, rfl, ?_, below_of HB2.out hB3⟩
  have hf : [putL n 8, putL (18446744073709551615 - n) 8].flatten = sl n := by simp [sl]
  rw [hf] at hb3
  exact ownDown hb3 HB2.out.size

set_option maxHeartbeats 2000000 in
set_option maxRecDepth 100000 in
theorem goodW {v : Value} {l : List UInt8} {w : World} (hv : Bytes w v l) :
    Calls Try.prog 23 #[v] w fun e w' => e = .returned (.tuple #[.int .u64 (gdN l : Nat), .bool (gdO l)]) ∧ w = w' := by
  obtain ⟨a, c, rfl⟩ := hv.form
  by_cases h : l.length = 16
  · obtain ⟨hs1, hb1⟩ := hv.cut_h 8 8 rfl (by omega)
    obtain ⟨a2, hs2, hb2⟩ := hv.cut_l 8 8 rfl (by omega)
    rw [h] at hs1 hs2 hb2 ⊢
    have l1 : (l.take 8).length = 8 := by simp; omega
    have l2 : (l.drop 8).length = 8 := by simp; omega
    have HG1 := Lib.hid (getW_any _ _ w hb1 (by omega))
    have HG2 := Lib.hid (getW_any _ _ w hb2 (by omega))
    obtain ⟨x, hx⟩ : ∃ x, x = getL (l.take 8) := ⟨_, rfl⟩
    obtain ⟨y, hy⟩ : ∃ y, y = getL (l.drop 8) := ⟨_, rfl⟩
    have x1 : x < 18446744073709551616 := by rw [hx]; exact getL_lt 8 _ l1
    have y1 : y < 18446744073709551616 := by rw [hy]; exact getL_lt 8 _ l2
    have g1 : getN (l.take 8) = (x : Int) ∧ getE (l.take 8) = 0 := by rw [hx]; exact get_yes (by omega) (by omega)
    have g2 : getN (l.drop 8) = (y : Int) ∧ getE (l.drop 8) = 0 := by rw [hy]; exact get_yes (by omega) (by omega)
    rw [g1.1, g1.2] at HG1
    rw [g2.1, g2.2] at HG2
    have hn := not64 x1
    have HO : Hid (gdO l = decide (x + y = 18446744073709551615) ∧ (x + y = 18446744073709551615 → gdN l = x)) := by
      have e : gdO l = decide (x + y = 18446744073709551615) := by
        unfold gdO; rw [h, ← hx, ← hy]; simp
      refine ⟨e, fun h2 => ?_⟩
      unfold gdN
      rw [if_pos (by rw [e]; exact decide_eq_true h2), hx]
    clear hv hb1 hb2 hx hy l1 l2 g1 g2
    by_cases ht : x + y = 18446744073709551615
    · have hq : ((y : Int) != ((18446744073709551615 - x : Nat) : Int)) = false := by
        rw [show y = 18446744073709551615 - x by omega]; simp
      have hq2 : ((y : Int) != bits BinOp.xor IntKind.u64 (if IntKind.u64.signed = true then -1 else IntKind.u64.max) (x : Int)) = false := by
        rw [if_neg (by decide), hn]; exact hq
      have HO2 : Hid (gdO l = true ∧ gdN l = x) := ⟨by rw [HO.out.1]; exact decide_eq_true ht, HO.out.2 ht⟩
      clear HO ht x1 y1
      go_enter Try.func23, Try.ntmps23
      go_wp2_with fail
      refine HG1.out.mono ?_
      rintro e w1 ⟨rfl, rfl⟩
      go_wp2_with fail
      refine HG2.out.mono ?_
      rintro e w1 ⟨rfl, rfl⟩
      go_wp2_with fail
      go_ret2
      rw [HO2.out.1, HO2.out.2]
      exact ⟨rfl, rfl⟩
    · have hq : ((y : Int) != ((18446744073709551615 - x : Nat) : Int)) = true := bne_iff_ne.2 (by omega)
      have hq2 : ((y : Int) != bits BinOp.xor IntKind.u64 (if IntKind.u64.signed = true then -1 else IntKind.u64.max) (x : Int)) = true := by
        rw [if_neg (by decide), hn]; exact hq
      have HO2 : Hid (gdO l = false ∧ gdN l = 0) := by
        have : gdO l = false := by rw [HO.out.1]; exact decide_eq_false ht
        exact ⟨this, gdN_no this⟩
      clear HO ht x1 y1
      go_enter Try.func23, Try.ntmps23
      go_wp2_with fail
      refine HG1.out.mono ?_
      rintro e w1 ⟨rfl, rfl⟩
      go_wp2_with fail
      refine HG2.out.mono ?_
      rintro e w1 ⟨rfl, rfl⟩
      go_wp2_with fail
      go_ret2
      rw [HO2.out.1, HO2.out.2]
      exact ⟨rfl, rfl⟩
  · have e : gdO l = false ∧ gdN l = 0 := by
      have : gdO l = false := by unfold gdO; simp [h]
      exact ⟨this, gdN_no this⟩
    have ht : ((l.length : Int) != 16) = true := bne_iff_ne.2 (by omega)
    clear hv h
    go_enter Try.func23, Try.ntmps23
    go_wp2_with fail
    go_ret2
    rw [e.1, e.2]
    exact ⟨rfl, rfl⟩
end Go.Proofs.Ytoinjapmioldaaa

namespace Go.Proofs.Ytoinjapmioldaaa
open Go.RowKit

def Row (w : World) (v : Value) (xs : List Value) : Prop :=
  (xs = [] ∧ ∃ a c, v = .slice a 0 c ∧ (a = none → c = 0)) ∨
  ∃ b o c, v = .slice (some ⟨b, o, none⟩) xs.length c ∧ b < w.heap.size ∧ xs.length ≤ c ∧ ∀ j x, xs[j]? = some x → w.cell? ⟨b, o + j, none⟩ = some x
theorem Row.later {w w' : World} {v : Value} {l : List Value} (h : Row w v l) (hb : Below w.heap.size w w') : Row w' v l := by
  rcases h with h | ⟨b, o, c, h1, h2, hp, h3⟩
  · exact .inl h
  · exact .inr ⟨b, o, c, h1, Nat.lt_of_lt_of_le h2 hb.size, hp, fun j x hx => cell_later hb (h3 j x hx)⟩
theorem Row.form {w : World} {v : Value} {l : List Value} (h : Row w v l) : ∃ a c, v = .slice a l.length c := by
  rcases h with ⟨rfl, a, c, rfl, _⟩ | ⟨b, o, c, rfl, _, _⟩
  · exact ⟨a, c, rfl⟩
  · exact ⟨_, c, rfl⟩
theorem Row.at {w : World} {a : Option Addr} {n c : Nat} {l : List Value} (h : Row w (.slice a n c) l) {i : Nat} {x : Value} (hi : l[i]? = some x) :
    ∃ b o, a = some ⟨b, o, none⟩ ∧ b < w.heap.size ∧ w.cell? ⟨b, o + i, none⟩ = some x := by
  rcases h with ⟨rfl, _⟩ | ⟨b, o, c', h1, h2, _, h3⟩
  · simp at hi
  · simp only [Value.slice.injEq] at h1
    exact ⟨b, o, h1.1, h2, h3 i _ hi⟩
theorem Row.of_own {w : World} {base : Nat} {e : TypeId} {v : Value} {n : Nat} {l : List Value} (h : w.ownsRow base e 1 v n l) : Row w v l := by
  obtain ⟨hl, h0 | ⟨g, cap, cur, rfl, hb, hg, hn, hm, hc, ht⟩⟩ := h
  · obtain ⟨rfl, rfl⟩ := h0
    simp at hl
    subst hl
    exact .inl ⟨rfl, _, _, rfl, fun _ => rfl⟩
  · have hln : l.length = n := by simpa using hl
    subst hln
    refine .inr ⟨g, 0, cap, rfl, ?_, hn, fun j x hx => ?_⟩
    · rcases Nat.lt_or_ge g w.heap.size with h1 | h1
      · exact h1
      · rw [Array.getElem?_eq_none h1] at hg; cases hg
    · rw [Nat.zero_add, cell_of_row w g j cur e (0, 0) hg]
      have hj : j < l.length := (List.getElem?_eq_some_iff.1 hx).1
      have : l[j]? = some x := hx
      rw [← ht, List.getElem?_take, if_pos (by omega)] at this
      simpa using this
theorem Row.of_bytes {w : World} {v : Value} {l : List UInt8} (h : Bytes w v l) : Row w v (bv l) := by
  rcases h with ⟨rfl, a, c, rfl, h1⟩ | ⟨b, o, c, rfl, h2, hp, h3⟩
  · exact .inl ⟨rfl, a, c, rfl, h1⟩
  · refine .inr ⟨b, o, c, by simp [bv], h2, by simpa [bv] using hp, fun j x hx => ?_⟩
    simp only [bv, List.getElem?_map, Option.map_eq_some_iff] at hx
    obtain ⟨y, hy, rfl⟩ := hx
    exact h3 j y hy
theorem ownsRow_later {w w' : World} {B : Nat} {e : TypeId} {s n : Nat} {v : Value} {xs : List Value} (h : w.ownsRow B e s v n xs) (hb : Below w.heap.size w w') : w'.ownsRow B e s v n xs := by
  obtain ⟨hl, h0 | ⟨g, cap, cur, rfl, hb1, hg, hn, hm, hc, ht⟩⟩ := h
  · exact ⟨hl, .inl h0⟩
  · refine ⟨hl, .inr ⟨g, cap, cur, rfl, hb1, ?_, hn, hm, hc, ht⟩⟩
    rw [hb.block g ?_]
    · exact hg
    · rcases Nat.lt_or_ge g w.heap.size with h1 | h1
      · exact h1
      · rw [Array.getElem?_eq_none h1] at hg; cases hg
def iv (l : List Int) : List Value := l.map fun z => .int .i64 z
theorem iv_at {zs : List Int} {k : Nat} (h : k < zs.length) : (iv zs)[k]? = some (.int .i64 zs[k]) := by simp [iv, h]
end Go.Proofs.Ytoinjapmioldaaa

namespace Go.Proofs.Ytoinjapmioldaaa
open Go.RowKit
attribute [local go_sem ↓] Go.wp_at_zero Go.wp_at_succ

theorem made_cc (n : Nat) : (madeCells #[.int .u8 0, .bool false] (n * 2)).toList = cc (List.replicate n (0, false)) := by
  induction n with
  | zero => simp [madeCells, cc]
  | succ n ih =>
    rw [List.replicate_succ', cc_append, ← ih]
    unfold madeCells
    rw [show (n + 1) * 2 = n * 2 + 1 + 1 by omega]
    simp only [Array.toList_map, Array.toList_range, List.range_succ, List.map_append, List.map_cons, List.map_nil, List.append_assoc]
    rw [show n * 2 % #[Value.int .u8 0, .bool false].size = 0 by show n * 2 % 2 = 0; omega, show (n * 2 + 1) % #[Value.int .u8 0, .bool false].size = 1 by show (n * 2 + 1) % 2 = 1; omega]
    rfl
theorem infoC : ∃ i0, Try.prog.info? 56 = some i0 ∧ i0.zero = some (.agg #[.int .u8 0, .bool false]) ∧ i0.size = 2 ∧ i0.bytes = 2 := by
  have hi5 : (Try.prog.info? 56).map (fun i => (i.zero, i.size, i.bytes)) = some (some (.agg #[.int .u8 0, .bool false]), 2, 2) := by kernel_rfl
  obtain ⟨i0, hi, hx⟩ := Option.map_eq_some_iff.1 hi5
  simp only [Prod.mk.injEq] at hx
  exact ⟨i0, hi, hx.1, hx.2.1, hx.2.2⟩
theorem infoB : ∃ i0, Try.prog.info? 4 = some i0 ∧ i0.zero = some (.bool false) ∧ i0.size = 1 ∧ i0.bytes = 1 := by
  have hi5 : (Try.prog.info? 4).map (fun i => (i.zero, i.size, i.bytes)) = some (some (.bool false), 1, 1) := by kernel_rfl
  obtain ⟨i0, hi, hx⟩ := Option.map_eq_some_iff.1 hi5
  simp only [Prod.mk.injEq] at hx
  exact ⟨i0, hi, hx.1, hx.2.1, hx.2.2⟩
theorem make_cells (n : Nat) (w : World) (hn : n ≤ 1000000) :
    ∃ w1, (Instr.makeSlice 54 (.int .i64 (n : Int)) (.int .i64 (n : Int))).run Try.prog w = .ok (.slice (some ⟨w.heap.size, 0, none⟩) n n) w1 ∧ w1.ownsRow w.heap.size 56 2 (.slice (some ⟨w.heap.size, 0, none⟩) n n) n (cc (List.replicate n (0, false))) ∧ Below w.heap.size w w1 := by
  obtain ⟨i0, hi, hz0, hz1, hz2⟩ := infoC
  obtain ⟨w1, hmk, hown0, hg0⟩ := run_make_full (P := Try.prog) (w := w) w.heap.size 54 56 i0 (.agg #[.int .u8 0, .bool false]) 2 Try.underlying54 hi hz0 hz1 .i64 .i64 n (by rw [hz2]; omega) (by unfold maxLen; omega) (Nat.le_refl _)
  refine ⟨w1, hmk, ?_, (Below.refl _ _).grown hg0 (Nat.le_refl _) (by simp)⟩
  rw [← made_cc]; exact hown0
theorem make_flags (n : Nat) (w : World) (hn : n ≤ 1000000) :
    ∃ w1, (Instr.makeSlice 23 (.int .i64 (n : Int)) (.int .i64 (n : Int))).run Try.prog w = .ok (.slice (some ⟨w.heap.size, 0, none⟩) n n) w1 ∧ w1.ownsRow w.heap.size 4 1 (.slice (some ⟨w.heap.size, 0, none⟩) n n) n (List.replicate n (.bool false)) ∧ Below w.heap.size w w1 := by
  obtain ⟨i0, hi, hz0, hz1, hz2⟩ := infoB
  obtain ⟨w1, hmk, hown0, hg0⟩ := run_make_full (P := Try.prog) (w := w) w.heap.size 23 4 i0 (.bool false) 1 Try.underlying23 hi hz0 hz1 .i64 .i64 n (by rw [hz2]; omega) (by unfold maxLen; omega) (Nat.le_refl _)
  refine ⟨w1, hmk, ?_, (Below.refl _ _).grown hg0 (Nat.le_refl _) (by simp)⟩
  rw [← toList_madeCells_one (.bool false) n, ← Nat.mul_one n]; exact (Nat.mul_one n).symm ▸ hown0

/-- What New leaves. -/
def NewA (n : Nat) (w : World) (e : Ending) (w' : World) : Prop :=
  ∃ p g, e = .returned (.tuple #[.pointer (some ⟨p, 0, none⟩), .int .i64 0]) ∧ w.heap.size ≤ p ∧ w.heap.size ≤ g ∧ PSt p g n (nw n) w' ∧ Below w.heap.size w w'
set_option maxRecDepth 100000 in
theorem newW (n : Nat) (w : World) (h1 : 1 ≤ n) (h2 : n ≤ 4096) : Calls Try.prog 8 #[.int .i64 (n : Int)] w (NewA n w) := by
  obtain ⟨w1, hmk, hown, hb⟩ := make_cells n w (by omega)
  have k1 : decide ((n : Int) < 1) = false := by simp; omega
  have k2 : decide ((4096 : Int) < n) = false := by simp; omega
  have HO := Lib.hid hown
  have HB := Lib.hid hb
  have HH := Lib.hid (And.intro h1 h2)
  clear hown hb h1 h2
  go_enter Try.func8, Try.ntmps8
  go_wp2_with fail
  go_ret2
  have hs := HB.out.size
  have hg := (HO.out.lt _ rfl).2
  have hq := (Below.refl w1.heap.size w1).alloc (Nat.le_refl _) (.cells #[.slice (some ⟨w.heap.size, 0, none⟩) n n, .bool false, .int .i64 (-1), .int .u8 0, .bool false] 58)
  refine ⟨w1.heap.size, w.heap.size, rfl, hs, Nat.le_refl _, ⟨?_, ?_, ?_, ?_, ?_, ?_, ?_⟩, HB.out.trans (hq.mono hs)⟩
  · have := BlkAt.new (t := 58) w1 (pcs w.heap.size n (nw n))
    have hl : (nw n).c.length = n := by simp [nw]
    unfold pcs at this ⊢
    rw [hl] at this ⊢
    exact this
  · have hl : (nw n).c.length = n := by simp [nw]
    rw [hl]
    have := ownsRow_later HO.out hq
    obtain ⟨e1, e2 | ⟨g, cap, cur, e3, _, e4⟩⟩ := this
    · exact ⟨e1, .inl e2⟩
    · exact ⟨e1, .inr ⟨g, cap, cur, e3, Nat.zero_le _, e4⟩⟩
  · have := HO.out.lt _ rfl; omega
  · have := HH.out; simp [nw]; omega
  · have := HH.out; simp [nw]; omega
  · simp [nw]
  · simp [nw]
theorem newNo (n : Int) (w : World) (h : n < 1 ∨ 4096 < n) : Calls Try.prog 8 #[.int .i64 n] w fun e w' => e = .returned (.tuple #[.pointer none, .int .i64 2]) ∧ w = w' := by
  by_cases h1 : n < 1
  · have k1 : decide (n < 1) = true := by simp; omega
    clear h
    go_enter Try.func8, Try.ntmps8
    go_wp2_with fail
    go_ret2
    exact ⟨rfl, rfl⟩
  · have k1 : decide (n < 1) = false := by simp; omega
    have k2 : decide (4096 < n) = true := by simp; omega
    clear h h1
    go_enter Try.func8, Try.ntmps8
    go_wp2_with fail
    go_ret2
    exact ⟨rfl, rfl⟩

set_option maxRecDepth 100000 in
theorem raiseS {p g cap : Nat} {s : St} {w : World} (h : PSt p g cap s w) :
    Calls Try.prog 20 #[.pointer (some ⟨p, 0, none⟩)] w fun e w' => (∃ v, e = .returned v) ∧ PSt p g cap (raS s) w' ∧ Chg [p] w w' := by
  have H := Lib.hid (noneS h)
  obtain ⟨c0, c1, c2, c3, c4⟩ := h.cells
  have hfz : ∀ j, w.frozen? ⟨p, j, none⟩ = false := fun j => h.blk.frozen j
  have HP := Lib.hid h
  clear h
  go_enter Try.func20, Try.ntmps20
  go_wp2_with fail
  refine H.out.mono ?_
  rintro e w1 ⟨rfl, rfl⟩
  go_wp2_with fail
  go_end0
  have hc : Chg [p] w ((w.setCell ⟨p, 1, none⟩ (.bool false)).setCell ⟨p, 2, none⟩ (.int .i64 (-1))) := (((Chg.refl [p] w).set (by simp) 1 _).set (by simp) 2 _)
  refine ⟨⟨_, rfl⟩, ⟨(HP.out.blk.set 1 _).set 2 _, hc.owns HP.out.row (fun k hk => ?_), HP.out.ne, HP.out.pos, HP.out.few, HP.out.cap, by simp [raS]⟩, hc⟩
  simp [Value.ownBlock] at hk
  have := HP.out.ne
  simp; omega
end Go.Proofs.Ytoinjapmioldaaa
