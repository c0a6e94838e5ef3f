/- The walk of the closure that goes over the bytes of lists, for longer bytes.
   The walks of sum.Total, sum.Check, sum.Good.
   Bytes of noughts, made.
   A frame's bytes: plain mathematics, no function of the program in it.
   The closures of frame.numbers: the walks.
   A copy into a block, in a region that draws its order: the rest of memory stays.
   Bytes laid over others; a copy over a block known whole.
   The walk of the closure that goes over the bytes of lists.
   The walks of sum.Add, the reference's Add, sum.Change, the reference's Change. -/
import Derived.Deep.LoopGhost
import Derived.Laws.CopyOwn
import Derived.IntWalk
import Derived.Laws.OwnMore
import Derived.Test.YtcahfapffhcceaaZ01
import Derived.Test.YtcahfapffhcceaaZ02
import Derived.Test.YtcahfapffhcceaaZ03
import Derived.Test.YtcahfapffhcceaaZ05

set_option linter.unusedSimpArgs false
set_option linter.unusedVariables false
namespace Go.Proofs.Ytcahfapffhcceaa
open Go.RowKit
attribute [local go_sem ↓] Go.wp_at_zero Go.wp_at_succ

theorem addW_any (x y : Nat) (w : World) (hx : x < 65536) (hy : y < 65536) :
    Calls Try.prog 57 #[.int .u16 (x : Int), .int .u16 (y : Int)] w fun e w' => e = .returned (.int .u16 (Sm.addC x y : Nat)) ∧ w = w' := by
  have hx2 : (x : Int) < 65536 := by omega
  have hy2 : (y : Int) < 65536 := by omega
  go_enter Try.func57, Try.ntmps57
  go_wp2
  go_ret
  refine ⟨ret_i ?_, rfl⟩
  rw [wrap16]
  unfold Sm.addC
  split <;> omega
theorem addR_any (x y : Nat) (w : World) (hx : x < 65536) (hy : y < 65536) :
    Calls Try.prog 59 #[.int .u16 (x : Int), .int .u16 (y : Int)] w fun e w' => e = .returned (.int .u16 (Sm.addC x y : Nat)) ∧ w = w' := by
  have hx2 : (x : Int) < 65536 := by omega
  have hy2 : (y : Int) < 65536 := by omega
  by_cases h : 65536 ≤ (x : Int) + y
  all_goals
    go_enter Try.func59, Try.ntmps59
    go_wp2
    go_ret
    refine ⟨ret_i ?_, rfl⟩
    (try rw [wrap16])
    unfold Sm.addC
    split <;> omega
theorem addW_int (x y : Int) (w : World) (hx0 : 0 ≤ x) (hx : x < 65536) (hy0 : 0 ≤ y) (hy : y < 65536) (z : Int) (hz : z = (Sm.addC x.toNat y.toNat : Nat)) :
    Calls Try.prog 57 #[.int .u16 x, .int .u16 y] w fun e w' => e = .returned (.int .u16 z) ∧ w = w' := by
  have := addW_any x.toNat y.toNat w (by omega) (by omega)
  rw [show ((x.toNat : Nat) : Int) = x by omega, show ((y.toNat : Nat) : Int) = y by omega, ← hz] at this
  exact this
theorem addR_int (x y : Int) (w : World) (hx0 : 0 ≤ x) (hx : x < 65536) (hy0 : 0 ≤ y) (hy : y < 65536) (z : Int) (hz : z = (Sm.addC x.toNat y.toNat : Nat)) :
    Calls Try.prog 59 #[.int .u16 x, .int .u16 y] w fun e w' => e = .returned (.int .u16 z) ∧ w = w' := by
  have := addR_any x.toNat y.toNat w (by omega) (by omega)
  rw [show ((x.toNat : Nat) : Int) = x by omega, show ((y.toNat : Nat) : Int) = y by omega, ← hz] at this
  exact this

/-- The first words of a number, the highest first, summed. -/
def foldK (x : Nat) : Nat → Nat
  | 0 => 0
  | 1 => Sm.addC 0 (x / 281474976710656 % 65536)
  | 2 => Sm.addC (Sm.addC 0 (x / 281474976710656 % 65536)) (x / 4294967296 % 65536)
  | 3 => Sm.addC (Sm.addC (Sm.addC 0 (x / 281474976710656 % 65536)) (x / 4294967296 % 65536)) (x / 65536 % 65536)
  | _ => Sm.addC (Sm.addC (Sm.addC (Sm.addC 0 (x / 281474976710656 % 65536)) (x / 4294967296 % 65536)) (x / 65536 % 65536)) (x % 65536)
theorem foldK_lt (x k : Nat) : foldK x k < 65536 := by
  have h1 : Sm.addC 0 (x / 281474976710656 % 65536) < 65536 := Sm.addC_lt (by omega) (by omega)
  have h2 : Sm.addC (Sm.addC 0 (x / 281474976710656 % 65536)) (x / 4294967296 % 65536) < 65536 := Sm.addC_lt h1 (by omega)
  have h3 := Sm.addC_lt h2 (show x / 65536 % 65536 < 65536 by omega)
  have h4 := Sm.addC_lt h3 (show x % 65536 < 65536 by omega)
  unfold foldK
  split
  · omega
  · exact h1
  · exact h2
  · exact h3
  · exact h4
theorem fold_arg0 (x : Nat) (y : Int) (h : y.toNat = x / 281474976710656 % 65536) : ((foldK x 1 : Nat) : Int) = (Sm.addC ((foldK x 0 : Nat) : Int).toNat y.toNat : Nat) := by
  rw [Int.toNat_natCast, h]; rfl
theorem fold_arg1 (x : Nat) (y : Int) (h : y.toNat = x / 4294967296 % 65536) : ((foldK x 2 : Nat) : Int) = (Sm.addC ((foldK x 1 : Nat) : Int).toNat y.toNat : Nat) := by
  rw [Int.toNat_natCast, h]; rfl
theorem fold_arg2 (x : Nat) (y : Int) (h : y.toNat = x / 65536 % 65536) : ((foldK x 3 : Nat) : Int) = (Sm.addC ((foldK x 2 : Nat) : Int).toNat y.toNat : Nat) := by
  rw [Int.toNat_natCast, h]; rfl
theorem fold_arg3 (x : Nat) (y : Int) (h : y.toNat = x / 1 % 65536) : ((foldK x 4 : Nat) : Int) = (Sm.addC ((foldK x 3 : Nat) : Int).toNat y.toNat : Nat) := by
  rw [Int.toNat_natCast, h]; simp [foldK]
def foldN (x : Nat) : Nat := foldK x 4
end Go.Proofs.Ytcahfapffhcceaa

namespace Go.Proofs.Ytcahfapffhcceaa
open Go.RowKit
attribute [local go_sem ↓] Go.wp_at_zero Go.wp_at_succ

/-- What is still to come behind a place. -/
def rest (L : List (List UInt8)) (i a : Nat) : List UInt8 := (L.drop i).flatten.drop a
/-- What the closure holds. -/
structure Nx (w0 : World) (N i a : Nat) (v : Value) (w : World) : Prop where
  bel : Below w0.heap.size w0 w
  le : w0.heap.size ≤ N
  c0 : w.heap[N]? = some (.cells #[v] 71)
  c1 : w.heap[N + 1]? = some (.cells #[.int .i64 (i : Int)] 3)
  c2 : w.heap[N + 2]? = some (.cells #[.int .i64 (a : Int)] 3)

theorem Nx.set {w0 w : World} {N i a : Nat} {v : Value} (h : Nx w0 N i a v w) (i' a' : Nat) : Nx w0 N i' a' v ((w.setCell ⟨N + 1, 0, none⟩ (.int .i64 (i' : Int))).setCell ⟨N + 2, 0, none⟩ (.int .i64 (a' : Int))) := by
  have hl := h.le
  refine ⟨(h.bel.setCell (by simp; omega) _).setCell (by simp; omega) _, hl, ?_, ?_, ?_⟩
  · rw [Below.heap_setCell _ _ _ _ (by simp), Below.heap_setCell _ _ _ _ (by simp)]; exact h.c0
  · rw [Below.heap_setCell _ _ _ _ (by simp)]; exact one_setCell h.c1
  · refine one_setCell (v := .int .i64 (a : Int)) ?_
    rw [Below.heap_setCell _ _ _ _ (by simp)]; exact h.c2
theorem Nx.set2 {w0 w : World} {N i a : Nat} {v : Value} (h : Nx w0 N i a v w) (a' : Nat) : Nx w0 N i a' v (w.setCell ⟨N + 2, 0, none⟩ (.int .i64 (a' : Int))) := by
  have hl := h.le
  refine ⟨h.bel.setCell (by simp; omega) _, hl, ?_, ?_, ?_⟩
  · rw [Below.heap_setCell _ _ _ _ (by simp)]; exact h.c0
  · rw [Below.heap_setCell _ _ _ _ (by simp)]; exact h.c1
  · exact one_setCell h.c2
theorem Nx.drewN {w0 w : World} {N i a : Nat} {v : Value} (h : Nx w0 N i a v w) (n : Nat) : Nx w0 N i a v (w.drewN n) :=
  ⟨⟨h.bel.os, h.bel.tape, h.bel.output, h.bel.size, h.bel.block⟩, h.le, h.c0, h.c1, h.c2⟩

theorem rest_none {L : List (List UInt8)} {a : Nat} : rest L L.length a = [] := by simp [rest]
theorem rest_in {L : List (List UInt8)} {i a : Nat} (hi : i < L.length) (ha : a < L[i].length) : rest L i a = L[i][a] :: rest L i (a + 1) := by
  unfold rest
  rw [List.drop_eq_getElem_cons hi, List.flatten_cons, List.drop_append_of_le_length (by omega), List.drop_append_of_le_length (by omega), List.drop_eq_getElem_cons ha]
  rfl
theorem rest_end {L : List (List UInt8)} {i : Nat} (hi : i < L.length) : rest L i L[i].length = rest L (i + 1) 0 := by
  unfold rest
  rw [List.drop_eq_getElem_cons hi, List.flatten_cons, List.drop_append_of_le_length (by omega)]
  simp

/-- One byte more: what comes of it. -/
def NextGives (w0 : World) (N : Nat) (v : Value) (L : List (List UInt8)) (i a : Nat) (e : Ending) (w' : World) : Prop :=
  ∃ i' a', e = .returned (.int .u8 (Sm.at0 (rest L i a) 0 : Nat)) ∧ Nx w0 N i' a' v w' ∧ i' ≤ L.length ∧ (∀ h : i' < L.length, a' ≤ L[i'].length) ∧ rest L i' a' = (rest L i a).drop 1

theorem at0_cons {l : List UInt8} {x : UInt8} {r : List UInt8} (h : l = x :: r) : Sm.at0 l 0 = x.toNat := by subst h; rfl
theorem at0_nil {l : List UInt8} (h : l = []) : Sm.at0 l 0 = 0 := by subst h; rfl

set_option maxHeartbeats 1000000 in
theorem next_any (w0 w : World) (N i a c : Nat) (b : Option Addr) (L : List (List UInt8)) (hv : Lists w0 (.slice b L.length c) L) (hx : Nx w0 N i a (.slice b L.length c) w)
    (hi : i ≤ L.length) (ha : ∀ h : i < L.length, a ≤ L[i].length) (hL : L.length ≤ 10000) (hS : ∀ l ∈ L, l.length ≤ 10000) :
    Calls Try.prog 62 #[.pointer (some ⟨N + 1, 0, none⟩), .pointer (some ⟨N, 0, none⟩), .pointer (some ⟨N + 1 + 1, 0, none⟩)] w (NextGives w0 N (.slice b L.length c) L i a) := by
  go_enter Try.func62, Try.ntmps62
  go_wp2_with fail
  go_loopg [4] (L.length - i) (fun k _ wr => ∃ i' a' : Nat, Nx w0 N i' a' (.slice b L.length c) wr ∧ k = L.length - i' ∧ i' ≤ L.length ∧ (∀ h : i' < L.length, a' ≤ L[i'].length) ∧ Hid (rest L i' a' = rest L i a))
  case atStart => exact ⟨i, a, hx, rfl, hi, ha, rfl⟩
  case round =>
    obtain ⟨i', a', hn, rfl, hi', ha', hr⟩ := hrel
    have c0 := cell_of_one hn.c0
    have c1 := cell_of_one hn.c1
    have c2 := cell_of_one hn.c2
    have f1 := free_of_one hn.c1
    have f2 := free_of_one hn.c2
    rcases Nat.lt_or_ge i' L.length with hlt | hge
    · obtain ⟨bl, bo, rfl, hbl, x, d, he, hbe⟩ := hv.at hlt
      have he' := cell_later' hn.bel hbl he
      have hal := ha' hlt
      have hsl := hS _ (List.getElem_mem hlt)
      obtain ⟨m, hm⟩ : ∃ m, m = L[i'].length := ⟨_, rfl⟩
      rw [← hm] at he he' hbe hal hsl
      have g1 : (i' : Int) < L.length := by omega
      have Hm := Lib.hid hm
      clear hm
      have b1 : bl < wr.heap.size := Nat.lt_of_lt_of_le hbl hn.bel.size
      rcases Nat.lt_or_ge a' m with hlt2 | hge2
      · have g2 : decide ((a' : Int) = m) = false := by simp; omega
        have g3 : ((a' : Int) == m) = false := by simp; omega
        have hlx : a' < L[i'].length := by rw [← Hm.out]; exact hlt2
        obtain ⟨bx, ox, rfl, hbx, hex⟩ := hbe.at hlx
        have hex' := cell_later' hn.bel hbx hex
        have b2 : bx < wr.heap.size := Nat.lt_of_lt_of_le hbx hn.bel.size
        obtain ⟨y, hy⟩ : ∃ y, y = L[i'][a'] := ⟨_, rfl⟩
        rw [← hy] at hex'
        have Hy := Lib.hid hy
        have n1 := hn.le
        have n2 : bx ≠ N + 2 := by omega
        have n3 : bl ≠ N + 2 := by omega
        have HN := Lib.hid hn
        have HV := Lib.hid hv
        clear hy hex he hbe hv hx hn
        go_wp2_with fail
        go_quiet (fail)
        go_wp2_with fail
        go_quiet (fail)
        go_wp2_with fail
        go_ret
        have hro := rest_in hlt hlx
        rw [← Hy.out, hr.out] at hro
        refine ⟨i', a' + 1, ret_i ?_, ?_, hi', fun h => ?_, ?_⟩
        · rw [at0_cons hro]
        · exact ((HN.out.drewN _).set2 (a' + 1)).drewN _
        · omega
        · rw [hro]; rfl
      · have e2 : a' = m := by omega
        subst e2
        have hn2 := fun n => (hn.drewN n).set (i' + 1) 0
        have HN := Lib.hid hn2
        clear he hbe hv hx hn hn2
        go_wp2_with fail
        go_quiet (fail)
        go_wp2_with fail
        go_roundg (L.length - (i' + 1))
        case measure => omega
        case rel =>
          refine ⟨i' + 1, 0, ?_, rfl, by omega, fun _ => Nat.zero_le _, ?_⟩
          · exact HN.out nq
          · show _ = _
            rw [← rest_end hlt, ← Hm.out]; exact hr.out
    · have e : i' = L.length := by omega
      subst e
      have g1 : decide ((L.length : Int) < L.length) = false := by simp
      have HN := Lib.hid hn
      clear hv hx hn
      go_wp2_with fail
      go_quiet (fail)
      go_wp2_with fail
      go_ret
      refine ⟨L.length, a', ret_i ?_, HN.out.drewN _, Nat.le_refl _, fun h => absurd h (by omega), ?_⟩
      · rw [at0_nil (hr.out.symm.trans rest_none)]; rfl
      · rw [← hr.out, rest_none]; rfl
end Go.Proofs.Ytcahfapffhcceaa

namespace Go.Proofs.Ytcahfapffhcceaa
open Go.RowKit
attribute [local go_sem ↓] Go.wp_at_zero Go.wp_at_succ

/-- Bytes with others laid over them from a place on. -/
def spl (l : List UInt8) (i : Nat) (x : List UInt8) : List UInt8 := l.take i ++ (x ++ l.drop (i + x.length))
theorem spl_length {l : List UInt8} {i : Nat} {x : List UInt8} (h : i + x.length ≤ l.length) : (spl l i x).length = l.length := by unfold spl; simp; omega
theorem splice_bv {cur : List Value} {l x : List UInt8} {i : Nat} (h : cur.take l.length = bv l) (hi : i + x.length ≤ l.length) (hc : l.length ≤ cur.length) : (splice cur i (bv x)).take (spl l i x).length = bv (spl l i x) := by
  rw [spl_length hi]
  unfold splice spl
  have hb : (bv x).length = x.length := by simp [bv]
  rw [bv_append, bv_append, hb]
  have e1 : cur.take i = bv (l.take i) := by
    have := congrArg (List.take i) h
    rw [List.take_take, Nat.min_eq_left (by omega)] at this
    rw [this]; simp only [bv, ← List.map_take]
  have e2 : (cur.drop (i + x.length)).take (l.length - (i + x.length)) = bv (l.drop (i + x.length)) := by
    have := congrArg (List.drop (i + x.length)) h
    rw [List.drop_take] at this
    rw [this]; simp [bv, List.map_drop]
  have l1 : (bv (l.take i)).length = i := by simp [bv]; omega
  rw [e1, List.take_append, l1, List.take_of_length_le (l := bv (l.take i)) (by omega), List.take_append, hb, List.take_of_length_le (l := bv x) (by omega), ← e2]
  congr 3
  omega
theorem OwnB.splice {w w' : World} {base g cap : Nat} {l x : List UInt8} {i : Nat} {cur : Array Value} (h : OwnB w base (.slice (some ⟨g, 0, none⟩) l.length cap) l) (hg : w.heap[g]? = some (.cells cur 5 (0, 0)))
    (hw : w'.heap[g]? = some (.cells (Go.splice cur.toList i (bv x)).toArray 5 (0, 0))) (hi : i + x.length ≤ l.length) : OwnB w' base (.slice (some ⟨g, 0, none⟩) (spl l i x).length cap) (spl l i x) := by
  obtain ⟨hl, h0 | ⟨g', cap', cur', e, hb, hgg, hn, hm, hc, ht⟩⟩ := h
  · cases h0.1
  · simp only [Value.slice.injEq, Option.some.injEq, Addr.mk.injEq, and_true] at e
    obtain ⟨rfl, _, rfl⟩ := e
    rw [hg] at hgg
    simp only [Option.some.injEq, Obj.cells.injEq, and_true] at hgg
    subst hgg
    have hcl : cur.toList.length = cap := by simpa using hc
    refine ⟨by simp [bv], .inr ⟨g, cap, _, rfl, hb, hw, ?_, hm, ?_, ?_⟩⟩
    · rw [spl_length hi]; exact hn
    · rw [List.size_toArray, length_splice _ _ _ (by simp [bv]; omega)]; omega
    · rw [Nat.mul_one] at ht ⊢
      exact splice_bv ht hi (by omega)
theorem OwnB.row {w : World} {base : Nat} {v : Value} {l : List UInt8} (h : OwnB w base v l) (hl : 0 < l.length) : ∃ g cap cur, v = .slice (some ⟨g, 0, none⟩) l.length cap ∧ base ≤ g ∧ w.heap[g]? = some (.cells cur 5 (0, 0)) ∧ l.length ≤ cap ∧ cur.size = cap := by
  obtain ⟨_, h0 | ⟨g, cap, cur, rfl, hb, hg, hn, hm, hc, ht⟩⟩ := h
  · omega
  · exact ⟨g, cap, cur, rfl, hb, hg, hn, by simpa using hc⟩
/-- b[i:] of what lies at a block's front. -/
theorem cut_front (g n c i : Nat) (hi : i ≤ n) (hc : i < c) (w : World) : (Instr.slice 26 (.slice (some ⟨g, 0, none⟩) n c) (some (.int .i64 (i : Int))) none none).run Try.prog w = .ok (.slice (some ⟨g, i, none⟩) (n - i) (c - i)) w := by
  rw [run_slice_l w _ _ _ _ cells1 _ _ (by omega) (by omega), size1]
  show Result.ok (Go.sliced _ _ _ _ 1) w = _
  unfold Go.sliced
  rw [if_neg (by omega)]
  simp [Addr.add]
  omega

/-- A copy over a block known whole: the rest of memory stays. -/
theorem wpList_copy_put {w : World} {ops : Array Oper} {rest : List Oper} {o : Oper} {a : Act} {Q : Exit → Act → World → Prop} (hgd : o.guard = none) (d s : Operand)
    (ho : o.op = .call { callee := .builtin .copy, args := #[d, s], argTypes := #[26, 26] })
    (g off dLen dCap : Nat) (ad : Addr) (sLen sCap : Nat) (hd : a.eval d = .slice (some ⟨g, off, none⟩) dLen dCap) (hs : a.eval s = .slice (some ad) sLen sCap)
    (cur : Array Value) (hg : w.heap[g]? = some (.cells cur 5 (0, 0))) (cs : List Value) (hn : cs.length = Nat.min sLen dLen)
    (hsrc : ∀ j v, cs[j]? = some v → w.cell? (ad.add j) = some v) (hfit : off + cs.length ≤ cur.size) (h1 : ∀ v ∈ cs, v.oneCell' = true)
    (h : ∀ w', Hid (w'.heap[g]? = some (.cells (Go.splice cur.toList off cs).toArray 5 (0, 0))) → Hid (∀ k, k ≠ g → w'.heap[k]? = w.heap[k]?) → Hid (∀ B, B ≤ g → Below B w w') → wpList Try.prog ops Q rest (a.put o.dst (goInt cs.length)) w') :
    wpList Try.prog ops Q (o :: rest) a w :=
  wpList_copy_own hgd d s 26 26 ho 5 Try.underlying26 (by kernel_rfl) g off dLen dCap ad sLen sCap hd hs cur 5 hg cs hn hsrc hfit h1
    (h _ (show _ = _ from setRow_heap w g _ _ _ _ hg) (fun k hk => setRow_other w g k _ hk) (fun B hB => below_setRow (Below.refl B w) hB _))
end Go.Proofs.Ytcahfapffhcceaa

namespace Go.Proofs.Ytcahfapffhcceaa
open Go.RowKit
theorem step_copy_blk {P : Program} {ops : Array Oper} {o : Oper} {a : Act} {w : World} {K : Act → World → Prop} {Q : Exit → Act → World → Prop} {E : Prop} (hgd : o.guard = none) (d s : Operand) (dT sT : TypeId)
    (ho : o.op = .call { callee := .builtin .copy, args := #[d, s], argTypes := #[dT, sT] }) (elem : TypeId) (hu : P.underlying dT = some (.slice elem)) (hsz : (P.info? elem).map (·.size) = some 1)
    (g off dLen dCap : Nat) (ad : Addr) (sLen sCap : Nat) (hd : a.eval d = .slice (some ⟨g, off, none⟩) dLen dCap) (hs : a.eval s = .slice (some ad) sLen sCap)
    (cur : List Value) (t : TypeId) (hg : w.heap[g]? = some (.cells cur.toArray t (0, 0))) (cs : List Value) (hn : cs.length = Nat.min sLen dLen)
    (hsrc : ∀ j v, cs[j]? = some v → w.cell? (ad.add j) = some v) (hfit : off + cs.length ≤ cur.length) (h1 : ∀ v ∈ cs, v.oneCell' = true)
    (h : ∀ w', Hid (w'.heap[g]? = some (.cells (splice cur off cs).toArray t (0, 0))) → Hid (∀ k, k ≠ g → w'.heap[k]? = w.heap[k]?) → Hid (∀ B, B ≤ g → Below B w w') → K (a.put o.dst (goInt cs.length)) w') :
    if Region.wanted o (yielded ops a.tmps) = true then Oper.wp P o a w K Q else E := by
  have hw : Region.wanted o (yielded ops a.tmps) = true := by simp [Region.wanted, hgd]
  rw [if_pos hw]
  have hrun := run_copy_row (P := P) w dT sT o.type elem g off dLen dCap ad sLen sCap cur.toArray t cs hu hsz hg hn hsrc (by simpa using hfit) h1
  unfold Oper.wp
  simp [execOp, ho, resolve, invoke, builtin, hd, hs, hrun, Result.andThen]
  exact h _ (show _ = _ from setRow_heap w g _ _ _ _ hg) (fun k hk => setRow_other w g k _ hk) (fun B hB => below_setRow (Below.refl B w) hB _)
/-- What is owned elsewhere stays. -/
theorem OwnB.kept {w w' : World} {B g : Nat} {v : Value} {l : List UInt8} (h : OwnB w B v l) (hk : ∀ k, k ≠ g → w'.heap[k]? = w.heap[k]?) (hn : ∀ b, v.ownBlock = some b → b ≠ g) : OwnB w' B v l := by
  obtain ⟨hl, h0 | ⟨g', cap', cur', e, hb, hgg, r⟩⟩ := h
  · exact ⟨hl, .inl h0⟩
  · refine ⟨hl, .inr ⟨g', cap', cur', e, hb, (hk g' (hn g' (by rw [e]; rfl))).trans hgg, r⟩⟩
end Go.Proofs.Ytcahfapffhcceaa

namespace Go.Proofs.Ytcahfapffhcceaa
open Go.RowKit
attribute [local go_sem ↓] Go.wp_at_zero Go.wp_at_succ

theorem ba1 (w : World) (o : Obj) : Below w.heap.size w (w.alloc o) := (Below.refl _ _).alloc (Nat.le_refl _) _
/-- The closure that goes on. -/
def nxF (N : Nat) : Value := .func (.func 44) #[] #[.pointer (some ⟨N + 1, 0, none⟩), .pointer (some ⟨N, 0, none⟩)]
/-- What the closures hold: the bytes, a place, the closure that goes on. -/
structure Nm (N p : Nat) (v : Value) (w : World) : Prop where
  c0 : w.heap[N]? = some (.cells #[v] 26)
  c1 : w.heap[N + 1]? = some (.cells #[.int .i64 (p : Int)] 3)
  c2 : w.heap[N + 2]? = some (.cells #[nxF N] 79)
theorem Nm.set {N p : Nat} {v : Value} {w : World} (h : Nm N p v w) (q : Nat) : Nm N q v (w.setCell ⟨N + 1, 0, none⟩ (.int .i64 (q : Int))) := by
  refine ⟨?_, ?_, ?_⟩
  · rw [Below.heap_setCell _ _ _ _ (by simp)]; exact h.c0
  · exact one_setCell h.c1
  · rw [Below.heap_setCell _ _ _ _ (by simp)]; exact h.c2
theorem Nm.later {N p : Nat} {v : Value} {w w' : World} (h : Nm N p v w) (hk : ∀ b, N ≤ b → b < w.heap.size → w'.heap[b]? = w.heap[b]?) : Nm N p v w' := by
  have hl : ∀ {b : Nat} {o : Obj}, w.heap[b]? = some o → b < w.heap.size := fun e => (Array.getElem?_eq_some_iff.1 e).1
  exact ⟨(hk _ (by omega) (hl h.c0)).trans h.c0, (hk _ (by omega) (hl h.c1)).trans h.c1, (hk _ (by omega) (hl h.c2)).trans h.c2⟩
theorem Nm.below {N p : Nat} {v : Value} {w w' : World} (h : Nm N p v w) (hb : Below w.heap.size w w') : Nm N p v w' := h.later fun b _ hl => hb.block b hl
theorem cut_both (b o c lo hi n : Nat) (h1 : lo < hi) (h2 : hi ≤ n) (h3 : n ≤ c) (w : World) : (Instr.slice 26 (.slice (some ⟨b, o, none⟩) n c) (some (.int .i64 (lo : Int))) (some (.int .i64 (hi : Int))) none).run Try.prog w = .ok (.slice (some ⟨b, o + lo, none⟩) (hi - lo) (c - lo)) w := by
  rw [run_slice_lh w _ _ _ _ cells1 _ _ _ _ (by omega) (by omega) (by omega), size1]
  show Result.ok (Go.sliced _ _ _ _ 1) w = _
  unfold Go.sliced
  rw [if_neg (by omega)]
  simp [Addr.add]
/-- A function's value is stored as any other. -/
theorem store_fn (w : World) (a : Addr) (m : Mode) (fn : Fn) (first captured : Array Value) : (store a (.func fn first captured) m).run Try.prog w = stored Try.prog w a (.func fn first captured) m := run_store Try.prog w a _ m rfl
attribute [local go_sem] store_fn
theorem numbersF_any (xa : Option Addr) (xn xc : Nat) (w : World) :
    Calls Try.prog 29 #[.slice xa xn xc] w fun e w' => e = .returned (.tuple #[.func (.func 45) #[] #[.pointer (some ⟨w.heap.size + 2, 0, none⟩)], .func (.func 47) #[] #[.pointer (some ⟨w.heap.size + 2, 0, none⟩)]]) ∧ Nm w.heap.size 0 (.slice xa xn xc) w' ∧ Below w.heap.size w w' := by
  go_enter Try.func29, Try.ntmps29
  go_wp2_with fail
  go_ret2
  refine ⟨rfl, ?_, by go_grown⟩
  have s1 : (w.alloc (.cells #[.slice xa xn xc] 26)).heap.size = w.heap.size + 1 := by simp
  have s2 : ((w.alloc (.cells #[.slice xa xn xc] 26)).alloc (.cells #[.int .i64 0] 3)).heap.size = w.heap.size + 2 := by simp
  refine ⟨?_, ?_, ?_⟩
  · rw [Below.heap_alloc _ _ _ (by omega), Below.heap_alloc _ _ _ (by omega)]; exact heap_alloc_new _ _
  · rw [Below.heap_alloc _ _ _ (by omega), ← s1]; exact heap_alloc_new _ _
  · rw [← s2]; exact heap_alloc_new _ _

theorem cell_block {w w' : World} {b o : Nat} (h : w'.heap[b]? = w.heap[b]?) : w'.cell? ⟨b, o, none⟩ = w.cell? ⟨b, o, none⟩ := by
  unfold World.cell?; rw [h]
/-- A place's store leaves all bytes as they were. -/
theorem Nm.bytes {N p : Nat} {v u : Value} {l : List UInt8} {w : World} (h : Nm N p v w) (hu : Bytes w u l) (x : Value) : Bytes (w.setCell ⟨N + 1, 0, none⟩ x) u l := by
  rcases hu with hu | ⟨b, o, c, rfl, hb, hc, hx⟩
  · exact .inl hu
  · by_cases hl : l = []
    · subst hl; exact .inl ⟨rfl, _, _, rfl, by simp⟩
    · have hne : b ≠ N + 1 := by
        intro e
        obtain ⟨y, r, rfl⟩ := List.exists_cons_of_ne_nil hl
        have h0 := hx 0 y rfl
        rw [e, cell_of_row w (N + 1) (o + 0) _ _ (0, 0) h.c1] at h0
        cases o with
        | zero => simp at h0
        | succ o => simp at h0
      have hh : (w.setCell ⟨N + 1, 0, none⟩ x).heap[b]? = w.heap[b]? := Below.heap_setCell _ _ _ _ (by simpa using hne)
      exact .inr ⟨b, o, c, rfl, by simpa using hb, hc, fun j y hj => (cell_block hh).trans (hx j y hj)⟩

set_option maxHeartbeats 1000000 in
theorem nextF_any (N p size n c b o : Nat) (w : World) (h : Nm N p (.slice (some ⟨b, o, none⟩) n c) w) (h1 : 1 ≤ size) (h2 : p + size ≤ n) (h3 : n ≤ c) (hn : n ≤ 100000) :
    Calls Try.prog 44 #[.int .i64 (size : Int), .pointer (some ⟨N + 1, 0, none⟩), .pointer (some ⟨N, 0, none⟩)] w fun e w' => e = .returned (.slice (some ⟨b, o + p, none⟩) size (c - p)) ∧ Nm N (p + size) (.slice (some ⟨b, o, none⟩) n c) w' ∧ Below N w w' ∧ w' = w.setCell ⟨N + 1, 0, none⟩ (.int .i64 ((p + size : Nat) : Int)) := by
  have hc := cut_both b o c p (p + size) n (by omega) h2 h3
  rw [show p + size - p = size by omega] at hc
  have c0 := cell_of_one h.c0
  have c1 := cell_of_one h.c1
  have f1 := free_of_one h.c1
  have hs := h.set (p + size)
  have HS := Lib.hid hs
  have HB : Hid (Below N w (w.setCell ⟨N + 1, 0, none⟩ (.int .i64 ((p + size : Nat) : Int)))) := (Below.refl _ _).setCell (by simp) _
  have e1 : wrap64 ((p : Int) + (size : Int)) = ((p + size : Nat) : Int) := by rw [IntWalk.wrap64_in _ ⟨by omega, by omega⟩]; omega
  have e2 : wrap64 (((p + size : Nat) : Int) - (size : Int)) = (p : Int) := by rw [IntWalk.wrap64_in _ ⟨by omega, by omega⟩]; omega
  obtain ⟨q, hq⟩ : ∃ q, q = p + size := ⟨_, rfl⟩
  rw [← hq] at hc e1 e2 HS HB ⊢
  clear h h1 h2 h3 hn hs hq
  go_enter Try.func44, Try.ntmps44
  go_wp2_with fail
  go_ret
  exact ⟨rfl, HS.out, HB.out, rfl⟩

/-- The number of so many bytes that stands at a place. -/
def fld (l : List UInt8) (i k : Nat) : Nat := getL ((l.take (i + k)).drop i)
theorem fld_lt {l : List UInt8} {i k : Nat} (h : i + k ≤ l.length) : fld l i k < 256 ^ k := getL_lt _ _ (by simp; omega)
theorem bytes_part {w : World} {b o n c : Nat} {l : List UInt8} (h : Bytes w (.slice (some ⟨b, o, none⟩) n c) l) (i k : Nat) (hi : i + k ≤ l.length) (hn : n = l.length) : Bytes w (.slice (some ⟨b, o + i, none⟩) k (c - i)) ((l.take (i + k)).drop i) := by
  have hc := h.cap
  have h1 := bytes_take h (k := i + k) hi
  exact bytes_drop h1 i k (by simp; omega) (c - i) (by omega)

set_option maxHeartbeats 1000000 in
set_option maxRecDepth 100000 in
theorem getF_any (N p size n c b o : Nat) (l : List UInt8) (w : World) (h : Nm N p (.slice (some ⟨b, o, none⟩) n c) w) (hv : Bytes w (.slice (some ⟨b, o, none⟩) n c) l) (hbN : b < N) (hln : n = l.length) (h1 : 1 ≤ size) (h8 : size ≤ 8) (h2 : p + size ≤ n) (hn : n ≤ 100000) :
    Calls Try.prog 45 #[.int .i64 (size : Int), .pointer (some ⟨N + 2, 0, none⟩)] w fun e w' => e = .returned (.int .u64 (fld l p size : Nat)) ∧ Nm N (p + size) (.slice (some ⟨b, o, none⟩) n c) w' ∧ Below N w w' ∧ w' = w.setCell ⟨N + 1, 0, none⟩ (.int .i64 ((p + size : Nat) : Int)) := by
  have hcap := hv.cap
  have HX := Lib.hid (fun w => nextF_any N p size n c b o w)
  have HN := Lib.hid h
  have hpl : ((l.take (p + size)).drop p).length = size := by simp; omega
  obtain ⟨e1, e2⟩ := get_yes (l := (l.take (p + size)).drop p) (by omega) (by omega)
  have hNw : N ≤ w.heap.size := by have := (Array.getElem?_eq_some_iff.1 h.c0).1; omega
  have HG : Hid (∀ W, Below N w W → Calls Try.prog 46 #[.slice (some ⟨b, o + p, none⟩) size (c - p)] W fun e w' => e = .returned (.tuple #[.int .u64 (fld l p size : Nat), .int .i64 0]) ∧ W = w') := fun W hW => by
    have hv2 : Bytes W (.slice (some ⟨b, o, none⟩) n c) l := by
      rcases hv with ⟨rfl, _⟩ | ⟨b', o', c', e, hb, hc, hx⟩
      · simp at hln; omega
      · simp only [Value.slice.injEq, Option.some.injEq, Addr.mk.injEq] at e
        obtain ⟨⟨rfl, rfl, _⟩, rfl, rfl⟩ := e
        exact .inr ⟨b, o, c, rfl, Nat.lt_of_lt_of_le hb hW.size, hc, fun j x hj => (hW.cell (p := ⟨b, o + j, none⟩) hbN).trans (hx j x hj)⟩
    have hg := getW_any _ _ W (bytes_part hv2 p size (by omega) hln) (by omega)
    rw [e1, e2] at hg
    exact hg
  have c2 := cell_of_one h.c2
  unfold nxF at c2
  have HH : Hid (1 ≤ size ∧ p + size ≤ n ∧ n ≤ c ∧ n ≤ 100000) := ⟨h1, h2, by omega, hn⟩
  clear h hv hbN hln h1 h8 h2 hn hcap hpl e1 e2 hNw
  go_enter Try.func45, Try.ntmps45
  go_wp2_with fail
  refine (HX.out _ HN.out HH.out.1 HH.out.2.1 HH.out.2.2.1 HH.out.2.2.2).mono ?_
  rintro e w1 ⟨rfl, hn1, hb1, hw⟩
  have HW := Lib.hid hw
  clear hw
  have HN1 := Lib.hid hn1
  have HB1 := Lib.hid hb1
  clear hn1 hb1
  go_wp2_with fail
  refine (HG.out _ HB1.out).mono ?_
  rintro e w2 ⟨rfl, rfl⟩
  go_wp2_with fail
  go_ret
  exact ⟨rfl, HN1.out, HB1.out, HW.out⟩

/-- What a number written into bytes leaves. -/
def PutA (N p size g cap base n : Nat) (l : List UInt8) (w : World) (e : Ending) (w' : World) : Prop :=
  (∃ v, e = .returned v) ∧ Nm N (p + size) (.slice (some ⟨g, 0, none⟩) l.length cap) w' ∧ OwnB w' base (.slice (some ⟨g, 0, none⟩) l.length cap) (spl l p (putL n size)) ∧ Below base w w' ∧ ∀ b, b < N → b ≠ g → w'.heap[b]? = w.heap[b]?

set_option maxHeartbeats 4000000 in
set_option maxRecDepth 100000 in
theorem putF_any (N p size g cap base n : Nat) (l : List UInt8) (w : World) (h : Nm N p (.slice (some ⟨g, 0, none⟩) l.length cap) w) (ho : OwnB w base (.slice (some ⟨g, 0, none⟩) l.length cap) l) (hgN : g < N) (h1 : 1 ≤ size) (h8 : size ≤ 8) (hn : n < 256 ^ size) (hat : p + size ≤ l.length) (hl : l.length ≤ 100000) :
    Calls Try.prog 47 #[.int .u64 (n : Nat), .int .i64 (size : Int), .pointer (some ⟨N + 2, 0, none⟩)] w (PutA N p size g cap base n l w) := by
  obtain ⟨g', cap', cur, e1, hbg, hg, hnc, hcs⟩ := ho.row (by omega)
  simp only [Value.slice.injEq, Option.some.injEq, Addr.mk.injEq, and_true] at e1
  obtain ⟨rfl, _, rfl⟩ := e1
  have hNw : N < w.heap.size := (Array.getElem?_eq_some_iff.1 h.c0).1
  have HP := Lib.hid (putW_yes n size w h1 h8 hn)
  have HX := Lib.hid (fun w => nextF_any N p size l.length cap g 0 w)
  have hxl : (putL n size).length = size := putL_length n size
  obtain ⟨X, hX⟩ : ∃ X, X = bv (putL n size) := ⟨_, rfl⟩
  have hXl : X.length = size := by rw [hX]; simp [bv, hxl]
  have hX1 : ∀ v ∈ X, v.oneCell' = true := by rw [hX]; exact bv_one _
  have H1 : Hid (1 ≤ size) := h1
  have HX' := Lib.hid hX
  have HXL := Lib.hid hXl
  have HX1 := Lib.hid hX1
  have HG := Lib.hid hg
  have HO := Lib.hid ho
  have HN := Lib.hid h
  have HH : Hid (p + size ≤ l.length ∧ l.length ≤ 100000 ∧ base ≤ g ∧ l.length ≤ cap ∧ cur.size = cap ∧ g < N ∧ N < w.heap.size ∧ (putL n size).length = size) := ⟨hat, hl, hbg, hnc, hcs, hgN, hNw, hxl⟩
  obtain ⟨ln, hln⟩ : ∃ k, k = l.length := ⟨_, rfl⟩
  have HLN := Lib.hid hln
  clear hX hXl hX1 hxl ho hg hn h1 h8 hat hl hbg hnc hcs hgN hNw h hln
  go_enter Try.func47, Try.ntmps47
  go_wp2_with fail
  refine HP.out.mono ?_
  rintro e w1 ⟨v1, rfl, hby, hb1⟩
  obtain ⟨a1, c1, rfl⟩ := hby.form
  obtain ⟨N1, hN1⟩ : ∃ k, k = (putL n size).length := ⟨_, rfl⟩
  have HBY := Lib.hid hby
  rw [← hN1]
  have HB1 := Lib.hid hb1
  have hn1 : Nm N p (.slice (some ⟨g, 0, none⟩) l.length cap) w1 := HN.out.below hb1
  have c2 := cell_of_one hn1.c2
  unfold nxF at c2
  have HN1 := Lib.hid hn1
  have HNL := Lib.hid hN1
  clear hb1 hn1 hby hN1
  go_wp2_with fail
  refine (HX.out _ HN1.out H1.out HH.out.1 HH.out.2.2.2.1 HH.out.2.1).mono ?_
  rintro e w2 ⟨rfl, hn2, hb2, hw2⟩
  rw [Nat.zero_add]
  have HN2 := Lib.hid hn2
  have HB2 := Lib.hid hb2
  have hg2 : w2.heap[g]? = some (.cells cur 5 (0, 0)) := (hb2.block g HH.out.2.2.2.2.2.1).trans ((HB1.out.block g (by have := HH.out; omega)).trans HG.out)
  have HG2 := Lib.hid hg2
  have hby2 : Bytes w2 (.slice a1 (putL n size).length c1) (putL n size) := by rw [hw2]; exact HN1.out.bytes HBY.out _
  have HBY2 := Lib.hid hby2
  have ho2 : OwnB w2 base (.slice (some ⟨g, 0, none⟩) l.length cap) l := by
    have h1 := OwnB.later HO.out HB1.out
    refine OwnB.kept h1 (g := N + 1) (fun k hk => ?_) (fun b hb => ?_)
    · rw [hw2]; exact Below.heap_setCell _ _ _ _ (by simpa using hk)
    · simp [Value.ownBlock] at hb; have := HH.out; omega
  have HO2 := Lib.hid ho2
  clear hn2 hb2 hg2 hby2 ho2 hw2
  obtain ⟨b1, o1, rfl, _⟩ := (show Bytes w2 (.slice a1 (putL n size).length c1) (putL n size) from HBY2.out).at (i := 0) (by rw [HH.out.2.2.2.2.2.2.2]; exact H1.out)
  go_wp2_with (with_reducible refine wpList_copy_put rfl (.tmp 15) (.tmp 16) rfl g p size (cap - p) ⟨b1, o1, none⟩ N1 c1 rfl rfl cur HG2.out X ?_ ?_ ?_ HX1.out ?_)
  · rw [HXL.out, HNL.out, HH.out.2.2.2.2.2.2.2]
    exact (Nat.min_self _).symm
  · rw [HX'.out]; exact Bytes.news HBY2.out
  · rw [HXL.out]; have := HH.out; omega
  · intro w3 hr hk hbl
    go_wp2_with fail
    go_end0
    have hx : p + (putL n size).length ≤ l.length := by rw [HH.out.2.2.2.2.2.2.2]; exact HH.out.1
    have hBg : base ≤ N := by have := HH.out; omega
    refine ⟨⟨_, rfl⟩, ?_, ?_, ?_, fun b hb hne => (hk.out b hne).trans ((HB2.out.block b hb).trans (HB1.out.block b (by have := HH.out; omega)))⟩
    · exact HN2.out.later fun b hb _ => hk.out b (by have := HH.out; omega)
    · have h2 := OwnB.splice (w' := w3) HO2.out HG2.out (by rw [← HX'.out]; exact hr.out) hx
      rw [spl_length hx] at h2
      exact h2
    · exact (HB1.out.mono (by have := HH.out; omega)).trans ((HB2.out.mono hBg).trans (hbl.out _ HH.out.2.2.1))
end Go.Proofs.Ytcahfapffhcceaa

namespace Go.Proofs.Ytcahfapffhcceaa
open Go.RowKit

/-- The numbers of eight bytes, in their order. -/
def Fr.nums (f : Fr) : List Nat := [f.mb, f.mt, f.tb, f.tt, f.s, f.a]
/-- Kind and Node, and the first numbers. -/
def fhd (f : Fr) (k : Nat) : List UInt8 := [UInt8.ofNat f.k.toNat, UInt8.ofNat f.n.toNat] ++ ((f.nums.take k).map fun n => putL n 8).flatten
/-- All ahead of the checksum. -/
def fh52 (f : Fr) (len : Nat) : List UInt8 := fhd f 6 ++ putL len 2
/-- A frame's bytes, with a checksum. -/
def frC (f : Fr) (B : List UInt8) (c : Nat) : List UInt8 := fh52 f B.length ++ (putL c 2 ++ B)
def frL (f : Fr) (B : List UInt8) : List UInt8 := frC f B (65535 - Sm.tot (frC f B 0))
theorem fhd_length (f : Fr) {k : Nat} (h : k ≤ 6) : (fhd f k).length = 2 + 8 * k := by
  match k, h with
  | 0, _ => simp [fhd, Fr.nums]
  | 1, _ => simp [fhd, Fr.nums, putL_length]
  | 2, _ => simp [fhd, Fr.nums, putL_length]
  | 3, _ => simp [fhd, Fr.nums, putL_length]
  | 4, _ => simp [fhd, Fr.nums, putL_length]
  | 5, _ => simp [fhd, Fr.nums, putL_length]
  | 6, _ => simp [fhd, Fr.nums, putL_length]
theorem fh52_length (f : Fr) (n : Nat) : (fh52 f n).length = 52 := by simp [fh52, fhd_length f (Nat.le_refl 6), putL_length]
theorem frC_length (f : Fr) (B : List UInt8) (c : Nat) : (frC f B c).length = 54 + B.length := by simp [frC, fh52_length, putL_length]; omega
theorem frL_length (f : Fr) (B : List UInt8) : (frL f B).length = 54 + B.length := frC_length _ _ _
theorem fhd_succ (f : Fr) {k : Nat} (h : k < 6) : fhd f (k + 1) = fhd f k ++ putL (f.nums[k]'(by simpa [Fr.nums] using h)) 8 := by
  unfold fhd
  rw [List.append_assoc]
  congr 1
  rw [List.take_succ_eq_append_getElem (by simpa [Fr.nums] using h), List.map_append, List.flatten_append]
  congr 1

/-- Bytes laid where noughts stand. -/
theorem spl_fill (A x B : List UInt8) (m p : Nat) (hp : p = A.length) (h : x.length ≤ m) : spl (A ++ (List.replicate m 0 ++ B)) p x = (A ++ x) ++ (List.replicate (m - x.length) 0 ++ B) := by
  subst hp
  unfold spl
  rw [List.take_left, List.append_assoc]
  congr 2
  rw [List.drop_append, List.drop_eq_nil_of_le (by omega), List.nil_append, Nat.add_sub_cancel_left, List.drop_append_of_le_length (by simp; omega), List.drop_replicate]

/-- What bytes say, field by field. -/
def frP (l : List UInt8) : Fr := ⟨(fld l 0 1 : Int), (fld l 1 1 : Int), fld l 2 8, fld l 10 8, fld l 18 8, fld l 26 8, fld l 34 8, fld l 42 8⟩
/-- Are bytes a frame's? -/
def okF (l : List UInt8) : Bool := decide (54 ≤ l.length) && (mayF (frP l) (l.drop 54) && (frL (frP l) (l.drop 54) == l))
theorem fld_at (A x R : List UInt8) (i k : Nat) (hi : i = A.length) (hk : k = x.length) : fld (A ++ (x ++ R)) i k = getL x := by
  subst hi hk
  unfold fld
  rw [List.take_append, List.take_of_length_le (by omega), Nat.add_sub_cancel_left, List.take_left', List.drop_left']
  · rfl
  · rfl
theorem getL_putL {n k : Nat} (h : n < 256 ^ k) : getL (putL n k) = n := by rw [get_put]; exact Nat.mod_eq_of_lt h
theorem getL_one (b : UInt8) : getL [b] = b.toNat := by simp [getL]
theorem nat8 {x : Int} (h : 0 ≤ x) (h2 : x < 256) : ((UInt8.ofNat x.toNat).toNat : Int) = x := by rw [UInt8.toNat_ofNat']; omega
/-- A frame's bytes read again. -/
theorem frP_C (f : Fr) (ho : f.Ok) (hk : 0 ≤ f.k ∧ f.k < 256) (hn : 0 ≤ f.n ∧ f.n < 256) (B : List UInt8) (c : Nat) : frP (frC f B c) = f := by
  have e : frC f B c = [UInt8.ofNat f.k.toNat] ++ ([UInt8.ofNat f.n.toNat] ++ (putL f.mb 8 ++ (putL f.mt 8 ++ (putL f.tb 8 ++ (putL f.tt 8 ++ (putL f.s 8 ++ (putL f.a 8 ++ (putL B.length 2 ++ (putL c 2 ++ B))))))))) := by
    simp [frC, fh52, fhd, Fr.nums]
  have h8 : ∀ n, (putL n 8).length = 8 := fun n => putL_length n 8
  have p8 : (256 : Nat) ^ 8 = 18446744073709551616 := rfl
  have g0 : fld (frC f B c) 0 1 = getL [UInt8.ofNat f.k.toNat] := by rw [e]; exact fld_at [] [UInt8.ofNat f.k.toNat] _ 0 1 rfl rfl
  have g1 : fld (frC f B c) 1 1 = getL [UInt8.ofNat f.n.toNat] := by rw [e]; exact fld_at [UInt8.ofNat f.k.toNat] [UInt8.ofNat f.n.toNat] _ 1 1 rfl rfl
  have g (A x R : List UInt8) (i : Nat) (n : Nat) (he : frC f B c = A ++ (putL n 8 ++ R)) (hi : i = A.length) (hn : n < 18446744073709551616) : fld (frC f B c) i 8 = n := by
    rw [he, fld_at A (putL n 8) R i 8 hi (h8 n).symm, getL_putL (by rw [p8]; exact hn)]
  have g2 : fld (frC f B c) 2 8 = f.mb := g [UInt8.ofNat f.k.toNat, UInt8.ofNat f.n.toNat] [] _ 2 f.mb (by rw [e]; rfl) rfl ho.mb
  have g3 : fld (frC f B c) 10 8 = f.mt := g ([UInt8.ofNat f.k.toNat, UInt8.ofNat f.n.toNat] ++ putL f.mb 8) [] _ 10 f.mt (by rw [e]; simp only [List.append_assoc]; rfl) (by simp [h8]) ho.mt
  have g4 : fld (frC f B c) 18 8 = f.tb := g ([UInt8.ofNat f.k.toNat, UInt8.ofNat f.n.toNat] ++ (putL f.mb 8 ++ putL f.mt 8)) [] _ 18 f.tb (by rw [e]; simp only [List.append_assoc]; rfl) (by simp [h8]) ho.tb
  have g5 : fld (frC f B c) 26 8 = f.tt := g ([UInt8.ofNat f.k.toNat, UInt8.ofNat f.n.toNat] ++ (putL f.mb 8 ++ (putL f.mt 8 ++ putL f.tb 8))) [] _ 26 f.tt (by rw [e]; simp only [List.append_assoc]; rfl) (by simp [h8]) ho.tt
  have g6 : fld (frC f B c) 34 8 = f.s := g ([UInt8.ofNat f.k.toNat, UInt8.ofNat f.n.toNat] ++ (putL f.mb 8 ++ (putL f.mt 8 ++ (putL f.tb 8 ++ putL f.tt 8)))) [] _ 34 f.s (by rw [e]; simp only [List.append_assoc]; rfl) (by simp [h8]) ho.s
  have g7 : fld (frC f B c) 42 8 = f.a := g ([UInt8.ofNat f.k.toNat, UInt8.ofNat f.n.toNat] ++ (putL f.mb 8 ++ (putL f.mt 8 ++ (putL f.tb 8 ++ (putL f.tt 8 ++ putL f.s 8))))) [] _ 42 f.a (by rw [e]; simp only [List.append_assoc]; rfl) (by simp [h8]) ho.a
  unfold frP
  rw [g0, g1, g2, g3, g4, g5, g6, g7, getL_one, getL_one, nat8 hk.1 hk.2, nat8 hn.1 hn.2]
theorem drop_C (f : Fr) (B : List UInt8) (c : Nat) : (frC f B c).drop 54 = B := by
  unfold frC
  rw [← List.append_assoc, List.drop_append, List.drop_eq_nil_of_le (by simp [fh52_length, putL_length]), List.nil_append]
  simp [fh52_length, putL_length]
theorem may_of6 {f : Fr} {B : List UInt8} (h : mayF f B = true) : (1 ≤ f.n ∧ f.n ≤ 16) ∧ (1 ≤ f.k ∧ f.k ≤ 3) ∧ B.length ≤ 2048 := by
  unfold mayF at h
  simp only [Bool.and_eq_true, decide_eq_true_eq] at h
  obtain ⟨h1, h2, _, _, _, h3⟩ := h
  refine ⟨⟨h1, h2⟩, ?_⟩
  unfold namB at h3
  split at h3
  · rename_i hk
    simp only [Bool.and_eq_true, decide_eq_true_eq] at h3
    exact ⟨by omega, by omega⟩
  · split at h3
    · rename_i hk
      simp only [Bool.and_eq_true, Bool.or_eq_true, decide_eq_true_eq] at h3
      refine ⟨by omega, ?_⟩
      rcases h3.2 with ⟨h4, _⟩ | ⟨h4, _⟩
      · unfold ofB at h4; simp at h4; omega
      · omega
    · split at h3
      · rename_i hk
        simp only [Bool.and_eq_true, decide_eq_true_eq] at h3
        exact ⟨by omega, by omega⟩
      · cases h3
theorem frP_L {f : Fr} {B : List UInt8} (ho : f.Ok) (h : mayF f B = true) : frP (frL f B) = f ∧ (frL f B).drop 54 = B := by
  obtain ⟨hn, hk, _⟩ := may_of6 h
  exact ⟨frP_C f ho ⟨by omega, by omega⟩ ⟨by omega, by omega⟩ B _, drop_C f B _⟩
theorem ok_L {f : Fr} {B : List UInt8} (ho : f.Ok) (h : mayF f B = true) : okF (frL f B) = true := by
  obtain ⟨e1, e2⟩ := frP_L ho h
  unfold okF
  rw [e1, e2, h, frL_length, decide_eq_true (by omega)]
  simp
end Go.Proofs.Ytcahfapffhcceaa

namespace Go.Proofs.Ytcahfapffhcceaa
open Go.RowKit

theorem zeros_bv (n : Nat) : (madeCells (Value.int IntKind.u8 0).cells (n * 1)).toList = bv (List.replicate n 0) := by
  rw [Nat.mul_one]; show (madeCells #[.int .u8 0] n).toList = _
  rw [toList_madeCells_one]; simp [bv]
theorem make_zeros (n : Nat) (w : World) (hn : n ≤ 1000000) :
    ∃ w1, (Instr.makeSlice 26 (.int .i64 (n : Int)) (.int .i64 (n : Int))).run Try.prog w = .ok (.slice (some ⟨w.heap.size, 0, none⟩) n n) w1 ∧ OwnB w1 w.heap.size (.slice (some ⟨w.heap.size, 0, none⟩) n n) (List.replicate n 0) ∧ Below w.heap.size w w1 := by
  obtain ⟨i0, hi, hz0, hz1, hz2⟩ := info8
  obtain ⟨w1, hmk, hown0, hg0⟩ := run_make_full (P := Try.prog) (w := w) w.heap.size 26 5 i0 (.int .u8 0) 1 Try.underlying26 hi hz0 hz1 .i64 .i64 n (by rw [hz2]; omega) (by unfold maxLen; omega) (Nat.le_refl _)
  refine ⟨w1, hmk, ?_, (Below.refl _ _).grown hg0 (Nat.le_refl _) (by simp)⟩
  rw [zeros_bv] at hown0
  show World.ownsRow _ _ _ _ _ _ _
  rw [List.length_replicate]; exact hown0
end Go.Proofs.Ytcahfapffhcceaa

namespace Go.Proofs.Ytcahfapffhcceaa
open Go.RowKit
attribute [local go_sem ↓] Go.wp_at_zero Go.wp_at_succ

/-- The bytes of the first lists. -/
def sizes (L : List (List UInt8)) (k : Nat) : Nat := (L.take k).flatten.length
theorem sizes_succ {L : List (List UInt8)} {k : Nat} (h : k < L.length) : sizes L (k + 1) = sizes L k + L[k].length := by
  unfold sizes
  rw [List.take_succ_eq_append_getElem h, List.flatten_append, List.length_append, List.flatten_singleton]
theorem sizes_all (L : List (List UInt8)) : sizes L L.length = L.flatten.length := by unfold sizes; rw [List.take_length]
theorem mem_le {L : List (List UInt8)} {l : List UInt8} (h : l ∈ L) : l.length ≤ L.flatten.length := by
  obtain ⟨a, b, rfl⟩ := List.append_of_mem h
  simp; omega
theorem at0_drop (l : List UInt8) (i j : Nat) : Sm.at0 (l.drop i) j = Sm.at0 l (i + j) := by
  unfold Sm.at0; rw [List.getElem?_drop]
theorem or_word (h l : Nat) (hh : h < 256) (hl : l < 256) : bits .or .u16 ((h : Int) * 256) (l : Int) = ((256 * h + l : Nat) : Int) := by
  rw [show (h : Int) * 256 = ((256 * h : Nat) : Int) by omega, u16_or_nat _ _ (by omega) (by omega)]
  rw [show 256 * h = h <<< 8 by rw [Nat.shiftLeft_eq]; omega, ← Nat.shiftLeft_add_eq_or_of_lt (b := l) (i := 8) (by omega) h]
theorem Nx.start (w : World) (v : Value) : Nx w w.heap.size 0 0 v (((w.alloc (.cells #[v] 71)).alloc (.cells #[.int .i64 0] 3)).alloc (.cells #[.int .i64 0] 3)) := by
  have s1 : (w.alloc (.cells #[v] 71)).heap.size = w.heap.size + 1 := by simp
  have s2 : ((w.alloc (.cells #[v] 71)).alloc (.cells #[.int .i64 0] 3)).heap.size = w.heap.size + 2 := by simp
  refine ⟨?_, Nat.le_refl _, ?_, ?_, ?_⟩
  · go_grown
  · rw [Below.heap_alloc _ _ _ (by omega), Below.heap_alloc _ _ _ (by omega)]; exact heap_alloc_new _ _
  · rw [Below.heap_alloc _ _ _ (by omega), ← s1]; exact heap_alloc_new _ _
  · rw [← s2]; exact heap_alloc_new _ _
theorem sizes_le {L : List (List UInt8)} {k : Nat} : sizes L k ≤ L.flatten.length := by
  unfold sizes
  have : L.flatten = (L.take k).flatten ++ (L.drop k).flatten := by rw [← List.flatten_append, List.take_append_drop]
  rw [this]; simp

set_option maxHeartbeats 1000000 in
theorem totalW_some (w : World) (c : Nat) (b : Option Addr) (L : List (List UInt8)) (hv : Lists w (.slice b L.length c) L) (hL : L.length ≤ 10000) (hS : L.flatten.length ≤ 10000) :
    Calls Try.prog 49 #[.slice b L.length c] w fun e w' => e = .returned (.int .u16 (Sm.tot L.flatten : Nat)) ∧ Below w.heap.size w w' := by
  go_enter Try.func49, Try.ntmps49
  go_wp2_with fail
  go_loop [3, 12] (fun s i => ∃ k : Nat, k ≤ L.length ∧ i = .int .i64 k ∧ s = .int .i64 (sizes L k)) (fun _ i => L.length - (intOf i).toNat)
  case atStart => exact ⟨0, Nat.zero_le _, rfl, rfl⟩
  case round =>
    obtain ⟨k, hk, rfl, rfl⟩ := hrel
    have hsz := sizes_le (L := L) (k := k)
    obtain ⟨z, hz⟩ : ∃ z, z = sizes L k := ⟨_, rfl⟩
    rw [← hz] at hsz ⊢
    have Hz := Lib.hid hz
    clear hz
    rcases Nat.lt_or_ge k L.length with hlt | hge
    · obtain ⟨bl, bo, rfl, hbl, x, d, he, hbe⟩ := hv.at hlt
      have hs2 := sizes_succ hlt
      rw [← Hz.out] at hs2
      have hsz2 := sizes_le (L := L) (k := k + 1)
      obtain ⟨m, hm⟩ : ∃ m, m = L[k].length := ⟨_, rfl⟩
      rw [← hm] at he hs2
      have hm2 : m ≤ 10000 := by omega
      have Hs2 := Lib.hid hs2
      have HV := Lib.hid hv
      have g1 : (k : Int) < L.length := by omega
      clear hm hs2 hv hbe hsz2
      go_wp2_with fail
      go_round
      case rel => exact ⟨k + 1, by omega, by go_num, by rw [Hs2.out]; go_num⟩
      case measure => simp [intOf]; omega
    · have e : k = L.length := by omega
      subst e
      have HV := Lib.hid hv
      clear hv
      have hz1 := Hz.out
      rw [sizes_all] at hz1
      have Hz2 := Lib.hid hz1
      clear hz1
      have hS2 : ∀ l ∈ L, l.length ≤ 10000 := fun l h => Nat.le_trans (mem_le h) hS
      go_wp2_with (go_in)
      go_loopw [7, 26] (fun t j wr => ∃ k i' a' : Nat, k ≤ (z + 1) / 2 ∧ j = .int .i64 k ∧ t = .int .u16 (Sm.canon (Sm.upto L.flatten k) : Nat) ∧ Hid (Nx w w.heap.size i' a' (.slice b L.length c) wr) ∧ i' ≤ L.length ∧ (∀ h : i' < L.length, a' ≤ L[i'].length) ∧ Hid (rest L i' a' = L.flatten.drop (2 * k))) (fun _ j _ => (z + 1) / 2 - (intOf j).toNat)
      case atStart => exact ⟨0, 0, 0, Nat.zero_le _, rfl, rfl, Nx.start w _, Nat.zero_le _, fun _ => Nat.zero_le _, rfl⟩
      case round =>
        obtain ⟨k, i', a', hk, rfl, rfl, HN, hi', ha', HR⟩ := hrel
        rcases Nat.lt_or_ge k ((z + 1) / 2) with hlt | hge
        · have g1 : (k : Int) < ((z : Int) + 1) / 2 := by omega
          go_wp2_with fail
          refine (next_any w wr w.heap.size i' a' c b L HV.out HN.out hi' ha' hL hS2).mono ?_
          rintro e w1 ⟨i1, a1, rfl, hn1, hi1, ha1, hr1⟩
          have HN1 := Lib.hid hn1
          have HR1 := Lib.hid hr1
          clear hn1 hr1
          go_wp2_with fail
          refine (next_any w w1 w.heap.size i1 a1 c b L HV.out HN1.out hi1 ha1 hL hS2).mono ?_
          rintro e w2 ⟨i2, a2, rfl, hn2, hi2, ha2, hr2⟩
          have hq1 : Sm.at0 (rest L i' a') 0 = Sm.at0 L.flatten (2 * k) := by rw [HR.out, at0_drop]; rfl
          have hq2 : Sm.at0 (rest L i1 a1) 0 = Sm.at0 L.flatten (2 * k + 1) := by rw [HR1.out, HR.out, List.drop_drop, at0_drop]
          have hr3 : rest L i2 a2 = L.flatten.drop (2 * (k + 1)) := by rw [hr2, HR1.out, HR.out, List.drop_drop, List.drop_drop]; rfl
          rw [hq1, hq2]
          have HN2 := Lib.hid hn2
          have HR3 := Lib.hid hr3
          have b1 := Sm.at0_lt L.flatten (2 * k)
          have b2 := Sm.at0_lt L.flatten (2 * k + 1)
          obtain ⟨x, hx⟩ : ∃ x, x = Sm.at0 L.flatten (2 * k) := ⟨_, rfl⟩
          obtain ⟨y, hy⟩ : ∃ y, y = Sm.at0 L.flatten (2 * k + 1) := ⟨_, rfl⟩
          rw [← hx] at b1 ⊢
          rw [← hy] at b2 ⊢
          have hwd : Sm.word L.flatten k = 256 * x + y := by rw [hx, hy]; rfl
          have HW := Lib.hid hwd
          have HO := Lib.hid (or_word x y b1 b2)
          clear hn2 hr2 hr3 hq1 hq2 hx hy hwd
          have c1 := Sm.canon_lt (Sm.upto L.flatten k)
          go_wp2_with fail
          rw [HO.out]
          refine (addW_int _ _ _ (by omega) (by omega) (by omega) (by omega) (Sm.canon (Sm.upto L.flatten (k + 1)) : Nat) (by rw [Int.toNat_natCast, Int.toNat_natCast, ← HW.out, Sm.step])).mono ?_
          rintro e w3 ⟨rfl, rfl⟩
          go_wp2_with fail
          go_roundw
          case rel => exact ⟨k + 1, i2, a2, by omega, by go_num, rfl, HN2, hi2, ha2, HR3⟩
          case measure => simp [intOf]; omega
        · have e : k = (z + 1) / 2 := by omega
          have E := Lib.hid e
          have g1 : ((z : Int) + 1) / 2 ≤ (k : Int) := by omega
          clear e
          go_wp2_with fail
          go_ret
          refine ⟨ret_i ?_, HN.out.bel⟩
          rw [E.out, Hz2.out]; rfl

/-- What a list of lists comes to. -/
theorem totalW_any (w : World) (v : Value) (L : List (List UInt8)) (hv : Lists w v L) (hL : L.length ≤ 10000) (hS : L.flatten.length ≤ 10000) :
    Calls Try.prog 49 #[v] w fun e w' => e = .returned (.int .u16 (Sm.tot L.flatten : Nat)) ∧ Below w.heap.size w w' := by
  obtain ⟨b, c, rfl⟩ := hv.form
  exact totalW_some w c b L hv hL hS
theorem checkW_any (w : World) (v : Value) (L : List (List UInt8)) (hv : Lists w v L) (hL : L.length ≤ 10000) (hS : L.flatten.length ≤ 10000) :
    Calls Try.prog 30 #[v] w fun e w' => e = .returned (.int .u16 (65535 - Sm.tot L.flatten : Nat)) ∧ Below w.heap.size w w' := by
  have hb := Sm.tot_lt L.flatten
  have HV := Lib.hid hv
  clear hv
  go_enter Try.func30, Try.ntmps30
  go_wp2_with fail
  refine (totalW_any w v L HV.out hL hS).mono ?_
  rintro e w1 ⟨rfl, hb1⟩
  go_wp2_with fail
  go_ret
  exact ⟨ret_i (by omega), hb1⟩
/-- One list in new memory. -/
theorem lists_one {w : World} {v : Value} {l : List UInt8} (h : Bytes w v l) : Lists (w.alloc (.cells #[v] 26)) (.slice (some ⟨w.heap.size, 0, none⟩) 1 1) [l] :=
  .inr ⟨w.heap.size, 0, 1, rfl, by simp, Nat.le_refl _, fun j x hx => by
    match j, hx with
    | 0, hx => simp at hx; subst hx; exact ⟨v, by simp, h.later ((Below.refl _ _).alloc (Nat.le_refl _) _)⟩⟩
theorem lists_two {w : World} {u v : Value} {k l : List UInt8} (g : Bytes w u k) (h : Bytes w v l) : Lists (w.alloc (.cells #[u, v] 26)) (.slice (some ⟨w.heap.size, 0, none⟩) 2 2) [k, l] :=
  .inr ⟨w.heap.size, 0, 2, rfl, by simp, Nat.le_refl _, fun j x hx => by
    match j, hx with
    | 0, hx => simp at hx; subst hx; exact ⟨u, by simp, g.later ((Below.refl _ _).alloc (Nat.le_refl _) _)⟩
    | 1, hx => simp at hx; subst hx; exact ⟨v, by simp, h.later ((Below.refl _ _).alloc (Nat.le_refl _) _)⟩⟩
theorem total_one (w : World) (v : Value) (l : List UInt8) (h : Bytes w v l) (hl : l.length ≤ 10000) :
    Calls Try.prog 49 #[.slice (some ⟨w.heap.size, 0, none⟩) 1 1] (w.alloc (.cells #[v] 26)) fun e w' => e = .returned (.int .u16 (Sm.tot l : Nat)) ∧ Below w.heap.size w w' := by
  refine (totalW_any _ _ [l] (lists_one h) (by simp) (by simpa using hl)).mono ?_
  rintro e w1 ⟨rfl, hb⟩
  refine ⟨by simp, ?_⟩
  exact ((Below.refl _ _).alloc (Nat.le_refl _) _).trans (hb.mono (by simp))
theorem check_one (w : World) (v : Value) (l : List UInt8) (h : Bytes w v l) (hl : l.length ≤ 10000) :
    Calls Try.prog 30 #[.slice (some ⟨w.heap.size, 0, none⟩) 1 1] (w.alloc (.cells #[v] 26)) fun e w' => e = .returned (.int .u16 (65535 - Sm.tot l : Nat)) ∧ Below w.heap.size w w' := by
  refine (checkW_any _ _ [l] (lists_one h) (by simp) (by simpa using hl)).mono ?_
  rintro e w1 ⟨rfl, hb⟩
  refine ⟨by simp, ?_⟩
  exact ((Below.refl _ _).alloc (Nat.le_refl _) _).trans (hb.mono (by simp))
end Go.Proofs.Ytcahfapffhcceaa

namespace Go.Proofs.Ytcahfapffhcceaa
open Go.RowKit
attribute [local go_sem ↓] Go.wp_at_zero Go.wp_at_succ

set_option maxHeartbeats 1000000 in
theorem next_anyB (w0 w : World) (N i a c : Nat) (b : Option Addr) (L : List (List UInt8)) (hv : Lists w0 (.slice b L.length c) L) (hx : Nx w0 N i a (.slice b L.length c) w)
    (hi : i ≤ L.length) (ha : ∀ h : i < L.length, a ≤ L[i].length) (hL : L.length ≤ 100000) (hS : ∀ l ∈ L, l.length ≤ 100000) :
    Calls Try.prog 62 #[.pointer (some ⟨N + 1, 0, none⟩), .pointer (some ⟨N, 0, none⟩), .pointer (some ⟨N + 1 + 1, 0, none⟩)] w (NextGives w0 N (.slice b L.length c) L i a) := by
  go_enter Try.func62, Try.ntmps62
  go_wp2_with fail
  go_loopg [4] (L.length - i) (fun k _ wr => ∃ i' a' : Nat, Nx w0 N i' a' (.slice b L.length c) wr ∧ k = L.length - i' ∧ i' ≤ L.length ∧ (∀ h : i' < L.length, a' ≤ L[i'].length) ∧ Hid (rest L i' a' = rest L i a))
  case atStart => exact ⟨i, a, hx, rfl, hi, ha, rfl⟩
  case round =>
    obtain ⟨i', a', hn, rfl, hi', ha', hr⟩ := hrel
    have c0 := cell_of_one hn.c0
    have c1 := cell_of_one hn.c1
    have c2 := cell_of_one hn.c2
    have f1 := free_of_one hn.c1
    have f2 := free_of_one hn.c2
    rcases Nat.lt_or_ge i' L.length with hlt | hge
    · obtain ⟨bl, bo, rfl, hbl, x, d, he, hbe⟩ := hv.at hlt
      have he' := cell_later' hn.bel hbl he
      have hal := ha' hlt
      have hsl := hS _ (List.getElem_mem hlt)
      obtain ⟨m, hm⟩ : ∃ m, m = L[i'].length := ⟨_, rfl⟩
      rw [← hm] at he he' hbe hal hsl
      have g1 : (i' : Int) < L.length := by omega
      have Hm := Lib.hid hm
      clear hm
      have b1 : bl < wr.heap.size := Nat.lt_of_lt_of_le hbl hn.bel.size
      rcases Nat.lt_or_ge a' m with hlt2 | hge2
      · have g2 : decide ((a' : Int) = m) = false := by simp; omega
        have g3 : ((a' : Int) == m) = false := by simp; omega
        have hlx : a' < L[i'].length := by rw [← Hm.out]; exact hlt2
        obtain ⟨bx, ox, rfl, hbx, hex⟩ := hbe.at hlx
        have hex' := cell_later' hn.bel hbx hex
        have b2 : bx < wr.heap.size := Nat.lt_of_lt_of_le hbx hn.bel.size
        obtain ⟨y, hy⟩ : ∃ y, y = L[i'][a'] := ⟨_, rfl⟩
        rw [← hy] at hex'
        have Hy := Lib.hid hy
        have n1 := hn.le
        have n2 : bx ≠ N + 2 := by omega
        have n3 : bl ≠ N + 2 := by omega
        have HN := Lib.hid hn
        have HV := Lib.hid hv
        clear hy hex he hbe hv hx hn
        go_wp2_with fail
        go_quiet (fail)
        go_wp2_with fail
        go_quiet (fail)
        go_wp2_with fail
        go_ret
        have hro := rest_in hlt hlx
        rw [← Hy.out, hr.out] at hro
        refine ⟨i', a' + 1, ret_i ?_, ?_, hi', fun h => ?_, ?_⟩
        · rw [at0_cons hro]
        · exact ((HN.out.drewN _).set2 (a' + 1)).drewN _
        · omega
        · rw [hro]; rfl
      · have e2 : a' = m := by omega
        subst e2
        have hn2 := fun n => (hn.drewN n).set (i' + 1) 0
        have HN := Lib.hid hn2
        clear he hbe hv hx hn hn2
        go_wp2_with fail
        go_quiet (fail)
        go_wp2_with fail
        go_roundg (L.length - (i' + 1))
        case measure => omega
        case rel =>
          refine ⟨i' + 1, 0, ?_, rfl, by omega, fun _ => Nat.zero_le _, ?_⟩
          · exact HN.out nq
          · show _ = _
            rw [← rest_end hlt, ← Hm.out]; exact hr.out
    · have e : i' = L.length := by omega
      subst e
      have g1 : decide ((L.length : Int) < L.length) = false := by simp
      have HN := Lib.hid hn
      clear hv hx hn
      go_wp2_with fail
      go_quiet (fail)
      go_wp2_with fail
      go_ret
      refine ⟨L.length, a', ret_i ?_, HN.out.drewN _, Nat.le_refl _, fun h => absurd h (by omega), ?_⟩
      · rw [at0_nil (hr.out.symm.trans rest_none)]; rfl
      · rw [← hr.out, rest_none]; rfl
end Go.Proofs.Ytcahfapffhcceaa
