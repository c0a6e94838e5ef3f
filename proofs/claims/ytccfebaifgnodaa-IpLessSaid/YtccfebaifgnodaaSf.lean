/- The walk of the closure that goes over the bytes of lists. -/
import Derived.Test.YtccfebaifgnodaaSa
import Derived.Test.YtccfebaifgnodaaLs0
import Derived.Deep.LoopGhost
namespace Go.Proofs.Ytccfebaifgnodaa
open Go.RowKit
attribute [local go_sem ↓] Go.wp_at_zero Go.wp_at_succ

/-- What is still to come behind a place. -/
def rest (L : List (List UInt8)) (i a : Nat) : List UInt8 := (L.drop i).flatten.drop a
/-- What the closure holds. -/
structure Nx (w0 : World) (N i a : Nat) (v : Value) (w : World) : Prop where
  bel : Below w0.heap.size w0 w
  le : w0.heap.size ≤ N
  c0 : w.heap[N]? = some (.cells #[v] 76)
  c1 : w.heap[N + 1]? = some (.cells #[.int .i64 (i : Int)] 3)
  c2 : w.heap[N + 2]? = some (.cells #[.int .i64 (a : Int)] 3)

theorem Nx.set {w0 w : World} {N i a : Nat} {v : Value} (h : Nx w0 N i a v w) (i' a' : Nat) : Nx w0 N i' a' v ((w.setCell ⟨N + 1, 0, none⟩ (.int .i64 (i' : Int))).setCell ⟨N + 2, 0, none⟩ (.int .i64 (a' : Int))) := by
  have hl := h.le
  refine ⟨(h.bel.setCell (by simp; omega) _).setCell (by simp; omega) _, hl, ?_, ?_, ?_⟩
  · rw [Below.heap_setCell _ _ _ _ (by simp), Below.heap_setCell _ _ _ _ (by simp)]; exact h.c0
  · rw [Below.heap_setCell _ _ _ _ (by simp)]; exact one_setCell h.c1
  · refine one_setCell (v := .int .i64 (a : Int)) ?_
    rw [Below.heap_setCell _ _ _ _ (by simp)]; exact h.c2
theorem Nx.set2 {w0 w : World} {N i a : Nat} {v : Value} (h : Nx w0 N i a v w) (a' : Nat) : Nx w0 N i a' v (w.setCell ⟨N + 2, 0, none⟩ (.int .i64 (a' : Int))) := by
  have hl := h.le
  refine ⟨h.bel.setCell (by simp; omega) _, hl, ?_, ?_, ?_⟩
  · rw [Below.heap_setCell _ _ _ _ (by simp)]; exact h.c0
  · rw [Below.heap_setCell _ _ _ _ (by simp)]; exact h.c1
  · exact one_setCell h.c2
theorem Nx.drewN {w0 w : World} {N i a : Nat} {v : Value} (h : Nx w0 N i a v w) (n : Nat) : Nx w0 N i a v (w.drewN n) :=
  ⟨⟨h.bel.os, h.bel.tape, h.bel.output, h.bel.size, h.bel.block⟩, h.le, h.c0, h.c1, h.c2⟩

theorem rest_none {L : List (List UInt8)} {a : Nat} : rest L L.length a = [] := by simp [rest]
theorem rest_in {L : List (List UInt8)} {i a : Nat} (hi : i < L.length) (ha : a < L[i].length) : rest L i a = L[i][a] :: rest L i (a + 1) := by
  unfold rest
  rw [List.drop_eq_getElem_cons hi, List.flatten_cons, List.drop_append_of_le_length (by omega), List.drop_append_of_le_length (by omega), List.drop_eq_getElem_cons ha]
  rfl
theorem rest_end {L : List (List UInt8)} {i : Nat} (hi : i < L.length) : rest L i L[i].length = rest L (i + 1) 0 := by
  unfold rest
  rw [List.drop_eq_getElem_cons hi, List.flatten_cons, List.drop_append_of_le_length (by omega)]
  simp

/-- One byte more: what comes of it. -/
def NextGives (w0 : World) (N : Nat) (v : Value) (L : List (List UInt8)) (i a : Nat) (e : Ending) (w' : World) : Prop :=
  ∃ i' a', e = .returned (.int .u8 (Sm.at0 (rest L i a) 0 : Nat)) ∧ Nx w0 N i' a' v w' ∧ i' ≤ L.length ∧ (∀ h : i' < L.length, a' ≤ L[i'].length) ∧ rest L i' a' = (rest L i a).drop 1

theorem at0_cons {l : List UInt8} {x : UInt8} {r : List UInt8} (h : l = x :: r) : Sm.at0 l 0 = x.toNat := by subst h; rfl
theorem at0_nil {l : List UInt8} (h : l = []) : Sm.at0 l 0 = 0 := by subst h; rfl

set_option maxHeartbeats 1000000 in
theorem next_any (w0 w : World) (N i a c : Nat) (b : Option Addr) (L : List (List UInt8)) (hv : Lists w0 (.slice b L.length c) L) (hx : Nx w0 N i a (.slice b L.length c) w)
    (hi : i ≤ L.length) (ha : ∀ h : i < L.length, a ≤ L[i].length) (hL : L.length ≤ 10000) (hS : ∀ l ∈ L, l.length ≤ 10000) :
    Calls Try.prog 70 #[.pointer (some ⟨N + 1, 0, none⟩), .pointer (some ⟨N, 0, none⟩), .pointer (some ⟨N + 1 + 1, 0, none⟩)] w (NextGives w0 N (.slice b L.length c) L i a) := by
  go_enter Try.func70, Try.ntmps70
  go_wp2_with fail
  go_loopg [4] (L.length - i) (fun k _ wr => ∃ i' a' : Nat, Nx w0 N i' a' (.slice b L.length c) wr ∧ k = L.length - i' ∧ i' ≤ L.length ∧ (∀ h : i' < L.length, a' ≤ L[i'].length) ∧ Hid (rest L i' a' = rest L i a))
  case atStart => exact ⟨i, a, hx, rfl, hi, ha, rfl⟩
  case round =>
    obtain ⟨i', a', hn, rfl, hi', ha', hr⟩ := hrel
    have c0 := cell_of_one hn.c0
    have c1 := cell_of_one hn.c1
    have c2 := cell_of_one hn.c2
    have f1 := free_of_one hn.c1
    have f2 := free_of_one hn.c2
    rcases Nat.lt_or_ge i' L.length with hlt | hge
    · obtain ⟨bl, bo, rfl, hbl, x, d, he, hbe⟩ := hv.at hlt
      have he' := cell_later' hn.bel hbl he
      have hal := ha' hlt
      have hsl := hS _ (List.getElem_mem hlt)
      obtain ⟨m, hm⟩ : ∃ m, m = L[i'].length := ⟨_, rfl⟩
      rw [← hm] at he he' hbe hal hsl
      have g1 : (i' : Int) < L.length := by omega
      have Hm := Lib.hid hm
      clear hm
      have b1 : bl < wr.heap.size := Nat.lt_of_lt_of_le hbl hn.bel.size
      rcases Nat.lt_or_ge a' m with hlt2 | hge2
      · have g2 : decide ((a' : Int) = m) = false := by simp; omega
        have g3 : ((a' : Int) == m) = false := by simp; omega
        have hlx : a' < L[i'].length := by rw [← Hm.out]; exact hlt2
        obtain ⟨bx, ox, rfl, hbx, hex⟩ := hbe.at hlx
        have hex' := cell_later' hn.bel hbx hex
        have b2 : bx < wr.heap.size := Nat.lt_of_lt_of_le hbx hn.bel.size
        obtain ⟨y, hy⟩ : ∃ y, y = L[i'][a'] := ⟨_, rfl⟩
        rw [← hy] at hex'
        have Hy := Lib.hid hy
        have n1 := hn.le
        have n2 : bx ≠ N + 2 := by omega
        have n3 : bl ≠ N + 2 := by omega
        have HN := Lib.hid hn
        have HV := Lib.hid hv
        clear hy hex he hbe hv hx hn
        go_wp2_with fail
        go_quiet (fail)
        go_wp2_with fail
        go_quiet (fail)
        go_wp2_with fail
        go_ret
        have hro := rest_in hlt hlx
        rw [← Hy.out, hr.out] at hro
        refine ⟨i', a' + 1, ret_i ?_, ?_, hi', fun h => ?_, ?_⟩
        · rw [at0_cons hro]
        · exact ((HN.out.drewN _).set2 (a' + 1)).drewN _
        · omega
        · rw [hro]; rfl
      · have e2 : a' = m := by omega
        subst e2
        have hn2 := fun n => (hn.drewN n).set (i' + 1) 0
        have HN := Lib.hid hn2
        clear he hbe hv hx hn hn2
        go_wp2_with fail
        go_quiet (fail)
        go_wp2_with fail
        go_roundg (L.length - (i' + 1))
        case measure => omega
        case rel =>
          refine ⟨i' + 1, 0, ?_, rfl, by omega, fun _ => Nat.zero_le _, ?_⟩
          · exact HN.out nq
          · show _ = _
            rw [← rest_end hlt, ← Hm.out]; exact hr.out
    · have e : i' = L.length := by omega
      subst e
      have g1 : decide ((L.length : Int) < L.length) = false := by simp
      have HN := Lib.hid hn
      clear hv hx hn
      go_wp2_with fail
      go_quiet (fail)
      go_wp2_with fail
      go_ret
      refine ⟨L.length, a', ret_i ?_, HN.out.drewN _, Nat.le_refl _, fun h => absurd h (by omega), ?_⟩
      · rw [at0_nil (hr.out.symm.trans rest_none)]; rfl
      · rw [← hr.out, rest_none]; rfl
end Go.Proofs.Ytccfebaifgnodaa
