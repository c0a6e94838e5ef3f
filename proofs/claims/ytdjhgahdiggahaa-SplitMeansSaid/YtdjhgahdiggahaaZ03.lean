/- append on bytes that the call owns, whatever the source: one law in three forms.
   The walk of ip.fault.
   The walks of sum.Total, sum.Check, sum.Good.
   The walk of the closure that goes over the bytes of lists. -/
import Derived.Deep.LoopGhost
import Derived.Deep.AppendLies
import Derived.Laws.AppendOwnNone
import Derived.Laws.OwnMore
import Derived.Test.YtdjhgahdiggahaaZ01
import Derived.Test.YtdjhgahdiggahaaZ02

set_option linter.unusedSimpArgs false
set_option linter.unusedVariables false
namespace Go.Proofs.Ytdjhgahdiggahaa
open Go.RowKit
attribute [local go_sem ↓] Go.wp_at_zero Go.wp_at_succ

/-- What is still to come behind a place. -/
def rest (L : List (List UInt8)) (i a : Nat) : List UInt8 := (L.drop i).flatten.drop a
/-- What the closure holds. -/
structure Nx (w0 : World) (N i a : Nat) (v : Value) (w : World) : Prop where
  bel : Below w0.heap.size w0 w
  le : w0.heap.size ≤ N
  c0 : w.heap[N]? = some (.cells #[v] 154)
  c1 : w.heap[N + 1]? = some (.cells #[.int .i64 (i : Int)] 3)
  c2 : w.heap[N + 2]? = some (.cells #[.int .i64 (a : Int)] 3)

theorem Nx.set {w0 w : World} {N i a : Nat} {v : Value} (h : Nx w0 N i a v w) (i' a' : Nat) : Nx w0 N i' a' v ((w.setCell ⟨N + 1, 0, none⟩ (.int .i64 (i' : Int))).setCell ⟨N + 2, 0, none⟩ (.int .i64 (a' : Int))) := by
  have hl := h.le
  refine ⟨(h.bel.setCell (by simp; omega) _).setCell (by simp; omega) _, hl, ?_, ?_, ?_⟩
  · rw [Below.heap_setCell _ _ _ _ (by simp), Below.heap_setCell _ _ _ _ (by simp)]; exact h.c0
  · rw [Below.heap_setCell _ _ _ _ (by simp)]; exact one_setCell h.c1
  · refine one_setCell (v := .int .i64 (a : Int)) ?_
    rw [Below.heap_setCell _ _ _ _ (by simp)]; exact h.c2
theorem Nx.set2 {w0 w : World} {N i a : Nat} {v : Value} (h : Nx w0 N i a v w) (a' : Nat) : Nx w0 N i a' v (w.setCell ⟨N + 2, 0, none⟩ (.int .i64 (a' : Int))) := by
  have hl := h.le
  refine ⟨h.bel.setCell (by simp; omega) _, hl, ?_, ?_, ?_⟩
  · rw [Below.heap_setCell _ _ _ _ (by simp)]; exact h.c0
  · rw [Below.heap_setCell _ _ _ _ (by simp)]; exact h.c1
  · exact one_setCell h.c2
theorem Nx.drewN {w0 w : World} {N i a : Nat} {v : Value} (h : Nx w0 N i a v w) (n : Nat) : Nx w0 N i a v (w.drewN n) :=
  ⟨⟨h.bel.os, h.bel.tape, h.bel.output, h.bel.size, h.bel.block⟩, h.le, h.c0, h.c1, h.c2⟩

theorem rest_none {L : List (List UInt8)} {a : Nat} : rest L L.length a = [] := by simp [rest]
theorem rest_in {L : List (List UInt8)} {i a : Nat} (hi : i < L.length) (ha : a < L[i].length) : rest L i a = L[i][a] :: rest L i (a + 1) := by
  unfold rest
  rw [List.drop_eq_getElem_cons hi, List.flatten_cons, List.drop_append_of_le_length (by omega), List.drop_append_of_le_length (by omega), List.drop_eq_getElem_cons ha]
  rfl
theorem rest_end {L : List (List UInt8)} {i : Nat} (hi : i < L.length) : rest L i L[i].length = rest L (i + 1) 0 := by
  unfold rest
  rw [List.drop_eq_getElem_cons hi, List.flatten_cons, List.drop_append_of_le_length (by omega)]
  simp

/-- One byte more: what comes of it. -/
def NextGives (w0 : World) (N : Nat) (v : Value) (L : List (List UInt8)) (i a : Nat) (e : Ending) (w' : World) : Prop :=
  ∃ i' a', e = .returned (.int .u8 (Sm.at0 (rest L i a) 0 : Nat)) ∧ Nx w0 N i' a' v w' ∧ i' ≤ L.length ∧ (∀ h : i' < L.length, a' ≤ L[i'].length) ∧ rest L i' a' = (rest L i a).drop 1

theorem at0_cons {l : List UInt8} {x : UInt8} {r : List UInt8} (h : l = x :: r) : Sm.at0 l 0 = x.toNat := by subst h; rfl
theorem at0_nil {l : List UInt8} (h : l = []) : Sm.at0 l 0 = 0 := by subst h; rfl

set_option maxHeartbeats 1000000 in
theorem next_any (w0 w : World) (N i a c : Nat) (b : Option Addr) (L : List (List UInt8)) (hv : Lists w0 (.slice b L.length c) L) (hx : Nx w0 N i a (.slice b L.length c) w)
    (hi : i ≤ L.length) (ha : ∀ h : i < L.length, a ≤ L[i].length) (hL : L.length ≤ 10000) (hS : ∀ l ∈ L, l.length ≤ 10000) :
    Calls Try.prog 168 #[.pointer (some ⟨N + 1, 0, none⟩), .pointer (some ⟨N, 0, none⟩), .pointer (some ⟨N + 1 + 1, 0, none⟩)] w (NextGives w0 N (.slice b L.length c) L i a) := by
  go_enter Try.func168, Try.ntmps168
  go_wp2_with fail
  go_loopg [4] (L.length - i) (fun k _ wr => ∃ i' a' : Nat, Nx w0 N i' a' (.slice b L.length c) wr ∧ k = L.length - i' ∧ i' ≤ L.length ∧ (∀ h : i' < L.length, a' ≤ L[i'].length) ∧ Hid (rest L i' a' = rest L i a))
  case atStart => exact ⟨i, a, hx, rfl, hi, ha, rfl⟩
  case round =>
    obtain ⟨i', a', hn, rfl, hi', ha', hr⟩ := hrel
    have c0 := cell_of_one hn.c0
    have c1 := cell_of_one hn.c1
    have c2 := cell_of_one hn.c2
    have f1 := free_of_one hn.c1
    have f2 := free_of_one hn.c2
    rcases Nat.lt_or_ge i' L.length with hlt | hge
    · obtain ⟨bl, bo, rfl, hbl, x, d, he, hbe⟩ := hv.at hlt
      have he' := cell_later' hn.bel hbl he
      have hal := ha' hlt
      have hsl := hS _ (List.getElem_mem hlt)
      obtain ⟨m, hm⟩ : ∃ m, m = L[i'].length := ⟨_, rfl⟩
      rw [← hm] at he he' hbe hal hsl
      have g1 : (i' : Int) < L.length := by omega
      have Hm := Lib.hid hm
      clear hm
      have b1 : bl < wr.heap.size := Nat.lt_of_lt_of_le hbl hn.bel.size
      rcases Nat.lt_or_ge a' m with hlt2 | hge2
      · have g2 : decide ((a' : Int) = m) = false := by simp; omega
        have g3 : ((a' : Int) == m) = false := by simp; omega
        have hlx : a' < L[i'].length := by rw [← Hm.out]; exact hlt2
        obtain ⟨bx, ox, rfl, hbx, hex⟩ := hbe.at hlx
        have hex' := cell_later' hn.bel hbx hex
        have b2 : bx < wr.heap.size := Nat.lt_of_lt_of_le hbx hn.bel.size
        obtain ⟨y, hy⟩ : ∃ y, y = L[i'][a'] := ⟨_, rfl⟩
        rw [← hy] at hex'
        have Hy := Lib.hid hy
        have n1 := hn.le
        have n2 : bx ≠ N + 2 := by omega
        have n3 : bl ≠ N + 2 := by omega
        have HN := Lib.hid hn
        have HV := Lib.hid hv
        clear hy hex he hbe hv hx hn
        go_wp2_with fail
        go_quiet (fail)
        go_wp2_with fail
        go_quiet (fail)
        go_wp2_with fail
        go_ret
        have hro := rest_in hlt hlx
        rw [← Hy.out, hr.out] at hro
        refine ⟨i', a' + 1, ret_i ?_, ?_, hi', fun h => ?_, ?_⟩
        · rw [at0_cons hro]
        · exact ((HN.out.drewN _).set2 (a' + 1)).drewN _
        · omega
        · rw [hro]; rfl
      · have e2 : a' = m := by omega
        subst e2
        have hn2 := fun n => (hn.drewN n).set (i' + 1) 0
        have HN := Lib.hid hn2
        clear he hbe hv hx hn hn2
        go_wp2_with fail
        go_quiet (fail)
        go_wp2_with fail
        go_roundg (L.length - (i' + 1))
        case measure => omega
        case rel =>
          refine ⟨i' + 1, 0, ?_, rfl, by omega, fun _ => Nat.zero_le _, ?_⟩
          · exact HN.out nq
          · show _ = _
            rw [← rest_end hlt, ← Hm.out]; exact hr.out
    · have e : i' = L.length := by omega
      subst e
      have g1 : decide ((L.length : Int) < L.length) = false := by simp
      have HN := Lib.hid hn
      clear hv hx hn
      go_wp2_with fail
      go_quiet (fail)
      go_wp2_with fail
      go_ret
      refine ⟨L.length, a', ret_i ?_, HN.out.drewN _, Nat.le_refl _, fun h => absurd h (by omega), ?_⟩
      · rw [at0_nil (hr.out.symm.trans rest_none)]; rfl
      · rw [← hr.out, rest_none]; rfl
end Go.Proofs.Ytdjhgahdiggahaa

namespace Go.Proofs.Ytdjhgahdiggahaa
open Go.RowKit
attribute [local go_sem ↓] Go.wp_at_zero Go.wp_at_succ

/-- The bytes of the first lists. -/
def sizes (L : List (List UInt8)) (k : Nat) : Nat := (L.take k).flatten.length
theorem sizes_succ {L : List (List UInt8)} {k : Nat} (h : k < L.length) : sizes L (k + 1) = sizes L k + L[k].length := by
  unfold sizes
  rw [List.take_succ_eq_append_getElem h, List.flatten_append, List.length_append, List.flatten_singleton]
theorem sizes_all (L : List (List UInt8)) : sizes L L.length = L.flatten.length := by unfold sizes; rw [List.take_length]
theorem mem_le {L : List (List UInt8)} {l : List UInt8} (h : l ∈ L) : l.length ≤ L.flatten.length := by
  obtain ⟨a, b, rfl⟩ := List.append_of_mem h
  simp; omega
theorem at0_drop (l : List UInt8) (i j : Nat) : Sm.at0 (l.drop i) j = Sm.at0 l (i + j) := by
  unfold Sm.at0; rw [List.getElem?_drop]
theorem or_word (h l : Nat) (hh : h < 256) (hl : l < 256) : bits .or .u16 ((h : Int) * 256) (l : Int) = ((256 * h + l : Nat) : Int) := by
  rw [show (h : Int) * 256 = ((256 * h : Nat) : Int) by omega, u16_or_nat _ _ (by omega) (by omega)]
  rw [show 256 * h = h <<< 8 by rw [Nat.shiftLeft_eq]; omega, ← Nat.shiftLeft_add_eq_or_of_lt (b := l) (i := 8) (by omega) h]
theorem Nx.start (w : World) (v : Value) : Nx w w.heap.size 0 0 v (((w.alloc (.cells #[v] 154)).alloc (.cells #[.int .i64 0] 3)).alloc (.cells #[.int .i64 0] 3)) := by
  have s1 : (w.alloc (.cells #[v] 154)).heap.size = w.heap.size + 1 := by simp
  have s2 : ((w.alloc (.cells #[v] 154)).alloc (.cells #[.int .i64 0] 3)).heap.size = w.heap.size + 2 := by simp
  refine ⟨?_, Nat.le_refl _, ?_, ?_, ?_⟩
  · go_grown
  · rw [Below.heap_alloc _ _ _ (by omega), Below.heap_alloc _ _ _ (by omega)]; exact heap_alloc_new _ _
  · rw [Below.heap_alloc _ _ _ (by omega), ← s1]; exact heap_alloc_new _ _
  · rw [← s2]; exact heap_alloc_new _ _
theorem sizes_le {L : List (List UInt8)} {k : Nat} : sizes L k ≤ L.flatten.length := by
  unfold sizes
  have : L.flatten = (L.take k).flatten ++ (L.drop k).flatten := by rw [← List.flatten_append, List.take_append_drop]
  rw [this]; simp

set_option maxHeartbeats 1000000 in
theorem totalW_some (w : World) (c : Nat) (b : Option Addr) (L : List (List UInt8)) (hv : Lists w (.slice b L.length c) L) (hL : L.length ≤ 10000) (hS : L.flatten.length ≤ 10000) :
    Calls Try.prog 145 #[.slice b L.length c] w fun e w' => e = .returned (.int .u16 (Sm.tot L.flatten : Nat)) ∧ Below w.heap.size w w' := by
  go_enter Try.func145, Try.ntmps145
  go_wp2_with fail
  go_loop [3, 12] (fun s i => ∃ k : Nat, k ≤ L.length ∧ i = .int .i64 k ∧ s = .int .i64 (sizes L k)) (fun _ i => L.length - (intOf i).toNat)
  case atStart => exact ⟨0, Nat.zero_le _, rfl, rfl⟩
  case round =>
    obtain ⟨k, hk, rfl, rfl⟩ := hrel
    have hsz := sizes_le (L := L) (k := k)
    obtain ⟨z, hz⟩ : ∃ z, z = sizes L k := ⟨_, rfl⟩
    rw [← hz] at hsz ⊢
    have Hz := Lib.hid hz
    clear hz
    rcases Nat.lt_or_ge k L.length with hlt | hge
    · obtain ⟨bl, bo, rfl, hbl, x, d, he, hbe⟩ := hv.at hlt
      have hs2 := sizes_succ hlt
      rw [← Hz.out] at hs2
      have hsz2 := sizes_le (L := L) (k := k + 1)
      obtain ⟨m, hm⟩ : ∃ m, m = L[k].length := ⟨_, rfl⟩
      rw [← hm] at he hs2
      have hm2 : m ≤ 10000 := by omega
      have Hs2 := Lib.hid hs2
      have HV := Lib.hid hv
      have g1 : (k : Int) < L.length := by omega
      clear hm hs2 hv hbe hsz2
      go_wp2_with fail
      go_round
      case rel => exact ⟨k + 1, by omega, by go_num, by rw [Hs2.out]; go_num⟩
      case measure => simp [intOf]; omega
    · have e : k = L.length := by omega
      subst e
      have HV := Lib.hid hv
      clear hv
      have hz1 := Hz.out
      rw [sizes_all] at hz1
      have Hz2 := Lib.hid hz1
      clear hz1
      have hS2 : ∀ l ∈ L, l.length ≤ 10000 := fun l h => Nat.le_trans (mem_le h) hS
      go_wp2_with (go_in)
      go_loopw [7, 26] (fun t j wr => ∃ k i' a' : Nat, k ≤ (z + 1) / 2 ∧ j = .int .i64 k ∧ t = .int .u16 (Sm.canon (Sm.upto L.flatten k) : Nat) ∧ Hid (Nx w w.heap.size i' a' (.slice b L.length c) wr) ∧ i' ≤ L.length ∧ (∀ h : i' < L.length, a' ≤ L[i'].length) ∧ Hid (rest L i' a' = L.flatten.drop (2 * k))) (fun _ j _ => (z + 1) / 2 - (intOf j).toNat)
      case atStart => exact ⟨0, 0, 0, Nat.zero_le _, rfl, rfl, Nx.start w _, Nat.zero_le _, fun _ => Nat.zero_le _, rfl⟩
      case round =>
        obtain ⟨k, i', a', hk, rfl, rfl, HN, hi', ha', HR⟩ := hrel
        rcases Nat.lt_or_ge k ((z + 1) / 2) with hlt | hge
        · have g1 : (k : Int) < ((z : Int) + 1) / 2 := by omega
          go_wp2_with fail
          refine (next_any w wr w.heap.size i' a' c b L HV.out HN.out hi' ha' hL hS2).mono ?_
          rintro e w1 ⟨i1, a1, rfl, hn1, hi1, ha1, hr1⟩
          have HN1 := Lib.hid hn1
          have HR1 := Lib.hid hr1
          clear hn1 hr1
          go_wp2_with fail
          refine (next_any w w1 w.heap.size i1 a1 c b L HV.out HN1.out hi1 ha1 hL hS2).mono ?_
          rintro e w2 ⟨i2, a2, rfl, hn2, hi2, ha2, hr2⟩
          have hq1 : Sm.at0 (rest L i' a') 0 = Sm.at0 L.flatten (2 * k) := by rw [HR.out, at0_drop]; rfl
          have hq2 : Sm.at0 (rest L i1 a1) 0 = Sm.at0 L.flatten (2 * k + 1) := by rw [HR1.out, HR.out, List.drop_drop, at0_drop]
          have hr3 : rest L i2 a2 = L.flatten.drop (2 * (k + 1)) := by rw [hr2, HR1.out, HR.out, List.drop_drop, List.drop_drop]; rfl
          rw [hq1, hq2]
          have HN2 := Lib.hid hn2
          have HR3 := Lib.hid hr3
          have b1 := Sm.at0_lt L.flatten (2 * k)
          have b2 := Sm.at0_lt L.flatten (2 * k + 1)
          obtain ⟨x, hx⟩ : ∃ x, x = Sm.at0 L.flatten (2 * k) := ⟨_, rfl⟩
          obtain ⟨y, hy⟩ : ∃ y, y = Sm.at0 L.flatten (2 * k + 1) := ⟨_, rfl⟩
          rw [← hx] at b1 ⊢
          rw [← hy] at b2 ⊢
          have hwd : Sm.word L.flatten k = 256 * x + y := by rw [hx, hy]; rfl
          have HW := Lib.hid hwd
          have HO := Lib.hid (or_word x y b1 b2)
          clear hn2 hr2 hr3 hq1 hq2 hx hy hwd
          have c1 := Sm.canon_lt (Sm.upto L.flatten k)
          go_wp2_with fail
          rw [HO.out]
          refine (addW_int _ _ _ (by omega) (by omega) (by omega) (by omega) (Sm.canon (Sm.upto L.flatten (k + 1)) : Nat) (by rw [Int.toNat_natCast, Int.toNat_natCast, ← HW.out, Sm.step])).mono ?_
          rintro e w3 ⟨rfl, rfl⟩
          go_wp2_with fail
          go_roundw
          case rel => exact ⟨k + 1, i2, a2, by omega, by go_num, rfl, HN2, hi2, ha2, HR3⟩
          case measure => simp [intOf]; omega
        · have e : k = (z + 1) / 2 := by omega
          have E := Lib.hid e
          have g1 : ((z : Int) + 1) / 2 ≤ (k : Int) := by omega
          clear e
          go_wp2_with fail
          go_ret
          refine ⟨ret_i ?_, HN.out.bel⟩
          rw [E.out, Hz2.out]; rfl

/-- What a list of lists comes to. -/
theorem totalW_any (w : World) (v : Value) (L : List (List UInt8)) (hv : Lists w v L) (hL : L.length ≤ 10000) (hS : L.flatten.length ≤ 10000) :
    Calls Try.prog 145 #[v] w fun e w' => e = .returned (.int .u16 (Sm.tot L.flatten : Nat)) ∧ Below w.heap.size w w' := by
  obtain ⟨b, c, rfl⟩ := hv.form
  exact totalW_some w c b L hv hL hS
/-- One list in new memory. -/
theorem lists_one {w : World} {v : Value} {l : List UInt8} (h : Bytes w v l) : Lists (w.alloc (.cells #[v] 97)) (.slice (some ⟨w.heap.size, 0, none⟩) 1 1) [l] :=
  .inr ⟨w.heap.size, 0, 1, rfl, by simp, Nat.le_refl _, fun j x hx => by
    match j, hx with
    | 0, hx => simp at hx; subst hx; exact ⟨v, by simp, h.later ((Below.refl _ _).alloc (Nat.le_refl _) _)⟩⟩
theorem lists_two {w : World} {u v : Value} {k l : List UInt8} (g : Bytes w u k) (h : Bytes w v l) : Lists (w.alloc (.cells #[u, v] 97)) (.slice (some ⟨w.heap.size, 0, none⟩) 2 2) [k, l] :=
  .inr ⟨w.heap.size, 0, 2, rfl, by simp, Nat.le_refl _, fun j x hx => by
    match j, hx with
    | 0, hx => simp at hx; subst hx; exact ⟨u, by simp, g.later ((Below.refl _ _).alloc (Nat.le_refl _) _)⟩
    | 1, hx => simp at hx; subst hx; exact ⟨v, by simp, h.later ((Below.refl _ _).alloc (Nat.le_refl _) _)⟩⟩
theorem total_one (w : World) (v : Value) (l : List UInt8) (h : Bytes w v l) (hl : l.length ≤ 10000) :
    Calls Try.prog 145 #[.slice (some ⟨w.heap.size, 0, none⟩) 1 1] (w.alloc (.cells #[v] 97)) fun e w' => e = .returned (.int .u16 (Sm.tot l : Nat)) ∧ Below w.heap.size w w' := by
  refine (totalW_any _ _ [l] (lists_one h) (by simp) (by simpa using hl)).mono ?_
  rintro e w1 ⟨rfl, hb⟩
  refine ⟨by simp, ?_⟩
  exact ((Below.refl _ _).alloc (Nat.le_refl _) _).trans (hb.mono (by simp))
theorem goodW_any (w : World) (v : Value) (l : List UInt8) (h : Bytes w v l) (hl : l.length ≤ 10000) :
    Calls Try.prog 125 #[v] w fun e w' => e = .returned (.bool (Sm.tot l == 65535)) ∧ Below w.heap.size w w' := by
  obtain ⟨a, c, rfl⟩ := h.form
  have H := Lib.hid h
  clear h
  go_enter Try.func125, Try.ntmps125
  go_wp2_with fail
  refine (total_one w _ l H.out hl).mono ?_
  rintro e w1 ⟨rfl, hb1⟩
  obtain ⟨t, ht⟩ : ∃ t, t = Sm.tot l := ⟨_, rfl⟩
  rw [← ht]
  have HT := Lib.hid ht
  clear ht
  go_wp2_with fail
  go_ret
  refine ⟨ret_b ?_, hb1⟩
  rw [← HT.out, Bool.eq_iff_iff]; simp; omega
end Go.Proofs.Ytdjhgahdiggahaa

namespace Go.Proofs.Ytdjhgahdiggahaa
open Go.RowKit
attribute [local go_sem ↓] Go.wp_at_zero Go.wp_at_succ

/-- What is wrong with bytes, the first of it; 0: nothing. -/
def flt (l : List UInt8) : Nat :=
  if l.length < 20 then 1
  else if Sm.at0 l 0 / 16 ≠ 4 then 2
  else if hsz l < 20 ∨ l.length < hsz l then 3
  else if numAt l 2 2 < hsz l ∨ l.length < numAt l 2 2 then 4
  else if Sm.tot (l.take (hsz l)) ≠ 65535 then 5
  else if Om.ok ((l.take (hsz l)).drop 20) = false then 6 else 0
theorem hsz_le (l : List UInt8) : hsz l ≤ 60 := by unfold hsz; omega
theorem flt1 {l : List UInt8} (h : l.length < 20) : flt l = 1 := by unfold flt; rw [if_pos h]
theorem flt2 {l : List UInt8} (h : 20 ≤ l.length) (h2 : Sm.at0 l 0 / 16 ≠ 4) : flt l = 2 := by unfold flt; rw [if_neg (by omega), if_pos h2]
theorem flt3 {l : List UInt8} (h : 20 ≤ l.length) (h2 : Sm.at0 l 0 / 16 = 4) (h3 : hsz l < 20 ∨ l.length < hsz l) : flt l = 3 := by unfold flt; rw [if_neg (by omega), if_neg (by omega), if_pos h3]
theorem flt4 {l : List UInt8} (h : 20 ≤ l.length) (h2 : Sm.at0 l 0 / 16 = 4) (h3 : 20 ≤ hsz l ∧ hsz l ≤ l.length) (h4 : numAt l 2 2 < hsz l ∨ l.length < numAt l 2 2) : flt l = 4 := by
  unfold flt; rw [if_neg (by omega), if_neg (by omega), if_neg (by omega), if_pos h4]
theorem flt5 {l : List UInt8} (h : 20 ≤ l.length) (h2 : Sm.at0 l 0 / 16 = 4) (h3 : 20 ≤ hsz l ∧ hsz l ≤ l.length) (h4 : hsz l ≤ numAt l 2 2 ∧ numAt l 2 2 ≤ l.length) (h5 : Sm.tot (l.take (hsz l)) ≠ 65535) : flt l = 5 := by
  unfold flt; rw [if_neg (by omega), if_neg (by omega), if_neg (by omega), if_neg (by omega), if_pos h5]
theorem flt6 {l : List UInt8} (h : 20 ≤ l.length) (h2 : Sm.at0 l 0 / 16 = 4) (h3 : 20 ≤ hsz l ∧ hsz l ≤ l.length) (h4 : hsz l ≤ numAt l 2 2 ∧ numAt l 2 2 ≤ l.length) (h5 : Sm.tot (l.take (hsz l)) = 65535) (h6 : Om.ok ((l.take (hsz l)).drop 20) = false) : flt l = 6 := by
  unfold flt; rw [if_neg (by omega), if_neg (by omega), if_neg (by omega), if_neg (by omega), if_neg (fun h => h h5), if_pos h6]
theorem flt0 {l : List UInt8} (h : 20 ≤ l.length) (h2 : Sm.at0 l 0 / 16 = 4) (h3 : 20 ≤ hsz l ∧ hsz l ≤ l.length) (h4 : hsz l ≤ numAt l 2 2 ∧ numAt l 2 2 ≤ l.length) (h5 : Sm.tot (l.take (hsz l)) = 65535) (h6 : Om.ok ((l.take (hsz l)).drop 20) = true) : flt l = 0 := by
  unfold flt; rw [if_neg (by omega), if_neg (by omega), if_neg (by omega), if_neg (by omega), if_neg (fun h => h h5), if_neg (by rw [h6]; decide)]

set_option maxHeartbeats 2000000 in
theorem fault_any (v : Value) (l : List UInt8) (hl : l.length ≤ 1000000) (w : World) (hv : Bytes w v l) :
    Calls Try.prog 108 #[v] w fun e w' => e = .returned (.int .i64 (flt l : Nat)) ∧ Below w.heap.size w w' := by
  obtain ⟨a, c, rfl⟩ := hv.form
  have HV := Lib.hid hv
  rcases Nat.lt_or_ge l.length 20 with h20 | h20
  · have HF := Lib.hid (flt1 h20)
    have g1 : (l.length : Int) < 20 := by omega
    clear hv h20
    go_enter Try.func108, Try.ntmps108
    go_wp2_with fail
    go_ret
    exact ⟨ret_i (by rw [HF.out]; rfl), Below.refl _ _⟩
  · have g1 : (20 : Int) ≤ l.length := by omega
    obtain ⟨b, o, rfl, hb, hcell⟩ := hv.at1 (i := 0) (by omega)
    obtain ⟨x, hx⟩ : ∃ x, x = Sm.at0 l 0 := ⟨_, rfl⟩
    have hxl : x < 256 := by rw [hx]; exact Sm.at0_lt _ _
    rw [← hx] at hcell
    have hcell0 : w.cell? ⟨b, o, none⟩ = some (.int .u8 (x : Int)) := hcell
    have HX := Lib.hid hx
    clear hv hcell hx
    have hsl := hsz_le l
    have htl := numAt_lt (l := l) (i := 2) (k := 2) (by omega)
    obtain ⟨s, hs⟩ : ∃ s, s = hsz l := ⟨_, rfl⟩
    obtain ⟨t, ht⟩ : ∃ t, t = numAt l 2 2 := ⟨_, rfl⟩
    have hsz := sizes_any _ l w HV.out h20 hl
    rw [← hs, ← ht] at hsz
    rw [← hs] at hsl
    rw [← ht] at htl
    have ht2 : (t : Int) ≤ 70000 := by omega
    have HS := Lib.hid hs
    have HT := Lib.hid ht
    have HZ := Lib.hid hsz
    clear hs ht hsz htl
    by_cases h4 : x / 16 = 4
    · have G4 : ((x : Int) / 16 != 4) = false := by simp; omega
      by_cases h3 : 20 ≤ s ∧ s ≤ l.length
      · obtain ⟨h3a, h3b⟩ := h3
        have k3 : (20 : Int) ≤ s := by omega
        have k4 : (s : Int) ≤ l.length := by omega
        by_cases h5 : s ≤ t ∧ t ≤ l.length
        · obtain ⟨h5a, h5b⟩ := h5
          have k5 : (s : Int) ≤ t := by omega
          have k6 : (t : Int) ≤ l.length := by omega
          have hcut := HV.out.cut_h (s : Int) s rfl h3b
          have hcs := hcut.1
          have HCUT := Lib.hid hcut.2
          have HLT : Hid ((l.take s).length ≤ 10000) := by show _ ≤ _; rw [List.length_take]; omega
          obtain ⟨a2, hcs2, hcut2⟩ := HV.out.cut_lh 20 (s : Int) 20 s rfl rfl h3a h3b
          have HCUT2 := Lib.hid hcut2
          have HLD : Hid (((l.take s).drop 20).length ≤ 1000000) := by show _ ≤ _; rw [List.length_drop, List.length_take]; omega
          clear hcut hcut2
          by_cases h6 : Sm.tot (l.take s) = 65535
          · have HTOT : Hid ((Sm.tot (l.take s) == 65535) = true) := by show _ = _; rw [h6]; rfl
            cases h7 : Om.ok ((l.take s).drop 20) with
            | false =>
              have HMAY := Lib.hid h7
              have HF := Lib.hid (flt6 h20 (by rw [← HX.out]; exact h4) (by rw [← HS.out]; exact ⟨h3a, h3b⟩) (by rw [← HS.out, ← HT.out]; exact ⟨h5a, h5b⟩) (by rw [← HS.out]; exact h6) (by rw [← HS.out]; exact h7))
              clear h4 h6 h7
              go_enter Try.func108, Try.ntmps108
              go_wp2_with fail
              refine HZ.out.mono ?_
              rintro e w1 ⟨rfl, hb1⟩
              have hc1 := cell_later hb1 hcell0
              have HB1 := Lib.hid hb1
              clear hb1
              go_wp2_with fail
              refine (goodW_any w1 _ (l.take s) (HCUT.out.later HB1.out) HLT.out).mono ?_
              rintro e w2 ⟨rfl, hb2⟩
              rw [HTOT.out]
              have HB2 := Lib.hid (HB1.out.trans (hb2.mono HB1.out.size))
              clear hb2 hc1
              go_wp2_with fail
              refine (mayOptions_any _ ((l.take s).drop 20) HLD.out w2 (HCUT2.out.later HB2.out)).mono ?_
              rintro e w3 ⟨rfl, hb3⟩
              rw [HMAY.out]
              have HB3 := Lib.hid (HB2.out.trans (hb3.mono HB2.out.size))
              clear hb3
              go_wp2_with fail
              go_ret
              exact ⟨ret_i (by rw [HF.out]; rfl), HB3.out⟩
            | true =>
              have HMAY := Lib.hid h7
              have HF := Lib.hid (flt0 h20 (by rw [← HX.out]; exact h4) (by rw [← HS.out]; exact ⟨h3a, h3b⟩) (by rw [← HS.out, ← HT.out]; exact ⟨h5a, h5b⟩) (by rw [← HS.out]; exact h6) (by rw [← HS.out]; exact h7))
              clear h4 h6 h7
              go_enter Try.func108, Try.ntmps108
              go_wp2_with fail
              refine HZ.out.mono ?_
              rintro e w1 ⟨rfl, hb1⟩
              have hc1 := cell_later hb1 hcell0
              have HB1 := Lib.hid hb1
              clear hb1
              go_wp2_with fail
              refine (goodW_any w1 _ (l.take s) (HCUT.out.later HB1.out) HLT.out).mono ?_
              rintro e w2 ⟨rfl, hb2⟩
              rw [HTOT.out]
              have HB2 := Lib.hid (HB1.out.trans (hb2.mono HB1.out.size))
              clear hb2 hc1
              go_wp2_with fail
              refine (mayOptions_any _ ((l.take s).drop 20) HLD.out w2 (HCUT2.out.later HB2.out)).mono ?_
              rintro e w3 ⟨rfl, hb3⟩
              rw [HMAY.out]
              have HB3 := Lib.hid (HB2.out.trans (hb3.mono HB2.out.size))
              clear hb3
              go_wp2_with fail
              go_ret
              exact ⟨ret_i (by rw [HF.out]; rfl), HB3.out⟩
          · have HTOT : Hid ((Sm.tot (l.take s) == 65535) = false) := by show _ = _; simpa using h6
            have HF := Lib.hid (flt5 h20 (by rw [← HX.out]; exact h4) (by rw [← HS.out]; exact ⟨h3a, h3b⟩) (by rw [← HS.out, ← HT.out]; exact ⟨h5a, h5b⟩) (by rw [← HS.out]; exact h6))
            clear h4 h6
            go_enter Try.func108, Try.ntmps108
            go_wp2_with fail
            refine HZ.out.mono ?_
            rintro e w1 ⟨rfl, hb1⟩
            have hc1 := cell_later hb1 hcell0
            have HB1 := Lib.hid hb1
            clear hb1
            go_wp2_with fail
            refine (goodW_any w1 _ (l.take s) (HCUT.out.later HB1.out) HLT.out).mono ?_
            rintro e w2 ⟨rfl, hb2⟩
            rw [HTOT.out]
            have HB2 := Lib.hid (HB1.out.trans (hb2.mono HB1.out.size))
            clear hb2 hc1
            go_wp2_with fail
            go_ret
            exact ⟨ret_i (by rw [HF.out]; rfl), HB2.out⟩
        · have HF := Lib.hid (flt4 h20 (by rw [← HX.out]; exact h4) (by rw [← HS.out]; exact ⟨h3a, h3b⟩) (by rw [← HS.out, ← HT.out]; omega))
          rcases Nat.lt_or_ge t s with h8 | h8
          · have k5 : (t : Int) < s := by omega
            clear h4 h5
            go_enter Try.func108, Try.ntmps108
            go_wp2_with fail
            refine HZ.out.mono ?_
            rintro e w1 ⟨rfl, hb1⟩
            have hc1 := cell_later hb1 hcell0
            have HB1 := Lib.hid hb1
            clear hb1
            go_wp2_with fail
            go_ret
            exact ⟨ret_i (by rw [HF.out]; rfl), HB1.out⟩
          · have k5 : (s : Int) ≤ t := by omega
            have k6 : (l.length : Int) < t := by omega
            clear h4 h5
            go_enter Try.func108, Try.ntmps108
            go_wp2_with fail
            refine HZ.out.mono ?_
            rintro e w1 ⟨rfl, hb1⟩
            have hc1 := cell_later hb1 hcell0
            have HB1 := Lib.hid hb1
            clear hb1
            go_wp2_with fail
            go_ret
            exact ⟨ret_i (by rw [HF.out]; rfl), HB1.out⟩
      · have HF := Lib.hid (flt3 h20 (by rw [← HX.out]; exact h4) (by rw [← HS.out]; omega))
        rcases Nat.lt_or_ge s 20 with h8 | h8
        · have k5 : (s : Int) < 20 := by omega
          clear h4 h3
          go_enter Try.func108, Try.ntmps108
          go_wp2_with fail
          refine HZ.out.mono ?_
          rintro e w1 ⟨rfl, hb1⟩
          have hc1 := cell_later hb1 hcell0
          have HB1 := Lib.hid hb1
          clear hb1
          go_wp2_with fail
          go_ret
          exact ⟨ret_i (by rw [HF.out]; rfl), HB1.out⟩
        · have k5 : (20 : Int) ≤ s := by omega
          have k6 : (l.length : Int) < s := by omega
          clear h4 h3
          go_enter Try.func108, Try.ntmps108
          go_wp2_with fail
          refine HZ.out.mono ?_
          rintro e w1 ⟨rfl, hb1⟩
          have hc1 := cell_later hb1 hcell0
          have HB1 := Lib.hid hb1
          clear hb1
          go_wp2_with fail
          go_ret
          exact ⟨ret_i (by rw [HF.out]; rfl), HB1.out⟩
    · have HF := Lib.hid (flt2 h20 (by rw [← HX.out]; exact h4))
      have G4 : ((x : Int) / 16 != 4) = true := by simp; omega
      clear h4
      go_enter Try.func108, Try.ntmps108
      go_wp2_with fail
      refine HZ.out.mono ?_
      rintro e w1 ⟨rfl, hb1⟩
      have hc1 := cell_later hb1 hcell0
      have HB1 := Lib.hid hb1
      clear hb1
      go_wp2_with fail
      go_ret
      exact ⟨ret_i (by rw [HF.out]; rfl), HB1.out⟩
end Go.Proofs.Ytdjhgahdiggahaa

namespace Go.Proofs.Ytdjhgahdiggahaa
open Go.RowKit

/-- The value owns these bytes. -/
def OwnB (w : World) (B : Nat) (v : Value) (l : List UInt8) : Prop := w.ownsRow B 5 1 v l.length (bv l)
theorem OwnB.bytes {w : World} {B : Nat} {v : Value} {l : List UInt8} (h : OwnB w B v l) : Bytes w v l := Bytes.of_own h
theorem OwnB.nil (w : World) (B : Nat) : OwnB w B (.slice none 0 0) [] := World.ownsRow_nil w _ _ _
theorem OwnB.form {w : World} {B : Nat} {v : Value} {l : List UInt8} (h : OwnB w B v l) : ∃ a c, v = .slice a l.length c := (OwnB.bytes h).form
theorem OwnB.alloc {w : World} {B : Nat} {v : Value} {l : List UInt8} (h : OwnB w B v l) (o : Obj) : OwnB (w.alloc o) B v l := World.ownsRow.alloc h o
theorem OwnB.drew {w : World} {B : Nat} {v : Value} {l : List UInt8} (h : OwnB w B v l) : OwnB w.drew B v l := h
theorem info8 : ∃ i0, Try.prog.info? 5 = some i0 ∧ i0.zero = some (.int .u8 0) ∧ i0.size = 1 ∧ i0.bytes = 1 := by
  have hi5 : (Try.prog.info? 5).map (fun i => (i.zero, i.size, i.bytes)) = some (some (.int .u8 0), 1, 1) := by kernel_rfl
  obtain ⟨i0, hi, hx⟩ := Option.map_eq_some_iff.1 hi5
  simp only [Prod.mk.injEq] at hx
  exact ⟨i0, hi, hx.1, hx.2.1, hx.2.2⟩
/-- Behind a call that left what was there: what is owned is still owned. -/
theorem OwnB.later {w w' : World} {B : Nat} {v : Value} {l : List UInt8} (h : OwnB w B v l) (hb : Below w.heap.size w w') : OwnB w' B v l := by
  obtain ⟨hl, h0 | ⟨g, cap, cur, rfl, hb1, hg, hn, hm, hc, ht⟩⟩ := h
  · exact ⟨hl, .inl h0⟩
  · refine ⟨hl, .inr ⟨g, cap, cur, rfl, hb1, ?_, hn, hm, hc, ht⟩⟩
    rw [hb.block g ?_]
    · exact hg
    · rcases Nat.lt_or_ge g w.heap.size with h1 | h1
      · exact h1
      · rw [Array.getElem?_eq_none h1] at hg; cases hg

theorem OwnB.weak {w : World} {B B' : Nat} {v : Value} {l : List UInt8} (h : OwnB w B' v l) (hB : B ≤ B') : OwnB w B v l := by
  obtain ⟨hl, h0 | ⟨g, cap, cur, rfl, hb1, hr⟩⟩ := h
  · exact ⟨hl, .inl h0⟩
  · exact ⟨hl, .inr ⟨g, cap, cur, rfl, Nat.le_trans hB hb1, hr⟩⟩

theorem own_block {w : World} {B : Nat} {e : TypeId} {size n g : Nat} {v : Value} {xs : List Value} (h : w.ownsRow B e size v n xs) (hg : v.ownBlock = some g) : ∃ cur, w.heap[g]? = some (.cells cur e (0, 0)) := by
  rcases h.2 with ⟨rfl, _⟩ | ⟨g', cap, cur, rfl, _, hgg, _⟩
  · simp [Value.ownBlock] at hg
  · simp [Value.ownBlock] at hg; subst hg; exact ⟨_, hgg⟩
theorem grownBy_setCell_at (W : World) (b j : Nat) (v : Value) : W.grownBy (W.setCell ⟨b, j, none⟩ v) (some b) :=
  ⟨rfl, rfl, rfl, by simp, fun k _ hk => Below.heap_setCell _ _ _ k (fun e => hk (by rw [e]))⟩

theorem own_apart {w : World} {B B' : Nat} {e e' : TypeId} {size size' n n' : Nat} {v v' : Value} {xs xs' : List Value} (h : w.ownsRow B e size v n xs) (h' : w.ownsRow B' e' size' v' n' xs') (he : e ≠ e') : v.ownBlock = none ∨ v.ownBlock ≠ v'.ownBlock := by
  cases hv : v.ownBlock with
  | none => exact .inl rfl
  | some g =>
    refine .inr fun e2 => ?_
    obtain ⟨c1, h1⟩ := own_block h hv
    obtain ⟨c2, h2⟩ := own_block h' e2.symm
    rw [h1] at h2
    simp at h2
    exact he h2.2
/-- A slice that was just spelled out is owned. -/
theorem own_spelled (w : World) (B : Nat) (t : TypeId) (xs : List Value) (hB : B ≤ w.heap.size) (hm : xs.length ≤ maxLen) : (w.alloc (.cells xs.toArray t)).ownsRow B t 1 (.slice (some ⟨w.heap.size, 0, none⟩) xs.length xs.length) xs.length xs :=
  ⟨by simp, .inr ⟨w.heap.size, xs.length, xs.toArray, rfl, hB, (by show (w.heap.push _)[w.heap.size]? = _; exact Array.getElem?_push_size), Nat.le_refl _, hm, by simp, by simp⟩⟩

theorem run_app (w : World) (B : Nat) (ty : TypeId) (v u : Value) (l0 l1 : List UInt8) (hown : OwnB w B v l0) (hu : Bytes w u l1) (hn : l0.length + l1.length ≤ 140737488355328) (hB : B ≤ w.heap.size) :
    ∃ v' w', (Builtin.append_ #[97, 97] ty #[v, u]).run Try.prog w = .ok v' w' ∧ OwnB w' B v' (l0 ++ l1) ∧ Below B w w' ∧ w.grownBy w' v.ownBlock := by
  obtain ⟨i0, hi, hz0, hz1, hz2⟩ := info8
  obtain ⟨a, c, rfl⟩ := hu.form
  cases a with
  | none =>
    obtain ⟨e1, rfl, rfl⟩ := hu.noaddr
    have := run_append_owned_none (P := Try.prog) (w := w) B 97 ty 5 i0 1 Try.underlying97 hi v l0.length _ hown
    refine ⟨v, w, this, by simpa using hown, Below.refl _ _, ⟨rfl, rfl, rfl, Nat.le_refl _, fun _ _ _ => rfl⟩⟩
  | some x =>
    obtain ⟨v', w', h1, h2, h3, _⟩ := run_append_own (P := Try.prog) (w := w) B 97 ty 5 i0 (.int .u8 0) 1 1 Try.underlying97 hi hz0 hz1 hz2 rfl (by decide) v l0.length (bv l0) hown x l1.length c (bv l1) (by simp [bv]) hu.news (bv_one l1) (by unfold maxLen; omega) (by omega) hB
    refine ⟨v', w', h1, ?_, (Below.refl B w).grown h3 hB (fun j hj => own_base hown hj), h3⟩
    show World.ownsRow _ _ _ _ _ _ _
    rw [List.length_append, bv_append]; exact h2

theorem wp_app {w : World} {o : Oper} {a : Act} {K : Act → World → Prop} {Q : Exit → Act → World → Prop} (s x : Operand)
    (ho : o.op = .call { callee := .builtin .append, args := #[s, x], argTypes := #[97, 97] }) (B : Nat) (v u : Value) (l0 l1 : List UInt8) (hs : a.eval s = v) (hx : a.eval x = u)
    (hown : OwnB w B v l0) (hu : Bytes w u l1) (hn : l0.length + l1.length ≤ 140737488355328) (hB : B ≤ w.heap.size)
    (h : ∀ v' w', OwnB w' B v' (l0 ++ l1) → Below B w w' → w.grownBy w' v.ownBlock → K (a.put o.dst v') w') : o.wp Try.prog a w K Q := by
  obtain ⟨v', w', hr, h2, h3, h4⟩ := run_app w B o.type v u l0 l1 hown hu hn hB
  unfold Oper.wp execOp
  simp only [ho, resolve, invoke, builtin, Sem.run_bind, Sem.run_pure, Result.andThen_ok, List.map_toArray, List.map_cons, List.map_nil, hs, hx, hr]
  exact h v' w' h2 h3 h4
theorem wpList_app {w : World} {ops : Array Oper} {rest : List Oper} {o : Oper} {a : Act} {Q : Exit → Act → World → Prop} (hgd : o.guard = none) (s x : Operand)
    (ho : o.op = .call { callee := .builtin .append, args := #[s, x], argTypes := #[97, 97] }) (B : Nat) (v u : Value) (l0 l1 : List UInt8) (hs : a.eval s = v) (hx : a.eval x = u)
    (hown : OwnB w B v l0) (hu : Bytes w u l1) (hn : l0.length + l1.length ≤ 140737488355328) (hB : B ≤ w.heap.size)
    (h : ∀ v' w', OwnB w' B v' (l0 ++ l1) → Below B w w' → w.grownBy w' v.ownBlock → wpList Try.prog ops Q rest (a.put o.dst v') w') : wpList Try.prog ops Q (o :: rest) a w :=
  wpList_plain hgd fun _ hK => wp_app s x ho B v u l0 l1 hs hx hown hu hn hB fun v' w' h2 h3 h4 => hK _ _ (h v' w' h2 h3 h4)
/-- At a step of a region that draws its order. -/
theorem step_app {w : World} {ops : Array Oper} {o : Oper} {a : Act} {K : Act → World → Prop} {Q : Exit → Act → World → Prop} {E : Prop} (hgd : o.guard = none) (s x : Operand)
    (ho : o.op = .call { callee := .builtin .append, args := #[s, x], argTypes := #[97, 97] }) (B : Nat) (v u : Value) (l0 l1 : List UInt8) (hs : a.eval s = v) (hx : a.eval x = u)
    (hown : OwnB w B v l0) (hu : Bytes w u l1) (hn : l0.length + l1.length ≤ 140737488355328) (hB : B ≤ w.heap.size)
    (h : ∀ v' w', OwnB w' B v' (l0 ++ l1) → Below B w w' → w.grownBy w' v.ownBlock → K (a.put o.dst v') w') :
    if Region.wanted o (yielded ops a.tmps) = true then Oper.wp Try.prog o a w K Q else E := by
  have hw : Region.wanted o (yielded ops a.tmps) = true := by simp [Region.wanted, hgd]
  rw [if_pos hw]
  exact wp_app s x ho B v u l0 l1 hs hx hown hu hn hB h
end Go.Proofs.Ytdjhgahdiggahaa
