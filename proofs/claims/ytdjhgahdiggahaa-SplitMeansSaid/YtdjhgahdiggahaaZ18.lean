/- A header by value, opened to its fields.
   Bytes among a struct's cells, opened.
   A packet's bytes, plain: they parse to what they were made of; with its ninth byte one less.
   The walk of ip.Less. -/
import Derived.Lib.SmallJoins
import Derived.Test.YtdjhgahdiggahaaZ03
import Derived.Test.YtdjhgahdiggahaaZ05
import Derived.Test.YtdjhgahdiggahaaZ06
import Derived.Test.YtdjhgahdiggahaaZ09
import Derived.Test.YtdjhgahdiggahaaZ10
import Derived.Test.YtdjhgahdiggahaaZ16

set_option linter.unusedSimpArgs false
set_option linter.unusedVariables false
namespace Go.Proofs.Ytdjhgahdiggahaa
open Go.RowKit
attribute [local go_sem ↓] Go.wp_at_zero Go.wp_at_succ

/-- Bytes with the ninth one less. -/
def decL (l : List UInt8) : List UInt8 := l.set 8 (UInt8.ofNat (Sm.at0 l 8 - 1))
/-- The checksum that is changed by that. -/
def lessC (l : List UInt8) : Nat := Sm.changed (numAt l 10 2) (numAt l 8 2) (numAt (decL l) 8 2)
def lessL (l : List UInt8) : List UInt8 := spl (decL l) 10 (putL (lessC l) 2)
theorem flt_20 {l : List UInt8} (h : flt l = 0) : 20 ≤ l.length := by
  rcases Nat.lt_or_ge l.length 20 with h1 | h1
  · rw [flt1 h1] at h; cases h
  · exact h1

/-- An answer of bytes that are owned, and an error's number. -/
def AnsO (w : World) (l : List UInt8) (n : Int) (e : Ending) (w' : World) : Prop := ∃ v, e = .returned (.tuple #[v, .int .i64 n]) ∧ OwnB w' w.heap.size v l ∧ Below w.heap.size w w'

theorem bv_set (l : List UInt8) (i x : Nat) (hx : x < 256) : (bv l).set i (.int .u8 (x : Nat)) = bv (l.set i (UInt8.ofNat x)) := by
  unfold bv
  rw [List.map_set, UInt8.toNat_ofNat', Nat.mod_eq_of_lt (by simpa using hx)]
theorem OwnB.set {w : World} {B g cap : Nat} {l : List UInt8} (h : OwnB w B (.slice (some ⟨g, 0, none⟩) l.length cap) l) (i x : Nat) (hx : x < 256) (hi : i < l.length) :
    OwnB (w.setCell ⟨g, i, none⟩ (.int .u8 (x : Nat))) B (.slice (some ⟨g, 0, none⟩) l.length cap) (l.set i (UInt8.ofNat x)) := by
  have := (World.ownsRow.stored h i (.int .u8 (x : Nat))).1
  rw [bv_set l i x hx] at this
  show World.ownsRow _ _ _ _ _ _ _
  rw [List.length_set]; exact this
theorem OwnB.cellAt {w : World} {B g cap : Nat} {l : List UInt8} (h : OwnB w B (.slice (some ⟨g, 0, none⟩) l.length cap) l) {i : Nat} (hi : i < l.length) : w.cell? ⟨g, i, none⟩ = some (.int .u8 (Sm.at0 l i : Nat)) ∧ w.frozen? ⟨g, i, none⟩ = false := by
  obtain ⟨b, o, e1, _, hc⟩ := (OwnB.bytes h).at1 hi
  simp only [Option.some.injEq, Addr.mk.injEq, and_true] at e1
  obtain ⟨rfl, rfl⟩ := e1
  rw [Nat.zero_add] at hc
  exact ⟨hc, World.ownsRow.frozenAt h i⟩

end Go.Proofs.Ytdjhgahdiggahaa

namespace Go.Proofs.Ytdjhgahdiggahaa
open Go.RowKit
theorem getL_fr (l : List UInt8) : ∀ x : Nat, l.foldl (fun n b => n * 256 + b.toNat) x = x * 256 ^ l.length + getL l := by
  induction l with
  | nil => intro x; simp [getL]
  | cons b l ih =>
    intro x
    simp only [List.foldl_cons, getL, List.length_cons]
    rw [ih, ih (0 * 256 + b.toNat), Nat.pow_succ]
    rw [Nat.zero_mul, Nat.zero_add, Nat.add_mul, Nat.mul_comm (256 ^ l.length) 256, Nat.mul_assoc]
    omega
theorem get_putL (n : Nat) : ∀ k : Nat, getL (putL n k) = n % 256 ^ k
  | 0 => by simp [getL, putL, Nat.mod_one]
  | k + 1 => by
    show (UInt8.ofNat (n / 256 ^ k) :: putL n k).foldl (fun n b => n * 256 + b.toNat) 0 = _
    rw [List.foldl_cons, getL_fr, putL_length, get_putL n k, Nat.mod_pow_succ, UInt8.toNat_ofNat', Nat.zero_mul, Nat.zero_add]
    rw [show (2 : Nat) ^ 8 = 256 from rfl, Nat.mul_comm]
    omega
theorem putL_1 (n : Nat) : putL n 1 = [UInt8.ofNat n] := by simp [putL]
theorem putL_2 (n : Nat) : putL n 2 = [UInt8.ofNat (n / 256), UInt8.ofNat n] := by simp [putL]
theorem getL_put {n k : Nat} (h : n < 256 ^ k) : getL (putL n k) = n := by rw [get_putL]; exact Nat.mod_eq_of_lt h
theorem hd_0 (h : Hd) (s t c : Nat) (R : List UInt8) (hs : 64 + s / 4 < 256) : Sm.at0 (hd20 h s t c ++ R) 0 = 64 + s / 4 := by
  show (UInt8.ofNat ((64 + s / 4) / 256 ^ 0)).toNat = _
  rw [UInt8.toNat_ofNat']; simp; omega
theorem hd_1 (h : Hd) (s t c : Nat) (R : List UInt8) (hs : h.tos < 256) : Sm.at0 (hd20 h s t c ++ R) 1 = h.tos := by
  show (UInt8.ofNat (h.tos / 256 ^ 0)).toNat = _
  rw [UInt8.toNat_ofNat']; simp; omega
theorem hd_8 (h : Hd) (s t c : Nat) (R : List UInt8) (hs : h.ttl < 256) : Sm.at0 (hd20 h s t c ++ R) 8 = h.ttl := by
  show (UInt8.ofNat (h.ttl / 256 ^ 0)).toNat = _
  rw [UInt8.toNat_ofNat']; simp; omega
theorem hd_9 (h : Hd) (s t c : Nat) (R : List UInt8) (hs : h.pr < 256) : Sm.at0 (hd20 h s t c ++ R) 9 = h.pr := by
  show (UInt8.ofNat (h.pr / 256 ^ 0)).toNat = _
  rw [UInt8.toNat_ofNat']; simp; omega
theorem hd_2 (h : Hd) (s t c : Nat) (R : List UInt8) (ht : t < 65536) : numAt (hd20 h s t c ++ R) 2 2 = t := by
  show getL (putL t 2) = t
  exact getL_put ht
theorem hd_4 (h : Hd) (s t c : Nat) (R : List UInt8) (ht : h.id < 65536) : numAt (hd20 h s t c ++ R) 4 2 = h.id := by
  show getL (putL h.id 2) = _
  exact getL_put ht
theorem hd_6 (h : Hd) (s t c : Nat) (R : List UInt8) (ht : flagsN h < 65536) : numAt (hd20 h s t c ++ R) 6 2 = flagsN h := by
  show getL (putL (flagsN h) 2) = _
  exact getL_put ht
theorem hd_10 (h : Hd) (s t c : Nat) (R : List UInt8) (ht : c < 65536) : numAt (hd20 h s t c ++ R) 10 2 = c := by
  show getL (putL c 2) = _
  exact getL_put ht
theorem hd_12 (h : Hd) (s t c : Nat) (R : List UInt8) (ht : h.src < 4294967296) : numAt (hd20 h s t c ++ R) 12 4 = h.src := by
  show getL (putL h.src 4) = _
  exact getL_put ht
theorem hd_16 (h : Hd) (s t c : Nat) (R : List UInt8) (ht : h.dst < 4294967296) : numAt (hd20 h s t c ++ R) 16 4 = h.dst := by
  show getL (putL h.dst 4) = _
  exact getL_put ht
theorem flagsN_lt (h : Hd) (h2 : h.off ≤ 8191) : flagsN h < 65536 := by
  unfold flagsN
  have e1 : h.ev.toNat ≤ 1 := Bool.toNat_le _
  have e2 : h.df.toNat ≤ 1 := Bool.toNat_le _
  have e3 : h.mf.toNat ≤ 1 := Bool.toNat_le _
  omega
theorem flags_back (h : Hd) (h1 : 0 ≤ h.off) (h2 : h.off ≤ 8191) : evB (flagsN h) = h.ev ∧ dfB (flagsN h) = h.df ∧ mfB (flagsN h) = h.mf ∧ ((flagsN h % 8192 : Nat) : Int) = h.off := by
  obtain ⟨tos, id, ev, df, mf, off, ttl, pr, src, dst⟩ := h
  obtain ⟨o, rfl⟩ := Int.eq_ofNat_of_zero_le h1
  simp only at h1 h2 ⊢
  have ho : o < 8192 := by omega
  have e : flagsN ⟨tos, id, ev, df, mf, o, ttl, pr, src, dst⟩ = ev.toNat * 32768 + df.toNat * 16384 + mf.toNat * 8192 + o := by simp [flagsN]
  rw [e]
  unfold evB dfB mfB
  cases ev <;> cases df <;> cases mf <;> simp <;> omega
/-- The sum of a header's bytes goes along with its checksum. -/
theorem all_chk (h : Hd) (s t c : Nat) (R : List UInt8) (hc : c < 65536) : Sm.all (hd20 h s t c ++ R) = Sm.all (hd20 h s t 0 ++ R) + c := by
  have h1 : hd20 h s t c ++ R = (hd20 h s t c).take 10 ++ putL c 2 ++ ((hd20 h s t c).drop 12 ++ R) := rfl
  have h2 : hd20 h s t 0 ++ R = (hd20 h s t c).take 10 ++ [0, 0] ++ ((hd20 h s t c).drop 12 ++ R) := rfl
  have := Sm.all_change (a := (hd20 h s t c).take 10) (b := (hd20 h s t c).drop 12 ++ R) (n := 5) rfl 0 0 (UInt8.ofNat (c / 256)) (UInt8.ofNat c)
  rw [← putL_2, ← h1, ← h2] at this
  rw [UInt8.toNat_ofNat', UInt8.toNat_ofNat'] at this
  simp at this
  omega
theorem chkN_lt (h : Hd) (O P : List UInt8) : chkN h O P < 65536 := by unfold chkN; omega
theorem tot_hdr (h : Hd) (O P : List UInt8) : Sm.tot (hdrS h O P (chkN h O P)) = 65535 := by
  unfold hdrS
  rw [Sm.tot_all, all_chk _ _ _ _ _ (chkN_lt h O P), ← Sm.addC_canon _ _ (chkN_lt h O P)]
  unfold chkN hdrS
  rw [Sm.tot_all]
  exact Sm.addC_rest (Sm.canon_lt _)
/-- A header with another time to live. -/
def Hd.set (h : Hd) (t : Nat) : Hd := { h with ttl := t }
theorem all_ttl (h : Hd) (s t c x : Nat) (R : List UInt8) (h1 : h.ttl < 256) (h2 : h.pr < 256) (hx : x < 256) : Sm.all (hd20 (h.set x) s t c ++ R) + (256 * h.ttl + h.pr) = Sm.all (hd20 h s t c ++ R) + (256 * x + h.pr) := by
  have e1 : hd20 h s t c ++ R = (hd20 h s t c).take 8 ++ (putL h.ttl 1 ++ putL h.pr 1) ++ ((hd20 h s t c).drop 10 ++ R) := rfl
  have e2 : hd20 (h.set x) s t c ++ R = (hd20 h s t c).take 8 ++ (putL x 1 ++ putL h.pr 1) ++ ((hd20 h s t c).drop 10 ++ R) := rfl
  rw [putL_1, putL_1] at e1 e2
  have := Sm.all_change (a := (hd20 h s t c).take 8) (b := (hd20 h s t c).drop 10 ++ R) (n := 4) rfl (UInt8.ofNat h.ttl) (UInt8.ofNat h.pr) (UInt8.ofNat x) (UInt8.ofNat h.pr)
  rw [show [UInt8.ofNat x, UInt8.ofNat h.pr] = [UInt8.ofNat x] ++ [UInt8.ofNat h.pr] from rfl, show [UInt8.ofNat h.ttl, UInt8.ofNat h.pr] = [UInt8.ofNat h.ttl] ++ [UInt8.ofNat h.pr] from rfl, ← e1, ← e2] at this
  rw [UInt8.toNat_ofNat', UInt8.toNat_ofNat', UInt8.toNat_ofNat'] at this
  rw [Nat.mod_eq_of_lt (by simpa using h1), Nat.mod_eq_of_lt (by simpa using h2), Nat.mod_eq_of_lt (by simpa using hx)] at this
  exact this
theorem dec_hd (h : Hd) (s t c : Nat) (R : List UInt8) (h1 : h.ttl < 256) : decL (hd20 h s t c ++ R) = hd20 (h.set (h.ttl - 1)) s t c ++ R := by
  unfold decL
  rw [hd_8 h s t c R h1]
  have e : hd20 (h.set (h.ttl - 1)) s t c ++ R = (hd20 h s t c ++ R).set 8 (UInt8.ofNat ((h.ttl - 1) / 256 ^ 0)) := rfl
  rw [e]; simp
theorem all0_0 (h : Hd) (s t c : Nat) (R : List UInt8) (k : s / 4 < 16) : (Sm.at0 (hd20 h s t c ++ R) 0 = 0) = False := by rw [hd_0 h s t c R (by omega)]; simp
theorem pkt_eq (h : Hd) (O P : List UInt8) : pktL h O P = hd20 h (20 + O.length) (20 + O.length + P.length) (chkN h O P) ++ (O ++ P) := by unfold pktL hdrS; rw [List.append_assoc]
theorem less_pkt (h : Hd) (O P : List UInt8) (hh : h.Ok) (hO : O.length ≤ 40) : lessL (pktL h O P) = pktL (h.set (h.ttl - 1)) O P := by
  have hc := chkN_lt h O P
  have ht := hh.ttl
  have hp := hh.pr
  have hd := dec_hd h (20 + O.length) (20 + O.length + P.length) (chkN h O P) (O ++ P) ht
  have e1 : numAt (pktL h O P) 10 2 = chkN h O P := by rw [pkt_eq]; exact hd_10 _ _ _ _ _ hc
  have e2 : numAt (pktL h O P) 8 2 = 256 * h.ttl + h.pr := by
    rw [pkt_eq, numAt_2 (by rw [List.length_append, hd20_length]; omega), hd_8 _ _ _ _ _ ht, hd_9 _ _ _ _ _ hp]
  have e3 : numAt (decL (pktL h O P)) 8 2 = 256 * (h.ttl - 1) + h.pr := by
    rw [pkt_eq, hd, numAt_2 (by rw [List.length_append, hd20_length]; omega), hd_8 _ _ _ _ _ (show (h.set (h.ttl - 1)).ttl < 256 by show h.ttl - 1 < 256; omega), hd_9 (h.set (h.ttl - 1)) _ _ _ _ hp]
    rfl
  have hS := all_ttl h (20 + O.length) (20 + O.length + P.length) 0 (h.ttl - 1) O ht hp (by omega)
  have hcg := Sm.changed_of (S := Sm.all (hd20 h (20 + O.length) (20 + O.length + P.length) 0 ++ O)) (m := 256 * h.ttl + h.pr) (n := 256 * (h.ttl - 1) + h.pr) (by omega) (by omega) hS
  have e4 : lessC (pktL h O P) = chkN (h.set (h.ttl - 1)) O P := by
    unfold lessC
    rw [e1, e2, e3]
    show Sm.changed (65535 - Sm.canon (Sm.all (hd20 h _ _ 0 ++ O))) _ _ = 65535 - Sm.canon (Sm.all (hd20 _ _ _ 0 ++ O))
    rcases hcg with e | ⟨e, _⟩
    · exact e.symm
    · exfalso
      have := (Sm.all_zero_iff _).1 e 0 (by rw [List.length_append, hd20_length]; omega)
      rw [all0_0 _ _ _ _ _ (by omega)] at this
      exact this
  unfold lessL
  rw [e4, pkt_eq, hd]
  show hd20 _ _ _ _ ++ _ = _
  rw [pkt_eq]
theorem pkt_facts (h : Hd) (O P X : List UInt8) (hh : h.Ok) (hm : mayO h.off O = true) (hP : P.length ≤ 65535 - 20 - O.length) :
    hsz (pktL h O P ++ X) = 20 + O.length ∧ numAt (pktL h O P ++ X) 2 2 = 20 + O.length + P.length ∧ Sm.at0 (pktL h O P ++ X) 0 / 16 = 4 ∧ (pktL h O P ++ X).take (20 + O.length) = hdrS h O P (chkN h O P) ∧ ((pktL h O P ++ X).take (20 + O.length)).drop 20 = O ∧
    ((pktL h O P ++ X).take (20 + O.length + P.length)).drop (20 + O.length) = P ∧ (pktL h O P ++ X).length = 20 + O.length + P.length + X.length := by
  obtain ⟨hl40, hl4, ho0, ho1, _⟩ := mayO_len hm
  have e : pktL h O P ++ X = hd20 h (20 + O.length) (20 + O.length + P.length) (chkN h O P) ++ (O ++ P ++ X) := by rw [pkt_eq, List.append_assoc]
  have e2 : pktL h O P ++ X = hdrS h O P (chkN h O P) ++ (P ++ X) := by unfold pktL; rw [List.append_assoc]
  have hl : (hdrS h O P (chkN h O P)).length = 20 + O.length := by unfold hdrS; rw [List.length_append, hd20_length]
  have a0 := hd_0 h (20 + O.length) (20 + O.length + P.length) (chkN h O P) (O ++ P ++ X) (by omega)
  have ht : (pktL h O P ++ X).take (20 + O.length) = hdrS h O P (chkN h O P) := by rw [e2, ← hl, List.take_left]
  refine ⟨?_, ?_, ?_, ht, ?_, ?_, ?_⟩
  · unfold hsz; rw [e, a0]; omega
  · rw [e]; exact hd_2 _ _ _ _ _ (by omega)
  · rw [e, a0]; omega
  · rw [ht]; rfl
  · rw [e2, ← hl, ← List.length_append, ← List.append_assoc, List.take_left, List.drop_left]
  · rw [e2, List.length_append, hl, List.length_append]; omega
theorem pkt_len (h : Hd) (O P : List UInt8) : (pktL h O P).length = 20 + O.length + P.length := by rw [pkt_eq, List.length_append, hd20_length, List.length_append]; omega
theorem flt_pkt (h : Hd) (O P X : List UInt8) (hh : h.Ok) (hm : mayO h.off O = true) (hP : P.length ≤ 65535 - 20 - O.length) : flt (pktL h O P ++ X) = 0 := by
  obtain ⟨f1, f2, f3, f4, f5, f6, f7⟩ := pkt_facts h O P X hh hm hP
  obtain ⟨hl40, hl4, ho0, ho1, hok⟩ := mayO_len hm
  refine flt0 (by omega) f3 (by omega) (by omega) ?_ ?_
  · rw [f1, f4]; exact tot_hdr h O P
  · rw [f1, f5]; exact hok
theorem pkt_fields (h : Hd) (O P X : List UInt8) (hh : h.Ok) (hm : mayO h.off O = true) :
    Sm.at0 (pktL h O P ++ X) 1 = h.tos ∧ numAt (pktL h O P ++ X) 4 2 = h.id ∧ numAt (pktL h O P ++ X) 6 2 = flagsN h ∧ Sm.at0 (pktL h O P ++ X) 8 = h.ttl ∧ Sm.at0 (pktL h O P ++ X) 9 = h.pr ∧ numAt (pktL h O P ++ X) 12 4 = h.src ∧ numAt (pktL h O P ++ X) 16 4 = h.dst := by
  obtain ⟨hl40, hl4, ho0, ho1, hok⟩ := mayO_len hm
  have e : pktL h O P ++ X = hd20 h (20 + O.length) (20 + O.length + P.length) (chkN h O P) ++ (O ++ P ++ X) := by rw [pkt_eq, List.append_assoc]
  rw [e]
  exact ⟨hd_1 _ _ _ _ _ hh.tos, hd_4 _ _ _ _ _ hh.id, hd_6 _ _ _ _ _ (flagsN_lt h ho1), hd_8 _ _ _ _ _ hh.ttl, hd_9 _ _ _ _ _ hh.pr, hd_12 _ _ _ _ _ hh.src, hd_16 _ _ _ _ _ hh.dst⟩
/-- A header parsed back. -/
def ParsedH (wm : World) (h : Hd) (O P : List UInt8) (e : Ending) (w' : World) : Prop :=
  ∃ (u v : Value) (B : Nat), e = .returned (.tuple #[.agg #[.int .u8 (h.tos : Nat), .int .u16 (h.id : Nat), .bool h.ev, .bool h.df, .bool h.mf, .int .i64 h.off, .int .u8 (h.ttl : Nat), .int .u8 (h.pr : Nat), .int .u32 (h.src : Nat), .int .u32 (h.dst : Nat), u], v, .int .i64 0]) ∧ OwnB w' wm.heap.size u O ∧ OwnB w' B v P ∧ wm.heap.size ≤ B ∧ (∀ g, u.ownBlock = some g → g < B) ∧ Below wm.heap.size wm w'
theorem parse_pkt (a : Option Addr) (c : Nat) (h : Hd) (O P X : List UInt8) (hh : h.Ok) (hm : mayO h.off O = true) (hP : P.length ≤ 65535 - 20 - O.length) (hX : X.length ≤ 900000) (wm : World) (hv : Bytes wm (.slice a (pktL h O P ++ X).length c) (pktL h O P ++ X)) :
    Calls Try.prog 75 #[.slice a (pktL h O P ++ X).length c] wm (ParsedH wm h O P) := by
  obtain ⟨f1, f2, f3, f4, f5, f6, f7⟩ := pkt_facts h O P X hh hm hP
  obtain ⟨g1, g2, g3, g4, g5, g6, g7⟩ := pkt_fields h O P X hh hm
  obtain ⟨hl40, hl4, ho0, ho1, hok⟩ := mayO_len hm
  obtain ⟨b1, b2, b3, b4⟩ := flags_back h ho0 ho1
  have := parse_yes a c (pktL h O P ++ X) (by omega) wm hv (flt_pkt h O P X hh hm hP)
  refine this.mono ?_
  rintro e w' ⟨u, v, B, rfl, hu, hv', hB, hg, hb⟩
  rw [f1] at hu hv'
  rw [f2] at hv'
  rw [f5] at hu
  rw [f6] at hv'
  rw [g1, g2, g3, g4, g5, g6, g7, b1, b2, b3, b4]
  exact ⟨u, v, B, rfl, hu, hv', hB, hg, hb⟩
end Go.Proofs.Ytdjhgahdiggahaa

namespace Go.Proofs.Ytdjhgahdiggahaa
open Go.ChangeShapes Go.WideShapes Go.ChangeAt Go.RowKit Go.Joins Go.Deep

set_option maxRecDepth 100000 in
theorem open_bytes_c {H : Type} {enc : TypeId × Value → H} {W : World} {fuel : Nat} {v : Value} {x : DataW H × List MemPlace}
    (hf : DataW.trod enc Try.prog W 0 (fun _ => true) true fuel 97 [v] = some x) : ∃ l : List UInt8, Bytes W v l ∧ l.length ≤ 9223372036854775807 := by
  rcases open_ints Try.underlying97 Try.underlying5 (by kernel_rfl) hf with ⟨hcs, _⟩ | ⟨x, l, c, zs, hcs, _, hl, hm, hz, _, hcell, hwz⟩
  · simp only [List.cons.injEq, and_true] at hcs
    subst hcs
    exact ⟨[], Bytes.nil _ _ _, by simp⟩
  · simp only [List.cons.injEq, and_true] at hcs
    subst hcs
    unfold maxLen at hm
    have hzl : zs.length = c := by simpa using hz
    exact ⟨_, bytes_of_ints hl hzl hwz (fun h => by cases h) (fun a ha c hc => by cases ha; exact hcell c (by omega)), by simp; omega⟩
end Go.Proofs.Ytdjhgahdiggahaa

namespace Go.Proofs.Ytdjhgahdiggahaa
open Go.ChangeShapes Go.WideShapes Go.ChangeAt Go.RowKit Go.Joins Go.Deep
section
variable {H : Type} {enc : TypeId × Value → H} {P : Program} {w : World} {base : Nat} {spare : Nat → Bool} {held : Bool}
theorem open_agg11 {r : Reach} {b0 : Nat} {t : TypeId} {f0 f1 f2 f3 f4 f5 f6 f7 f8 f9 f10 : Field} {v : Value} {d : DataW H} {p : List MemPlace} (hs : P.underlying t = some (.struct #[f0, f1, f2, f3, f4, f5, f6, f7, f8, f9, f10])) (hone : oneCellFields P #[f0, f1, f2, f3, f4, f5, f6, f7, f8, f9, f10] = true) (hC : P.cellsOf t = 11)
    (hv : Value.okWide P w r b0 t v) (h : DataW.Trod enc P w base spare held t v d p) :
    ∃ (v0 v1 v2 v3 v4 v5 v6 v7 v8 v9 v10 : Value) (y0 y1 y2 y3 y4 y5 y6 y7 y8 y9 y10 : DataW H × List MemPlace) (n : Nat), v = .agg #[v0, v1, v2, v3, v4, v5, v6, v7, v8, v9, v10] ∧ DataW.trod enc P w base spare held n f0.type [v0] = some y0 ∧ DataW.trod enc P w base spare held n f1.type [v1] = some y1 ∧ DataW.trod enc P w base spare held n f2.type [v2] = some y2 ∧ DataW.trod enc P w base spare held n f3.type [v3] = some y3 ∧ DataW.trod enc P w base spare held n f4.type [v4] = some y4 ∧ DataW.trod enc P w base spare held n f5.type [v5] = some y5 ∧ DataW.trod enc P w base spare held n f6.type [v6] = some y6 ∧ DataW.trod enc P w base spare held n f7.type [v7] = some y7 ∧ DataW.trod enc P w base spare held n f8.type [v8] = some y8 ∧ DataW.trod enc P w base spare held n f9.type [v9] = some y9 ∧ DataW.trod enc P w base spare held n f10.type [v10] = some y10 := by
  obtain ⟨cs, rfl, hsz⟩ := okWide_struct hs hv
  obtain ⟨l⟩ := cs
  match l, hsz.trans hC with
  | [c0, c1, c2, c3, c4, c5, c6, c7, c8, c9, c10], _ =>
    obtain ⟨fuel, hf⟩ := h
    obtain ⟨xs, n, _, hx, _, hlen, hg⟩ := DataW.trod_struct hs hf
    obtain ⟨o0, k0⟩ := hone_of hone 0 f0 rfl
    obtain ⟨o1, k1⟩ := hone_of hone 1 f1 rfl
    obtain ⟨o2, k2⟩ := hone_of hone 2 f2 rfl
    obtain ⟨o3, k3⟩ := hone_of hone 3 f3 rfl
    obtain ⟨o4, k4⟩ := hone_of hone 4 f4 rfl
    obtain ⟨o5, k5⟩ := hone_of hone 5 f5 rfl
    obtain ⟨o6, k6⟩ := hone_of hone 6 f6 rfl
    obtain ⟨o7, k7⟩ := hone_of hone 7 f7 rfl
    obtain ⟨o8, k8⟩ := hone_of hone 8 f8 rfl
    obtain ⟨o9, k9⟩ := hone_of hone 9 f9 rfl
    obtain ⟨o10, k10⟩ := hone_of hone 10 f10 rfl
    match xs, hlen with
    | [y0, y1, y2, y3, y4, y5, y6, y7, y8, y9, y10], _ =>
      exact ⟨c0, c1, c2, c3, c4, c5, c6, c7, c8, c9, c10, y0, y1, y2, y3, y4, y5, y6, y7, y8, y9, y10, n, rfl, by simpa [Value.cells, o0, k0] using hg 0 f0 rfl, by simpa [Value.cells, o1, k1] using hg 1 f1 rfl, by simpa [Value.cells, o2, k2] using hg 2 f2 rfl, by simpa [Value.cells, o3, k3] using hg 3 f3 rfl, by simpa [Value.cells, o4, k4] using hg 4 f4 rfl, by simpa [Value.cells, o5, k5] using hg 5 f5 rfl, by simpa [Value.cells, o6, k6] using hg 6 f6 rfl, by simpa [Value.cells, o7, k7] using hg 7 f7 rfl, by simpa [Value.cells, o8, k8] using hg 8 f8 rfl, by simpa [Value.cells, o9, k9] using hg 9 f9 rfl, by simpa [Value.cells, o10, k10] using hg 10 f10 rfl⟩
end

set_option maxRecDepth 100000 in
theorem open_hdr {H : Type} {enc : TypeId × Value → H} {W : World} {base : Nat} {v : Value} {d : DataW H} {p : List MemPlace}
    (hv : Value.okWide Try.prog W .any base 106 v) (h : DataW.Trod enc Try.prog W 0 (fun _ => true) true 106 v d p) :
    ∃ (h : Hd) (a : Option Addr) (c : Nat) (O : List UInt8), v = .agg #[.int .u8 (h.tos : Nat), .int .u16 (h.id : Nat), .bool h.ev, .bool h.df, .bool h.mf, .int .i64 h.off, .int .u8 (h.ttl : Nat), .int .u8 (h.pr : Nat), .int .u32 (h.src : Nat), .int .u32 (h.dst : Nat), .slice a O.length c] ∧ h.Ok ∧ Bytes W (.slice a O.length c) O ∧ O.length ≤ 9223372036854775807 ∧ -9223372036854775808 ≤ h.off ∧ h.off ≤ 9223372036854775807 := by
  obtain ⟨c0, c1, c2, c3, c4, c5, c6, c7, c8, c9, c10, y0, y1, y2, y3, y4, y5, y6, y7, y8, y9, y10, n, rfl, h0, h1, h2, h3, h4, h5, h6, h7, h8, h9, h10⟩ := open_agg11 Try.underlying106 (by kernel_rfl) (by kernel_rfl) hv h
  obtain ⟨a0, e0, _, w0⟩ := DataW.trod_int Try.underlying5 h0
  obtain ⟨a1, e1, _, w1⟩ := DataW.trod_int Try.underlying104 h1
  obtain ⟨a2, e2, _⟩ := DataW.trod_bool Try.underlying4 h2
  obtain ⟨a3, e3, _⟩ := DataW.trod_bool Try.underlying4 h3
  obtain ⟨a4, e4, _⟩ := DataW.trod_bool Try.underlying4 h4
  obtain ⟨a5, e5, _, w5⟩ := DataW.trod_int Try.underlying3 h5
  obtain ⟨a6, e6, _, w6⟩ := DataW.trod_int Try.underlying5 h6
  obtain ⟨a7, e7, _, w7⟩ := DataW.trod_int Try.underlying5 h7
  obtain ⟨a8, e8, _, w8⟩ := DataW.trod_int Try.underlying38 h8
  obtain ⟨a9, e9, _, w9⟩ := DataW.trod_int Try.underlying38 h9
  obtain ⟨O, hO, hl⟩ := open_bytes_c h10
  simp only [List.cons.injEq, and_true] at e0 e1 e2 e3 e4 e5 e6 e7 e8 e9
  subst e0 e1 e2 e3 e4 e5 e6 e7 e8 e9
  have b0 := bounds_u8 w0
  obtain ⟨n0, rfl⟩ := Int.eq_ofNat_of_zero_le b0.1
  have b1 := bounds_u16 w1
  obtain ⟨n1, rfl⟩ := Int.eq_ofNat_of_zero_le b1.1
  have b6 := bounds_u8 w6
  obtain ⟨n6, rfl⟩ := Int.eq_ofNat_of_zero_le b6.1
  have b7 := bounds_u8 w7
  obtain ⟨n7, rfl⟩ := Int.eq_ofNat_of_zero_le b7.1
  have b8 := bounds_u32 w8
  obtain ⟨n8, rfl⟩ := Int.eq_ofNat_of_zero_le b8.1
  have b9 := bounds_u32 w9
  obtain ⟨n9, rfl⟩ := Int.eq_ofNat_of_zero_le b9.1
  have b5 := bounds_i64 w5
  obtain ⟨a, c, rfl⟩ := hO.form
  exact ⟨⟨n0, n1, a2, a3, a4, a5, n6, n7, n8, n9⟩, a, c, O, rfl, ⟨by simp only; omega, by simp only; omega, by simp only; omega, by simp only; omega, by simp only; omega, by simp only; omega⟩, hO, hl, by simp only; omega, by simp only; omega⟩
end Go.Proofs.Ytdjhgahdiggahaa
