/- What is no frame's: bytes cut, lengthened, or with another word; plain mathematics.
   Plain numbers of the law SumMeans, and stores into bytes that the call owns.
   Small forms of the contracts, for regions.
   The walk of known: the chapter's rows hold. -/
import Derived.Test.YtcahfapffhcceaaZ01
import Derived.Test.YtcahfapffhcceaaZ06

set_option linter.unusedSimpArgs false
set_option linter.unusedVariables false
namespace Go.Proofs.Ytcahfapffhcceaa
open Go.RowKit
attribute [local go_sem ↓] Go.wp_at_zero Go.wp_at_succ

def exB : List UInt8 := [0, 1, 242, 3, 244, 245, 246, 247]
theorem ex_tot : Sm.tot exB = 56818 := by decide +kernel
theorem ex_check : 65535 - Sm.tot exB = 8717 := by decide +kernel
theorem kTot (w : World) (v : Value) (h : Lists w v [exB]) : Calls Try.prog 49 #[v] w fun e w' => e = .returned (.int .u16 56818) ∧ Below w.heap.size w w' :=
  (totalW_any w v [exB] h (by decide) (by decide)).mono fun _ _ ⟨he, hb⟩ => ⟨he.trans (ret_u (by decide +kernel)), hb⟩
theorem kChk (w : World) (v : Value) (h : Lists w v [exB.take 3, exB.drop 3]) : Calls Try.prog 30 #[v] w fun e w' => e = .returned (.int .u16 8717) ∧ Below w.heap.size w w' :=
  (checkW_any w v _ h (by decide) (by decide)).mono fun _ _ ⟨he, hb⟩ => ⟨he.trans (ret_u (by decide +kernel)), hb⟩
theorem kOne (w : World) (v : Value) (h : Lists w v [[1]]) : Calls Try.prog 49 #[v] w fun e w' => e = .returned (.int .u16 256) ∧ Below w.heap.size w w' :=
  (totalW_any w v _ h (by decide) (by decide)).mono fun _ _ ⟨he, hb⟩ => ⟨he.trans (ret_u (by decide +kernel)), hb⟩
end Go.Proofs.Ytcahfapffhcceaa

namespace Go.Proofs.Ytcahfapffhcceaa
open Go.RowKit

theorem total_of (w : World) (v : Value) (l : List UInt8) (t : Nat) (ht : t = Sm.tot l) (hl : l.length ≤ 10000) (h : Lists w v [l]) :
    Calls Try.prog 49 #[v] w fun e w' => e = .returned (.int .u16 (t : Int)) ∧ Below w.heap.size w w' := by
  subst ht
  refine (totalW_any w v [l] h (by simp) (by simpa using hl)).mono ?_
  rintro e w1 ⟨rfl, hb⟩
  exact ⟨by simp, hb⟩
theorem check_of (w : World) (v : Value) (l : List UInt8) (t : Nat) (ht : t = Sm.tot l) (hl : l.length ≤ 10000) (h : Lists w v [l]) :
    Calls Try.prog 30 #[v] w fun e w' => e = .returned (.int .u16 (65535 - (t : Int))) ∧ Below w.heap.size w w' := by
  subst ht
  have hb := Sm.tot_lt l
  refine (checkW_any w v [l] h (by simp) (by simpa using hl)).mono ?_
  rintro e w1 ⟨rfl, hb⟩
  exact ⟨ret_i (by simp; omega), hb⟩
end Go.Proofs.Ytcahfapffhcceaa

namespace Go.Proofs.Ytcahfapffhcceaa
open Go.RowKit

theorem set_two (l : List UInt8) (k : Nat) (h : 2 * k + 1 < l.length) (x y : UInt8) :
    (l.set (2 * k) x).set (2 * k + 1) y = l.take (2 * k) ++ [x, y] ++ l.drop (2 * k + 2) := by
  apply List.ext_getElem?
  intro i
  rcases (show i < 2 * k ∨ i = 2 * k ∨ i = 2 * k + 1 ∨ 2 * k + 2 ≤ i by omega) with h1 | rfl | rfl | h1
  · rw [List.append_assoc, List.getElem?_append_left (by simp; omega), List.getElem?_set_ne (by omega), List.getElem?_set_ne (by omega), List.getElem?_take_of_lt h1]
  · rw [List.getElem?_set_ne (by omega), List.getElem?_set_self (by omega), List.append_assoc, List.getElem?_append_right (by simp; omega)]
    simp [Nat.min_eq_left (show 2 * k ≤ l.length by omega)]
  · rw [List.getElem?_set_self (by simp; omega), List.append_assoc, List.getElem?_append_right (by simp; omega)]
    simp [Nat.min_eq_left (show 2 * k ≤ l.length by omega)]
  · rw [List.getElem?_set_ne (by omega), List.getElem?_set_ne (by omega), List.getElem?_append_right (by simp; omega), List.getElem?_drop]
    congr 1
    simp
    omega
theorem split_two (l : List UInt8) (k : Nat) (h : 2 * k + 1 < l.length) : l = l.take (2 * k) ++ [l[2 * k], l[2 * k + 1]] ++ l.drop (2 * k + 2) := by
  have := set_two l k h l[2 * k] l[2 * k + 1]
  rw [List.set_getElem_self, List.set_getElem_self] at this
  exact this
/-- Are the first bytes noughts? -/
def nz (l : List UInt8) (k : Nat) : Bool := (l.take k).all fun b => b.toNat == 0
theorem nz_succ (l : List UInt8) (k : Nat) (h : k < l.length) : nz l (k + 1) = (nz l k && l[k].toNat == 0) := by
  unfold nz; rw [List.take_succ_eq_append_getElem h, List.all_append]; simp
theorem nz_step (l : List UInt8) (k : Nat) (h : k < l.length) : nz l (k + 1) = (nz l k && (Sm.at0 l k == 0)) := by
  rw [nz_succ l k h, Sm.at0, List.getElem?_eq_getElem h]; rfl
theorem nz_all {l : List UInt8} (h : Sm.all l = 0) : nz l l.length = true := by
  unfold nz
  rw [List.take_length, List.all_eq_true]
  intro b hb
  obtain ⟨i, hi, rfl⟩ := List.mem_iff_getElem.1 hb
  have := (Sm.all_zero_iff l).1 h i hi
  simp [Sm.at0, List.getElem?_eq_getElem hi] at this
  simpa using this

/-- What the change of a word does. -/
theorem means_math (l : List UInt8) (k : Nat) (h : 2 * k + 1 < l.length) (n : Nat) (hn : n < 65536) (x y : UInt8) (hx : x.toNat = n / 256) (hy : y.toNat = n % 256) :
    65535 - Sm.tot ((l.set (2 * k) x).set (2 * k + 1) y) = Sm.changed (65535 - Sm.tot l) (256 * l[2 * k].toNat + l[2 * k + 1].toNat) n ∨
    Sm.all ((l.set (2 * k) x).set (2 * k + 1) y) = 0 ∧ 65535 - Sm.tot ((l.set (2 * k) x).set (2 * k + 1) y) = 65535 ∧ Sm.changed (65535 - Sm.tot l) (256 * l[2 * k].toNat + l[2 * k + 1].toNat) n = 0 := by
  have e1 := set_two l k h x y
  have hlen : (l.take (2 * k)).length = 2 * k := by simp; omega
  have e2 := Sm.all_change (b := l.drop (2 * k + 2)) hlen l[2 * k] l[2 * k + 1] x y
  rw [← split_two l k h, ← e1] at e2
  have b1 := l[2 * k].toNat_lt
  have b2 := l[2 * k + 1].toNat_lt
  rw [Sm.tot_all, Sm.tot_all]
  refine Sm.changed_of (by omega) hn ?_
  rw [e2, hx, hy]
  omega

theorem means_pq (l : List UInt8) (k : Nat) (h : 2 * k + 1 < l.length) (n : Nat) (hn : n < 65536) (x y : UInt8) (hx : x.toNat = n / 256) (hy : y.toNat = n % 256) (p q : Nat) (hp : p = Sm.at0 l (2 * k)) (hq : q = Sm.at0 l (2 * k + 1)) :
    65535 - Sm.tot ((l.set (2 * k) x).set (2 * k + 1) y) = Sm.changed (65535 - Sm.tot l) (256 * p + q) n ∨
    Sm.all ((l.set (2 * k) x).set (2 * k + 1) y) = 0 ∧ 65535 - Sm.tot ((l.set (2 * k) x).set (2 * k + 1) y) = 65535 ∧ Sm.changed (65535 - Sm.tot l) (256 * p + q) n = 0 := by
  have e1 : p = l[2 * k].toNat := by rw [hp, Sm.at0, List.getElem?_eq_getElem (by omega)]; rfl
  have e2 : q = l[2 * k + 1].toNat := by rw [hq, Sm.at0, List.getElem?_eq_getElem h]; rfl
  rw [e1, e2]
  exact means_math l k h n hn x y hx hy

/-- A store into bytes that the call owns. -/
theorem OwnB.slice {w : World} {B : Nat} {v : Value} {l : List UInt8} (h : OwnB w B v l) (hl : 0 < l.length) :
    ∃ g c, v = .slice (some ⟨g, 0, none⟩) l.length c ∧ B ≤ g ∧ g < w.heap.size ∧ ∀ j (hj : j < l.length), w.cell? ⟨g, j, none⟩ = some (.int .u8 (l[j].toNat : Int)) ∧ w.frozen? ⟨g, j, none⟩ = false := by
  obtain ⟨g, c, hv, h1, h2⟩ := World.ownsRow.form h hl
  subst hv
  refine ⟨g, c, rfl, h1, h2, fun j hj => ?_⟩
  have hb := OwnB.bytes h
  obtain ⟨b, o, e1, _, e2⟩ := hb.at hj
  simp only [Option.some.injEq, Addr.mk.injEq, and_true] at e1
  obtain ⟨rfl, rfl⟩ := e1
  exact ⟨by simpa using e2, World.ownsRow.frozenAt h j⟩
theorem OwnB.at0 {w : World} {B g c : Nat} {l : List UInt8} (h : OwnB w B (.slice (some ⟨g, 0, none⟩) l.length c) l) {j : Nat} (hj : j < l.length) :
    w.cell? ⟨g, j, none⟩ = some (.int .u8 (Sm.at0 l j : Nat)) ∧ w.frozen? ⟨g, j, none⟩ = false := by
  obtain ⟨g', c', e, _, _, h2⟩ := OwnB.slice h (by omega)
  simp only [Value.slice.injEq, Option.some.injEq, Addr.mk.injEq, and_true] at e
  obtain ⟨rfl, _⟩ := e
  have := h2 j hj
  rw [Sm.at0, List.getElem?_eq_getElem hj]
  exact this
theorem OwnB.set {w : World} {B g c n : Nat} {l : List UInt8} (h : OwnB w B (.slice (some ⟨g, 0, none⟩) n c) l) (hn : n = l.length) (j : Nat) (x : UInt8) :
    OwnB (w.setCell ⟨g, j, none⟩ (.int .u8 (x.toNat : Int))) B (.slice (some ⟨g, 0, none⟩) n c) (l.set j x) := by
  subst hn
  have e : bv (l.set j x) = (bv l).set j (.int .u8 (x.toNat : Int)) := by simp [bv, List.map_set]
  show World.ownsRow _ _ _ _ _ _ _
  rw [List.length_set, e]
  exact (World.ownsRow.stored h j _).1
end Go.Proofs.Ytcahfapffhcceaa

namespace Go.Proofs.Ytcahfapffhcceaa
open Go.RowKit

theorem all_put {c : Nat} (h : c < 65536) : Sm.all (putL c 2) = c := by
  show Sm.all [UInt8.ofNat (c / 256 ^ 1), UInt8.ofNat (c / 256 ^ 0)] = c
  rw [Sm.all_pair, UInt8.toNat_ofNat', UInt8.toNat_ofNat']
  simp
  omega
theorem all_frC (f : Fr) (B : List UInt8) {c : Nat} (h : c < 65536) : Sm.all (frC f B c) = Sm.all (frC f B 0) + c := by
  unfold frC
  have h1 : (fh52 f B.length).length = 2 * 26 := fh52_length f _
  have h2 (k : Nat) : (putL k 2).length = 2 * 1 := putL_length k 2
  rw [Sm.all_append h1, Sm.all_append h1, Sm.all_append (h2 c), Sm.all_append (h2 0), all_put h, all_put (by omega)]
  omega
theorem ok_of {l : List UInt8} (h : okF l = true) : 54 ≤ l.length ∧ mayF (frP l) (l.drop 54) = true ∧ frL (frP l) (l.drop 54) = l := by
  unfold okF at h
  simp only [Bool.and_eq_true, decide_eq_true_eq, beq_iff_eq] at h
  exact h
/-- The words of a frame's bytes come to nothing, but for 65535. -/
theorem ok_all {l : List UInt8} (h : okF l = true) : Sm.all l % 65535 = 0 := by
  obtain ⟨_, _, e⟩ := ok_of h
  have h1 := all_frC (frP l) (l.drop 54) (c := 65535 - Sm.tot (frC (frP l) (l.drop 54) 0)) (by omega)
  have h2 : frC (frP l) (l.drop 54) (65535 - Sm.tot (frC (frP l) (l.drop 54) 0)) = l := e
  rw [h2] at h1
  rw [h1, Sm.tot_all]
  unfold Sm.canon
  split
  · omega
  · omega
theorem ok_len {l : List UInt8} (h : okF l = true) : fld l 50 2 + 54 = l.length := by
  obtain ⟨h1, hm, e⟩ := ok_of h
  obtain ⟨_, _, h2⟩ := may_of6 hm
  have e2 : l = fhd (frP l) 6 ++ (putL (l.drop 54).length 2 ++ (putL (65535 - Sm.tot (frC (frP l) (l.drop 54) 0)) 2 ++ l.drop 54)) := by
    have e3 : frL (frP l) (l.drop 54) = fhd (frP l) 6 ++ (putL (l.drop 54).length 2 ++ (putL (65535 - Sm.tot (frC (frP l) (l.drop 54) 0)) 2 ++ l.drop 54)) := by
      unfold frL frC fh52; simp only [List.append_assoc]
    exact e.symm.trans e3
  have e4 : fld l 50 2 = getL (putL (l.drop 54).length 2) := by
    rw [e2]
    have := fld_at (fhd (frP l) 6) (putL (l.drop 54).length 2) (putL (65535 - Sm.tot (frC (frP l) (l.drop 54) 0)) 2 ++ l.drop 54) 50 2 (fhd_length (frP l) (Nat.le_refl 6)).symm (putL_length _ _).symm
    rw [← e2]
    rw [← e2] at this
    exact this
  rw [e4, getL_putL (by have : (256 : Nat) ^ 2 = 65536 := rfl; omega)]
  simp; omega
theorem fld_take {l : List UInt8} {n : Nat} (h : 52 ≤ n) : fld (l.take n) 50 2 = fld l 50 2 := by
  unfold fld; rw [List.take_take, Nat.min_eq_left (by omega)]
theorem ok_cut {l : List UInt8} (h : okF l = true) {n : Nat} (hn : n + 1 = l.length) : okF (l.take n) = false := by
  cases h2 : okF (l.take n) with
  | false => rfl
  | true =>
    have h3 := (ok_of h2).1
    have h4 := ok_len h2
    have h5 := ok_len h
    simp at h3
    rw [fld_take (by omega)] at h4
    simp at h4
    omega
theorem ok_more {l : List UInt8} (h : okF l = true) (m : UInt8) : okF (l ++ [m]) = false := by
  cases h2 : okF (l ++ [m]) with
  | false => rfl
  | true =>
    have h3 := (ok_of h).1
    have h4 := ok_len h2
    have h5 := ok_len h
    have h6 := fld_take (l := l ++ [m]) (n := l.length) (by omega)
    rw [List.take_left' rfl] at h6
    simp at h4
    omega
theorem ok_word {l : List UInt8} (h : okF l = true) {k : Nat} (hk : 2 * k + 1 < l.length) (x y : UInt8) (p q : Nat) (hp : p = Sm.at0 l (2 * k)) (hq : q = Sm.at0 l (2 * k + 1)) (hne : (256 * p + q) % 65535 ≠ (256 * x.toNat + y.toNat) % 65535) :
    okF ((l.set (2 * k) x).set (2 * k + 1) y) = false := by
  cases h2 : okF ((l.set (2 * k) x).set (2 * k + 1) y) with
  | false => rfl
  | true =>
    have h3 := ok_all h
    have h4 := ok_all h2
    have e := split_two l k hk
    rw [set_two l k hk] at h4
    have h5 := Sm.all_change (a := l.take (2 * k)) (b := l.drop (2 * k + 2)) (n := k) (by simp; omega) l[2 * k] l[2 * k + 1] x y
    rw [← e] at h5
    have e1 : p = l[2 * k].toNat := by rw [hp]; unfold Sm.at0; rw [List.getElem?_eq_getElem (by omega)]; rfl
    have e2 : q = l[2 * k + 1].toNat := by rw [hq]; unfold Sm.at0; rw [List.getElem?_eq_getElem hk]; rfl
    rw [e1, e2] at hne
    omega
end Go.Proofs.Ytcahfapffhcceaa
