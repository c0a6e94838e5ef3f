/- A rising list of entries by places; those that have an address, by rising length: plainly.
   A tree's nodes are its prefixes, and where two neighbours part: plainly.
   Trees of prefixes, plainly: taken out, looked up; which have an address.
   Path-compressed trees of prefixes, plainly: what they hold, put in, taken out, looked up.
   Prefixes, plainly: a bit, the longest prefix that two are within. -/
import Derived.Test.YtdjhgahdiggahaaZ10

set_option linter.unusedSimpArgs false
set_option linter.unusedVariables false
namespace Go.Proofs.Ytdjhgahdiggahaa
namespace Tp
open Wp

/-- A prefix: its address, its length. -/
abbrev Pf := Int × Int
/-- A prefix that may be, of an address. -/
structure Ok (p : Pf) : Prop where
  a0 : 0 ≤ p.1
  a1 : p.1 < 4294967296
  may : mayB p.1 p.2 = true
theorem Ok.n0 {p : Pf} (h : Ok p) : 0 ≤ p.2 := (may_of h.may).1
theorem Ok.n1 {p : Pf} (h : Ok p) : p.2 ≤ 32 := (may_of h.may).2.1
theorem Ok.fs {p : Pf} (h : Ok p) : fst p.1 p.2 = p.1 := (may_of h.may).2.2
/-- The bit behind the first n. -/
def bit (a n : Int) : Int := a / 2 ^ (31 - n).toNat % 2
theorem bit_or (a n : Int) : bit a n = 0 ∨ bit a n = 1 := by unfold bit; omega
/-- One bit more. -/
theorem fst_bit {a n : Int} (h0 : 0 ≤ n) (h1 : n ≤ 31) : fst a (n + 1) = fst a n + bit a n * 2 ^ (31 - n).toNat := by
  unfold fst bit
  have e1 : (32 - (n + 1)).toNat = (31 - n).toNat := by omega
  have e2 : (32 - n).toNat = (31 - n).toNat + 1 := by omega
  rw [e1, e2, Int.pow_succ]
  have hp := pow_pos' (31 - n).toNat
  obtain ⟨P, hP⟩ : ∃ P : Int, P = 2 ^ (31 - n).toNat := ⟨_, rfl⟩
  rw [← hP] at hp ⊢
  rw [← Int.ediv_ediv_of_nonneg (Int.le_of_lt hp)]
  obtain ⟨q, hq⟩ : ∃ q, q = a / P := ⟨_, rfl⟩
  rw [← hq]
  have := Int.mul_ediv_add_emod q 2
  have e3 : q / 2 * (P * 2) = (2 * (q / 2)) * P := by rw [Int.mul_comm P 2, ← Int.mul_assoc, Int.mul_comm (q / 2) 2]
  rw [e3, ← Int.add_mul]
  congr 1
  omega
theorem bit_eq {a b n : Int} (h0 : 0 ≤ n) (h1 : n ≤ 31) (h : fst a (n + 1) = fst b (n + 1)) (h2 : fst a n = fst b n) : bit a n = bit b n := by
  rw [fst_bit h0 h1, fst_bit h0 h1, h2] at h
  have hp := pow_pos' (31 - n).toNat
  have h3 : bit a n * 2 ^ (31 - n).toNat = bit b n * 2 ^ (31 - n).toNat := by omega
  exact Int.eq_of_mul_eq_mul_right (Int.ne_of_gt hp) h3
theorem eq_bit {a b n : Int} (h0 : 0 ≤ n) (h1 : n ≤ 31) (h : bit a n = bit b n) (h2 : fst a n = fst b n) : fst a (n + 1) = fst b (n + 1) := by
  rw [fst_bit h0 h1, fst_bit h0 h1, h2, h]
/-- Of the same first bits, that with the bit 0 is smaller. -/
theorem bit_lt {a b n : Int} (h0 : 0 ≤ n) (h1 : n ≤ 31) (h : fst a n = fst b n) (ha : bit a n = 0) (hb : bit b n = 1) : a < b := by
  rcases Int.lt_or_le a b with h2 | h2
  · exact h2
  · have h3 := fst_mono (n := n + 1) h2
    rw [fst_bit h0 h1, fst_bit h0 h1, h, ha, hb] at h3
    have hp := pow_pos' (31 - n).toNat
    omega
theorem fst_zero {a : Int} (h0 : 0 ≤ a) (h1 : a < 4294967296) : fst a 0 = 0 := by
  unfold fst
  have e : ((32 : Int) - 0).toNat = 32 := by decide
  have h2 : a / 2 ^ 32 = 0 := Int.ediv_eq_zero_of_lt h0 h1
  rw [e, h2, Int.zero_mul]
theorem fst_eq_less {a b n m : Int} (h0 : 0 ≤ n) (h : n ≤ m) (h2 : m ≤ 32) (e : fst a m = fst b m) : fst a n = fst b n := by
  rw [← fst_fst h0 h h2, e, fst_fst h0 h h2]

/-- q lies within p. -/
def wi (p q : Pf) : Bool := inB p.1 p.2 q.1 q.2
theorem wi_iff {p q : Pf} (hp : Ok p) (hq : Ok q) : wi p q = true ↔ p.2 ≤ q.2 ∧ fst q.1 p.2 = p.1 := by
  unfold wi
  constructor
  · intro h; obtain ⟨_, _, h3, h4⟩ := in_of h; exact ⟨h3, h4⟩
  · rintro ⟨h3, h4⟩; exact in_mk hp.may hq.may h3 h4
/-- The order. -/
def lt (p q : Pf) : Prop := p.1 < q.1 ∨ (p.1 = q.1 ∧ p.2 < q.2)
theorem lt_iff {p q : Pf} : lt p q ↔ cmpI p.1 p.2 q.1 q.2 < 0 := by unfold lt; rw [cmp_lt]
theorem lt_irrefl (p : Pf) : ¬ lt p p := by unfold lt; omega
theorem lt_trans {p q r : Pf} (h : lt p q) (h2 : lt q r) : lt p r := by unfold lt at *; omega
theorem lt_ne {p q : Pf} (h : lt p q) : p ≠ q := by rintro rfl; exact lt_irrefl _ h
theorem lt_tri (p q : Pf) : lt p q ∨ p = q ∨ lt q p := by
  obtain ⟨a, n⟩ := p
  obtain ⟨b, m⟩ := q
  unfold lt
  simp only [Prod.mk.injEq]
  omega
instance (p q : Pf) : Decidable (lt p q) := by unfold lt; infer_instance
/-- q lies below p, on its way b. -/
structure Bel (p : Pf) (b : Int) (q : Pf) : Prop where
  ok : Ok q
  len : p.2 < q.2
  fs : fst q.1 p.2 = p.1
  bt : bit q.1 p.2 = b
theorem Bel.n31 {p : Pf} {b : Int} {q : Pf} (h : Bel p b q) : p.2 ≤ 31 := by have := h.ok.n1; have := h.len; omega
theorem Bel.lt {p : Pf} {b : Int} {q : Pf} (h : Bel p b q) : lt p q := by
  have := fst_le (a := q.1) (n := p.2)
  have := h.fs
  have := h.len
  unfold Tp.lt; omega
theorem Bel.wi {p : Pf} {b : Int} {q : Pf} (hp : Ok p) (h : Bel p b q) : wi p q = true := (wi_iff hp h.ok).2 ⟨Int.le_of_lt h.len, h.fs⟩
theorem Bel.sides {p : Pf} {x y : Pf} (hp : Ok p) (hx : Bel p 0 x) (hy : Bel p 1 y) : Tp.lt x y := by
  have := bit_lt hp.n0 hx.n31 (hx.fs.trans hy.fs.symm) hx.bt hy.bt
  exact .inl this
theorem Bel.of {p q : Pf} (hp : Ok p) (hq : Ok q) (hw : Tp.wi p q = true) (hne : p ≠ q) : Bel p (bit q.1 p.2) q := by
  obtain ⟨h1, h2⟩ := (wi_iff hp hq).1 hw
  refine ⟨hq, ?_, h2, rfl⟩
  rcases Int.lt_or_le p.2 q.2 with h | h
  · exact h
  · have e : p.2 = q.2 := by omega
    have : q.1 = p.1 := by rw [← hq.fs, ← e]; exact h2
    exact absurd (Prod.ext this.symm e) hne

/-- Do they share so many bits? -/
def shr (p q : Pf) (n : Int) : Prop := n ≤ p.2 ∧ n ≤ q.2 ∧ fst p.1 n = fst q.1 n
instance (p q : Pf) (n : Int) : Decidable (shr p q n) := by unfold shr; infer_instance
/-- The longest prefix that both are within, up to a length. -/
def comF (p q : Pf) : Nat → Pf
  | 0 => (0, 0)
  | k + 1 => if shr p q ((k + 1 : Nat) : Int) then (fst p.1 ((k + 1 : Nat) : Int), ((k + 1 : Nat) : Int)) else comF p q k
def com (p q : Pf) : Pf := comF p q 32
theorem comF_eq {p q : Pf} (hp : Ok p) (n : Nat) (h : shr p q n) : ∀ k, n ≤ k → (∀ m, n < m → m ≤ k → ¬ shr p q (m : Int)) → comF p q k = (fst p.1 n, (n : Int))
  | 0, hk, _ => by
    obtain rfl : n = 0 := by omega
    simp only [comF]
    rw [show ((0 : Nat) : Int) = 0 from rfl, fst_zero hp.a0 hp.a1]
  | k + 1, hk, hf => by
    unfold comF
    by_cases hn : n = k + 1
    · subst hn; rw [if_pos h]
    · rw [if_neg (hf (k + 1) (by omega) (Nat.le_refl _))]
      exact comF_eq hp n h k (by omega) (fun m h1 h2 => hf m h1 (by omega))
/-- Where they part is the longest prefix of both. -/
theorem com_eq {p q : Pf} (hp : Ok p) {n : Int} (h0 : 0 ≤ n) (h : shr p q n) (hn : p.2 = n ∨ q.2 = n ∨ bit p.1 n ≠ bit q.1 n) : com p q = (fst p.1 n, n) := by
  obtain ⟨N, rfl⟩ := Int.eq_ofNat_of_zero_le h0
  have h32 : N ≤ 32 := by have := hp.n1; have := h.1; omega
  refine comF_eq hp N h 32 h32 (fun m h1 h2 hs => ?_)
  obtain ⟨s1, s2, s3⟩ := hs
  rcases hn with hn | hn | hn
  · omega
  · omega
  · have e := fst_eq_less (n := (N : Int) + 1) (by omega) (by omega) (by omega) s3
    exact hn (bit_eq (by omega) (by omega) e h.2.2)
theorem comF_ok {p q : Pf} (hp : Ok p) (hq : Ok q) : ∀ k : Nat, k ≤ 32 → ∃ n : Nat, n ≤ k ∧ shr p q n ∧ (∀ m, n < m → m ≤ k → ¬ shr p q (m : Int)) ∧ comF p q k = (fst p.1 n, (n : Int))
  | 0, _ => ⟨0, Nat.le_refl _, ⟨hp.n0, hq.n0, by rw [show ((0 : Nat) : Int) = 0 from rfl, fst_zero hp.a0 hp.a1, fst_zero hq.a0 hq.a1]⟩, fun m h1 h2 => by omega, by
      simp only [comF]
      rw [show ((0 : Nat) : Int) = 0 from rfl, fst_zero hp.a0 hp.a1]⟩
  | k + 1, hk => by
    by_cases hs : shr p q ((k + 1 : Nat) : Int)
    · exact ⟨k + 1, Nat.le_refl _, hs, fun m h1 h2 => by omega, by unfold comF; rw [if_pos hs]⟩
    · obtain ⟨n, h1, h2, h3, h4⟩ := comF_ok hp hq k (by omega)
      refine ⟨n, by omega, h2, fun m h5 h6 => ?_, by unfold comF; rw [if_neg hs]; exact h4⟩
      rcases Nat.lt_or_ge k m with h7 | h7
      · obtain rfl : m = k + 1 := by omega
        exact hs
      · exact h3 m h5 h7
theorem fst_may {a n : Int} (h0 : 0 ≤ n) (h1 : n ≤ 32) : mayB (fst a n) n = true := by
  unfold mayB
  simp only [Bool.and_eq_true, decide_eq_true_eq]
  exact ⟨h0, h1, fst_fst h0 (Int.le_refl _) h1⟩
/-- What the longest prefix of two is, where neither is within the other. -/
theorem com_part {p q : Pf} (hp : Ok p) (hq : Ok q) (h1 : wi p q = false) (h2 : wi q p = false) :
    Ok (com p q) ∧ Bel (com p q) (bit p.1 (com p q).2) p ∧ Bel (com p q) (bit q.1 (com p q).2) q ∧ bit p.1 (com p q).2 ≠ bit q.1 (com p q).2 := by
  obtain ⟨n, hn, hs, hm, he⟩ := comF_ok hp hq 32 (Nat.le_refl _)
  have e : com p q = (fst p.1 n, (n : Int)) := he
  obtain ⟨s1, s2, s3⟩ := hs
  have hpn : (n : Int) < p.2 := by
    rcases Int.lt_or_le (n : Int) p.2 with h | h
    · exact h
    · have e2 : p.2 = (n : Int) := by omega
      have : wi p q = true := (wi_iff hp hq).2 ⟨by omega, by rw [e2, ← s3, ← e2]; exact hp.fs⟩
      rw [h1] at this; cases this
  have hqn : (n : Int) < q.2 := by
    rcases Int.lt_or_le (n : Int) q.2 with h | h
    · exact h
    · have e2 : q.2 = (n : Int) := by omega
      have : wi q p = true := (wi_iff hq hp).2 ⟨by omega, by rw [e2, s3, ← e2]; exact hq.fs⟩
      rw [h2] at this; cases this
  have hp1 := hp.n1
  have hq1 := hq.n1
  have hb : bit p.1 n ≠ bit q.1 n := by
    intro hb
    have hx := eq_bit (by omega) (by omega) hb s3
    exact hm (n + 1) (by omega) (by omega) ⟨by omega, by omega, by simpa using hx⟩
  have hok : Ok (com p q) := by
    rw [e]
    exact ⟨fst_nonneg hp.a0, by have := fst_le (a := p.1) (n := (n : Int)); have := hp.a1; simp only; omega, fst_may (by omega) (by omega)⟩
  rw [e] at hok ⊢
  exact ⟨hok, ⟨hp, hpn, rfl, rfl⟩, ⟨hq, hqn, s3.symm, rfl⟩, hb⟩
/-- The longest prefix of two that lie below p on one way lies there, too. -/
theorem com_bel {p : Pf} {b : Int} {x y : Pf} (hp : Ok p) (hx : Bel p b x) (hy : Bel p b y) : Bel p b (com x y) := by
  obtain ⟨n, hn, hs, hm, he⟩ := comF_ok hx.ok hy.ok 32 (Nat.le_refl _)
  have e : com x y = (fst x.1 n, (n : Int)) := he
  have h31 := hx.n31
  have h0 := hp.n0
  have hlen : p.2 < (n : Int) := by
    rcases Int.lt_or_le p.2 (n : Int) with h | h
    · exact h
    · obtain ⟨P, hP⟩ := Int.eq_ofNat_of_zero_le h0
      have h1 := hx.len
      have h2 := hy.len
      have hx2 := eq_bit h0 h31 (hx.bt.trans hy.bt.symm) (hx.fs.trans hy.fs.symm)
      exact absurd ⟨by rw [hP] at h1; omega, by rw [hP] at h2; omega, by rw [hP] at hx2; simpa using hx2⟩ (hm (P + 1) (by omega) (by rw [hP] at h31; omega))
  have hx1 := hx.ok.n1
  have hle := hs.1
  rw [e]
  refine ⟨⟨fst_nonneg hx.ok.a0, by have := fst_le (a := x.1) (n := (n : Int)); have := hx.ok.a1; simp only; omega, fst_may (by omega) (by omega)⟩, hlen, ?_, ?_⟩
  · simp only
    rw [fst_fst h0 (Int.le_of_lt hlen) (by omega)]; exact hx.fs
  · simp only
    have e1 := fst_fst (c := x.1) (n := p.2 + 1) (m := (n : Int)) (by omega) (by omega) (by omega)
    have e2 := fst_fst (c := x.1) (n := p.2) (m := (n : Int)) (by omega) (by omega) (by omega)
    rw [bit_eq h0 h31 e1 e2]; exact hx.bt
/-- Of two on p's two ways, the longest prefix is p. -/
theorem com_sides {p : Pf} {x y : Pf} (hp : Ok p) (hx : Bel p 0 x) (hy : Bel p 1 y) : com x y = p := by
  have := com_eq hx.ok (n := p.2) hp.n0 ⟨Int.le_of_lt hx.len, Int.le_of_lt hy.len, hx.fs.trans hy.fs.symm⟩ (.inr (.inr (by rw [hx.bt, hy.bt]; decide)))
  rw [this, hx.fs]
theorem com_up {p : Pf} {b : Int} {y : Pf} (hp : Ok p) (hy : Bel p b y) : com p y = p := by
  have := com_eq hp (q := y) (n := p.2) hp.n0 ⟨Int.le_refl _, Int.le_of_lt hy.len, by rw [hp.fs]; exact hy.fs.symm⟩ (.inl rfl)
  rw [this, hp.fs]
end Tp
end Go.Proofs.Ytdjhgahdiggahaa

namespace Go.Proofs.Ytdjhgahdiggahaa
namespace Tp
open Wp

abbrev En := Pf × Int
inductive Tr where
  | nil : Tr
  | node : Pf → Option Int → Tr → Tr → Tr
/-- Its nodes' prefixes. -/
def Tr.pl : Tr → List Pf
  | .nil => []
  | .node p _ l r => p :: (l.pl ++ r.pl)
def one (p : Pf) : Option Int → List En
  | some v => [(p, v)]
  | none => []
/-- Its entries, in their order. -/
def Tr.el : Tr → List En
  | .nil => []
  | .node p v l r => one p v ++ (l.el ++ r.el)
def Tr.size : Tr → Nat
  | .nil => 0
  | .node _ _ l r => 1 + l.size + r.size
theorem Tr.pl_length : ∀ T : Tr, T.pl.length = T.size
  | .nil => rfl
  | .node p v l r => by simp only [Tr.pl, Tr.size, List.length_cons, List.length_append, pl_length l, pl_length r]; omega
/-- Its form is right. -/
def Tr.Inv : Tr → Prop
  | .nil => True
  | .node p v l r => Ok p ∧ (∀ q ∈ l.pl, Bel p 0 q) ∧ (∀ q ∈ r.pl, Bel p 1 q) ∧ (v = none → l ≠ .nil ∧ r ≠ .nil) ∧ l.Inv ∧ r.Inv
theorem Tr.el_pl : ∀ (T : Tr) (x : En), x ∈ T.el → x.1 ∈ T.pl
  | .node p v l r, x, h => by
    simp only [Tr.el, List.mem_append] at h
    simp only [Tr.pl, List.mem_cons, List.mem_append]
    rcases h with h | h | h
    · cases v with
      | none => simp [one] at h
      | some v => simp [one] at h; subst h; exact .inl rfl
    · exact .inr (.inl (el_pl l x h))
    · exact .inr (.inr (el_pl r x h))
theorem Tr.Inv.ok : ∀ {T : Tr}, T.Inv → ∀ q ∈ T.pl, Ok q
  | .node p v l r, h, q, hq => by
    obtain ⟨h1, h2, h3, _, h5, h6⟩ := h
    simp only [Tr.pl, List.mem_cons, List.mem_append] at hq
    rcases hq with rfl | hq | hq
    · exact h1
    · exact (h2 q hq).ok
    · exact (h3 q hq).ok
theorem Tr.Inv.some : ∀ {T : Tr}, T.Inv → T ≠ .nil → T.el ≠ []
  | .node p v l r, h, _ => by
    obtain ⟨h1, h2, h3, h4, h5, h6⟩ := h
    cases v with
    | some v => simp [Tr.el, one]
    | none =>
      have := Tr.Inv.some h5 (h4 rfl).1
      simp only [Tr.el, one, List.nil_append]
      intro h
      exact this (List.append_eq_nil_iff.1 h).1
/-- No more nodes than twice the entries, less one. -/
theorem Tr.Inv.few : ∀ {T : Tr}, T.Inv → T.size ≤ 2 * T.el.length - 1 ∧ (T ≠ .nil → 1 ≤ T.el.length)
  | .nil, _ => ⟨by simp [Tr.size], fun h => absurd rfl h⟩
  | .node p v l r, h => by
    obtain ⟨h1, h2, h3, h4, h5, h6⟩ := h
    obtain ⟨a1, a2⟩ := Tr.Inv.few h5
    obtain ⟨b1, b2⟩ := Tr.Inv.few h6
    simp only [Tr.size, Tr.el, List.length_append]
    have zl : l = .nil → l.size = 0 := by rintro rfl; rfl
    have zr : r = .nil → r.size = 0 := by rintro rfl; rfl
    cases v with
    | some v =>
      simp only [one, List.length_cons, List.length_nil]
      refine ⟨?_, fun _ => by omega⟩
      by_cases hl : l = .nil
      · by_cases hr : r = .nil
        · have := zl hl; have := zr hr; omega
        · have := zl hl; have := b2 hr; omega
      · by_cases hr : r = .nil
        · have := zr hr; have := a2 hl; omega
        · have := a2 hl; have := b2 hr; omega
    | none =>
      have := a2 (h4 rfl).1
      have := b2 (h4 rfl).2
      simp only [one, List.length_nil]
      omega
/-- Rising. -/
def Up (L : List En) : Prop := L.Pairwise fun x y => lt x.1 y.1
theorem Tr.Inv.up : ∀ {T : Tr}, T.Inv → Up T.el
  | .nil, _ => List.Pairwise.nil
  | .node p v l r, h => by
    obtain ⟨h1, h2, h3, h4, h5, h6⟩ := h
    have hlr : Up (l.el ++ r.el) := List.pairwise_append.2 ⟨Tr.Inv.up h5, Tr.Inv.up h6, fun x hx y hy => Bel.sides h1 (h2 _ (l.el_pl x hx)) (h3 _ (r.el_pl y hy))⟩
    cases v with
    | none => exact hlr
    | some v =>
      show Up ((p, v) :: (l.el ++ r.el))
      refine List.Pairwise.cons (fun y hy => ?_) hlr
      rcases List.mem_append.1 hy with hy | hy
      · exact (h2 _ (l.el_pl y hy)).lt
      · exact (h3 _ (r.el_pl y hy)).lt

/-- Put into a rising list. -/
def insE : List En → Pf → Int → List En
  | [], p, v => [(p, v)]
  | (q, w) :: L, p, v => if q = p then (p, v) :: L else if lt q p then (q, w) :: insE L p v else (p, v) :: (q, w) :: L
theorem insE_left : ∀ (A B : List En) (p : Pf) (v : Int), (∀ x ∈ A, lt x.1 p) → insE (A ++ B) p v = A ++ insE B p v
  | [], _, _, _, _ => rfl
  | (q, w) :: A, B, p, v, h => by
    have hq := h (q, w) (List.mem_cons_self ..)
    rw [List.cons_append, insE, if_neg (lt_ne hq), if_pos hq, insE_left A B p v (fun x hx => h x (List.mem_cons_of_mem _ hx)), List.cons_append]
theorem insE_head {B : List En} {p : Pf} {v : Int} (h : ∀ x ∈ B, lt p x.1) : insE B p v = (p, v) :: B := by
  cases B with
  | nil => rfl
  | cons x B =>
    obtain ⟨q, w⟩ := x
    have hq := h (q, w) (List.mem_cons_self ..)
    unfold insE
    rw [if_neg (fun e => lt_ne hq e.symm), if_neg (fun h2 => lt_irrefl _ (lt_trans hq h2))]
theorem insE_right : ∀ (A B : List En) (p : Pf) (v : Int), (∀ x ∈ B, lt p x.1) → insE (A ++ B) p v = insE A p v ++ B
  | [], B, p, v, h => insE_head h
  | (q, w) :: A, B, p, v, h => by
    rw [List.cons_append]
    unfold insE
    by_cases h1 : q = p
    · rw [if_pos h1, if_pos h1]; rfl
    · rw [if_neg h1, if_neg h1]
      by_cases h2 : lt q p
      · rw [if_pos h2, if_pos h2, insE_right A B p v h]; rfl
      · rw [if_neg h2, if_neg h2]; rfl
def delE (L : List En) (p : Pf) : List En := L.filter fun x => decide (x.1 ≠ p)
def getE' (L : List En) (p : Pf) : Option Int := (L.find? fun x => decide (x.1 = p)).map Prod.snd

/-- Put in. -/
def ins (p : Pf) (v : Int) : Tr → Tr
  | .nil => .node p (some v) .nil .nil
  | .node q w l r =>
    if q = p then .node q (some v) l r
    else if wi q p = true then (if bit p.1 q.2 = 0 then .node q w (ins p v l) r else .node q w l (ins p v r))
    else if wi p q = true then (if bit q.1 p.2 = 0 then .node p (some v) (.node q w l r) .nil else .node p (some v) .nil (.node q w l r))
    else (if bit p.1 (com p q).2 = 0 then .node (com p q) none (.node p (some v) .nil .nil) (.node q w l r) else .node (com p q) none (.node q w l r) (.node p (some v) .nil .nil))
theorem ins_pl (p : Pf) (v : Int) : ∀ T : Tr, ∀ x ∈ (ins p v T).pl, x = p ∨ x ∈ T.pl ∨ ∃ y ∈ T.pl, x = com p y
  | .nil, x, hx => by simp [ins, Tr.pl] at hx; exact .inl hx
  | .node q w l r, x, hx => by
    unfold ins at hx
    by_cases h1 : q = p
    · rw [if_pos h1] at hx
      exact .inr (.inl hx)
    · rw [if_neg h1] at hx
      by_cases h2 : wi q p = true
      · rw [if_pos h2] at hx
        by_cases h3 : bit p.1 q.2 = 0
        · rw [if_pos h3] at hx
          simp only [Tr.pl, List.mem_cons, List.mem_append] at hx ⊢
          rcases hx with hx | hx | hx
          · exact .inr (.inl (.inl hx))
          · rcases ins_pl p v l x hx with h | h | ⟨y, hy, h⟩
            · exact .inl h
            · exact .inr (.inl (.inr (.inl h)))
            · exact .inr (.inr ⟨y, .inr (.inl hy), h⟩)
          · exact .inr (.inl (.inr (.inr hx)))
        · rw [if_neg h3] at hx
          simp only [Tr.pl, List.mem_cons, List.mem_append] at hx ⊢
          rcases hx with hx | hx | hx
          · exact .inr (.inl (.inl hx))
          · exact .inr (.inl (.inr (.inl hx)))
          · rcases ins_pl p v r x hx with h | h | ⟨y, hy, h⟩
            · exact .inl h
            · exact .inr (.inl (.inr (.inr h)))
            · exact .inr (.inr ⟨y, .inr (.inr hy), h⟩)
      · rw [if_neg h2] at hx
        by_cases h3 : wi p q = true
        · rw [if_pos h3] at hx
          split at hx <;> simp [Tr.pl] at hx ⊢ <;> rcases hx with hx | hx <;> simp [hx]
        · rw [if_neg h3] at hx
          split at hx <;> simp only [Tr.pl, List.mem_cons, List.mem_append, List.not_mem_nil, or_false, false_or, List.append_nil, List.nil_append] at hx ⊢
          · rcases hx with rfl | rfl | hx
            · exact .inr (.inr ⟨q, .inl rfl, rfl⟩)
            · exact .inl rfl
            · exact .inr (.inl hx)
          · rcases hx with rfl | hx | rfl
            · exact .inr (.inr ⟨q, .inl rfl, rfl⟩)
            · exact .inr (.inl hx)
            · exact .inl rfl
theorem ins_ne (p : Pf) (v : Int) (T : Tr) : ins p v T ≠ .nil := by
  cases T with
  | nil => simp [ins]
  | node q w l r =>
    unfold ins
    repeat' split
    all_goals simp
theorem Bel.down {p q x : Pf} {b : Int} (hp : Ok p) (hq : Bel p b q) {c : Int} (hx : Bel q c x) : Bel p b x := by
  have h0 := hp.n0
  have h1 := hq.len
  have h2 := hx.len
  have h3 := hq.ok.n1
  have e : fst x.1 q.2 = fst q.1 q.2 := by rw [hq.ok.fs]; exact hx.fs
  have e0 := fst_eq_less h0 (Int.le_of_lt h1) h3 e
  have e1 := fst_eq_less (n := p.2 + 1) (by omega) (by omega) h3 e
  exact ⟨hx.ok, by omega, e0.trans hq.fs, (bit_eq h0 hq.n31 e1 e0).trans hq.bt⟩
theorem ins_inv {p : Pf} (hp : Ok p) (v : Int) : ∀ T : Tr, T.Inv → (ins p v T).Inv
  | .nil, _ => ⟨hp, fun q h => by simp [Tr.pl] at h, fun q h => by simp [Tr.pl] at h, (fun h => by cases h), trivial, trivial⟩
  | .node q w l r, h => by
    have hh := h
    obtain ⟨h1, h2, h3, h4, h5, h6⟩ := h
    unfold ins
    by_cases e1 : q = p
    · rw [if_pos e1]
      exact ⟨h1, h2, h3, (fun h => by cases h), h5, h6⟩
    · rw [if_neg e1]
      by_cases e2 : wi q p = true
      · rw [if_pos e2]
        have hb := Bel.of h1 hp e2 e1
        by_cases e3 : bit p.1 q.2 = 0
        · rw [if_pos e3]
          rw [e3] at hb
          refine ⟨h1, fun x hx => ?_, h3, fun h => ⟨ins_ne _ _ _, (h4 h).2⟩, ins_inv hp v l h5, h6⟩
          rcases ins_pl p v l x hx with h | h | ⟨y, hy, h⟩
          · rw [h]; exact hb
          · exact h2 x h
          · rw [h]; exact com_bel h1 hb (h2 y hy)
        · rw [if_neg e3]
          have e4 : bit p.1 q.2 = 1 := by rcases bit_or p.1 q.2 with h | h; exact absurd h e3; exact h
          rw [e4] at hb
          refine ⟨h1, h2, fun x hx => ?_, fun h => ⟨(h4 h).1, ins_ne _ _ _⟩, h5, ins_inv hp v r h6⟩
          rcases ins_pl p v r x hx with h | h | ⟨y, hy, h⟩
          · rw [h]; exact hb
          · exact h3 x h
          · rw [h]; exact com_bel h1 hb (h3 y hy)
      · rw [if_neg e2]
        have nil_pl : ∀ (P : Pf → Prop), ∀ x ∈ Tr.pl .nil, P x := fun P x hx => by simp [Tr.pl] at hx
        by_cases e3 : wi p q = true
        · rw [if_pos e3]
          have hb := Bel.of hp h1 e3 (fun h => e1 h.symm)
          have all : ∀ x ∈ (Tr.node q w l r).pl, Bel p (bit q.1 p.2) x := by
            intro x hx
            simp only [Tr.pl, List.mem_cons, List.mem_append] at hx
            rcases hx with rfl | hx | hx
            · exact hb
            · exact Bel.down hp hb (h2 x hx)
            · exact Bel.down hp hb (h3 x hx)
          by_cases e4 : bit q.1 p.2 = 0
          · rw [if_pos e4]
            rw [e4] at all
            exact ⟨hp, all, nil_pl _, (fun h => by cases h), hh, trivial⟩
          · rw [if_neg e4]
            have e5 : bit q.1 p.2 = 1 := by rcases bit_or q.1 p.2 with h | h; exact absurd h e4; exact h
            rw [e5] at all
            exact ⟨hp, nil_pl _, all, (fun h => by cases h), trivial, hh⟩
        · rw [if_neg e3]
          obtain ⟨c1, c2, c3, c4⟩ := com_part hp h1 (by simpa using e3) (by simpa using e2)
          have all : ∀ x ∈ (Tr.node q w l r).pl, Bel (com p q) (bit q.1 (com p q).2) x := by
            intro x hx
            simp only [Tr.pl, List.mem_cons, List.mem_append] at hx
            rcases hx with rfl | hx | hx
            · exact c3
            · exact Bel.down c1 c3 (h2 x hx)
            · exact Bel.down c1 c3 (h3 x hx)
          have leaf : ∀ x ∈ (Tr.node p (some v) .nil .nil).pl, Bel (com p q) (bit p.1 (com p q).2) x := by
            intro x hx
            simp [Tr.pl] at hx
            subst hx; exact c2
          have li : (Tr.node p (some v) .nil .nil).Inv := ⟨hp, nil_pl _, nil_pl _, (fun h => by cases h), trivial, trivial⟩
          by_cases e4 : bit p.1 (com p q).2 = 0
          · rw [if_pos e4]
            have e5 : bit q.1 (com p q).2 = 1 := by
              rcases bit_or q.1 (com p q).2 with h | h
              · rw [e4, h] at c4; exact absurd rfl c4
              · exact h
            rw [e4] at leaf
            rw [e5] at all
            exact ⟨c1, leaf, all, fun _ => ⟨by simp, by simp⟩, li, hh⟩
          · rw [if_neg e4]
            have e6 : bit p.1 (com p q).2 = 1 := by rcases bit_or p.1 (com p q).2 with h | h; exact absurd h e4; exact h
            have e5 : bit q.1 (com p q).2 = 0 := by
              rcases bit_or q.1 (com p q).2 with h | h
              · exact h
              · rw [e6, h] at c4; exact absurd rfl c4
            rw [e6] at leaf
            rw [e5] at all
            exact ⟨c1, all, leaf, fun _ => ⟨by simp, by simp⟩, hh, li⟩
theorem ins_el {p : Pf} (hp : Ok p) (v : Int) : ∀ T : Tr, T.Inv → (ins p v T).el = insE T.el p v
  | .nil, _ => rfl
  | .node q w l r, h => by
    have hh := h
    obtain ⟨h1, h2, h3, h4, h5, h6⟩ := h
    have l1 : ∀ x ∈ l.el, Bel q 0 x.1 := fun x hx => h2 _ (l.el_pl x hx)
    have r1 : ∀ x ∈ r.el, Bel q 1 x.1 := fun x hx => h3 _ (r.el_pl x hx)
    have o1 : ∀ x ∈ one q w, x.1 = q := by
      intro x hx
      cases w with
      | none => simp [one] at hx
      | some w => simp [one] at hx; rw [hx]
    have up : ∀ x ∈ l.el ++ r.el, lt q x.1 := by
      intro x hx
      rcases List.mem_append.1 hx with hx | hx
      · exact (l1 x hx).lt
      · exact (r1 x hx).lt
    unfold ins
    by_cases e1 : q = p
    · rw [if_pos e1]
      subst e1
      simp only [Tr.el, one]
      cases w with
      | none =>
        simp only [List.nil_append]
        rw [insE_head up]; rfl
      | some w =>
        simp only [List.cons_append, List.nil_append]
        unfold insE
        rw [if_pos rfl]
    · rw [if_neg e1]
      by_cases e2 : wi q p = true
      · rw [if_pos e2]
        have hb := Bel.of h1 hp e2 e1
        have oq : ∀ x ∈ one q w, lt x.1 p := fun x hx => by rw [o1 x hx]; exact hb.lt
        by_cases e3 : bit p.1 q.2 = 0
        · rw [if_pos e3]
          rw [e3] at hb
          simp only [Tr.el]
          rw [ins_el hp v l h5, insE_left _ _ p v oq, insE_right _ _ p v (fun x hx => Bel.sides h1 hb (r1 x hx))]
        · rw [if_neg e3]
          have e4 : bit p.1 q.2 = 1 := by rcases bit_or p.1 q.2 with h | h; exact absurd h e3; exact h
          rw [e4] at hb
          simp only [Tr.el]
          rw [ins_el hp v r h6, insE_left _ _ p v oq, insE_left _ _ p v (fun x hx => Bel.sides h1 (l1 x hx) hb)]
      · rw [if_neg e2]
        by_cases e3 : wi p q = true
        · rw [if_pos e3]
          have hb := Bel.of hp h1 e3 (fun h => e1 h.symm)
          have all : ∀ x ∈ (Tr.node q w l r).el, lt p x.1 := by
            intro x hx
            have := (Tr.node q w l r).el_pl x hx
            simp only [Tr.pl, List.mem_cons, List.mem_append] at this
            rcases this with e | e | e
            · rw [e]; exact hb.lt
            · exact (Bel.down hp hb (h2 _ e)).lt
            · exact (Bel.down hp hb (h3 _ e)).lt
          rw [insE_head all]
          split
          · simp [Tr.el, one]
          · simp [Tr.el, one]
        · rw [if_neg e3]
          obtain ⟨c1, c2, c3, c4⟩ := com_part hp h1 (by simpa using e3) (by simpa using e2)
          have all : ∀ x ∈ (Tr.node q w l r).el, Bel (com p q) (bit q.1 (com p q).2) x.1 := by
            intro x hx
            have := (Tr.node q w l r).el_pl x hx
            simp only [Tr.pl, List.mem_cons, List.mem_append] at this
            rcases this with e | e | e
            · rw [e]; exact c3
            · exact Bel.down c1 c3 (h2 _ e)
            · exact Bel.down c1 c3 (h3 _ e)
          by_cases e4 : bit p.1 (com p q).2 = 0
          · rw [if_pos e4]
            have e5 : bit q.1 (com p q).2 = 1 := by
              rcases bit_or q.1 (com p q).2 with h | h
              · rw [e4, h] at c4; exact absurd rfl c4
              · exact h
            rw [e4] at c2
            rw [e5] at all
            rw [insE_head (fun x hx => Bel.sides c1 c2 (all x hx))]
            simp [Tr.el, one]
          · rw [if_neg e4]
            have e6 : bit p.1 (com p q).2 = 1 := by rcases bit_or p.1 (com p q).2 with h | h; exact absurd h e4; exact h
            have e5 : bit q.1 (com p q).2 = 0 := by
              rcases bit_or q.1 (com p q).2 with h | h
              · exact h
              · rw [e6, h] at c4; exact absurd rfl c4
            rw [e6] at c2
            rw [e5] at all
            have := insE_left (Tr.node q w l r).el [] p v (fun x hx => Bel.sides c1 (all x hx) c2)
            rw [List.append_nil] at this
            rw [this]
            simp [Tr.el, one, insE]
end Tp
end Go.Proofs.Ytdjhgahdiggahaa

namespace Go.Proofs.Ytdjhgahdiggahaa
namespace Tp
open Wp

/-- A node, if something needs it. -/
def mk (q : Pf) : Option Int → Tr → Tr → Tr
  | none, .nil, r => r
  | none, l, .nil => l
  | w, l, r => .node q w l r
theorem mk_pl (q : Pf) (w : Option Int) (l r : Tr) : ∀ x ∈ (mk q w l r).pl, x = q ∨ x ∈ l.pl ∨ x ∈ r.pl := by
  intro x hx
  unfold mk at hx
  split at hx
  · exact .inr (.inr hx)
  · exact .inr (.inl hx)
  · simpa [Tr.pl] using hx
theorem mk_el (q : Pf) (w : Option Int) (l r : Tr) : (mk q w l r).el = one q w ++ (l.el ++ r.el) := by
  unfold mk
  split
  · simp [Tr.el, one]
  · simp [Tr.el, one]
  · rfl
theorem mk_inv {q : Pf} {w : Option Int} {l r : Tr} (h1 : Ok q) (h2 : ∀ x ∈ l.pl, Bel q 0 x) (h3 : ∀ x ∈ r.pl, Bel q 1 x) (h5 : l.Inv) (h6 : r.Inv) : (mk q w l r).Inv := by
  unfold mk
  split
  · exact h6
  · exact h5
  · rename_i n1 n2
    refine ⟨h1, h2, h3, fun h => ?_, h5, h6⟩
    subst h
    exact ⟨fun e => n1 rfl e, fun e => n2 rfl e⟩
/-- Taken out. -/
def del (p : Pf) : Tr → Tr
  | .nil => .nil
  | .node q w l r =>
    if q = p then mk q none l r
    else if wi q p = true then (if bit p.1 q.2 = 0 then mk q w (del p l) r else mk q w l (del p r))
    else .node q w l r
theorem del_pl (p : Pf) : ∀ T : Tr, ∀ x ∈ (del p T).pl, x ∈ T.pl
  | .nil, x, hx => hx
  | .node q w l r, x, hx => by
    unfold del at hx
    simp only [Tr.pl, List.mem_cons, List.mem_append]
    split at hx
    · exact mk_pl _ _ _ _ x hx
    · split at hx
      · split at hx
        · rcases mk_pl _ _ _ _ x hx with h | h | h
          · exact .inl h
          · exact .inr (.inl (del_pl p l x h))
          · exact .inr (.inr h)
        · rcases mk_pl _ _ _ _ x hx with h | h | h
          · exact .inl h
          · exact .inr (.inl h)
          · exact .inr (.inr (del_pl p r x h))
      · simpa [Tr.pl] using hx
theorem del_inv (p : Pf) : ∀ T : Tr, T.Inv → (del p T).Inv
  | .nil, _ => trivial
  | .node q w l r, h => by
    have hh := h
    obtain ⟨h1, h2, h3, h4, h5, h6⟩ := h
    unfold del
    split
    · exact mk_inv h1 h2 h3 h5 h6
    · split
      · split
        · exact mk_inv h1 (fun x hx => h2 x (del_pl p l x hx)) h3 (del_inv p l h5) h6
        · exact mk_inv h1 h2 (fun x hx => h3 x (del_pl p r x hx)) h5 (del_inv p r h6)
      · exact hh
theorem delE_app (A B : List En) (p : Pf) : delE (A ++ B) p = delE A p ++ delE B p := List.filter_append ..
theorem delE_no {A : List En} {p : Pf} (h : ∀ x ∈ A, x.1 ≠ p) : delE A p = A := List.filter_eq_self.2 fun x hx => decide_eq_true (h x hx)
theorem one_key {q : Pf} {w : Option Int} : ∀ x ∈ one q w, x.1 = q := by
  intro x hx
  cases w with
  | none => simp [one] at hx
  | some w => simp [one] at hx; rw [hx]
/-- Where all is that lies below a node on its ways. -/
theorem wi_trans {p q : Pf} {b : Int} {x : Pf} (hp : Ok p) (hq : Ok q) (hx : Bel q b x) (h : wi p q = true) : wi p x = true := by
  obtain ⟨h1, h2⟩ := (wi_iff hp hq).1 h
  refine (wi_iff hp hx.ok).2 ⟨by have := hx.len; omega, ?_⟩
  have e := hx.fs
  have e2 : fst x.1 q.2 = fst q.1 q.2 := by rw [hq.fs]; exact e
  exact (fst_eq_less hp.n0 h1 hq.n1 e2).trans h2
theorem del_el {p : Pf} (hp : Ok p) : ∀ T : Tr, T.Inv → (del p T).el = delE T.el p
  | .nil, _ => rfl
  | .node q w l r, h => by
    obtain ⟨h1, h2, h3, h4, h5, h6⟩ := h
    have l1 : ∀ x ∈ l.el, Bel q 0 x.1 := fun x hx => h2 _ (l.el_pl x hx)
    have r1 : ∀ x ∈ r.el, Bel q 1 x.1 := fun x hx => h3 _ (r.el_pl x hx)
    unfold del
    by_cases e1 : q = p
    · rw [if_pos e1, mk_el]
      subst e1
      simp only [Tr.el]
      rw [delE_app, delE_app, delE_no (fun x hx => (lt_ne (l1 x hx).lt).symm), delE_no (fun x hx => (lt_ne (r1 x hx).lt).symm)]
      congr 1
      cases w with
      | none => rfl
      | some w => simp [one, delE]
    · rw [if_neg e1]
      have oq : delE (one q w) p = one q w := delE_no (fun x hx => by rw [one_key x hx]; exact e1)
      by_cases e2 : wi q p = true
      · rw [if_pos e2]
        have hb := Bel.of h1 hp e2 e1
        by_cases e3 : bit p.1 q.2 = 0
        · rw [if_pos e3, mk_el]
          rw [e3] at hb
          simp only [Tr.el]
          rw [del_el hp l h5, delE_app, delE_app, oq, delE_no (fun x hx => (lt_ne (Bel.sides h1 hb (r1 x hx))).symm)]
        · rw [if_neg e3, mk_el]
          have e4 : bit p.1 q.2 = 1 := by rcases bit_or p.1 q.2 with h | h; exact absurd h e3; exact h
          rw [e4] at hb
          simp only [Tr.el]
          rw [del_el hp r h6, delE_app, delE_app, oq, delE_no (fun x hx => lt_ne (Bel.sides h1 (l1 x hx) hb))]
      · rw [if_neg e2]
        refine (delE_no (fun x hx e => ?_)).symm
        have hx2 := (Tr.node q w l r).el_pl x hx
        simp only [Tr.pl, List.mem_cons, List.mem_append] at hx2
        rw [e] at hx2
        rcases hx2 with h | h | h
        · exact e1 h.symm
        · exact e2 ((h2 _ h).wi h1)
        · exact e2 ((h3 _ h).wi h1)
/-- Looked up. -/
def find (p : Pf) : Tr → Option Int
  | .nil => none
  | .node q w l r => if q = p then w else if wi q p = true then (if bit p.1 q.2 = 0 then find p l else find p r) else none
def look (L : List En) (p : Pf) : Option Int := (L.find? fun x => decide (x.1 = p)).map Prod.snd
theorem look_app (A B : List En) (p : Pf) : look (A ++ B) p = (look A p).or (look B p) := by
  unfold look
  rw [List.find?_append]
  cases (A.find? fun x => decide (x.1 = p)) <;> simp
theorem look_no {A : List En} {p : Pf} (h : ∀ x ∈ A, x.1 ≠ p) : look A p = none := by
  unfold look
  rw [List.find?_eq_none.2 (fun x hx => by simpa using h x hx)]; rfl
theorem look_one (q : Pf) (w : Option Int) : look (one q w) q = w := by
  cases w <;> simp [look, one]
theorem find_el {p : Pf} (hp : Ok p) : ∀ T : Tr, T.Inv → find p T = look T.el p
  | .nil, _ => rfl
  | .node q w l r, h => by
    obtain ⟨h1, h2, h3, h4, h5, h6⟩ := h
    have l1 : ∀ x ∈ l.el, Bel q 0 x.1 := fun x hx => h2 _ (l.el_pl x hx)
    have r1 : ∀ x ∈ r.el, Bel q 1 x.1 := fun x hx => h3 _ (r.el_pl x hx)
    unfold find
    simp only [Tr.el]
    rw [look_app, look_app]
    by_cases e1 : q = p
    · rw [if_pos e1]
      subst e1
      rw [look_one, look_no (fun x hx => (lt_ne (l1 x hx).lt).symm), look_no (fun x hx => (lt_ne (r1 x hx).lt).symm)]
      simp
    · rw [if_neg e1, look_no (A := one q w) (fun x hx => by rw [one_key x hx]; exact e1), Option.none_or]
      by_cases e2 : wi q p = true
      · rw [if_pos e2]
        have hb := Bel.of h1 hp e2 e1
        by_cases e3 : bit p.1 q.2 = 0
        · rw [if_pos e3]
          rw [e3] at hb
          rw [find_el hp l h5, look_no (A := r.el) (fun x hx => (lt_ne (Bel.sides h1 hb (r1 x hx))).symm), Option.or_none]
        · rw [if_neg e3]
          have e4 : bit p.1 q.2 = 1 := by rcases bit_or p.1 q.2 with h | h; exact absurd h e3; exact h
          rw [e4] at hb
          rw [find_el hp r h6, look_no (A := l.el) (fun x hx => lt_ne (Bel.sides h1 (l1 x hx) hb)), Option.none_or]
      · rw [if_neg e2, look_no (A := l.el) (fun x hx e => e2 (by rw [← e]; exact (l1 x hx).wi h1)), look_no (A := r.el) (fun x hx e => e2 (by rw [← e]; exact (r1 x hx).wi h1))]
        rfl

/-- Those that have an address, on the way down. -/
def cov (a : Int) : Tr → List En
  | .nil => []
  | .node q w l r => if fst a q.2 = q.1 then one q w ++ (if bit a q.2 = 0 then cov a l else cov a r) else []
def hasE (a : Int) (x : En) : Bool := decide (fst a x.1.2 = x.1.1)
theorem has_bel {q x : Pf} {b a : Int} (hq : Ok q) (hx : Bel q b x) (h : fst a x.2 = x.1) : fst a q.2 = q.1 ∧ bit a q.2 = b := by
  have h0 := hq.n0
  have h1 := hx.len
  have h2 := hx.ok.n1
  have e : fst a x.2 = fst x.1 x.2 := by rw [hx.ok.fs]; exact h
  have e0 := fst_eq_less h0 (Int.le_of_lt h1) h2 e
  have e1 := fst_eq_less (n := q.2 + 1) (by omega) (by omega) h2 e
  exact ⟨e0.trans hx.fs, (bit_eq h0 hx.n31 e1 e0).trans hx.bt⟩
theorem cov_el (a : Int) : ∀ T : Tr, T.Inv → cov a T = T.el.filter (hasE a)
  | .nil, _ => rfl
  | .node q w l r, h => by
    obtain ⟨h1, h2, h3, h4, h5, h6⟩ := h
    have l1 : ∀ x ∈ l.el, Bel q 0 x.1 := fun x hx => h2 _ (l.el_pl x hx)
    have r1 : ∀ x ∈ r.el, Bel q 1 x.1 := fun x hx => h3 _ (r.el_pl x hx)
    have no : ∀ (A : List En) (b : Int), (∀ x ∈ A, Bel q b x.1) → (fst a q.2 ≠ q.1 ∨ bit a q.2 ≠ b) → A.filter (hasE a) = [] := by
      intro A b hA hn
      refine List.filter_eq_nil_iff.2 fun x hx hh => ?_
      obtain ⟨g1, g2⟩ := has_bel h1 (hA x hx) (of_decide_eq_true hh)
      rcases hn with hn | hn
      · exact hn g1
      · exact hn g2
    unfold cov
    simp only [Tr.el]
    rw [List.filter_append, List.filter_append]
    by_cases e1 : fst a q.2 = q.1
    · rw [if_pos e1]
      have o1 : (one q w).filter (hasE a) = one q w := List.filter_eq_self.2 fun x hx => by
        unfold hasE; rw [one_key x hx]; exact decide_eq_true e1
      rw [o1]
      by_cases e2 : bit a q.2 = 0
      · rw [if_pos e2, cov_el a l h5, no r.el 1 r1 (.inr (by rw [e2]; decide)), List.append_nil]
      · have e3 : bit a q.2 = 1 := by rcases bit_or a q.2 with h | h; exact absurd h e2; exact h
        rw [if_neg e2, cov_el a r h6, no l.el 0 l1 (.inr (by rw [e3]; decide)), List.nil_append]
    · rw [if_neg e1, no l.el 0 l1 (.inl e1), no r.el 1 r1 (.inl e1)]
      have o1 : (one q w).filter (hasE a) = [] := List.filter_eq_nil_iff.2 fun x hx hh => by
        unfold hasE at hh; rw [one_key x hx] at hh; exact e1 (of_decide_eq_true hh)
      rw [o1]; rfl
end Tp
end Go.Proofs.Ytdjhgahdiggahaa

namespace Go.Proofs.Ytdjhgahdiggahaa
namespace Tp
open Wp

/-- What each entry but the first one marks, and where it parts from the one ahead. -/
def mks : En → List En → List Pf
  | _, [] => []
  | x, y :: L => y.1 :: com x.1 y.1 :: mks y L
def marks : List En → List Pf
  | [] => []
  | x :: L => x.1 :: mks x L
theorem mks_app : ∀ (A : List En) (x : En) (y : En) (B : List En) (q : Pf), q ∈ mks x (A ++ y :: B) ↔ q ∈ mks x A ∨ q = com ((A.getLast?).getD x).1 y.1 ∨ q ∈ marks (y :: B)
  | [], x, y, B, q => by
    simp only [List.nil_append, mks, marks, List.mem_cons, List.not_mem_nil, false_or, List.getLast?_nil, Option.getD_none]
    constructor
    · rintro (h | h | h)
      · exact .inr (.inl h)
      · exact .inl h
      · exact .inr (.inr h)
    · rintro (h | h | h)
      · exact .inr (.inl h)
      · exact .inl h
      · exact .inr (.inr h)
  | z :: A, x, y, B, q => by
    simp only [List.cons_append, mks, List.mem_cons]
    rw [mks_app A z y B q]
    have e : ((z :: A).getLast?).getD x = (A.getLast?).getD z := by
      cases A with
      | nil => rfl
      | cons a A => simp [List.getLast?_cons]
    rw [e]
    constructor
    · rintro (h | h | h | h | h)
      · exact .inl (.inl h)
      · exact .inl (.inr (.inl h))
      · exact .inl (.inr (.inr h))
      · exact .inr (.inl h)
      · exact .inr (.inr h)
    · rintro ((h | h | h) | h | h)
      · exact .inl h
      · exact .inr (.inl h)
      · exact .inr (.inr (.inl h))
      · exact .inr (.inr (.inr (.inl h)))
      · exact .inr (.inr (.inr (.inr h)))
theorem marks_app {A B : List En} (hA : A ≠ []) (hB : B ≠ []) : ∃ x ∈ A, ∃ y ∈ B, ∀ q, q ∈ marks (A ++ B) ↔ q ∈ marks A ∨ q = com x.1 y.1 ∨ q ∈ marks B := by
  cases A with
  | nil => exact absurd rfl hA
  | cons a A =>
    cases B with
    | nil => exact absurd rfl hB
    | cons b B =>
      refine ⟨(A.getLast?).getD a, ?_, b, List.mem_cons_self .., fun q => ?_⟩
      · cases h : A.getLast? with
        | none => exact List.mem_cons_self ..
        | some z => exact List.mem_cons_of_mem _ (List.mem_of_getLast? h)
      · rw [List.cons_append]
        show q ∈ a.1 :: mks a (A ++ b :: B) ↔ q ∈ a.1 :: mks a A ∨ _ ∨ _
        rw [List.mem_cons, List.mem_cons, mks_app]
        constructor
        · rintro (h | h | h | h)
          · exact .inl (.inl h)
          · exact .inl (.inr h)
          · exact .inr (.inl h)
          · exact .inr (.inr h)
        · rintro ((h | h) | h | h)
          · exact .inl h
          · exact .inr (.inl h)
          · exact .inr (.inr (.inl h))
          · exact .inr (.inr (.inr h))
theorem marks_pl : ∀ T : Tr, T.Inv → ∀ q, q ∈ marks T.el ↔ q ∈ T.pl
  | .nil, _, q => by simp [Tr.el, Tr.pl, marks]
  | .node p v l r, h, q => by
    obtain ⟨h1, h2, h3, h4, h5, h6⟩ := h
    have l1 : ∀ x ∈ l.el, Bel p 0 x.1 := fun x hx => h2 _ (l.el_pl x hx)
    have r1 : ∀ x ∈ r.el, Bel p 1 x.1 := fun x hx => h3 _ (r.el_pl x hx)
    have hl := marks_pl l h5
    have hr := marks_pl r h6
    have zl : l.el = [] → l.pl = [] := by
      intro e
      cases l with
      | nil => rfl
      | node a b c d => exact absurd e (Tr.Inv.some h5 (by simp))
    have zr : r.el = [] → r.pl = [] := by
      intro e
      cases r with
      | nil => rfl
      | node a b c d => exact absurd e (Tr.Inv.some h6 (by simp))
    -- both ways
    have both : ∀ q, q ∈ marks (l.el ++ r.el) ↔ q ∈ l.pl ∨ q ∈ r.pl ∨ (l.el ≠ [] ∧ r.el ≠ [] ∧ q = p) := by
      intro q
      by_cases e1 : l.el = []
      · rw [e1, List.nil_append, hr, zl e1]; simp
      · by_cases e2 : r.el = []
        · rw [e2, List.append_nil, hl, zr e2]; simp
        · obtain ⟨x, hx, y, hy, hq⟩ := marks_app e1 e2
          rw [hq, hl, hr, com_sides h1 (l1 x hx) (r1 y hy)]
          constructor
          · rintro (h | h | h)
            · exact .inl h
            · exact .inr (.inr ⟨e1, e2, h⟩)
            · exact .inr (.inl h)
          · rintro (h | h | h)
            · exact .inl h
            · exact .inr (.inr h)
            · exact .inr (.inl h.2.2)
    have bel : ∀ x ∈ l.el ++ r.el, ∃ b, Bel p b x.1 := by
      intro x hx
      rcases List.mem_append.1 hx with hx | hx
      · exact ⟨0, l1 x hx⟩
      · exact ⟨1, r1 x hx⟩
    simp only [Tr.pl, Tr.el, List.mem_cons, List.mem_append]
    cases v with
    | none =>
      obtain ⟨n1, n2⟩ := h4 rfl
      simp only [one, List.nil_append]
      rw [both]
      have a1 := Tr.Inv.some h5 n1
      have a2 := Tr.Inv.some h6 n2
      constructor
      · rintro (h | h | h)
        · exact .inr (.inl h)
        · exact .inr (.inr h)
        · exact .inl h.2.2
      · rintro (h | h | h)
        · exact .inr (.inr ⟨a1, a2, h⟩)
        · exact .inl h
        · exact .inr (.inl h)
    | some v =>
      have e : ∀ q, q ∈ marks ((p, v) :: (l.el ++ r.el)) ↔ q = p ∨ q ∈ marks (l.el ++ r.el) := by
        intro q
        cases hm : l.el ++ r.el with
        | nil => simp [marks, mks]
        | cons x X =>
          obtain ⟨b, hb⟩ := bel x (by rw [hm]; exact List.mem_cons_self ..)
          simp only [marks, mks, List.mem_cons]
          rw [com_up h1 hb]
          constructor
          · rintro (h | h | h | h)
            · exact .inl h
            · exact .inr (.inl h)
            · exact .inl h
            · exact .inr (.inr h)
          · rintro (h | h | h)
            · exact .inl h
            · exact .inr (.inl h)
            · exact .inr (.inr (.inr h))
      show q ∈ marks ((p, v) :: (l.el ++ r.el)) ↔ _
      rw [e, both]
      constructor
      · rintro (h | h | h | h)
        · exact .inl h
        · exact .inr (.inl h)
        · exact .inr (.inr h)
        · exact .inl h.2.2
      · rintro (h | h | h)
        · exact .inl h
        · exact .inr (.inl h)
        · exact .inr (.inr (.inl h))
theorem Tr.Inv.nodup : ∀ {T : Tr}, T.Inv → T.pl.Nodup
  | .nil, _ => List.nodup_nil
  | .node p v l r, h => by
    obtain ⟨h1, h2, h3, h4, h5, h6⟩ := h
    refine List.nodup_cons.2 ⟨fun hp => ?_, List.nodup_append.2 ⟨Tr.Inv.nodup h5, Tr.Inv.nodup h6, fun x hx y hy e => ?_⟩⟩
    · rcases List.mem_append.1 hp with hp | hp
      · exact lt_irrefl _ (h2 p hp).lt
      · exact lt_irrefl _ (h3 p hp).lt
    · exact lt_ne (Bel.sides h1 (h2 x hx) (h3 y hy)) e
/-- One for each. -/
def dd (M : List Pf) : List Pf := M.foldl (fun S q => if q ∈ S then S else S ++ [q]) []
theorem dd_go : ∀ (M S : List Pf), S.Nodup → (M.foldl (fun S q => if q ∈ S then S else S ++ [q]) S).Nodup ∧ ∀ x, x ∈ M.foldl (fun S q => if q ∈ S then S else S ++ [q]) S ↔ x ∈ S ∨ x ∈ M
  | [], S, h => ⟨h, fun x => by simp⟩
  | q :: M, S, h => by
    rw [List.foldl_cons]
    by_cases hq : q ∈ S
    · rw [if_pos hq]
      obtain ⟨a, b⟩ := dd_go M S h
      refine ⟨a, fun x => ?_⟩
      rw [b, List.mem_cons]
      constructor
      · rintro (h | h)
        · exact .inl h
        · exact .inr (.inr h)
      · rintro (h | h | h)
        · exact .inl h
        · rw [h]; exact .inl hq
        · exact .inr h
    · rw [if_neg hq]
      have hn : (S ++ [q]).Nodup := List.nodup_append.2 ⟨h, by simp, fun x hx y hy e => by
        simp at hy; subst hy; subst e; exact hq hx⟩
      obtain ⟨a, b⟩ := dd_go M (S ++ [q]) hn
      refine ⟨a, fun x => ?_⟩
      rw [b, List.mem_append, List.mem_cons, List.mem_cons, List.mem_nil_iff, or_false, or_assoc]
theorem nodup_le : ∀ (l m : List Pf), l.Nodup → (∀ x ∈ l, x ∈ m) → l.length ≤ m.length
  | [], _, _, _ => Nat.zero_le _
  | x :: l, m, h, hs => by
    obtain ⟨h1, h2⟩ := List.nodup_cons.1 h
    have hx := hs x (List.mem_cons_self ..)
    have := nodup_le l (m.erase x) h2 (fun y hy => by
      have hne : y ≠ x := fun e => h1 (e ▸ hy)
      exact (List.mem_erase_of_ne hne).2 (hs y (List.mem_cons_of_mem _ hy)))
    rw [List.length_erase_of_mem hx] at this
    have hp : 0 < m.length := List.length_pos_of_mem hx
    rw [List.length_cons]; omega
theorem dd_size {T : Tr} (h : T.Inv) : (dd (marks T.el)).length = T.size := by
  obtain ⟨a, b⟩ := dd_go (marks T.el) [] List.nodup_nil
  have hm : ∀ x, x ∈ dd (marks T.el) ↔ x ∈ T.pl := fun x => by
    unfold dd
    rw [b, marks_pl T h]; simp
  rw [← Tr.pl_length]
  exact Nat.le_antisymm (nodup_le _ _ a (fun x hx => (hm x).1 hx)) (nodup_le _ _ (Tr.Inv.nodup h) (fun x hx => (hm x).2 hx))
end Tp
end Go.Proofs.Ytdjhgahdiggahaa

namespace Go.Proofs.Ytdjhgahdiggahaa
namespace Tp
open Wp

/-- How many stand ahead. -/
def pos : List En → Pf → Nat
  | [], _ => 0
  | x :: L, p => if lt x.1 p then pos L p + 1 else 0
/-- Is it there? -/
def isAt (L : List En) (p : Pf) : Bool := decide ((L[pos L p]?).map Prod.fst = some p)
theorem pos_le : ∀ (L : List En) (p : Pf), pos L p ≤ L.length
  | [], _ => Nat.le_refl _
  | x :: L, p => by
    unfold pos
    split
    · have := pos_le L p; rw [List.length_cons]; omega
    · exact Nat.zero_le _
theorem pos_lt : ∀ (L : List En) (p : Pf) (i : Nat) (x : En), i < pos L p → L[i]? = some x → lt x.1 p
  | x :: L, p, i, y, hi, hy => by
    unfold pos at hi
    split at hi
    · rename_i h
      cases i with
      | zero => simp at hy; subst hy; exact h
      | succ i => exact pos_lt L p i y (by omega) (by simpa using hy)
    · omega
theorem pos_stop : ∀ (L : List En) (p : Pf) (x : En), L[pos L p]? = some x → ¬ lt x.1 p
  | x :: L, p, y, hy => by
    unfold pos at hy
    split at hy
    · exact pos_stop L p y (by simpa using hy)
    · rename_i h
      simp at hy; subst hy; exact h
theorem insE_pos : ∀ (L : List En) (p : Pf) (v : Int), insE L p v = if isAt L p = true then L.set (pos L p) (p, v) else L.take (pos L p) ++ (p, v) :: L.drop (pos L p)
  | [], p, v => by simp [insE, isAt, pos]
  | (q, w) :: L, p, v => by
    unfold insE
    by_cases h1 : q = p
    · subst h1
      have e : pos ((q, w) :: L) q = 0 := by unfold pos; rw [if_neg (lt_irrefl q)]
      have e2 : isAt ((q, w) :: L) q = true := by unfold isAt; rw [e]; simp
      rw [if_pos rfl, if_pos e2, e]; rfl
    · rw [if_neg h1]
      by_cases h2 : lt q p
      · have e : pos ((q, w) :: L) p = pos L p + 1 := by rw [pos, if_pos h2]
        have e2 : isAt ((q, w) :: L) p = isAt L p := by unfold isAt; rw [e]; simp
        rw [if_pos h2, e2, e, insE_pos L p v]
        split <;> simp
      · have e : pos ((q, w) :: L) p = 0 := by rw [pos, if_neg h2]
        have e2 : ¬ isAt ((q, w) :: L) p = true := by unfold isAt; rw [e]; simp; exact h1
        rw [if_neg h2, if_neg e2, e]; rfl
theorem Up.tail {x : En} {L : List En} (h : Up (x :: L)) : Up L ∧ ∀ y ∈ L, lt x.1 y.1 := by
  obtain ⟨a, b⟩ := List.pairwise_cons.1 h
  exact ⟨b, a⟩
theorem delE_pos : ∀ (L : List En) (p : Pf), Up L → delE L p = if isAt L p = true then L.take (pos L p) ++ L.drop (pos L p + 1) else L
  | [], p, _ => by simp [delE, isAt, pos]
  | (q, w) :: L, p, h => by
    obtain ⟨h1, h2⟩ := Up.tail h
    by_cases e1 : q = p
    · subst e1
      have e : pos ((q, w) :: L) q = 0 := by unfold pos; rw [if_neg (lt_irrefl q)]
      have e2 : isAt ((q, w) :: L) q = true := by unfold isAt; rw [e]; simp
      have e3 : delE L q = L := delE_no (fun x hx => (lt_ne (h2 x hx)).symm)
      rw [if_pos e2, e]
      show ((q, w) :: L).filter _ = _
      rw [List.filter_cons_of_neg (by simp)]
      exact e3
    · have c : delE ((q, w) :: L) p = (q, w) :: delE L p := List.filter_cons_of_pos (by simpa using e1)
      by_cases e2 : lt q p
      · have e : pos ((q, w) :: L) p = pos L p + 1 := by rw [pos, if_pos e2]
        have e3 : isAt ((q, w) :: L) p = isAt L p := by unfold isAt; rw [e]; simp
        rw [c, e3, e, delE_pos L p h1]
        split <;> simp
      · have e : pos ((q, w) :: L) p = 0 := by rw [pos, if_neg e2]
        have e3 : ¬ isAt ((q, w) :: L) p = true := by unfold isAt; rw [e]; simp; exact e1
        have hp : lt p q := by
          rcases lt_tri q p with h | h | h
          · exact absurd h e2
          · exact absurd h e1
          · exact h
        rw [if_neg e3, c, delE_no (fun x hx => (lt_ne (lt_trans hp (h2 x hx))).symm)]
theorem look_pos : ∀ (L : List En) (p : Pf), Up L → look L p = if isAt L p = true then (L[pos L p]?).map Prod.snd else none
  | [], p, _ => by simp [look, isAt, pos]
  | (q, w) :: L, p, h => by
    obtain ⟨h1, h2⟩ := Up.tail h
    have c : look ((q, w) :: L) p = if q = p then some w else look L p := by
      unfold look
      by_cases e : q = p
      · rw [if_pos e, List.find?_cons_of_pos (by simpa using e)]; rfl
      · rw [if_neg e, List.find?_cons_of_neg (by simpa using e)]
    rw [c]
    by_cases e1 : q = p
    · subst e1
      have e : pos ((q, w) :: L) q = 0 := by unfold pos; rw [if_neg (lt_irrefl q)]
      have e2 : isAt ((q, w) :: L) q = true := by unfold isAt; rw [e]; simp
      rw [if_pos rfl, if_pos e2, e]; rfl
    · rw [if_neg e1]
      by_cases e2 : lt q p
      · have e : pos ((q, w) :: L) p = pos L p + 1 := by rw [pos, if_pos e2]
        have e3 : isAt ((q, w) :: L) p = isAt L p := by unfold isAt; rw [e]; simp
        rw [e3, e, look_pos L p h1]
        simp
      · have e : pos ((q, w) :: L) p = 0 := by rw [pos, if_neg e2]
        have e3 : ¬ isAt ((q, w) :: L) p = true := by unfold isAt; rw [e]; simp; exact e1
        have hp : lt p q := by
          rcases lt_tri q p with h | h | h
          · exact absurd h e2
          · exact absurd h e1
          · exact h
        rw [if_neg e3, look_no (fun x hx => (lt_ne (lt_trans hp (h2 x hx))).symm)]
theorem isAt_look {L : List En} {p : Pf} (h : Up L) : (look L p).isSome = isAt L p := by
  rw [look_pos L p h]
  by_cases e : isAt L p = true
  · rw [if_pos e, e]
    unfold isAt at e
    have := of_decide_eq_true e
    cases hx : L[pos L p]? with
    | none => rw [hx] at this; cases this
    | some x => rfl
  · rw [if_neg e]
    simp at e
    rw [e]; rfl
/-- How many there are, behind an act. -/
theorem insE_len (L : List En) (p : Pf) (v : Int) : (insE L p v).length = if isAt L p = true then L.length else L.length + 1 := by
  rw [insE_pos]
  have := pos_le L p
  split <;> simp
  omega
theorem delE_len {L : List En} {p : Pf} (h : Up L) : (delE L p).length = if isAt L p = true then L.length - 1 else L.length := by
  rw [delE_pos L p h]
  split
  · rename_i e
    have hlt : pos L p < L.length := by
      unfold isAt at e
      have := of_decide_eq_true e
      rcases Nat.lt_or_ge (pos L p) L.length with h2 | h2
      · exact h2
      · rw [List.getElem?_eq_none h2] at this; cases this
    simp; omega
  · rfl

/-- Those of one length. -/
def lens (F : List En) (n : Int) : List En := F.filter fun x => decide (x.1.2 = n)
theorem lens_all : ∀ (k lo : Nat) (F : List En), (F.Pairwise fun x y => x.1.2 < y.1.2) → (∀ x ∈ F, (lo : Int) ≤ x.1.2 ∧ x.1.2 < (lo + k : Nat)) → (List.range' lo k).flatMap (fun (n : Nat) => lens F (n : Int)) = F
  | 0, lo, F, _, hb => by
    cases F with
    | nil => rfl
    | cons x F => have := hb x (List.mem_cons_self ..); omega
  | k + 1, lo, F, hp, hb => by
    rw [List.range'_succ, List.flatMap_cons]
    cases F with
    | nil =>
      have := lens_all k (lo + 1) [] hp (fun x hx => by cases hx)
      rw [this]; rfl
    | cons x F =>
      obtain ⟨h1, h2⟩ := List.pairwise_cons.1 hp
      have hx := hb x (List.mem_cons_self ..)
      by_cases e : x.1.2 = (lo : Int)
      · have a : lens (x :: F) (lo : Int) = [x] := by
          unfold lens
          rw [List.filter_cons_of_pos (by simpa using e), List.filter_eq_nil_iff.2 (fun y hy => by have := h1 y hy; simp; omega)]
        have b : (List.range' (lo + 1) k).flatMap (fun (n : Nat) => lens (x :: F) (n : Int)) = (List.range' (lo + 1) k).flatMap (fun (n : Nat) => lens F (n : Int)) := by
          rw [List.flatMap_def, List.flatMap_def]
          congr 1
          apply List.map_congr_left
          intro n hn
          have hn2 := (List.mem_range'_1.1 hn).1
          unfold lens
          rw [List.filter_cons_of_neg (by simp; omega)]
        rw [a, b, lens_all k (lo + 1) F h2 (fun y hy => by
          have := h1 y hy
          have := hb y (List.mem_cons_of_mem _ hy)
          omega)]
        rfl
      · have a : lens (x :: F) (lo : Int) = [] := by
          unfold lens
          refine List.filter_eq_nil_iff.2 (fun y hy => ?_)
          rcases List.mem_cons.1 hy with rfl | hy
          · simpa using e
          · have := h1 y hy; simp; omega
        rw [a, List.nil_append, lens_all k (lo + 1) (x :: F) hp (fun y hy => by
          have := hb y hy
          rcases List.mem_cons.1 hy with rfl | hy
          · omega
          · have := h1 y hy; omega)]
/-- Those that have an address rise in length. -/
theorem has_rise {L : List En} (h : Up L) (ho : ∀ x ∈ L, Ok x.1) (a : Int) : (L.filter (hasE a)).Pairwise fun x y => x.1.2 < y.1.2 := by
  have h2 : (L.filter (hasE a)).Pairwise fun x y => lt x.1 y.1 := h.filter _
  refine h2.imp_of_mem fun {x y} hx hy hl => ?_
  obtain ⟨hx1, hx2⟩ := List.mem_filter.1 hx
  obtain ⟨hy1, hy2⟩ := List.mem_filter.1 hy
  have ex : fst a x.1.2 = x.1.1 := of_decide_eq_true hx2
  have ey : fst a y.1.2 = y.1.1 := of_decide_eq_true hy2
  rcases Int.lt_or_le x.1.2 y.1.2 with g | g
  · exact g
  · have e := fst_fst (c := a) (ho y hy1).n0 g (ho x hx1).n1
    have e2 := fst_le (a := fst a x.1.2) (n := y.1.2)
    unfold lt at hl
    omega
theorem covers_eq {L : List En} (h : Up L) (ho : ∀ x ∈ L, Ok x.1) (a : Int) : (List.range' 0 33).flatMap (fun (n : Nat) => L.filter fun x => decide (x.1.2 = (n : Int)) && hasE a x) = L.filter (hasE a) := by
  have := lens_all 33 0 (L.filter (hasE a)) (has_rise h ho a) (fun x hx => by
    have := ho x (List.mem_filter.1 hx).1
    have a0 := this.n0
    have a1 := this.n1
    omega)
  rw [← this]
  rw [List.flatMap_def, List.flatMap_def]
  congr 1
  apply List.map_congr_left
  intro n _
  unfold lens
  rw [List.filter_filter]
/-- What stays right. -/
theorem Up.ins {L : List En} (h : Up L) (p : Pf) (v : Int) : Up (insE L p v) := by
  induction L with
  | nil => exact List.Pairwise.cons (fun _ h => by cases h) List.Pairwise.nil
  | cons x L ih =>
    obtain ⟨q, w⟩ := x
    obtain ⟨h1, h2⟩ := Up.tail h
    unfold insE
    by_cases e1 : q = p
    · rw [if_pos e1]
      subst e1
      exact List.Pairwise.cons h2 h1
    · rw [if_neg e1]
      by_cases e2 : lt q p
      · rw [if_pos e2]
        refine List.Pairwise.cons (fun y hy => ?_) (ih h1)
        have mem : ∀ (M : List En), y ∈ insE M p v → y = (p, v) ∨ y ∈ M := by
          intro M
          induction M with
          | nil => intro hm; simp [insE] at hm; exact .inl hm
          | cons z M ihM =>
            obtain ⟨r, u⟩ := z
            intro hm
            unfold insE at hm
            split at hm
            · rcases List.mem_cons.1 hm with hm | hm
              · exact .inl hm
              · exact .inr (List.mem_cons_of_mem _ hm)
            · split at hm
              · rcases List.mem_cons.1 hm with hm | hm
                · exact .inr (hm ▸ List.mem_cons_self ..)
                · rcases ihM hm with hm | hm
                  · exact .inl hm
                  · exact .inr (List.mem_cons_of_mem _ hm)
              · rcases List.mem_cons.1 hm with hm | hm
                · exact .inl hm
                · exact .inr hm
        rcases mem L hy with hm | hm
        · rw [hm]; exact e2
        · exact h2 y hm
      · rw [if_neg e2]
        have hp : lt p q := by
          rcases lt_tri q p with h | h | h
          · exact absurd h e2
          · exact absurd h e1
          · exact h
        exact List.Pairwise.cons (fun y hy => by
          rcases List.mem_cons.1 hy with rfl | hy
          · exact hp
          · exact lt_trans hp (h2 y hy)) h
theorem Up.del {L : List En} (h : Up L) (p : Pf) : Up (delE L p) := h.filter _
end Tp
end Go.Proofs.Ytdjhgahdiggahaa
