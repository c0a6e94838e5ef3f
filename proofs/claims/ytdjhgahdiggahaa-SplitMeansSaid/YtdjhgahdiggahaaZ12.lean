/- Cores, plainly: entries, what is told, what happens.
   Maps whose keys are prefixes: what they hold as a list; store, look-up, delete, len.
   What changes: all but some blocks stands.
   trie.may, has, side, meet: the walks.
   Walks of the reference's looks at prefixes, of Within and of both orders.
   The way down to a prefix's place, and what is laid there: plainly.
   The longest prefix that two are within, as the program reckons it; a side: plainly.
   What the last one, and neighbours, of those that have an address are; what nothing leaves: plainly. -/
import Derived.Lib.BitFns
import Derived.DeepKeys3
import Derived.MapKept
import Derived.Test.YtdjhgahdiggahaaZ01
import Derived.Test.YtdjhgahdiggahaaZ04
import Derived.Test.YtdjhgahdiggahaaZ09
import Derived.Test.YtdjhgahdiggahaaZ11

set_option linter.unusedSimpArgs false
set_option linter.unusedVariables false
namespace Go.Proofs.Ytdjhgahdiggahaa
namespace Tp
open Wp

/-- The last one is the longest one. -/
theorem last_most : ∀ (F : List En) (z : En), (F.Pairwise fun x y => x.1.2 < y.1.2) → F.getLast? = some z → ∀ x ∈ F, x.1.2 ≤ z.1.2
  | [], _, _, h, _, _ => by cases h
  | [y], z, _, h, x, hx => by
    simp at h hx; subst h; subst hx; exact Int.le_refl _
  | y :: u :: F, z, hp, h, x, hx => by
    obtain ⟨h1, h2⟩ := List.pairwise_cons.1 hp
    have h3 : (u :: F).getLast? = some z := by simpa [List.getLast?_cons_cons] using h
    have ih := last_most (u :: F) z h2 h3
    rcases List.mem_cons.1 hx with rfl | hx
    · have a := h1 u (List.mem_cons_self ..)
      have b := ih u (List.mem_cons_self ..)
      omega
    · exact ih x hx
/-- Of two that have an address the longer one lies within the shorter one. -/
theorem has_within {x y : Pf} {a : Int} (hx : Ok x) (hy : Ok y) (ex : fst a x.2 = x.1) (ey : fst a y.2 = y.1) (h : x.2 ≤ y.2) : wi x y = true :=
  (wi_iff hx hy).2 ⟨h, by rw [← ey, fst_fst hx.n0 h hy.n1]; exact ex⟩
theorem Tr.Inv.none {T : Tr} (h : T.Inv) (he : T.el = []) : T = .nil := by
  cases T with
  | nil => rfl
  | node p v l r => exact absurd he (Tr.Inv.some h (by simp))
theorem Tr.Inv.okE {T : Tr} (h : T.Inv) : ∀ x ∈ T.el, Ok x.1 := fun x hx => h.ok _ (T.el_pl x hx)
theorem mem_ins : ∀ (L : List En) (p : Pf) (v : Int) (y : En), y ∈ insE L p v → y = (p, v) ∨ y ∈ L
  | [], p, v, y, h => by simp [insE] at h; exact .inl h
  | (q, w) :: L, p, v, y, h => by
    unfold insE at h
    split at h
    · rcases List.mem_cons.1 h with h | h
      · exact .inl h
      · exact .inr (List.mem_cons_of_mem _ h)
    · split at h
      · rcases List.mem_cons.1 h with h | h
        · exact .inr (h ▸ List.mem_cons_self ..)
        · rcases mem_ins L p v y h with h | h
          · exact .inl h
          · exact .inr (List.mem_cons_of_mem _ h)
      · rcases List.mem_cons.1 h with h | h
        · exact .inl h
        · exact .inr h
theorem mem_del {L : List En} {p : Pf} {y : En} : y ∈ delE L p ↔ y ∈ L ∧ y.1 ≠ p := by
  unfold delE
  rw [List.mem_filter]
  simp
/-- What is put in is there, the others stay. -/
theorem look_ins : ∀ (L : List En) (p : Pf) (v : Int) (q : Pf), look (insE L p v) q = if q = p then some v else look L q
  | [], p, v, q => by
    unfold insE look
    by_cases h : q = p
    · rw [if_pos h, List.find?_cons_of_pos (by simp [h])]; rfl
    · rw [if_neg h, List.find?_cons_of_neg (by simp; exact fun e => h e.symm)]
  | (r, w) :: L, p, v, q => by
    have c : ∀ (r : Pf) (w : Int) (L : List En), look ((r, w) :: L) q = if r = q then some w else look L q := by
      intro r w L
      unfold look
      by_cases e : r = q
      · rw [if_pos e, List.find?_cons_of_pos (by simpa using e)]; rfl
      · rw [if_neg e, List.find?_cons_of_neg (by simpa using e)]
    unfold insE
    by_cases h1 : r = p
    · rw [if_pos h1, c, c]
      subst h1
      by_cases h : q = r
      · rw [if_pos h.symm, if_pos h]
      · rw [if_neg (fun e => h e.symm), if_neg h, if_neg (fun e => h e.symm)]
    · rw [if_neg h1]
      by_cases h2 : lt r p
      · rw [if_pos h2, c, c, look_ins L p v q]
        by_cases h : r = q
        · rw [if_pos h, if_pos h, if_neg (fun e => h1 (h.trans e))]
        · rw [if_neg h, if_neg h]
      · rw [if_neg h2, c, c]
        by_cases h : q = p
        · rw [if_pos h.symm, if_pos h]
        · rw [if_neg (fun e => h e.symm), if_neg h]
theorem look_del (L : List En) (p q : Pf) : look (delE L p) q = if q = p then none else look L q := by
  by_cases h : q = p
  · rw [if_pos h]
    subst h
    exact look_no (fun x hx => (mem_del.1 hx).2)
  · rw [if_neg h]
    unfold look delE
    rw [List.find?_filter]
    congr 1
    congr 1
    funext x
    by_cases e : x.1 = q
    · simp [e, h]
    · simp [e]
/-- A rising list holds no more than the prefixes it was made of. -/
theorem up_few {L : List En} (h : Up L) (M : List Pf) (hm : ∀ x ∈ L, x.1 ∈ M) : L.length ≤ M.length := by
  have hn : (L.map Prod.fst).Nodup := by
    refine List.pairwise_map.2 (h.imp fun {x y} hl => lt_ne hl)
  have := nodup_le (L.map Prod.fst) M hn (fun x hx => by
    obtain ⟨y, hy, rfl⟩ := List.mem_map.1 hx
    exact hm y hy)
  simpa using this
end Tp
end Go.Proofs.Ytdjhgahdiggahaa

namespace Go.Proofs.Ytdjhgahdiggahaa
namespace Tp
open Wp

theorem bitLenAux_bd : ∀ (f x : Nat), x < 2 ^ f → x < 2 ^ Lib.bitLenAux f x ∧ (x ≠ 0 → 2 ^ Lib.bitLenAux f x ≤ 2 * x)
  | 0, x, h => by
    have : x = 0 := by simpa using h
    subst this
    exact ⟨by simp [Lib.bitLenAux], fun h => absurd rfl h⟩
  | f + 1, x, h => by
    unfold Lib.bitLenAux
    by_cases hx : x = 0
    · rw [if_pos hx]; subst hx; exact ⟨by simp, fun h => absurd rfl h⟩
    · rw [if_neg hx]
      obtain ⟨h1, h2⟩ := bitLenAux_bd f (x / 2) (by rw [Nat.pow_succ] at h; omega)
      rw [Nat.add_comm 1, Nat.pow_succ]
      refine ⟨by omega, fun _ => ?_⟩
      by_cases h3 : x / 2 = 0
      · have e : Lib.bitLenAux f (x / 2) = 0 := by rw [h3]; cases f <;> simp [Lib.bitLenAux]
        rw [e]; simp; omega
      · have := h2 h3; omega
theorem bitLen_bd {x : Nat} (h : x < 4294967296) : x < 2 ^ Lib.bitLen x ∧ (x ≠ 0 → 2 ^ Lib.bitLen x ≤ 2 * x) ∧ Lib.bitLen x ≤ 32 := by
  obtain ⟨h1, h2⟩ := bitLenAux_bd 64 x (by omega)
  exact ⟨h1, h2, Lib.bitLen_le x 32 (by decide) h⟩
/-- How many bits two addresses share. -/
def lz (a b : Int) : Int := 32 - (Lib.bitLen (a.toNat ^^^ b.toNat) : Int)
def mn (p q : Pf) : Int := min (min p.2 q.2) (lz p.1 q.1)
theorem fst_eq_iff {a b : Nat} {n : Int} {k : Nat} (hk : (32 - n).toNat = k) : fst (a : Int) n = fst (b : Int) n ↔ (a ^^^ b) < 2 ^ k := by
  have hp : 0 < 2 ^ k := Nat.pow_pos (by decide)
  rw [fst_nat a k n hk, fst_nat b k n hk]
  constructor
  · intro h
    have h2 : a / 2 ^ k * 2 ^ k = b / 2 ^ k * 2 ^ k := by omega
    have h3 := (nat_xor_zero a b k).2 (Nat.eq_of_mul_eq_mul_right hp h2)
    exact (Nat.div_eq_zero_iff_lt hp).1 h3
  · intro h
    have h3 := (nat_xor_zero a b k).1 ((Nat.div_eq_zero_iff_lt hp).2 h)
    rw [h3]
theorem lz_bd {a b : Int} (ha : 0 ≤ a) (ha2 : a < 4294967296) (hb : 0 ≤ b) (hb2 : b < 4294967296) : 0 ≤ lz a b ∧ lz a b ≤ 32 := by
  have hx : (a.toNat ^^^ b.toNat) < 4294967296 := Nat.xor_lt_two_pow (n := 32) (by omega) (by omega)
  obtain ⟨_, _, h⟩ := bitLen_bd hx
  unfold lz; omega
theorem mn_bd {p q : Pf} (hp : Ok p) (hq : Ok q) : 0 ≤ mn p q ∧ mn p q ≤ 32 ∧ mn p q ≤ p.2 ∧ mn p q ≤ q.2 := by
  obtain ⟨h1, h2⟩ := lz_bd hp.a0 hp.a1 hq.a0 hq.a1
  have := hp.n0; have := hp.n1; have := hq.n0; have := hq.n1
  unfold mn; omega
/-- The longest prefix of both, as it is reckoned. -/
theorem com_mn {p q : Pf} (hp : Ok p) (hq : Ok q) : com p q = (fst p.1 (mn p q), mn p q) := by
  obtain ⟨h0, h32, h1, h2⟩ := mn_bd hp hq
  obtain ⟨a, ha⟩ := Int.eq_ofNat_of_zero_le hp.a0
  obtain ⟨b, hb⟩ := Int.eq_ofNat_of_zero_le hq.a0
  have a1 := hp.a1
  have b1 := hq.a1
  rw [ha] at a1
  rw [hb] at b1
  have hx : (a ^^^ b) < 4294967296 := Nat.xor_lt_two_pow (n := 32) (by omega) (by omega)
  obtain ⟨x1, x2, x3⟩ := bitLen_bd hx
  have hlz : lz p.1 q.1 = 32 - (Lib.bitLen (a ^^^ b) : Int) := by unfold lz; rw [ha, hb]; rfl
  have hmn : mn p q ≤ lz p.1 q.1 := by unfold mn; omega
  refine com_eq hp h0 ⟨h1, h2, ?_⟩ ?_
  · rw [ha, hb, fst_eq_iff rfl]
    exact Nat.lt_of_lt_of_le x1 (Nat.pow_le_pow_right (by decide) (by omega))
  · by_cases e1 : p.2 = mn p q
    · exact .inl e1
    · by_cases e2 : q.2 = mn p q
      · exact .inr (.inl e2)
      · refine .inr (.inr fun hbit => ?_)
        have e3 : mn p q = lz p.1 q.1 := by unfold mn at *; omega
        have hp1 := hp.n1
        have hfs : fst p.1 (mn p q) = fst q.1 (mn p q) := by
          rw [ha, hb, fst_eq_iff rfl]
          exact Nat.lt_of_lt_of_le x1 (Nat.pow_le_pow_right (by decide) (by omega))
        have h3 := eq_bit h0 (by omega) hbit hfs
        rw [ha, hb, fst_eq_iff rfl] at h3
        have h4 : a ^^^ b ≠ 0 := by
          intro h; rw [h] at hlz
          have : Lib.bitLen 0 = 0 := by decide
          rw [this] at hlz; omega
        have h5 := x2 h4
        obtain ⟨k, hk⟩ : ∃ k, Lib.bitLen (a ^^^ b) = k + 1 := ⟨Lib.bitLen (a ^^^ b) - 1, by omega⟩
        have e4 : (32 - (mn p q + 1)).toNat = k := by omega
        rw [e4] at h3
        rw [hk, Nat.pow_succ] at h5
        omega
/-- On which side, as it is reckoned. -/
theorem side_bit {a n : Int} (h0 : 0 ≤ n) (h1 : n ≤ 31) : a * 2 ^ n.toNat % 4294967296 / 2147483648 = bit a n := by
  unfold bit
  obtain ⟨P, hP⟩ : ∃ P : Int, P = 2 ^ (31 - n).toNat := ⟨_, rfl⟩
  obtain ⟨Q, hQ⟩ : ∃ Q : Int, Q = 2 ^ n.toNat := ⟨_, rfl⟩
  have p0 : 0 < P := by rw [hP]; exact pow_pos' _
  have q0 : 0 < Q := by rw [hQ]; exact pow_pos' _
  have e : P * Q = 2147483648 := by
    rw [hP, hQ, ← Int.pow_add]
    have : (31 - n).toNat + n.toNat = 31 := by omega
    rw [this]; decide
  rw [← hP, ← hQ]
  have e2 : (4294967296 : Int) = (P * 2) * Q := by rw [Int.mul_assoc, Int.mul_comm 2, ← Int.mul_assoc, e]; rfl
  rw [e2, ← e, Int.mul_comm a Q, Int.mul_comm (P * 2) Q, Int.mul_emod_mul_of_pos _ _ q0, Int.mul_comm P Q]
  rw [Int.mul_ediv_mul_of_pos _ _ q0]
  have m0 := Int.emod_nonneg a (show P * 2 ≠ 0 by omega)
  have m1 := Int.emod_lt_of_pos a (show 0 < P * 2 by omega)
  have d := Int.mul_ediv_add_emod a (P * 2)
  obtain ⟨r, hr⟩ : ∃ r, r = a % (P * 2) := ⟨_, rfl⟩
  obtain ⟨c, hc⟩ : ∃ c, c = a / (P * 2) := ⟨_, rfl⟩
  rw [← hr] at m0 m1 d
  rw [← hc] at d
  rw [← hr, ← d]
  have e3 : P * 2 * c + r = r + (2 * c) * P := by rw [Int.mul_assoc, Int.mul_comm P]; omega
  rw [e3, Int.add_mul_ediv_right _ _ (Int.ne_of_gt p0)]
  have r0 : 0 ≤ r / P := Int.ediv_nonneg m0 (Int.le_of_lt p0)
  have r1 : r / P < 2 := Int.ediv_lt_of_lt_mul p0 (by omega)
  omega
theorem com_wi {p q : Pf} (hp : Ok p) (hq : Ok q) : com p q = p ↔ wi p q = true := by
  constructor
  · intro h
    obtain ⟨_, _, h1, h2⟩ := mn_bd hp hq
    have e := com_mn hp hq
    rw [h] at e
    have e1 : p.2 = mn p q := congrArg Prod.snd e
    by_cases hw : wi p q = true
    · exact hw
    · by_cases hw2 : wi q p = true
      · obtain ⟨g1, g2⟩ := (wi_iff hq hp).1 hw2
        have e3 : p.2 = q.2 := by omega
        have : p = q := Prod.ext (by rw [← g2, ← e3]; exact hp.fs.symm) e3
        rw [this] at hw2 ⊢; exact hw2
      · obtain ⟨_, c2, _, _⟩ := com_part hp hq (by simpa using hw) (by simpa using hw2)
        have := c2.len
        rw [h] at this; omega
  · intro h
    obtain ⟨h1, h2⟩ := (wi_iff hp hq).1 h
    have := com_eq hp (q := q) (n := p.2) hp.n0 ⟨Int.le_refl _, h1, by rw [hp.fs]; exact h2.symm⟩ (.inl rfl)
    rw [this, hp.fs]
theorem com_comm {p q : Pf} (hp : Ok p) (hq : Ok q) : com p q = com q p := by
  obtain ⟨h0, h32, h1, h2⟩ := mn_bd hp hq
  have e : mn p q = mn q p := by
    have : lz p.1 q.1 = lz q.1 p.1 := by unfold lz; rw [Nat.xor_comm]
    unfold mn; rw [this]; omega
  rw [com_mn hp hq, com_mn hq hp, ← e]
  congr 1
  obtain ⟨a, ha⟩ := Int.eq_ofNat_of_zero_le hp.a0
  obtain ⟨b, hb⟩ := Int.eq_ofNat_of_zero_le hq.a0
  have a1 := hp.a1
  have b1 := hq.a1
  rw [ha] at a1
  rw [hb] at b1
  have hx : (a ^^^ b) < 4294967296 := Nat.xor_lt_two_pow (n := 32) (by omega) (by omega)
  obtain ⟨x1, x2, x3⟩ := bitLen_bd hx
  have hlz : lz p.1 q.1 = 32 - (Lib.bitLen (a ^^^ b) : Int) := by unfold lz; rw [ha, hb]; rfl
  have hmn : mn p q ≤ lz p.1 q.1 := by unfold mn; omega
  rw [ha, hb, fst_eq_iff rfl]
  exact Nat.lt_of_lt_of_le x1 (Nat.pow_le_pow_right (by decide) (by omega))
end Tp
end Go.Proofs.Ytdjhgahdiggahaa

namespace Go.Proofs.Ytdjhgahdiggahaa
namespace Tp
open Wp

/-- The trees on the way down to a prefix's place, and what stands there. -/
def pth (p : Pf) : Tr → List Tr × Tr
  | .nil => ([], .nil)
  | .node q o l r =>
    if com p q = p then ([], .node q o l r)
    else if com p q = q then (if bit p.1 q.2 = 0 then (.node q o l r :: (pth p l).1, (pth p l).2) else (.node q o l r :: (pth p r).1, (pth p r).2))
    else ([], .node q o l r)
/-- A tree with another one on a prefix's side. -/
def put1 (p : Pf) (n : Tr) : Tr → Tr
  | .nil => .nil
  | .node q o l r => if bit p.1 q.2 = 0 then mk q o n r else mk q o l n
/-- What is laid at a prefix's place. -/
def lay (p : Pf) : List Tr → Tr → Tr
  | [], n => n
  | t :: ts, n => put1 p (lay p ts n) t
theorem lay_append (p : Pf) : ∀ (a b : List Tr) (n : Tr), lay p (a ++ b) n = lay p a (lay p b n)
  | [], _, _ => rfl
  | t :: a, b, n => by simp only [List.cons_append, lay]; rw [lay_append p a b n]
/-- What stands at a prefix's place, once it is put in. -/
def withN (p : Pf) (v : Int) : Tr → Tr
  | .nil => .node p (some v) .nil .nil
  | .node q o l r =>
    if com p q = q then .node p (some v) l r
    else if com p q = p then (if bit q.1 p.2 = 0 then .node p (some v) (.node q o l r) .nil else .node p (some v) .nil (.node q o l r))
    else (if bit p.1 (com p q).2 = 0 then .node (com p q) none (.node p (some v) .nil .nil) (.node q o l r) else .node (com p q) none (.node q o l r) (.node p (some v) .nil .nil))
/-- Is it the node of a prefix, and that there? -/
def isN (p : Pf) : Tr → Bool
  | .nil => false
  | .node q o _ _ => o.isSome && decide (q = p)
/-- What stands where a node was, once its prefix is gone. -/
def bare : Tr → Tr
  | .nil => .nil
  | .node q _ l r => mk q none l r
theorem mk_some {q : Pf} {v : Int} {l r : Tr} : mk q (some v) l r = .node q (some v) l r := by unfold mk; rfl
theorem mk_full {q : Pf} {o : Option Int} {l r : Tr} (h : o = none → l ≠ .nil ∧ r ≠ .nil) : mk q o l r = .node q o l r := by
  cases o with
  | some v => exact mk_some
  | none =>
    obtain ⟨h1, h2⟩ := h rfl
    unfold mk
    split
    · exact absurd rfl h1
    · exact absurd rfl h2
    · rfl
theorem com_same (p : Pf) (hp : Ok p) : com p p = p := (com_wi hp hp).2 ((wi_iff hp hp).2 ⟨Int.le_refl _, hp.fs⟩)
theorem wi_of_com {p q : Pf} (hp : Ok p) (hq : Ok q) (h : com p q = q) : wi q p = true := (com_wi hq hp).1 ((com_comm hq hp).trans h)
theorem com_of_wi {p q : Pf} (hp : Ok p) (hq : Ok q) (h : wi q p = true) : com p q = q := (com_comm hp hq).trans ((com_wi hq hp).2 h)
theorem wi_anti {p q : Pf} (hp : Ok p) (hq : Ok q) (h : wi p q = true) (h2 : wi q p = true) : p = q := by
  obtain ⟨a1, a2⟩ := (wi_iff hp hq).1 h
  obtain ⟨b1, b2⟩ := (wi_iff hq hp).1 h2
  have e : p.2 = q.2 := by omega
  exact Prod.ext (by rw [← b2, ← e]; exact hp.fs.symm) e
/-- Putting in is laying at the place. -/
theorem ins_lay {p : Pf} (hp : Ok p) (v : Int) : ∀ T : Tr, T.Inv → ins p v T = lay p (pth p T).1 (withN p v (pth p T).2)
  | .nil, _ => rfl
  | .node q o l r, h => by
    obtain ⟨h1, h2, h3, h4, h5, h6⟩ := h
    unfold ins pth
    by_cases e1 : q = p
    · subst e1
      rw [if_pos rfl, if_pos (com_same q hp)]
      simp only [lay, withN]
      rw [if_pos (com_same q hp)]
    · rw [if_neg e1]
      by_cases e2 : wi q p = true
      · have c1 := com_of_wi hp h1 e2
        rw [if_pos e2, if_neg (fun e => e1 (c1.symm.trans e)), if_pos c1]
        by_cases e3 : bit p.1 q.2 = 0
        · rw [if_pos e3, if_pos e3]
          simp only [lay, put1]
          rw [if_pos e3, ← ins_lay hp v l h5, mk_full (fun ho => ⟨ins_ne _ _ _, (h4 ho).2⟩)]
        · rw [if_neg e3, if_neg e3]
          simp only [lay, put1]
          rw [if_neg e3, ← ins_lay hp v r h6, mk_full (fun ho => ⟨(h4 ho).1, ins_ne _ _ _⟩)]
      · have c1 : ¬ com p q = q := fun e => e2 (wi_of_com hp h1 e)
        rw [if_neg e2]
        by_cases e3 : wi p q = true
        · have c2 := (com_wi hp h1).2 e3
          rw [if_pos e3, if_pos c2]
          simp only [lay, withN]
          rw [if_neg c1, if_pos c2]
        · have c2 : ¬ com p q = p := fun e => e3 ((com_wi hp h1).1 e)
          rw [if_neg e3, if_neg c2, if_neg c1]
          simp only [lay, withN]
          rw [if_neg c1, if_neg c2]
/-- Is it there? -/
theorem isN_find {p : Pf} (hp : Ok p) : ∀ T : Tr, T.Inv → isN p (pth p T).2 = (find p T).isSome
  | .nil, _ => rfl
  | .node q o l r, h => by
    obtain ⟨h1, h2, h3, h4, h5, h6⟩ := h
    unfold find pth
    by_cases e1 : q = p
    · subst e1
      rw [if_pos rfl, if_pos (com_same q hp)]
      simp [isN]
    · rw [if_neg e1]
      by_cases e2 : wi q p = true
      · have c1 := com_of_wi hp h1 e2
        rw [if_pos e2, if_neg (fun e => e1 (c1.symm.trans e)), if_pos c1]
        by_cases e3 : bit p.1 q.2 = 0
        · rw [if_pos e3, if_pos e3]; exact isN_find hp l h5
        · rw [if_neg e3, if_neg e3]; exact isN_find hp r h6
      · have c1 : ¬ com p q = q := fun e => e2 (wi_of_com hp h1 e)
        rw [if_neg e2]
        by_cases e3 : wi p q = true
        · rw [if_pos ((com_wi hp h1).2 e3)]; simp [isN, e1]
        · rw [if_neg (fun e => e3 ((com_wi hp h1).1 e)), if_neg c1]; simp [isN, e1]
/-- Taking out is laying what is left at the place. -/
theorem del_lay {p : Pf} (hp : Ok p) : ∀ T : Tr, T.Inv → isN p (pth p T).2 = true → del p T = lay p (pth p T).1 (bare (pth p T).2)
  | .nil, _, h => by simp [pth, isN] at h
  | .node q o l r, h, hn => by
    obtain ⟨h1, h2, h3, h4, h5, h6⟩ := h
    unfold pth at hn
    unfold del pth
    by_cases e1 : q = p
    · subst e1
      rw [if_pos rfl, if_pos (com_same q hp)]
      rfl
    · rw [if_neg e1]
      by_cases e2 : wi q p = true
      · have c1 := com_of_wi hp h1 e2
        have c2 : ¬ com p q = p := fun e => e1 (c1.symm.trans e)
        rw [if_neg c2, if_pos c1] at hn
        rw [if_pos e2, if_neg c2, if_pos c1]
        by_cases e3 : bit p.1 q.2 = 0
        · rw [if_pos e3] at hn
          rw [if_pos e3, if_pos e3]
          simp only [lay, put1]
          rw [if_pos e3, ← del_lay hp l h5 hn]
        · rw [if_neg e3] at hn
          rw [if_neg e3, if_neg e3]
          simp only [lay, put1]
          rw [if_neg e3, ← del_lay hp r h6 hn]
      · have c1 : ¬ com p q = q := fun e => e2 (wi_of_com hp h1 e)
        exfalso
        by_cases e3 : wi p q = true
        · rw [if_pos ((com_wi hp h1).2 e3)] at hn; simp [isN, e1] at hn
        · rw [if_neg (fun e => e3 ((com_wi hp h1).1 e)), if_neg c1] at hn; simp [isN, e1] at hn
/-- What stands at the place is right, too, and on the way down all are nodes above it. -/
theorem pth_inv {p : Pf} (hp : Ok p) : ∀ T : Tr, T.Inv → (pth p T).2.Inv ∧ ∀ t ∈ (pth p T).1, ∃ q o l r, t = .node q o l r ∧ Ok q ∧ 0 ≤ q.2 ∧ q.2 ≤ 31
  | .nil, _ => ⟨trivial, fun t h => by simp [pth] at h⟩
  | .node q o l r, h => by
    have hh := h
    obtain ⟨h1, h2, h3, h4, h5, h6⟩ := h
    unfold pth
    by_cases c1 : com p q = p
    · rw [if_pos c1]; exact ⟨hh, fun t h => by simp at h⟩
    · rw [if_neg c1]
      by_cases c2 : com p q = q
      · rw [if_pos c2]
        have hw := wi_of_com hp h1 c2
        have hb := Bel.of h1 hp hw (fun e => c1 (c2.trans e))
        by_cases e3 : bit p.1 q.2 = 0
        · rw [if_pos e3]
          obtain ⟨a1, a2⟩ := pth_inv hp l h5
          refine ⟨a1, fun t ht => ?_⟩
          rcases List.mem_cons.1 ht with rfl | ht
          · exact ⟨q, o, l, r, rfl, h1, h1.n0, hb.n31⟩
          · exact a2 t ht
        · rw [if_neg e3]
          obtain ⟨a1, a2⟩ := pth_inv hp r h6
          refine ⟨a1, fun t ht => ?_⟩
          rcases List.mem_cons.1 ht with rfl | ht
          · exact ⟨q, o, l, r, rfl, h1, h1.n0, hb.n31⟩
          · exact a2 t ht
      · rw [if_neg c2]; exact ⟨hh, fun t h => by simp at h⟩
/-- What is not there is not taken out: the tree stays. -/
theorem del_same' {p : Pf} (hp : Ok p) : ∀ T : Tr, T.Inv → find p T = none → del p T = T
  | .nil, _, _ => rfl
  | .node q o l r, h, hf => by
    obtain ⟨h1, h2, h3, h4, h5, h6⟩ := h
    unfold find at hf
    unfold del
    by_cases e1 : q = p
    · rw [if_pos e1] at hf
      subst hf
      rw [if_pos e1, mk_full h4]
    · rw [if_neg e1] at hf
      rw [if_neg e1]
      by_cases e2 : wi q p = true
      · rw [if_pos e2] at hf
        rw [if_pos e2]
        by_cases e3 : bit p.1 q.2 = 0
        · rw [if_pos e3] at hf
          rw [if_pos e3, del_same' hp l h5 hf, mk_full h4]
        · rw [if_neg e3] at hf
          rw [if_neg e3, del_same' hp r h6 hf, mk_full h4]
      · rw [if_neg e2]
theorem del_same {p : Pf} (hp : Ok p) {T : Tr} (h : T.Inv) (hn : ¬ isAt T.el p = true) : del p T = T := by
  refine del_same' hp T h ?_
  have := isAt_look (p := p) h.up
  rw [← find_el hp T h] at this
  cases hf : find p T with
  | none => rfl
  | some v => rw [hf] at this; exact absurd this.symm hn
theorem pth_len (p : Pf) : ∀ T : Tr, (pth p T).1.length ≤ T.size
  | .nil => Nat.le_refl _
  | .node q o l r => by
    have hl := pth_len p l
    have hr := pth_len p r
    unfold pth
    simp only [Tr.size]
    split
    · simp
    · split
      · split
        · simp; omega
        · simp; omega
      · simp
end Tp
end Go.Proofs.Ytdjhgahdiggahaa

namespace Go.Proofs.Ytdjhgahdiggahaa
open Go.RowKit


theorem quiet_same {P : Program} {f : FuncId} {args : Array Value} {w : World} {n : Nat} {v : Value}
    (h : Calls P f args (w.drewN n) fun e w' => e = .returned v ∧ w.drewN n = w') : Calls P f args (w.drewN n) fun e w'' => e = .returned v ∧ ∃ m, w'' = w.drewN m :=
  h.mono fun _ _ ⟨he, hm⟩ => ⟨he, n, hm.symm⟩

end Go.Proofs.Ytdjhgahdiggahaa

namespace Go.Proofs.Ytdjhgahdiggahaa
open Go.RowKit
attribute [local go_sem ↓] Go.wp_at_zero Go.wp_at_succ
open Tp (Pf Ok mn bit com)

/-- A prefix, as a value. -/
def pv (p : Pf) : Value := .agg #[.int .u32 p.1, .int .i64 p.2]

/-- Two prefixes held against each other. -/
def sameP (a n b m : Int) : Bool := decide (a = b ∧ n = m)
theorem sameP_iff {p q : Pf} : sameP p.1 p.2 q.1 q.2 = true ↔ p = q := by unfold sameP; rw [decide_eq_true_iff]; exact ⟨fun h => Prod.ext h.1 h.2, fun h => by rw [h]; exact ⟨rfl, rfl⟩⟩
theorem sameP_eq (p q : Pf) : sameP p.1 p.2 q.1 q.2 = decide (p = q) := by rw [Bool.eq_iff_iff, sameP_iff, decide_eq_true_iff]
theorem eqP (a n b m : Int) (W : World) : (binOp .eql 40 (.agg #[.int .u32 a, .int .i64 n]) (.agg #[.int .u32 b, .int .i64 m])).run Try.prog W = .ok (.bool (sameP a n b m)) W := by
  simp [go_sem, sameP]
  by_cases h1 : a = b <;> by_cases h2 : n = m <;> simp [h1, h2]
theorem neP (a n b m : Int) (W : World) : (binOp .neq 40 (.agg #[.int .u32 a, .int .i64 n]) (.agg #[.int .u32 b, .int .i64 m])).run Try.prog W = .ok (.bool (!sameP a n b m)) W := by
  simp [go_sem, sameP]
  by_cases h1 : a = b <;> by_cases h2 : n = m <;> simp [h1, h2]

end Go.Proofs.Ytdjhgahdiggahaa

namespace Go.Proofs.Ytdjhgahdiggahaa
open Go.RowKit

/-- All but these blocks stands as it was. -/
structure Chg (l : List Nat) (w w' : World) : Prop where
  low : Below 0 w w'
  rest : ∀ b, b < w.heap.size → b ∉ l → w'.heap[b]? = w.heap[b]?
theorem Chg.refl (l : List Nat) (w : World) : Chg l w w := ⟨Below.refl _ _, fun _ _ _ => rfl⟩
theorem Chg.size {l : List Nat} {w w' : World} (h : Chg l w w') : w.heap.size ≤ w'.heap.size := h.low.size
theorem Chg.trans {l : List Nat} {w w' w'' : World} (h : Chg l w w') (h' : Chg l w' w'') : Chg l w w'' :=
  ⟨h.low.trans h'.low, fun b hb hn => (h'.rest b (Nat.lt_of_lt_of_le hb h.size) hn).trans (h.rest b hb hn)⟩
theorem Chg.mono {l l' : List Nat} {w w' : World} (h : Chg l w w') (hl : ∀ b ∈ l, b ∈ l') : Chg l' w w' := ⟨h.low, fun b hb hn => h.rest b hb (fun h2 => hn (hl b h2))⟩
theorem Chg.of_below {w w' : World} (l : List Nat) (h : Below w.heap.size w w') : Chg l w w' := ⟨h.mono (Nat.zero_le _), fun b hb _ => h.block b hb⟩
theorem Chg.below {l : List Nat} {w w' : World} (h : Chg l w w') {B : Nat} (hB : B ≤ w.heap.size) (hl : ∀ b ∈ l, B ≤ b) : Below B w w' :=
  ⟨h.low.os, h.low.tape, h.low.output, h.low.size, fun b hb => h.rest b (by omega) (fun h2 => by have := hl b h2; omega)⟩
theorem Chg.set {l : List Nat} {w w' : World} (h : Chg l w w') {b : Nat} (hb : b ∈ l) (j : Nat) (x : Value) : Chg l w (w'.setCell ⟨b, j, none⟩ x) :=
  h.trans ⟨(Below.refl _ _).setCell (Nat.zero_le _) _, fun k _ hk => Below.heap_setCell _ _ _ _ (fun e => hk (by rw [e]; exact hb))⟩
theorem Chg.alloc {l : List Nat} {w w' : World} (h : Chg l w w') (o : Obj) : Chg l w (w'.alloc o) := h.trans (Chg.of_below _ ((Below.refl _ _).alloc (Nat.le_refl _) o))
theorem Chg.drew {l : List Nat} {w w' : World} (h : Chg l w w') : Chg l w w'.drew := ⟨h.low.drew, h.rest⟩
theorem Chg.blk {l : List Nat} {w w' : World} (hm : Chg l w w') {t : TypeId} {g : Nat} {cs : List Value} (h : BlkAt t g cs w) (hg : g ∉ l) : BlkAt t g cs w' := (hm.rest g h.lt hg).trans h
theorem Chg.heap {l : List Nat} {w w' : World} (hm : Chg l w w') {g : Nat} {o : Obj} (h : w.heap[g]? = some o) (hg : g ∉ l) : w'.heap[g]? = some o := (hm.rest g (Array.getElem?_eq_some_iff.1 h).1 hg).trans h
theorem Chg.owns {l : List Nat} {w w' : World} (hm : Chg l w w') {B : Nat} {e : TypeId} {size n : Nat} {v : Value} {xs : List Value} (h : w.ownsRow B e size v n xs) (hg : ∀ g, v.ownBlock = some g → g ∉ l) : w'.ownsRow B e size v n xs := by
  obtain ⟨hl, h0 | ⟨g, cap, cur, rfl, hb1, h2, hr⟩⟩ := h
  · exact ⟨hl, .inl h0⟩
  · exact ⟨hl, .inr ⟨g, cap, cur, rfl, hb1, hm.heap h2 (hg g rfl), hr⟩⟩
theorem Chg.cell {l : List Nat} {w w' : World} (hm : Chg l w w') {a : Addr} {u : Value} (h : w.cell? a = some u) (hg : a.block ∉ l) : w'.cell? a = some u := by
  rw [World.cell?_of_block (hm.rest a.block (World.block_lt_of_cell? _ _ h) hg)]; exact h
end Go.Proofs.Ytdjhgahdiggahaa

namespace Go.Proofs.Ytdjhgahdiggahaa
open Go.RowKit
attribute [local go_sem ↓] Go.wp_at_zero Go.wp_at_succ
open Tp (Pf Ok)

theorem prefLaw : WideMaps.KeyLaw Try.prog 40 := deep_law (m := 3) (by omega) (by kernel_rfl) (by kernel_rfl) (by kernel_rfl)
/-- A prefix as a key may be. -/
structure Ky (p : Pf) : Prop where
  a0 : 0 ≤ p.1
  a1 : p.1 < 4294967296
  n0 : -9223372036854775808 ≤ p.2
  n1 : p.2 ≤ 9223372036854775807
theorem key_pv {p : Pf} (h : Ky p) : ∃ l, keyOf Try.prog 40 (pv p) = some l := by
  obtain ⟨h0, h1, h2, h3⟩ := h
  have hf : (Try.prog.keyType 40 && (pv p).formed Try.prog 40) = true := by kernel_rfl
  have e0 : IntKind.u32.min = 0 := rfl
  have e1 : IntKind.u32.max = 4294967295 := rfl
  have e2 : IntKind.i64.min = -9223372036854775808 := rfl
  have e3 : IntKind.i64.max = 9223372036854775807 := rfl
  have w0 : (Lit.int .u32 p.1).wf = true := by
    show (decide (IntKind.u32.min ≤ p.1) && decide (p.1 ≤ IntKind.u32.max)) = true
    rw [e0, e1]; simp; omega
  have w1 : (Lit.int .i64 p.2).wf = true := by
    show (decide (IntKind.i64.min ≤ p.2) && decide (p.2 ≤ IntKind.i64.max)) = true
    rw [e2, e3]; simp; omega
  have k0 : ∀ d, Try.prog.keyLits (d + 1) 38 [.int .u32 p.1] = some [.int .u32 p.1] := by
    intro d
    unfold Program.keyLits
    rw [Try.underlying38]
    simp [w0]
  have k1 : ∀ d, Try.prog.keyLits (d + 1) 3 [.int .i64 p.2] = some [.int .i64 p.2] := by
    intro d
    unfold Program.keyLits
    rw [Try.underlying3]
    simp [w1]
  have c0 : Try.prog.cellsOf 40 = 2 := by kernel_rfl
  have c1 : Try.prog.cellsOf 38 = 1 := by kernel_rfl
  have c2 : Try.prog.cellsOf 3 = 1 := by kernel_rfl
  obtain ⟨m, hm⟩ : ∃ m, Try.prog.types.size = m + 1 := ⟨_, rfl⟩
  unfold keyOf
  rw [Try.underlying40]
  simp only [hf, if_true, hm]
  unfold Program.keyLits
  rw [Try.underlying40]
  simp [pv, Value.cells, c0, c1, c2, k0, k1]
theorem pv_inj {p q : Pf} (h : pv p = pv q) : p = q := by
  unfold pv at h
  simp at h
  exact Prod.ext h.1 h.2

/-- A map's block holds these, in some order of its own: that in which they came. -/
structure MAt (g : Nat) (S : List (Pf × Value)) (w : World) : Prop where
  ex : ∃ es clock, w.heap[g]? = some (.map es clock) ∧ es.toList.map (fun e => (e.key, e.val)) = S.map (fun x => (pv x.1, x.2))
  ok : ∀ x ∈ S, Ky x.1
  nd : (S.map Prod.fst).Nodup
theorem MAt.lt {g : Nat} {S : List (Pf × Value)} {w : World} (h : MAt g S w) : g < w.heap.size := by obtain ⟨es, c, hb, _⟩ := h.ex; exact (Array.getElem?_eq_some_iff.1 hb).1
theorem MAt.new (w : World) : MAt w.heap.size [] (w.alloc (.map #[] 0)) := ⟨⟨#[], 0, World.alloc_heap_new w _, rfl⟩, by simp, by simp⟩
theorem MAt.chg {g : Nat} {S : List (Pf × Value)} {w w' : World} (h : MAt g S w) {l : List Nat} (hm : Chg l w w') (hg : g ∉ l) : MAt g S w' := by
  obtain ⟨es, c, hb, e⟩ := h.ex
  exact ⟨⟨es, c, hm.heap hb hg, e⟩, h.ok, h.nd⟩
theorem MAt.later {g : Nat} {S : List (Pf × Value)} {w w' : World} (h : MAt g S w) (hb : Below w.heap.size w w') : MAt g S w' := h.chg (Chg.of_below [] hb) (by simp)
def lookM (S : List (Pf × Value)) (p : Pf) : Option Value := (S.find? fun x => decide (x.1 = p)).map Prod.snd
def putM (S : List (Pf × Value)) (p : Pf) (v : Value) : List (Pf × Value) := if p ∈ S.map Prod.fst then S.map (fun x => if x.1 = p then (p, v) else x) else S ++ [(p, v)]
def delM (S : List (Pf × Value)) (p : Pf) : List (Pf × Value) := S.filter fun x => decide (x.1 ≠ p)

theorem chg_map (w : World) (g : Nat) (o : Obj) : Chg [g] w { w with heap := w.heap.setIfInBounds g o } :=
  ⟨⟨rfl, rfl, rfl, by simp, fun b hb => by omega⟩, fun b _ hb => by
    have : g ≠ b := fun e => hb (by simp [e])
    show (w.heap.setIfInBounds g o)[b]? = _
    simp [this]⟩
theorem MAt.at {g : Nat} {S : List (Pf × Value)} {w : World} {es : Array MapEntry} (e : es.toList.map (fun e => (e.key, e.val)) = S.map (fun x => (pv x.1, x.2))) (k : Nat) : (es.toList[k]?).map (fun e => (e.key, e.val)) = (S[k]?).map (fun x => (pv x.1, x.2)) := by
  have := congrArg (fun l => l[k]?) e
  simpa only [List.getElem?_map] using this
/-- What a look at a key finds. -/
theorem MAt.find {g : Nat} {S : List (Pf × Value)} {w : World} (h : MAt g S w) {es : Array MapEntry} (e : es.toList.map (fun e => (e.key, e.val)) = S.map (fun x => (pv x.1, x.2))) {p : Pf} (hp : Ky p) (W : World) :
    ((Instr.findKey 40 (pv p) es.toList).run Try.prog W = .ok none W ∧ p ∉ S.map Prod.fst) ∨
    ∃ j v e0, (Instr.findKey 40 (pv p) es.toList).run Try.prog W = .ok (some (j, v)) W ∧ es.toList[j]? = some e0 ∧ e0.key = pv p ∧ e0.val = v ∧ S[j]? = some (p, v) := by
  obtain ⟨l, hl⟩ := key_pv hp
  have hall : ∀ x ∈ es.toList, ∃ l, keyOf Try.prog 40 x.key = some l := by
    intro x hx
    have : (x.key, x.val) ∈ S.map (fun x => (pv x.1, x.2)) := by rw [← e]; exact List.mem_map.2 ⟨x, hx, rfl⟩
    obtain ⟨y, hy, hxy⟩ := List.mem_map.1 this
    obtain ⟨l, hl⟩ := key_pv (h.ok y hy)
    exact ⟨l, by rw [← (Prod.mk.inj hxy).1]; exact hl⟩
  rcases prefLaw.find W hl es.toList hall with ⟨h1, h2⟩ | ⟨j, e0, h1, h2, h3⟩
  · refine .inl ⟨h1, fun hm => ?_⟩
    obtain ⟨x, hx, rfl⟩ := List.mem_map.1 hm
    have : (pv x.1, x.2) ∈ es.toList.map (fun e => (e.key, e.val)) := by rw [e]; exact List.mem_map.2 ⟨x, hx, rfl⟩
    obtain ⟨y, hy, hxy⟩ := List.mem_map.1 this
    exact h2 y hy (Prod.mk.inj hxy).1
  · refine .inr ⟨j, e0.val, e0, h1, h2, h3, rfl, ?_⟩
    have := MAt.at (g := g) (w := w) e j
    rw [h2] at this
    cases hs : S[j]? with
    | none => rw [hs] at this; cases this
    | some x =>
      rw [hs] at this
      simp only [Option.map_some, Option.some.injEq, Prod.mk.injEq] at this
      have e1 : x.1 = p := pv_inj (this.1.symm.trans h3)
      rw [← e1, this.2]
theorem nd_at {S : List (Pf × Value)} (h : (S.map Prod.fst).Nodup) {i j : Nat} {x y : Pf × Value} (hi : S[i]? = some x) (hj : S[j]? = some y) (e : x.1 = y.1) : i = j := by
  have a : (S.map Prod.fst)[i]? = some x.1 := by rw [List.getElem?_map, hi]; rfl
  have b : (S.map Prod.fst)[j]? = some x.1 := by rw [List.getElem?_map, hj, e]; rfl
  obtain ⟨hi', ha⟩ := List.getElem?_eq_some_iff.1 a
  obtain ⟨hj', hb⟩ := List.getElem?_eq_some_iff.1 b
  exact (List.getElem_inj h).1 (ha.trans hb.symm)
theorem lookM_at {S : List (Pf × Value)} (h : (S.map Prod.fst).Nodup) {j : Nat} {p : Pf} {v : Value} (hj : S[j]? = some (p, v)) : lookM S p = some v := by
  unfold lookM
  cases hf : S.find? (fun x => decide (x.1 = p)) with
  | none =>
    have := List.find?_eq_none.1 hf (p, v) (List.mem_of_getElem? hj)
    simp at this
  | some x =>
    have h1 := List.find?_some hf
    have h2 := List.mem_of_find?_eq_some hf
    obtain ⟨i, hi⟩ := List.getElem?_of_mem h2
    have e : x.1 = p := of_decide_eq_true h1
    have := nd_at h hi hj e
    subst this
    rw [hi] at hj
    simp at hj
    subst hj
    rfl
theorem lookM_no {S : List (Pf × Value)} {p : Pf} (h : p ∉ S.map Prod.fst) : lookM S p = none := by
  unfold lookM
  rw [List.find?_eq_none.2]
  · rfl
  · intro x hx
    simp
    rintro rfl
    exact h (List.mem_map.2 ⟨x, hx, rfl⟩)

theorem run_lookM {mt e : TypeId} (hm : Try.prog.underlying mt = some (.map 40 e)) {z : Value} (hz : ∀ w, (zeroValue e).run Try.prog w = .ok z w) {g : Nat} {S : List (Pf × Value)} {w : World} (h : MAt g S w) {p : Pf} (hp : Ky p) (c : Bool) :
    (Instr.lookup mt (.map (some g)) (pv p) c).run Try.prog w = .ok (if c then .tuple #[(lookM S p).getD z, .bool (lookM S p).isSome] else (lookM S p).getD z) w := by
  obtain ⟨es, clock, hb, e⟩ := h.ex
  obtain ⟨l, hl⟩ := key_pv hp
  have hc := prefLaw.check w es.isEmpty hl
  rcases h.find e hp w with ⟨h1, h2⟩ | ⟨j, v, e0, h1, h2, h3, h4, h5⟩
  · rw [lookM_no h2]
    simp [Instr.lookup, run_underlying hm, MapKept.run_getObj_map hb, hc, h1, hz w, Result.andThen]
  · rw [lookM_at h.nd h5]
    simp [Instr.lookup, run_underlying hm, MapKept.run_getObj_map hb, hc, h1, Result.andThen]

set_option maxRecDepth 100000 in
theorem run_updM {mt e : TypeId} (hm : Try.prog.underlying mt = some (.map 40 e)) {g : Nat} {S : List (Pf × Value)} {w : World} (h : MAt g S w) {p : Pf} (hp : Ky p) (v : Value) :
    ∃ w', (Instr.mapUpdate mt (.map (some g)) (pv p) v).run Try.prog w = .ok () w' ∧ MAt g (putM S p v) w' ∧ Chg [g] w w' := by
  obtain ⟨es, clock, hb, e⟩ := h.ex
  obtain ⟨l, hl⟩ := key_pv hp
  have hc := prefLaw.check w false hl
  rcases h.find e hp w with ⟨h1, h2⟩ | ⟨j, v0, e0, h1, h2, h3, h4, h5⟩
  · refine ⟨{ w with heap := w.heap.setIfInBounds g (.map (es.push { key := pv p, val := v, born := clock }) (clock + 1)) }, ?_, ⟨⟨_, _, (MapKept.heap_set hb).1, ?_⟩, ?_, ?_⟩, chg_map w g _⟩
    · simp [Instr.mapUpdate, run_underlying hm, MapKept.run_getObj_map hb, hc, h1, MapKept.run_setObj_map _ hb, Result.andThen]
    · unfold putM
      rw [if_neg h2, Array.toList_push, List.map_append, List.map_append, e]; rfl
    · unfold putM
      rw [if_neg h2]
      intro x hx
      rcases List.mem_append.1 hx with hx | hx
      · exact h.ok x hx
      · rw [List.mem_singleton.1 hx]; exact hp
    · unfold putM
      rw [if_neg h2, List.map_append, List.nodup_append]
      exact ⟨h.nd, by simp, fun a ha b hb' => by simp at hb'; subst hb'; exact fun e => h2 (e ▸ ha)⟩
  · have hmem : p ∈ S.map Prod.fst := List.mem_map.2 ⟨_, List.mem_of_getElem? h5, rfl⟩
    have hst := prefLaw.stays w hl
    have hes : es[j]? = some e0 := by simpa using h2
    refine ⟨{ w with heap := w.heap.setIfInBounds g (.map (es.modify j fun e => { e with key := pv p, val := v }) clock) }, ?_, ⟨⟨_, _, (MapKept.heap_set hb).1, ?_⟩, ?_, ?_⟩, chg_map w g _⟩
    · simp [Instr.mapUpdate, run_underlying hm, MapKept.run_getObj_map hb, hc, h1, hes, h3, hst, MapKept.run_setObj_map _ hb, Result.andThen]
    · unfold putM
      rw [if_pos hmem]
      apply List.ext_getElem?
      intro k
      have hk := MAt.at (g := g) (w := w) e k
      rw [List.getElem?_map, List.getElem?_map, List.getElem?_map, Array.toList_modify, List.getElem?_modify]
      cases hs : S[k]? with
      | none =>
        rw [hs] at hk
        cases he : es.toList[k]? with
        | none => rfl
        | some y => rw [he] at hk; cases hk
      | some x =>
        rw [hs] at hk
        cases he : es.toList[k]? with
        | none => rw [he] at hk; cases hk
        | some y =>
          rw [he] at hk
          simp only [Option.map_some, Option.some.injEq, Prod.mk.injEq] at hk
          by_cases hjk : j = k
          · subst hjk
            rw [hs] at h5
            simp only [Option.some.injEq] at h5
            subst h5
            simp
          · have hne : x.1 ≠ p := fun ex => hjk (nd_at h.nd h5 hs ex.symm)
            simp [hjk, hne, hk.1, hk.2]
    · unfold putM
      rw [if_pos hmem]
      intro x hx
      obtain ⟨y, hy, rfl⟩ := List.mem_map.1 hx
      split
      · exact hp
      · exact h.ok y hy
    · unfold putM
      rw [if_pos hmem, List.map_map]
      have : (Prod.fst ∘ fun x : Pf × Value => if x.1 = p then (p, v) else x) = Prod.fst := by
        funext x
        simp only [Function.comp]
        split
        · rename_i hx; exact hx.symm
        · rfl
      rw [this]; exact h.nd
theorem map_erase {α β : Type} (f : α → β) (l : List α) (i : Nat) : (l.map f).eraseIdx i = (l.eraseIdx i).map f := by
  simp [List.eraseIdx_eq_take_drop_succ, List.map_take, List.map_drop]
set_option maxRecDepth 100000 in
theorem run_delM {mt e : TypeId} (hm : Try.prog.underlying mt = some (.map 40 e)) {g : Nat} {S : List (Pf × Value)} {w : World} (h : MAt g S w) {p : Pf} (hp : Ky p) :
    ∃ w', (∀ ty, (Builtin.delete_ #[mt, 40] ty #[.map (some g), pv p]).run Try.prog w = .ok (.tuple #[]) w') ∧ MAt g (delM S p) w' ∧ Chg [g] w w' := by
  obtain ⟨es, clock, hb, e⟩ := h.ex
  obtain ⟨l, hl⟩ := key_pv hp
  have hc := prefLaw.check w es.isEmpty hl
  rcases h.find e hp w with ⟨h1, h2⟩ | ⟨j, v0, e0, h1, h2, h3, h4, h5⟩
  · have ed : delM S p = S := List.filter_eq_self.2 fun x hx => decide_eq_true fun ex => h2 (List.mem_map.2 ⟨x, hx, ex⟩)
    refine ⟨{ w with heap := w.heap.setIfInBounds g (.map es clock) }, fun ty => ?_, ⟨⟨_, _, (MapKept.heap_set hb).1, by rw [ed]; exact e⟩, by rw [ed]; exact h.ok, by rw [ed]; exact h.nd⟩, chg_map w g _⟩
    simp [Builtin.delete_, run_underlying hm, MapKept.run_getObj_map hb, hc, h1, MapKept.run_setObj_map _ hb, Result.andThen]
  · have ed : delM S p = S.eraseIdx j := by
      unfold delM
      have hlt := (List.getElem?_eq_some_iff.1 h5).1
      have ex := (List.getElem?_eq_some_iff.1 h5).2
      rw [List.eraseIdx_eq_take_drop_succ]
      have hsp : S = S.take j ++ (p, v0) :: S.drop (j + 1) := by
        rw [← ex, List.getElem_cons_drop, List.take_append_drop]
      conv => lhs; rw [hsp]
      rw [List.filter_append, List.filter_cons_of_neg (by simp)]
      congr 1
      · refine List.filter_eq_self.2 fun x hx => decide_eq_true fun ex => ?_
        obtain ⟨i, hi⟩ := List.getElem?_of_mem hx
        rw [List.getElem?_take] at hi
        split at hi
        · rename_i hij
          have := nd_at h.nd hi h5 ex
          omega
        · cases hi
      · refine List.filter_eq_self.2 fun x hx => decide_eq_true fun ex => ?_
        obtain ⟨i, hi⟩ := List.getElem?_of_mem hx
        rw [List.getElem?_drop] at hi
        have := nd_at h.nd hi h5 ex
        omega
    refine ⟨{ w with heap := w.heap.setIfInBounds g (.map (es.eraseIdxIfInBounds j) clock) }, fun ty => ?_, ⟨⟨_, _, (MapKept.heap_set hb).1, ?_⟩, ?_, ?_⟩, chg_map w g _⟩
    · simp [Builtin.delete_, run_underlying hm, MapKept.run_getObj_map hb, hc, h1, MapKept.run_setObj_map _ hb, Result.andThen]
    · rw [ed, Array.toList_eraseIdxIfInBounds, ← map_erase, e, map_erase]
    · rw [ed]; exact fun x hx => h.ok x (List.mem_of_mem_eraseIdx hx)
    · unfold delM; exact h.nd.sublist (List.filter_sublist.map _)
theorem run_lenM {mt e : TypeId} (hm : Try.prog.underlying mt = some (.map 40 e)) {g : Nat} {S : List (Pf × Value)} {w : World} (h : MAt g S w) (ty : TypeId) :
    (Builtin.len_ #[mt] ty #[.map (some g)]).run Try.prog w = .ok (.int .i64 (S.length : Nat)) w := by
  obtain ⟨es, clock, hb, e⟩ := h.ex
  have hl : es.size = S.length := by have := congrArg List.length e; simpa using this
  rw [← hl]
  simp [Builtin.len_, run_underlying hm, MapKept.run_getObj_map hb, goInt]
end Go.Proofs.Ytdjhgahdiggahaa

namespace Go.Proofs.Ytdjhgahdiggahaa
namespace Lf
open Tp (Pf)

structure En where
  own : Bool
  tk : Bool
  s : Nat → Int
  to : Int
  fe : Int
  a : Nat → Int
structure Td where
  p : Int
  k : Pf
  d : Int
abbrev En0 : En := ⟨false, false, fun _ => 255, 255, 255, fun _ => 0⟩
def upf (f : Nat → Int) (p : Nat) (v : Int) : Nat → Int := fun q => if q = p then v else f q
theorem upf_self (f : Nat → Int) (p : Nat) (v : Int) : upf f p v p = v := if_pos rfl
theorem upf_ne (f : Nat → Int) {p q : Nat} (v : Int) (h : q ≠ p) : upf f p v q = f q := if_neg h
def far (d c : Int) : Int := if c = 0 then 255 else min (d + c) 255
def dis (c s : Nat → Int) : Nat → Int
  | 0 => 255
  | k + 1 => min (dis c s k) (far (s k) (c k))
def dist (c : Nat → Int) (e : En) : Int := if e.own then 0 else if e.tk then dis c e.s 8 else 255
def En.act (e : En) : Bool := (List.range 8).any fun p => decide (e.a p ≠ 0)
theorem act_iff (e : En) : e.act = true ↔ ∃ p, p < 8 ∧ e.a p ≠ 0 := by
  unfold En.act
  simp
theorem act_no (e : En) : e.act = false ↔ ∀ p, p < 8 → e.a p = 0 := by
  rw [← Bool.not_eq_true, act_iff]
  constructor
  · intro h p hp
    rcases Int.lt_trichotomy (e.a p) 0 with h1 | h1 | h1
    · exact absurd ⟨p, hp, by omega⟩ h
    · exact h1
    · exact absurd ⟨p, hp, by omega⟩ h
  · rintro h ⟨p, hp, h1⟩
    exact h1 (h p hp)
def told (c : Nat → Int) (p : Pf) (d : Int) (k : Nat) : List Td := ((List.range k).filter fun q => decide (c q ≠ 0)).map fun (q : Nat) => ⟨q, p, d⟩
theorem told_succ (c : Nat → Int) (p : Pf) (d : Int) (k : Nat) : told c p d (k + 1) = told c p d k ++ (if c k = 0 then [] else [⟨k, p, d⟩]) := by
  unfold told
  rw [List.range_succ, List.filter_append, List.map_append]
  by_cases h : c k = 0 <;> simp [h]
def tellA (c : Nat → Int) (k : Nat) (a : Nat → Int) : Nat → Int := fun q => if q < k ∧ c q ≠ 0 then a q + 1 else a q
theorem tellA_zero (c : Nat → Int) (a : Nat → Int) : tellA c 0 a = a := by funext q; simp [tellA]
theorem tellA_succ (c : Nat → Int) (k : Nat) (a : Nat → Int) : tellA c (k + 1) a = if c k = 0 then tellA c k a else upf (tellA c k a) k (tellA c k a k + 1) := by
  funext q
  unfold tellA upf
  by_cases h : c k = 0
  · rw [if_pos h]
    by_cases hq : q = k
    · subst hq; simp [h]
    · have : (q < k + 1 ∧ c q ≠ 0) ↔ (q < k ∧ c q ≠ 0) := by constructor <;> rintro ⟨h1, h2⟩ <;> exact ⟨by omega, h2⟩
      simp only [this]
  · rw [if_neg h]
    by_cases hq : q = k
    · subst hq; simp [h]
    · have : (q < k + 1 ∧ c q ≠ 0) ↔ (q < k ∧ c q ≠ 0) := by constructor <;> rintro ⟨h1, h2⟩ <;> exact ⟨by omega, h2⟩
      simp only [this, if_neg hq]
/-- An entry is looked at: what becomes of it, and what is told. -/
def look (c : Nat → Int) (p : Pf) (e : En) : En × List Td :=
  if e.act then ({ e with fe := min e.fe (dist c e) }, [])
  else if e.to = dist c e then ({ e with fe := min e.to (dist c e) }, [])
  else if told c p (dist c e) 8 = [] then ({ e with to := dist c e, fe := dist c e }, [])
  else ({ e with fe := min e.to (dist c e), to := dist c e, a := tellA c 8 e.a }, told c p (dist c e) 8)

/-- Entries by their prefixes. -/
abbrev Es := List (Pf × En)
def keys (L : Es) : List Pf := L.map Prod.fst
def getE (L : Es) (q : Pf) : Option En := (L.find? fun x => decide (x.1 = q)).map Prod.snd
def atK (q : Pf) (f : En → En) (L : Es) : Es := L.map fun x => if x.1 = q then (x.1, f x.2) else x
def mapIn (K : List Pf) (f : En → En) (L : Es) : Es := L.map fun x => if x.1 ∈ K then (x.1, f x.2) else x
def outIn (K : List Pf) (o : Pf → En → List Td) (L : Es) : List Td := K.flatMap fun q => match getE L q with | some e => o q e | none => []
theorem keys_atK (q : Pf) (f : En → En) (L : Es) : keys (atK q f L) = keys L := by
  unfold keys atK
  rw [List.map_map]
  congr 1
  funext x
  simp only [Function.comp]
  split <;> rfl
theorem keys_mapIn (K : List Pf) (f : En → En) (L : Es) : keys (mapIn K f L) = keys L := by
  unfold keys mapIn
  rw [List.map_map]
  congr 1
  funext x
  simp only [Function.comp]
  split <;> rfl
theorem key_inj {L : Es} (h : (keys L).Nodup) {x y : Pf × En} (hx : x ∈ L) (hy : y ∈ L) (e : x.1 = y.1) : x = y := by
  obtain ⟨i, hi⟩ := List.getElem?_of_mem hx
  obtain ⟨j, hj⟩ := List.getElem?_of_mem hy
  have a : (keys L)[i]? = some x.1 := by unfold keys; rw [List.getElem?_map, hi]; rfl
  have b : (keys L)[j]? = some x.1 := by unfold keys; rw [List.getElem?_map, hj, e]; rfl
  obtain ⟨hi', ha⟩ := List.getElem?_eq_some_iff.1 a
  obtain ⟨hj', hb⟩ := List.getElem?_eq_some_iff.1 b
  have := (List.getElem_inj h).1 (ha.trans hb.symm)
  subst this
  rw [hi] at hj
  exact Option.some.inj hj
theorem getE_of {L : Es} (h : (keys L).Nodup) {q : Pf} {e : En} (hm : (q, e) ∈ L) : getE L q = some e := by
  unfold getE
  cases hf : L.find? (fun x => decide (x.1 = q)) with
  | none =>
    have := List.find?_eq_none.1 hf _ hm
    simp at this
  | some x =>
    have h1 : x.1 = q := of_decide_eq_true (List.find?_some (p := fun x : Pf × En => decide (x.1 = q)) hf)
    have := key_inj h (List.mem_of_find?_eq_some hf) hm h1
    rw [this]; rfl
theorem getE_mem {L : Es} {q : Pf} {e : En} (h : getE L q = some e) : (q, e) ∈ L := by
  unfold getE at h
  cases hf : L.find? (fun x => decide (x.1 = q)) with
  | none => rw [hf] at h; cases h
  | some x =>
    rw [hf] at h
    have h1 : x.1 = q := of_decide_eq_true (List.find?_some (p := fun x : Pf × En => decide (x.1 = q)) hf)
    have h2 := List.mem_of_find?_eq_some hf
    simp only [Option.map_some, Option.some.injEq] at h
    rw [← h1, ← h]; exact h2
theorem getE_none {L : Es} {q : Pf} : getE L q = none ↔ q ∉ keys L := by
  unfold getE keys
  rw [Option.map_eq_none_iff, List.find?_eq_none]
  constructor
  · intro h hm
    obtain ⟨x, hx, rfl⟩ := List.mem_map.1 hm
    simpa using h x hx
  · intro h x hx
    simp only [decide_eq_true_eq]
    rintro rfl
    exact h (List.mem_map.2 ⟨x, hx, rfl⟩)
theorem getE_key {L : Es} {q : Pf} (h : q ∈ keys L) : ∃ e, getE L q = some e := by
  cases he : getE L q with
  | none => exact absurd h (getE_none.1 he)
  | some e => exact ⟨e, rfl⟩
theorem getE_mapIn {K : List Pf} (f : En → En) {L : Es} {q : Pf} (h : q ∉ K) : getE (mapIn K f L) q = getE L q := by
  unfold getE mapIn
  induction L with
  | nil => rfl
  | cons x L ih =>
    rw [List.map_cons, List.find?_cons, List.find?_cons]
    by_cases hx : x.1 = q
    · have hk : x.1 ∉ K := by rw [hx]; exact h
      rw [if_neg hk]
      simp only [hx, decide_true, Option.map_some]
    · have : (if x.1 ∈ K then (x.1, f x.2) else x).1 = x.1 := by split <;> rfl
      rw [this]
      simp only [hx, decide_false]
      exact ih
theorem mapIn_nil (f : En → En) (L : Es) : mapIn [] f L = L := by unfold mapIn; simp
theorem mapIn_snoc {K : List Pf} {q : Pf} (f : En → En) (L : Es) (h : q ∉ K) : mapIn (K ++ [q]) f L = atK q f (mapIn K f L) := by
  unfold mapIn atK
  rw [List.map_map]
  apply List.map_congr_left
  intro x _
  simp only [Function.comp, List.mem_append, List.mem_singleton]
  by_cases h1 : x.1 ∈ K
  · have h2 : x.1 ≠ q := fun e => h (e ▸ h1)
    simp [h1, h2]
  · by_cases h2 : x.1 = q
    · rw [if_pos (Or.inr h2), if_neg h1, if_pos h2]
    · rw [if_neg (by rintro (h | h) <;> contradiction), if_neg h1, if_neg h2]
theorem mapIn_all {K : List Pf} (f : En → En) {L : Es} (h : ∀ x ∈ L, x.1 ∈ K) : mapIn K f L = L.map fun x => (x.1, f x.2) := by
  unfold mapIn
  exact List.map_congr_left fun x hx => if_pos (h x hx)
theorem outIn_snoc (K : List Pf) (q : Pf) (o : Pf → En → List Td) (L : Es) : outIn (K ++ [q]) o L = outIn K o L ++ (match getE L q with | some e => o q e | none => []) := by
  unfold outIn; simp
theorem outIn_all {o : Pf → En → List Td} {L : Es} (h : (keys L).Nodup) : outIn (keys L) o L = L.flatMap fun x => o x.1 x.2 := by
  unfold outIn keys
  rw [List.flatMap_map]
  have : ∀ x ∈ L, (match getE L x.1 with | some e => o x.1 e | none => []) = o x.1 x.2 := fun x hx => by rw [getE_of h (e := x.2) hx]
  rw [List.flatMap_def, List.flatMap_def]
  congr 1
  exact List.map_congr_left this
/-- An entry comes, in order. -/
def ins (q : Pf) (e : En) (L : Es) : Es := (L.takeWhile fun x => decide (Tp.lt x.1 q)) ++ (q, e) :: L.dropWhile fun x => decide (Tp.lt x.1 q)
theorem ins_perm (q : Pf) (e : En) (L : Es) : (ins q e L).Perm ((q, e) :: L) := by
  unfold ins
  refine List.perm_middle.trans ?_
  rw [List.takeWhile_append_dropWhile]

structure Co where
  fr : Int
  c : Nat → Int
  L : Es
structure Ev where
  k : Int
  po : Int
  co : Int
  q : Pf
  d : Int
def lookAll (σ : Co) : Co × List Td := ({ σ with L := σ.L.map fun x => (x.1, (look σ.c x.1 x.2).1) }, σ.L.flatMap fun x => (look σ.c x.1 x.2).2)
def quiet (p : Nat) (e : En) : En := { e with s := upf e.s p 255, a := upf e.a p 0 }
def down (σ : Co) (p : Nat) : Co × List Td := lookAll ⟨σ.fr, upf σ.c p 0, σ.L.map fun x => (x.1, quiet p x.2)⟩
def upE (p : Nat) (e : En) : En := if e.to = 255 then e else { e with a := upf e.a p (e.a p + 1) }
def upO (p : Nat) (q : Pf) (e : En) : List Td := if e.to = 255 then [] else [⟨p, q, e.to⟩]
def up (σ : Co) (p : Nat) (v : Int) : Co × List Td := (⟨σ.fr, upf σ.c p v, σ.L.map fun x => (x.1, upE p x.2)⟩, σ.L.flatMap fun x => upO p x.1 x.2)
def portUp (σ : Co) (p : Nat) (v : Int) : Co × List Td := if σ.c p = 0 then up σ p v else ((up (down σ p).1 p v).1, (down σ p).2 ++ (up (down σ p).1 p v).2)
def cost (σ : Co) (p : Nat) (v : Int) : Co × List Td := lookAll ⟨σ.fr, upf σ.c p v, σ.L⟩
def lookK (σ : Co) (q : Pf) : Co × List Td := ({ σ with L := atK q (fun e => (look σ.c q e).1) σ.L }, outIn [q] (fun q e => (look σ.c q e).2) σ.L)
def entry (σ : Co) (q : Pf) : Co := match getE σ.L q with | some _ => σ | none => { σ with L := ins q En0 σ.L }
def heard (σ : Co) (p : Nat) (q : Pf) (d : Int) : Co × List Td := lookK { entry σ q with L := atK q (fun e => { e with s := upf e.s p d }) (entry σ q).L } q
def less (p : Nat) (e : En) : En := { e with a := upf e.a p (e.a p - 1) }
def acked (σ : Co) (p : Nat) (q : Pf) : Co × List Td :=
  match getE σ.L q with
  | some e => if (less p e).act then ({ σ with L := atK q (less p) σ.L }, []) else lookK { σ with L := atK q (less p) σ.L } q
  | none => (σ, [])
def En.there (e : En) : Bool := e.own || ((List.range 8).any fun p => decide (e.s p ≠ 255)) || decide (e.to ≠ 255) || e.act
def leave (σ : Co) : Co := { σ with fr := σ.fr + (σ.L.countP fun x => !x.2.there && x.2.tk), L := σ.L.filter fun x => x.2.there }
def waits (L : Es) : List Pf := keys (L.filter fun x => !x.2.tk)
def takeE (c : Nat → Int) (q : Pf) (e : En) : En × List Td := look c q { e with tk := true }
def take (σ : Co) : Co × List Td :=
  let K := (waits σ.L).take σ.fr.toNat
  (⟨σ.fr - K.length, σ.c, σ.L.map fun x => if x.1 ∈ K then (x.1, (takeE σ.c x.1 x.2).1) else x⟩, outIn K (fun q e => (takeE σ.c q e).2) σ.L)
end Lf
end Go.Proofs.Ytdjhgahdiggahaa
