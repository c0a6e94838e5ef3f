/- Walks of small functions of the layer wire and of its reference: what they return, and that they leave memory alone but for new blocks.
   The way down to a prefix's place, and what is laid there: plainly. -/
import Derived.Test.YtbfkjdnopiadjaaZ01
import Derived.Test.YtbfkjdnopiadjaaZ02

set_option linter.unusedSimpArgs false
set_option linter.unusedVariables false
namespace Go.Proofs.Ytbfkjdnopiadjaa
namespace Tp
open Wp

/-- The trees on the way down to a prefix's place, and what stands there. -/
def pth (p : Pf) : Tr → List Tr × Tr
  | .nil => ([], .nil)
  | .node q o l r =>
    if com p q = p then ([], .node q o l r)
    else if com p q = q then (if bit p.1 q.2 = 0 then (.node q o l r :: (pth p l).1, (pth p l).2) else (.node q o l r :: (pth p r).1, (pth p r).2))
    else ([], .node q o l r)
/-- A tree with another one on a prefix's side. -/
def put1 (p : Pf) (n : Tr) : Tr → Tr
  | .nil => .nil
  | .node q o l r => if bit p.1 q.2 = 0 then mk q o n r else mk q o l n
/-- What is laid at a prefix's place. -/
def lay (p : Pf) : List Tr → Tr → Tr
  | [], n => n
  | t :: ts, n => put1 p (lay p ts n) t
theorem lay_append (p : Pf) : ∀ (a b : List Tr) (n : Tr), lay p (a ++ b) n = lay p a (lay p b n)
  | [], _, _ => rfl
  | t :: a, b, n => by simp only [List.cons_append, lay]; rw [lay_append p a b n]
/-- What stands at a prefix's place, once it is put in. -/
def withN (p : Pf) (v : Int) : Tr → Tr
  | .nil => .node p (some v) .nil .nil
  | .node q o l r =>
    if com p q = q then .node p (some v) l r
    else if com p q = p then (if bit q.1 p.2 = 0 then .node p (some v) (.node q o l r) .nil else .node p (some v) .nil (.node q o l r))
    else (if bit p.1 (com p q).2 = 0 then .node (com p q) none (.node p (some v) .nil .nil) (.node q o l r) else .node (com p q) none (.node q o l r) (.node p (some v) .nil .nil))
/-- Is it the node of a prefix, and that there? -/
def isN (p : Pf) : Tr → Bool
  | .nil => false
  | .node q o _ _ => o.isSome && decide (q = p)
/-- What stands where a node was, once its prefix is gone. -/
def bare : Tr → Tr
  | .nil => .nil
  | .node q _ l r => mk q none l r
theorem mk_some {q : Pf} {v : Int} {l r : Tr} : mk q (some v) l r = .node q (some v) l r := by unfold mk; rfl
theorem mk_full {q : Pf} {o : Option Int} {l r : Tr} (h : o = none → l ≠ .nil ∧ r ≠ .nil) : mk q o l r = .node q o l r := by
  cases o with
  | some v => exact mk_some
  | none =>
    obtain ⟨h1, h2⟩ := h rfl
    unfold mk
    split
    · exact absurd rfl h1
    · exact absurd rfl h2
    · rfl
theorem com_same (p : Pf) (hp : Ok p) : com p p = p := (com_wi hp hp).2 ((wi_iff hp hp).2 ⟨Int.le_refl _, hp.fs⟩)
theorem wi_of_com {p q : Pf} (hp : Ok p) (hq : Ok q) (h : com p q = q) : wi q p = true := (com_wi hq hp).1 ((com_comm hq hp).trans h)
theorem com_of_wi {p q : Pf} (hp : Ok p) (hq : Ok q) (h : wi q p = true) : com p q = q := (com_comm hp hq).trans ((com_wi hq hp).2 h)
theorem wi_anti {p q : Pf} (hp : Ok p) (hq : Ok q) (h : wi p q = true) (h2 : wi q p = true) : p = q := by
  obtain ⟨a1, a2⟩ := (wi_iff hp hq).1 h
  obtain ⟨b1, b2⟩ := (wi_iff hq hp).1 h2
  have e : p.2 = q.2 := by omega
  exact Prod.ext (by rw [← b2, ← e]; exact hp.fs.symm) e
/-- Putting in is laying at the place. -/
theorem ins_lay {p : Pf} (hp : Ok p) (v : Int) : ∀ T : Tr, T.Inv → ins p v T = lay p (pth p T).1 (withN p v (pth p T).2)
  | .nil, _ => rfl
  | .node q o l r, h => by
    obtain ⟨h1, h2, h3, h4, h5, h6⟩ := h
    unfold ins pth
    by_cases e1 : q = p
    · subst e1
      rw [if_pos rfl, if_pos (com_same q hp)]
      simp only [lay, withN]
      rw [if_pos (com_same q hp)]
    · rw [if_neg e1]
      by_cases e2 : wi q p = true
      · have c1 := com_of_wi hp h1 e2
        rw [if_pos e2, if_neg (fun e => e1 (c1.symm.trans e)), if_pos c1]
        by_cases e3 : bit p.1 q.2 = 0
        · rw [if_pos e3, if_pos e3]
          simp only [lay, put1]
          rw [if_pos e3, ← ins_lay hp v l h5, mk_full (fun ho => ⟨ins_ne _ _ _, (h4 ho).2⟩)]
        · rw [if_neg e3, if_neg e3]
          simp only [lay, put1]
          rw [if_neg e3, ← ins_lay hp v r h6, mk_full (fun ho => ⟨(h4 ho).1, ins_ne _ _ _⟩)]
      · have c1 : ¬ com p q = q := fun e => e2 (wi_of_com hp h1 e)
        rw [if_neg e2]
        by_cases e3 : wi p q = true
        · have c2 := (com_wi hp h1).2 e3
          rw [if_pos e3, if_pos c2]
          simp only [lay, withN]
          rw [if_neg c1, if_pos c2]
        · have c2 : ¬ com p q = p := fun e => e3 ((com_wi hp h1).1 e)
          rw [if_neg e3, if_neg c2, if_neg c1]
          simp only [lay, withN]
          rw [if_neg c1, if_neg c2]
/-- Is it there? -/
theorem isN_find {p : Pf} (hp : Ok p) : ∀ T : Tr, T.Inv → isN p (pth p T).2 = (find p T).isSome
  | .nil, _ => rfl
  | .node q o l r, h => by
    obtain ⟨h1, h2, h3, h4, h5, h6⟩ := h
    unfold find pth
    by_cases e1 : q = p
    · subst e1
      rw [if_pos rfl, if_pos (com_same q hp)]
      simp [isN]
    · rw [if_neg e1]
      by_cases e2 : wi q p = true
      · have c1 := com_of_wi hp h1 e2
        rw [if_pos e2, if_neg (fun e => e1 (c1.symm.trans e)), if_pos c1]
        by_cases e3 : bit p.1 q.2 = 0
        · rw [if_pos e3, if_pos e3]; exact isN_find hp l h5
        · rw [if_neg e3, if_neg e3]; exact isN_find hp r h6
      · have c1 : ¬ com p q = q := fun e => e2 (wi_of_com hp h1 e)
        rw [if_neg e2]
        by_cases e3 : wi p q = true
        · rw [if_pos ((com_wi hp h1).2 e3)]; simp [isN, e1]
        · rw [if_neg (fun e => e3 ((com_wi hp h1).1 e)), if_neg c1]; simp [isN, e1]
/-- Taking out is laying what is left at the place. -/
theorem del_lay {p : Pf} (hp : Ok p) : ∀ T : Tr, T.Inv → isN p (pth p T).2 = true → del p T = lay p (pth p T).1 (bare (pth p T).2)
  | .nil, _, h => by simp [pth, isN] at h
  | .node q o l r, h, hn => by
    obtain ⟨h1, h2, h3, h4, h5, h6⟩ := h
    unfold pth at hn
    unfold del pth
    by_cases e1 : q = p
    · subst e1
      rw [if_pos rfl, if_pos (com_same q hp)]
      rfl
    · rw [if_neg e1]
      by_cases e2 : wi q p = true
      · have c1 := com_of_wi hp h1 e2
        have c2 : ¬ com p q = p := fun e => e1 (c1.symm.trans e)
        rw [if_neg c2, if_pos c1] at hn
        rw [if_pos e2, if_neg c2, if_pos c1]
        by_cases e3 : bit p.1 q.2 = 0
        · rw [if_pos e3] at hn
          rw [if_pos e3, if_pos e3]
          simp only [lay, put1]
          rw [if_pos e3, ← del_lay hp l h5 hn]
        · rw [if_neg e3] at hn
          rw [if_neg e3, if_neg e3]
          simp only [lay, put1]
          rw [if_neg e3, ← del_lay hp r h6 hn]
      · have c1 : ¬ com p q = q := fun e => e2 (wi_of_com hp h1 e)
        exfalso
        by_cases e3 : wi p q = true
        · rw [if_pos ((com_wi hp h1).2 e3)] at hn; simp [isN, e1] at hn
        · rw [if_neg (fun e => e3 ((com_wi hp h1).1 e)), if_neg c1] at hn; simp [isN, e1] at hn
/-- What stands at the place is right, too, and on the way down all are nodes above it. -/
theorem pth_inv {p : Pf} (hp : Ok p) : ∀ T : Tr, T.Inv → (pth p T).2.Inv ∧ ∀ t ∈ (pth p T).1, ∃ q o l r, t = .node q o l r ∧ Ok q ∧ 0 ≤ q.2 ∧ q.2 ≤ 31
  | .nil, _ => ⟨trivial, fun t h => by simp [pth] at h⟩
  | .node q o l r, h => by
    have hh := h
    obtain ⟨h1, h2, h3, h4, h5, h6⟩ := h
    unfold pth
    by_cases c1 : com p q = p
    · rw [if_pos c1]; exact ⟨hh, fun t h => by simp at h⟩
    · rw [if_neg c1]
      by_cases c2 : com p q = q
      · rw [if_pos c2]
        have hw := wi_of_com hp h1 c2
        have hb := Bel.of h1 hp hw (fun e => c1 (c2.trans e))
        by_cases e3 : bit p.1 q.2 = 0
        · rw [if_pos e3]
          obtain ⟨a1, a2⟩ := pth_inv hp l h5
          refine ⟨a1, fun t ht => ?_⟩
          rcases List.mem_cons.1 ht with rfl | ht
          · exact ⟨q, o, l, r, rfl, h1, h1.n0, hb.n31⟩
          · exact a2 t ht
        · rw [if_neg e3]
          obtain ⟨a1, a2⟩ := pth_inv hp r h6
          refine ⟨a1, fun t ht => ?_⟩
          rcases List.mem_cons.1 ht with rfl | ht
          · exact ⟨q, o, l, r, rfl, h1, h1.n0, hb.n31⟩
          · exact a2 t ht
      · rw [if_neg c2]; exact ⟨hh, fun t h => by simp at h⟩
/-- What is not there is not taken out: the tree stays. -/
theorem del_same' {p : Pf} (hp : Ok p) : ∀ T : Tr, T.Inv → find p T = none → del p T = T
  | .nil, _, _ => rfl
  | .node q o l r, h, hf => by
    obtain ⟨h1, h2, h3, h4, h5, h6⟩ := h
    unfold find at hf
    unfold del
    by_cases e1 : q = p
    · rw [if_pos e1] at hf
      subst hf
      rw [if_pos e1, mk_full h4]
    · rw [if_neg e1] at hf
      rw [if_neg e1]
      by_cases e2 : wi q p = true
      · rw [if_pos e2] at hf
        rw [if_pos e2]
        by_cases e3 : bit p.1 q.2 = 0
        · rw [if_pos e3] at hf
          rw [if_pos e3, del_same' hp l h5 hf, mk_full h4]
        · rw [if_neg e3] at hf
          rw [if_neg e3, del_same' hp r h6 hf, mk_full h4]
      · rw [if_neg e2]
theorem del_same {p : Pf} (hp : Ok p) {T : Tr} (h : T.Inv) (hn : ¬ isAt T.el p = true) : del p T = T := by
  refine del_same' hp T h ?_
  have := isAt_look (p := p) h.up
  rw [← find_el hp T h] at this
  cases hf : find p T with
  | none => rfl
  | some v => rw [hf] at this; exact absurd this.symm hn
theorem pth_len (p : Pf) : ∀ T : Tr, (pth p T).1.length ≤ T.size
  | .nil => Nat.le_refl _
  | .node q o l r => by
    have hl := pth_len p l
    have hr := pth_len p r
    unfold pth
    simp only [Tr.size]
    split
    · simp
    · split
      · split
        · simp; omega
        · simp; omega
      · simp
end Tp
end Go.Proofs.Ytbfkjdnopiadjaa

namespace Go.Proofs.Ytbfkjdnopiadjaa
open Go.RowKit
theorem xor_shr {a b n : Int} (ha : 0 ≤ a) (ha2 : a < 4294967296) (hb : 0 ≤ b) (hb2 : b < 4294967296) (h : Wp.fst a n = a) :
    (bits BinOp.xor IntKind.u32 a b / 2 ^ (32 - n).toNat == 0) = decide (Wp.fst b n = a) := by
  rw [u32_xor a b ha ha2 hb hb2]
  obtain ⟨a', rfl⟩ := Int.eq_ofNat_of_zero_le ha
  obtain ⟨b', rfl⟩ := Int.eq_ofNat_of_zero_le hb
  exact Wp.xor_fst a' b' _ n rfl h

end Go.Proofs.Ytbfkjdnopiadjaa
