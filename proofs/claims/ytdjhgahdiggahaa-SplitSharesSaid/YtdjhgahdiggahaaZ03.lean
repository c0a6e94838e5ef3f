/- Walks of the reference's looks at prefixes, of Within and of both orders.
   Walks of small functions of the layer wire and of its reference: what they return, and that they leave memory alone but for new blocks.
   The way down to a prefix's place, and what is laid there: plainly.
   The longest prefix that two are within, as the program reckons it; a side: plainly.
   What the last one, and neighbours, of those that have an address are; what nothing leaves: plainly.
   A rising list of entries by places; those that have an address, by rising length: plainly.
   A tree's nodes are its prefixes, and where two neighbours part: plainly.
   Trees of prefixes, plainly: taken out, looked up; which have an address. -/
import Derived.Lib.BitFns
import Derived.Test.YtdjhgahdiggahaaZ01
import Derived.Test.YtdjhgahdiggahaaZ02

set_option linter.unusedSimpArgs false
set_option linter.unusedVariables false
namespace Go.Proofs.Ytdjhgahdiggahaa
namespace Tp
open Wp

/-- A node, if something needs it. -/
def mk (q : Pf) : Option Int → Tr → Tr → Tr
  | none, .nil, r => r
  | none, l, .nil => l
  | w, l, r => .node q w l r
theorem mk_pl (q : Pf) (w : Option Int) (l r : Tr) : ∀ x ∈ (mk q w l r).pl, x = q ∨ x ∈ l.pl ∨ x ∈ r.pl := by
  intro x hx
  unfold mk at hx
  split at hx
  · exact .inr (.inr hx)
  · exact .inr (.inl hx)
  · simpa [Tr.pl] using hx
theorem mk_el (q : Pf) (w : Option Int) (l r : Tr) : (mk q w l r).el = one q w ++ (l.el ++ r.el) := by
  unfold mk
  split
  · simp [Tr.el, one]
  · simp [Tr.el, one]
  · rfl
theorem mk_inv {q : Pf} {w : Option Int} {l r : Tr} (h1 : Ok q) (h2 : ∀ x ∈ l.pl, Bel q 0 x) (h3 : ∀ x ∈ r.pl, Bel q 1 x) (h5 : l.Inv) (h6 : r.Inv) : (mk q w l r).Inv := by
  unfold mk
  split
  · exact h6
  · exact h5
  · rename_i n1 n2
    refine ⟨h1, h2, h3, fun h => ?_, h5, h6⟩
    subst h
    exact ⟨fun e => n1 rfl e, fun e => n2 rfl e⟩
/-- Taken out. -/
def del (p : Pf) : Tr → Tr
  | .nil => .nil
  | .node q w l r =>
    if q = p then mk q none l r
    else if wi q p = true then (if bit p.1 q.2 = 0 then mk q w (del p l) r else mk q w l (del p r))
    else .node q w l r
theorem del_pl (p : Pf) : ∀ T : Tr, ∀ x ∈ (del p T).pl, x ∈ T.pl
  | .nil, x, hx => hx
  | .node q w l r, x, hx => by
    unfold del at hx
    simp only [Tr.pl, List.mem_cons, List.mem_append]
    split at hx
    · exact mk_pl _ _ _ _ x hx
    · split at hx
      · split at hx
        · rcases mk_pl _ _ _ _ x hx with h | h | h
          · exact .inl h
          · exact .inr (.inl (del_pl p l x h))
          · exact .inr (.inr h)
        · rcases mk_pl _ _ _ _ x hx with h | h | h
          · exact .inl h
          · exact .inr (.inl h)
          · exact .inr (.inr (del_pl p r x h))
      · simpa [Tr.pl] using hx
theorem del_inv (p : Pf) : ∀ T : Tr, T.Inv → (del p T).Inv
  | .nil, _ => trivial
  | .node q w l r, h => by
    have hh := h
    obtain ⟨h1, h2, h3, h4, h5, h6⟩ := h
    unfold del
    split
    · exact mk_inv h1 h2 h3 h5 h6
    · split
      · split
        · exact mk_inv h1 (fun x hx => h2 x (del_pl p l x hx)) h3 (del_inv p l h5) h6
        · exact mk_inv h1 h2 (fun x hx => h3 x (del_pl p r x hx)) h5 (del_inv p r h6)
      · exact hh
theorem delE_app (A B : List En) (p : Pf) : delE (A ++ B) p = delE A p ++ delE B p := List.filter_append ..
theorem delE_no {A : List En} {p : Pf} (h : ∀ x ∈ A, x.1 ≠ p) : delE A p = A := List.filter_eq_self.2 fun x hx => decide_eq_true (h x hx)
theorem one_key {q : Pf} {w : Option Int} : ∀ x ∈ one q w, x.1 = q := by
  intro x hx
  cases w with
  | none => simp [one] at hx
  | some w => simp [one] at hx; rw [hx]
/-- Where all is that lies below a node on its ways. -/
theorem wi_trans {p q : Pf} {b : Int} {x : Pf} (hp : Ok p) (hq : Ok q) (hx : Bel q b x) (h : wi p q = true) : wi p x = true := by
  obtain ⟨h1, h2⟩ := (wi_iff hp hq).1 h
  refine (wi_iff hp hx.ok).2 ⟨by have := hx.len; omega, ?_⟩
  have e := hx.fs
  have e2 : fst x.1 q.2 = fst q.1 q.2 := by rw [hq.fs]; exact e
  exact (fst_eq_less hp.n0 h1 hq.n1 e2).trans h2
theorem del_el {p : Pf} (hp : Ok p) : ∀ T : Tr, T.Inv → (del p T).el = delE T.el p
  | .nil, _ => rfl
  | .node q w l r, h => by
    obtain ⟨h1, h2, h3, h4, h5, h6⟩ := h
    have l1 : ∀ x ∈ l.el, Bel q 0 x.1 := fun x hx => h2 _ (l.el_pl x hx)
    have r1 : ∀ x ∈ r.el, Bel q 1 x.1 := fun x hx => h3 _ (r.el_pl x hx)
    unfold del
    by_cases e1 : q = p
    · rw [if_pos e1, mk_el]
      subst e1
      simp only [Tr.el]
      rw [delE_app, delE_app, delE_no (fun x hx => (lt_ne (l1 x hx).lt).symm), delE_no (fun x hx => (lt_ne (r1 x hx).lt).symm)]
      congr 1
      cases w with
      | none => rfl
      | some w => simp [one, delE]
    · rw [if_neg e1]
      have oq : delE (one q w) p = one q w := delE_no (fun x hx => by rw [one_key x hx]; exact e1)
      by_cases e2 : wi q p = true
      · rw [if_pos e2]
        have hb := Bel.of h1 hp e2 e1
        by_cases e3 : bit p.1 q.2 = 0
        · rw [if_pos e3, mk_el]
          rw [e3] at hb
          simp only [Tr.el]
          rw [del_el hp l h5, delE_app, delE_app, oq, delE_no (fun x hx => (lt_ne (Bel.sides h1 hb (r1 x hx))).symm)]
        · rw [if_neg e3, mk_el]
          have e4 : bit p.1 q.2 = 1 := by rcases bit_or p.1 q.2 with h | h; exact absurd h e3; exact h
          rw [e4] at hb
          simp only [Tr.el]
          rw [del_el hp r h6, delE_app, delE_app, oq, delE_no (fun x hx => lt_ne (Bel.sides h1 (l1 x hx) hb))]
      · rw [if_neg e2]
        refine (delE_no (fun x hx e => ?_)).symm
        have hx2 := (Tr.node q w l r).el_pl x hx
        simp only [Tr.pl, List.mem_cons, List.mem_append] at hx2
        rw [e] at hx2
        rcases hx2 with h | h | h
        · exact e1 h.symm
        · exact e2 ((h2 _ h).wi h1)
        · exact e2 ((h3 _ h).wi h1)
/-- Looked up. -/
def find (p : Pf) : Tr → Option Int
  | .nil => none
  | .node q w l r => if q = p then w else if wi q p = true then (if bit p.1 q.2 = 0 then find p l else find p r) else none
def look (L : List En) (p : Pf) : Option Int := (L.find? fun x => decide (x.1 = p)).map Prod.snd
theorem look_app (A B : List En) (p : Pf) : look (A ++ B) p = (look A p).or (look B p) := by
  unfold look
  rw [List.find?_append]
  cases (A.find? fun x => decide (x.1 = p)) <;> simp
theorem look_no {A : List En} {p : Pf} (h : ∀ x ∈ A, x.1 ≠ p) : look A p = none := by
  unfold look
  rw [List.find?_eq_none.2 (fun x hx => by simpa using h x hx)]; rfl
theorem look_one (q : Pf) (w : Option Int) : look (one q w) q = w := by
  cases w <;> simp [look, one]
theorem find_el {p : Pf} (hp : Ok p) : ∀ T : Tr, T.Inv → find p T = look T.el p
  | .nil, _ => rfl
  | .node q w l r, h => by
    obtain ⟨h1, h2, h3, h4, h5, h6⟩ := h
    have l1 : ∀ x ∈ l.el, Bel q 0 x.1 := fun x hx => h2 _ (l.el_pl x hx)
    have r1 : ∀ x ∈ r.el, Bel q 1 x.1 := fun x hx => h3 _ (r.el_pl x hx)
    unfold find
    simp only [Tr.el]
    rw [look_app, look_app]
    by_cases e1 : q = p
    · rw [if_pos e1]
      subst e1
      rw [look_one, look_no (fun x hx => (lt_ne (l1 x hx).lt).symm), look_no (fun x hx => (lt_ne (r1 x hx).lt).symm)]
      simp
    · rw [if_neg e1, look_no (A := one q w) (fun x hx => by rw [one_key x hx]; exact e1), Option.none_or]
      by_cases e2 : wi q p = true
      · rw [if_pos e2]
        have hb := Bel.of h1 hp e2 e1
        by_cases e3 : bit p.1 q.2 = 0
        · rw [if_pos e3]
          rw [e3] at hb
          rw [find_el hp l h5, look_no (A := r.el) (fun x hx => (lt_ne (Bel.sides h1 hb (r1 x hx))).symm), Option.or_none]
        · rw [if_neg e3]
          have e4 : bit p.1 q.2 = 1 := by rcases bit_or p.1 q.2 with h | h; exact absurd h e3; exact h
          rw [e4] at hb
          rw [find_el hp r h6, look_no (A := l.el) (fun x hx => lt_ne (Bel.sides h1 (l1 x hx) hb)), Option.none_or]
      · rw [if_neg e2, look_no (A := l.el) (fun x hx e => e2 (by rw [← e]; exact (l1 x hx).wi h1)), look_no (A := r.el) (fun x hx e => e2 (by rw [← e]; exact (r1 x hx).wi h1))]
        rfl

/-- Those that have an address, on the way down. -/
def cov (a : Int) : Tr → List En
  | .nil => []
  | .node q w l r => if fst a q.2 = q.1 then one q w ++ (if bit a q.2 = 0 then cov a l else cov a r) else []
def hasE (a : Int) (x : En) : Bool := decide (fst a x.1.2 = x.1.1)
theorem has_bel {q x : Pf} {b a : Int} (hq : Ok q) (hx : Bel q b x) (h : fst a x.2 = x.1) : fst a q.2 = q.1 ∧ bit a q.2 = b := by
  have h0 := hq.n0
  have h1 := hx.len
  have h2 := hx.ok.n1
  have e : fst a x.2 = fst x.1 x.2 := by rw [hx.ok.fs]; exact h
  have e0 := fst_eq_less h0 (Int.le_of_lt h1) h2 e
  have e1 := fst_eq_less (n := q.2 + 1) (by omega) (by omega) h2 e
  exact ⟨e0.trans hx.fs, (bit_eq h0 hx.n31 e1 e0).trans hx.bt⟩
theorem cov_el (a : Int) : ∀ T : Tr, T.Inv → cov a T = T.el.filter (hasE a)
  | .nil, _ => rfl
  | .node q w l r, h => by
    obtain ⟨h1, h2, h3, h4, h5, h6⟩ := h
    have l1 : ∀ x ∈ l.el, Bel q 0 x.1 := fun x hx => h2 _ (l.el_pl x hx)
    have r1 : ∀ x ∈ r.el, Bel q 1 x.1 := fun x hx => h3 _ (r.el_pl x hx)
    have no : ∀ (A : List En) (b : Int), (∀ x ∈ A, Bel q b x.1) → (fst a q.2 ≠ q.1 ∨ bit a q.2 ≠ b) → A.filter (hasE a) = [] := by
      intro A b hA hn
      refine List.filter_eq_nil_iff.2 fun x hx hh => ?_
      obtain ⟨g1, g2⟩ := has_bel h1 (hA x hx) (of_decide_eq_true hh)
      rcases hn with hn | hn
      · exact hn g1
      · exact hn g2
    unfold cov
    simp only [Tr.el]
    rw [List.filter_append, List.filter_append]
    by_cases e1 : fst a q.2 = q.1
    · rw [if_pos e1]
      have o1 : (one q w).filter (hasE a) = one q w := List.filter_eq_self.2 fun x hx => by
        unfold hasE; rw [one_key x hx]; exact decide_eq_true e1
      rw [o1]
      by_cases e2 : bit a q.2 = 0
      · rw [if_pos e2, cov_el a l h5, no r.el 1 r1 (.inr (by rw [e2]; decide)), List.append_nil]
      · have e3 : bit a q.2 = 1 := by rcases bit_or a q.2 with h | h; exact absurd h e2; exact h
        rw [if_neg e2, cov_el a r h6, no l.el 0 l1 (.inr (by rw [e3]; decide)), List.nil_append]
    · rw [if_neg e1, no l.el 0 l1 (.inl e1), no r.el 1 r1 (.inl e1)]
      have o1 : (one q w).filter (hasE a) = [] := List.filter_eq_nil_iff.2 fun x hx hh => by
        unfold hasE at hh; rw [one_key x hx] at hh; exact e1 (of_decide_eq_true hh)
      rw [o1]; rfl
end Tp
end Go.Proofs.Ytdjhgahdiggahaa

namespace Go.Proofs.Ytdjhgahdiggahaa
namespace Tp
open Wp

/-- What each entry but the first one marks, and where it parts from the one ahead. -/
def mks : En → List En → List Pf
  | _, [] => []
  | x, y :: L => y.1 :: com x.1 y.1 :: mks y L
def marks : List En → List Pf
  | [] => []
  | x :: L => x.1 :: mks x L
theorem mks_app : ∀ (A : List En) (x : En) (y : En) (B : List En) (q : Pf), q ∈ mks x (A ++ y :: B) ↔ q ∈ mks x A ∨ q = com ((A.getLast?).getD x).1 y.1 ∨ q ∈ marks (y :: B)
  | [], x, y, B, q => by
    simp only [List.nil_append, mks, marks, List.mem_cons, List.not_mem_nil, false_or, List.getLast?_nil, Option.getD_none]
    constructor
    · rintro (h | h | h)
      · exact .inr (.inl h)
      · exact .inl h
      · exact .inr (.inr h)
    · rintro (h | h | h)
      · exact .inr (.inl h)
      · exact .inl h
      · exact .inr (.inr h)
  | z :: A, x, y, B, q => by
    simp only [List.cons_append, mks, List.mem_cons]
    rw [mks_app A z y B q]
    have e : ((z :: A).getLast?).getD x = (A.getLast?).getD z := by
      cases A with
      | nil => rfl
      | cons a A => simp [List.getLast?_cons]
    rw [e]
    constructor
    · rintro (h | h | h | h | h)
      · exact .inl (.inl h)
      · exact .inl (.inr (.inl h))
      · exact .inl (.inr (.inr h))
      · exact .inr (.inl h)
      · exact .inr (.inr h)
    · rintro ((h | h | h) | h | h)
      · exact .inl h
      · exact .inr (.inl h)
      · exact .inr (.inr (.inl h))
      · exact .inr (.inr (.inr (.inl h)))
      · exact .inr (.inr (.inr (.inr h)))
theorem marks_app {A B : List En} (hA : A ≠ []) (hB : B ≠ []) : ∃ x ∈ A, ∃ y ∈ B, ∀ q, q ∈ marks (A ++ B) ↔ q ∈ marks A ∨ q = com x.1 y.1 ∨ q ∈ marks B := by
  cases A with
  | nil => exact absurd rfl hA
  | cons a A =>
    cases B with
    | nil => exact absurd rfl hB
    | cons b B =>
      refine ⟨(A.getLast?).getD a, ?_, b, List.mem_cons_self .., fun q => ?_⟩
      · cases h : A.getLast? with
        | none => exact List.mem_cons_self ..
        | some z => exact List.mem_cons_of_mem _ (List.mem_of_getLast? h)
      · rw [List.cons_append]
        show q ∈ a.1 :: mks a (A ++ b :: B) ↔ q ∈ a.1 :: mks a A ∨ _ ∨ _
        rw [List.mem_cons, List.mem_cons, mks_app]
        constructor
        · rintro (h | h | h | h)
          · exact .inl (.inl h)
          · exact .inl (.inr h)
          · exact .inr (.inl h)
          · exact .inr (.inr h)
        · rintro ((h | h) | h | h)
          · exact .inl h
          · exact .inr (.inl h)
          · exact .inr (.inr (.inl h))
          · exact .inr (.inr (.inr h))
theorem marks_pl : ∀ T : Tr, T.Inv → ∀ q, q ∈ marks T.el ↔ q ∈ T.pl
  | .nil, _, q => by simp [Tr.el, Tr.pl, marks]
  | .node p v l r, h, q => by
    obtain ⟨h1, h2, h3, h4, h5, h6⟩ := h
    have l1 : ∀ x ∈ l.el, Bel p 0 x.1 := fun x hx => h2 _ (l.el_pl x hx)
    have r1 : ∀ x ∈ r.el, Bel p 1 x.1 := fun x hx => h3 _ (r.el_pl x hx)
    have hl := marks_pl l h5
    have hr := marks_pl r h6
    have zl : l.el = [] → l.pl = [] := by
      intro e
      cases l with
      | nil => rfl
      | node a b c d => exact absurd e (Tr.Inv.some h5 (by simp))
    have zr : r.el = [] → r.pl = [] := by
      intro e
      cases r with
      | nil => rfl
      | node a b c d => exact absurd e (Tr.Inv.some h6 (by simp))
    -- both ways
    have both : ∀ q, q ∈ marks (l.el ++ r.el) ↔ q ∈ l.pl ∨ q ∈ r.pl ∨ (l.el ≠ [] ∧ r.el ≠ [] ∧ q = p) := by
      intro q
      by_cases e1 : l.el = []
      · rw [e1, List.nil_append, hr, zl e1]; simp
      · by_cases e2 : r.el = []
        · rw [e2, List.append_nil, hl, zr e2]; simp
        · obtain ⟨x, hx, y, hy, hq⟩ := marks_app e1 e2
          rw [hq, hl, hr, com_sides h1 (l1 x hx) (r1 y hy)]
          constructor
          · rintro (h | h | h)
            · exact .inl h
            · exact .inr (.inr ⟨e1, e2, h⟩)
            · exact .inr (.inl h)
          · rintro (h | h | h)
            · exact .inl h
            · exact .inr (.inr h)
            · exact .inr (.inl h.2.2)
    have bel : ∀ x ∈ l.el ++ r.el, ∃ b, Bel p b x.1 := by
      intro x hx
      rcases List.mem_append.1 hx with hx | hx
      · exact ⟨0, l1 x hx⟩
      · exact ⟨1, r1 x hx⟩
    simp only [Tr.pl, Tr.el, List.mem_cons, List.mem_append]
    cases v with
    | none =>
      obtain ⟨n1, n2⟩ := h4 rfl
      simp only [one, List.nil_append]
      rw [both]
      have a1 := Tr.Inv.some h5 n1
      have a2 := Tr.Inv.some h6 n2
      constructor
      · rintro (h | h | h)
        · exact .inr (.inl h)
        · exact .inr (.inr h)
        · exact .inl h.2.2
      · rintro (h | h | h)
        · exact .inr (.inr ⟨a1, a2, h⟩)
        · exact .inl h
        · exact .inr (.inl h)
    | some v =>
      have e : ∀ q, q ∈ marks ((p, v) :: (l.el ++ r.el)) ↔ q = p ∨ q ∈ marks (l.el ++ r.el) := by
        intro q
        cases hm : l.el ++ r.el with
        | nil => simp [marks, mks]
        | cons x X =>
          obtain ⟨b, hb⟩ := bel x (by rw [hm]; exact List.mem_cons_self ..)
          simp only [marks, mks, List.mem_cons]
          rw [com_up h1 hb]
          constructor
          · rintro (h | h | h | h)
            · exact .inl h
            · exact .inr (.inl h)
            · exact .inl h
            · exact .inr (.inr h)
          · rintro (h | h | h)
            · exact .inl h
            · exact .inr (.inl h)
            · exact .inr (.inr (.inr h))
      show q ∈ marks ((p, v) :: (l.el ++ r.el)) ↔ _
      rw [e, both]
      constructor
      · rintro (h | h | h | h)
        · exact .inl h
        · exact .inr (.inl h)
        · exact .inr (.inr h)
        · exact .inl h.2.2
      · rintro (h | h | h)
        · exact .inl h
        · exact .inr (.inl h)
        · exact .inr (.inr (.inl h))
theorem Tr.Inv.nodup : ∀ {T : Tr}, T.Inv → T.pl.Nodup
  | .nil, _ => List.nodup_nil
  | .node p v l r, h => by
    obtain ⟨h1, h2, h3, h4, h5, h6⟩ := h
    refine List.nodup_cons.2 ⟨fun hp => ?_, List.nodup_append.2 ⟨Tr.Inv.nodup h5, Tr.Inv.nodup h6, fun x hx y hy e => ?_⟩⟩
    · rcases List.mem_append.1 hp with hp | hp
      · exact lt_irrefl _ (h2 p hp).lt
      · exact lt_irrefl _ (h3 p hp).lt
    · exact lt_ne (Bel.sides h1 (h2 x hx) (h3 y hy)) e
/-- One for each. -/
def dd (M : List Pf) : List Pf := M.foldl (fun S q => if q ∈ S then S else S ++ [q]) []
theorem dd_go : ∀ (M S : List Pf), S.Nodup → (M.foldl (fun S q => if q ∈ S then S else S ++ [q]) S).Nodup ∧ ∀ x, x ∈ M.foldl (fun S q => if q ∈ S then S else S ++ [q]) S ↔ x ∈ S ∨ x ∈ M
  | [], S, h => ⟨h, fun x => by simp⟩
  | q :: M, S, h => by
    rw [List.foldl_cons]
    by_cases hq : q ∈ S
    · rw [if_pos hq]
      obtain ⟨a, b⟩ := dd_go M S h
      refine ⟨a, fun x => ?_⟩
      rw [b, List.mem_cons]
      constructor
      · rintro (h | h)
        · exact .inl h
        · exact .inr (.inr h)
      · rintro (h | h | h)
        · exact .inl h
        · rw [h]; exact .inl hq
        · exact .inr h
    · rw [if_neg hq]
      have hn : (S ++ [q]).Nodup := List.nodup_append.2 ⟨h, by simp, fun x hx y hy e => by
        simp at hy; subst hy; subst e; exact hq hx⟩
      obtain ⟨a, b⟩ := dd_go M (S ++ [q]) hn
      refine ⟨a, fun x => ?_⟩
      rw [b, List.mem_append, List.mem_cons, List.mem_cons, List.mem_nil_iff, or_false, or_assoc]
theorem nodup_le : ∀ (l m : List Pf), l.Nodup → (∀ x ∈ l, x ∈ m) → l.length ≤ m.length
  | [], _, _, _ => Nat.zero_le _
  | x :: l, m, h, hs => by
    obtain ⟨h1, h2⟩ := List.nodup_cons.1 h
    have hx := hs x (List.mem_cons_self ..)
    have := nodup_le l (m.erase x) h2 (fun y hy => by
      have hne : y ≠ x := fun e => h1 (e ▸ hy)
      exact (List.mem_erase_of_ne hne).2 (hs y (List.mem_cons_of_mem _ hy)))
    rw [List.length_erase_of_mem hx] at this
    have hp : 0 < m.length := List.length_pos_of_mem hx
    rw [List.length_cons]; omega
theorem dd_size {T : Tr} (h : T.Inv) : (dd (marks T.el)).length = T.size := by
  obtain ⟨a, b⟩ := dd_go (marks T.el) [] List.nodup_nil
  have hm : ∀ x, x ∈ dd (marks T.el) ↔ x ∈ T.pl := fun x => by
    unfold dd
    rw [b, marks_pl T h]; simp
  rw [← Tr.pl_length]
  exact Nat.le_antisymm (nodup_le _ _ a (fun x hx => (hm x).1 hx)) (nodup_le _ _ (Tr.Inv.nodup h) (fun x hx => (hm x).2 hx))
end Tp
end Go.Proofs.Ytdjhgahdiggahaa

namespace Go.Proofs.Ytdjhgahdiggahaa
namespace Tp
open Wp

/-- How many stand ahead. -/
def pos : List En → Pf → Nat
  | [], _ => 0
  | x :: L, p => if lt x.1 p then pos L p + 1 else 0
/-- Is it there? -/
def isAt (L : List En) (p : Pf) : Bool := decide ((L[pos L p]?).map Prod.fst = some p)
theorem pos_le : ∀ (L : List En) (p : Pf), pos L p ≤ L.length
  | [], _ => Nat.le_refl _
  | x :: L, p => by
    unfold pos
    split
    · have := pos_le L p; rw [List.length_cons]; omega
    · exact Nat.zero_le _
theorem pos_lt : ∀ (L : List En) (p : Pf) (i : Nat) (x : En), i < pos L p → L[i]? = some x → lt x.1 p
  | x :: L, p, i, y, hi, hy => by
    unfold pos at hi
    split at hi
    · rename_i h
      cases i with
      | zero => simp at hy; subst hy; exact h
      | succ i => exact pos_lt L p i y (by omega) (by simpa using hy)
    · omega
theorem pos_stop : ∀ (L : List En) (p : Pf) (x : En), L[pos L p]? = some x → ¬ lt x.1 p
  | x :: L, p, y, hy => by
    unfold pos at hy
    split at hy
    · exact pos_stop L p y (by simpa using hy)
    · rename_i h
      simp at hy; subst hy; exact h
theorem insE_pos : ∀ (L : List En) (p : Pf) (v : Int), insE L p v = if isAt L p = true then L.set (pos L p) (p, v) else L.take (pos L p) ++ (p, v) :: L.drop (pos L p)
  | [], p, v => by simp [insE, isAt, pos]
  | (q, w) :: L, p, v => by
    unfold insE
    by_cases h1 : q = p
    · subst h1
      have e : pos ((q, w) :: L) q = 0 := by unfold pos; rw [if_neg (lt_irrefl q)]
      have e2 : isAt ((q, w) :: L) q = true := by unfold isAt; rw [e]; simp
      rw [if_pos rfl, if_pos e2, e]; rfl
    · rw [if_neg h1]
      by_cases h2 : lt q p
      · have e : pos ((q, w) :: L) p = pos L p + 1 := by rw [pos, if_pos h2]
        have e2 : isAt ((q, w) :: L) p = isAt L p := by unfold isAt; rw [e]; simp
        rw [if_pos h2, e2, e, insE_pos L p v]
        split <;> simp
      · have e : pos ((q, w) :: L) p = 0 := by rw [pos, if_neg h2]
        have e2 : ¬ isAt ((q, w) :: L) p = true := by unfold isAt; rw [e]; simp; exact h1
        rw [if_neg h2, if_neg e2, e]; rfl
theorem Up.tail {x : En} {L : List En} (h : Up (x :: L)) : Up L ∧ ∀ y ∈ L, lt x.1 y.1 := by
  obtain ⟨a, b⟩ := List.pairwise_cons.1 h
  exact ⟨b, a⟩
theorem delE_pos : ∀ (L : List En) (p : Pf), Up L → delE L p = if isAt L p = true then L.take (pos L p) ++ L.drop (pos L p + 1) else L
  | [], p, _ => by simp [delE, isAt, pos]
  | (q, w) :: L, p, h => by
    obtain ⟨h1, h2⟩ := Up.tail h
    by_cases e1 : q = p
    · subst e1
      have e : pos ((q, w) :: L) q = 0 := by unfold pos; rw [if_neg (lt_irrefl q)]
      have e2 : isAt ((q, w) :: L) q = true := by unfold isAt; rw [e]; simp
      have e3 : delE L q = L := delE_no (fun x hx => (lt_ne (h2 x hx)).symm)
      rw [if_pos e2, e]
      show ((q, w) :: L).filter _ = _
      rw [List.filter_cons_of_neg (by simp)]
      exact e3
    · have c : delE ((q, w) :: L) p = (q, w) :: delE L p := List.filter_cons_of_pos (by simpa using e1)
      by_cases e2 : lt q p
      · have e : pos ((q, w) :: L) p = pos L p + 1 := by rw [pos, if_pos e2]
        have e3 : isAt ((q, w) :: L) p = isAt L p := by unfold isAt; rw [e]; simp
        rw [c, e3, e, delE_pos L p h1]
        split <;> simp
      · have e : pos ((q, w) :: L) p = 0 := by rw [pos, if_neg e2]
        have e3 : ¬ isAt ((q, w) :: L) p = true := by unfold isAt; rw [e]; simp; exact e1
        have hp : lt p q := by
          rcases lt_tri q p with h | h | h
          · exact absurd h e2
          · exact absurd h e1
          · exact h
        rw [if_neg e3, c, delE_no (fun x hx => (lt_ne (lt_trans hp (h2 x hx))).symm)]
theorem look_pos : ∀ (L : List En) (p : Pf), Up L → look L p = if isAt L p = true then (L[pos L p]?).map Prod.snd else none
  | [], p, _ => by simp [look, isAt, pos]
  | (q, w) :: L, p, h => by
    obtain ⟨h1, h2⟩ := Up.tail h
    have c : look ((q, w) :: L) p = if q = p then some w else look L p := by
      unfold look
      by_cases e : q = p
      · rw [if_pos e, List.find?_cons_of_pos (by simpa using e)]; rfl
      · rw [if_neg e, List.find?_cons_of_neg (by simpa using e)]
    rw [c]
    by_cases e1 : q = p
    · subst e1
      have e : pos ((q, w) :: L) q = 0 := by unfold pos; rw [if_neg (lt_irrefl q)]
      have e2 : isAt ((q, w) :: L) q = true := by unfold isAt; rw [e]; simp
      rw [if_pos rfl, if_pos e2, e]; rfl
    · rw [if_neg e1]
      by_cases e2 : lt q p
      · have e : pos ((q, w) :: L) p = pos L p + 1 := by rw [pos, if_pos e2]
        have e3 : isAt ((q, w) :: L) p = isAt L p := by unfold isAt; rw [e]; simp
        rw [e3, e, look_pos L p h1]
        simp
      · have e : pos ((q, w) :: L) p = 0 := by rw [pos, if_neg e2]
        have e3 : ¬ isAt ((q, w) :: L) p = true := by unfold isAt; rw [e]; simp; exact e1
        have hp : lt p q := by
          rcases lt_tri q p with h | h | h
          · exact absurd h e2
          · exact absurd h e1
          · exact h
        rw [if_neg e3, look_no (fun x hx => (lt_ne (lt_trans hp (h2 x hx))).symm)]
theorem isAt_look {L : List En} {p : Pf} (h : Up L) : (look L p).isSome = isAt L p := by
  rw [look_pos L p h]
  by_cases e : isAt L p = true
  · rw [if_pos e, e]
    unfold isAt at e
    have := of_decide_eq_true e
    cases hx : L[pos L p]? with
    | none => rw [hx] at this; cases this
    | some x => rfl
  · rw [if_neg e]
    simp at e
    rw [e]; rfl
/-- How many there are, behind an act. -/
theorem insE_len (L : List En) (p : Pf) (v : Int) : (insE L p v).length = if isAt L p = true then L.length else L.length + 1 := by
  rw [insE_pos]
  have := pos_le L p
  split <;> simp
  omega
theorem delE_len {L : List En} {p : Pf} (h : Up L) : (delE L p).length = if isAt L p = true then L.length - 1 else L.length := by
  rw [delE_pos L p h]
  split
  · rename_i e
    have hlt : pos L p < L.length := by
      unfold isAt at e
      have := of_decide_eq_true e
      rcases Nat.lt_or_ge (pos L p) L.length with h2 | h2
      · exact h2
      · rw [List.getElem?_eq_none h2] at this; cases this
    simp; omega
  · rfl

/-- Those of one length. -/
def lens (F : List En) (n : Int) : List En := F.filter fun x => decide (x.1.2 = n)
theorem lens_all : ∀ (k lo : Nat) (F : List En), (F.Pairwise fun x y => x.1.2 < y.1.2) → (∀ x ∈ F, (lo : Int) ≤ x.1.2 ∧ x.1.2 < (lo + k : Nat)) → (List.range' lo k).flatMap (fun (n : Nat) => lens F (n : Int)) = F
  | 0, lo, F, _, hb => by
    cases F with
    | nil => rfl
    | cons x F => have := hb x (List.mem_cons_self ..); omega
  | k + 1, lo, F, hp, hb => by
    rw [List.range'_succ, List.flatMap_cons]
    cases F with
    | nil =>
      have := lens_all k (lo + 1) [] hp (fun x hx => by cases hx)
      rw [this]; rfl
    | cons x F =>
      obtain ⟨h1, h2⟩ := List.pairwise_cons.1 hp
      have hx := hb x (List.mem_cons_self ..)
      by_cases e : x.1.2 = (lo : Int)
      · have a : lens (x :: F) (lo : Int) = [x] := by
          unfold lens
          rw [List.filter_cons_of_pos (by simpa using e), List.filter_eq_nil_iff.2 (fun y hy => by have := h1 y hy; simp; omega)]
        have b : (List.range' (lo + 1) k).flatMap (fun (n : Nat) => lens (x :: F) (n : Int)) = (List.range' (lo + 1) k).flatMap (fun (n : Nat) => lens F (n : Int)) := by
          rw [List.flatMap_def, List.flatMap_def]
          congr 1
          apply List.map_congr_left
          intro n hn
          have hn2 := (List.mem_range'_1.1 hn).1
          unfold lens
          rw [List.filter_cons_of_neg (by simp; omega)]
        rw [a, b, lens_all k (lo + 1) F h2 (fun y hy => by
          have := h1 y hy
          have := hb y (List.mem_cons_of_mem _ hy)
          omega)]
        rfl
      · have a : lens (x :: F) (lo : Int) = [] := by
          unfold lens
          refine List.filter_eq_nil_iff.2 (fun y hy => ?_)
          rcases List.mem_cons.1 hy with rfl | hy
          · simpa using e
          · have := h1 y hy; simp; omega
        rw [a, List.nil_append, lens_all k (lo + 1) (x :: F) hp (fun y hy => by
          have := hb y hy
          rcases List.mem_cons.1 hy with rfl | hy
          · omega
          · have := h1 y hy; omega)]
/-- Those that have an address rise in length. -/
theorem has_rise {L : List En} (h : Up L) (ho : ∀ x ∈ L, Ok x.1) (a : Int) : (L.filter (hasE a)).Pairwise fun x y => x.1.2 < y.1.2 := by
  have h2 : (L.filter (hasE a)).Pairwise fun x y => lt x.1 y.1 := h.filter _
  refine h2.imp_of_mem fun {x y} hx hy hl => ?_
  obtain ⟨hx1, hx2⟩ := List.mem_filter.1 hx
  obtain ⟨hy1, hy2⟩ := List.mem_filter.1 hy
  have ex : fst a x.1.2 = x.1.1 := of_decide_eq_true hx2
  have ey : fst a y.1.2 = y.1.1 := of_decide_eq_true hy2
  rcases Int.lt_or_le x.1.2 y.1.2 with g | g
  · exact g
  · have e := fst_fst (c := a) (ho y hy1).n0 g (ho x hx1).n1
    have e2 := fst_le (a := fst a x.1.2) (n := y.1.2)
    unfold lt at hl
    omega
theorem covers_eq {L : List En} (h : Up L) (ho : ∀ x ∈ L, Ok x.1) (a : Int) : (List.range' 0 33).flatMap (fun (n : Nat) => L.filter fun x => decide (x.1.2 = (n : Int)) && hasE a x) = L.filter (hasE a) := by
  have := lens_all 33 0 (L.filter (hasE a)) (has_rise h ho a) (fun x hx => by
    have := ho x (List.mem_filter.1 hx).1
    have a0 := this.n0
    have a1 := this.n1
    omega)
  rw [← this]
  rw [List.flatMap_def, List.flatMap_def]
  congr 1
  apply List.map_congr_left
  intro n _
  unfold lens
  rw [List.filter_filter]
/-- What stays right. -/
theorem Up.ins {L : List En} (h : Up L) (p : Pf) (v : Int) : Up (insE L p v) := by
  induction L with
  | nil => exact List.Pairwise.cons (fun _ h => by cases h) List.Pairwise.nil
  | cons x L ih =>
    obtain ⟨q, w⟩ := x
    obtain ⟨h1, h2⟩ := Up.tail h
    unfold insE
    by_cases e1 : q = p
    · rw [if_pos e1]
      subst e1
      exact List.Pairwise.cons h2 h1
    · rw [if_neg e1]
      by_cases e2 : lt q p
      · rw [if_pos e2]
        refine List.Pairwise.cons (fun y hy => ?_) (ih h1)
        have mem : ∀ (M : List En), y ∈ insE M p v → y = (p, v) ∨ y ∈ M := by
          intro M
          induction M with
          | nil => intro hm; simp [insE] at hm; exact .inl hm
          | cons z M ihM =>
            obtain ⟨r, u⟩ := z
            intro hm
            unfold insE at hm
            split at hm
            · rcases List.mem_cons.1 hm with hm | hm
              · exact .inl hm
              · exact .inr (List.mem_cons_of_mem _ hm)
            · split at hm
              · rcases List.mem_cons.1 hm with hm | hm
                · exact .inr (hm ▸ List.mem_cons_self ..)
                · rcases ihM hm with hm | hm
                  · exact .inl hm
                  · exact .inr (List.mem_cons_of_mem _ hm)
              · rcases List.mem_cons.1 hm with hm | hm
                · exact .inl hm
                · exact .inr hm
        rcases mem L hy with hm | hm
        · rw [hm]; exact e2
        · exact h2 y hm
      · rw [if_neg e2]
        have hp : lt p q := by
          rcases lt_tri q p with h | h | h
          · exact absurd h e2
          · exact absurd h e1
          · exact h
        exact List.Pairwise.cons (fun y hy => by
          rcases List.mem_cons.1 hy with rfl | hy
          · exact hp
          · exact lt_trans hp (h2 y hy)) h
theorem Up.del {L : List En} (h : Up L) (p : Pf) : Up (delE L p) := h.filter _
end Tp
end Go.Proofs.Ytdjhgahdiggahaa

namespace Go.Proofs.Ytdjhgahdiggahaa
namespace Tp
open Wp

/-- The last one is the longest one. -/
theorem last_most : ∀ (F : List En) (z : En), (F.Pairwise fun x y => x.1.2 < y.1.2) → F.getLast? = some z → ∀ x ∈ F, x.1.2 ≤ z.1.2
  | [], _, _, h, _, _ => by cases h
  | [y], z, _, h, x, hx => by
    simp at h hx; subst h; subst hx; exact Int.le_refl _
  | y :: u :: F, z, hp, h, x, hx => by
    obtain ⟨h1, h2⟩ := List.pairwise_cons.1 hp
    have h3 : (u :: F).getLast? = some z := by simpa [List.getLast?_cons_cons] using h
    have ih := last_most (u :: F) z h2 h3
    rcases List.mem_cons.1 hx with rfl | hx
    · have a := h1 u (List.mem_cons_self ..)
      have b := ih u (List.mem_cons_self ..)
      omega
    · exact ih x hx
/-- Of two that have an address the longer one lies within the shorter one. -/
theorem has_within {x y : Pf} {a : Int} (hx : Ok x) (hy : Ok y) (ex : fst a x.2 = x.1) (ey : fst a y.2 = y.1) (h : x.2 ≤ y.2) : wi x y = true :=
  (wi_iff hx hy).2 ⟨h, by rw [← ey, fst_fst hx.n0 h hy.n1]; exact ex⟩
theorem Tr.Inv.none {T : Tr} (h : T.Inv) (he : T.el = []) : T = .nil := by
  cases T with
  | nil => rfl
  | node p v l r => exact absurd he (Tr.Inv.some h (by simp))
theorem Tr.Inv.okE {T : Tr} (h : T.Inv) : ∀ x ∈ T.el, Ok x.1 := fun x hx => h.ok _ (T.el_pl x hx)
theorem mem_ins : ∀ (L : List En) (p : Pf) (v : Int) (y : En), y ∈ insE L p v → y = (p, v) ∨ y ∈ L
  | [], p, v, y, h => by simp [insE] at h; exact .inl h
  | (q, w) :: L, p, v, y, h => by
    unfold insE at h
    split at h
    · rcases List.mem_cons.1 h with h | h
      · exact .inl h
      · exact .inr (List.mem_cons_of_mem _ h)
    · split at h
      · rcases List.mem_cons.1 h with h | h
        · exact .inr (h ▸ List.mem_cons_self ..)
        · rcases mem_ins L p v y h with h | h
          · exact .inl h
          · exact .inr (List.mem_cons_of_mem _ h)
      · rcases List.mem_cons.1 h with h | h
        · exact .inl h
        · exact .inr h
theorem mem_del {L : List En} {p : Pf} {y : En} : y ∈ delE L p ↔ y ∈ L ∧ y.1 ≠ p := by
  unfold delE
  rw [List.mem_filter]
  simp
/-- What is put in is there, the others stay. -/
theorem look_ins : ∀ (L : List En) (p : Pf) (v : Int) (q : Pf), look (insE L p v) q = if q = p then some v else look L q
  | [], p, v, q => by
    unfold insE look
    by_cases h : q = p
    · rw [if_pos h, List.find?_cons_of_pos (by simp [h])]; rfl
    · rw [if_neg h, List.find?_cons_of_neg (by simp; exact fun e => h e.symm)]
  | (r, w) :: L, p, v, q => by
    have c : ∀ (r : Pf) (w : Int) (L : List En), look ((r, w) :: L) q = if r = q then some w else look L q := by
      intro r w L
      unfold look
      by_cases e : r = q
      · rw [if_pos e, List.find?_cons_of_pos (by simpa using e)]; rfl
      · rw [if_neg e, List.find?_cons_of_neg (by simpa using e)]
    unfold insE
    by_cases h1 : r = p
    · rw [if_pos h1, c, c]
      subst h1
      by_cases h : q = r
      · rw [if_pos h.symm, if_pos h]
      · rw [if_neg (fun e => h e.symm), if_neg h, if_neg (fun e => h e.symm)]
    · rw [if_neg h1]
      by_cases h2 : lt r p
      · rw [if_pos h2, c, c, look_ins L p v q]
        by_cases h : r = q
        · rw [if_pos h, if_pos h, if_neg (fun e => h1 (h.trans e))]
        · rw [if_neg h, if_neg h]
      · rw [if_neg h2, c, c]
        by_cases h : q = p
        · rw [if_pos h.symm, if_pos h]
        · rw [if_neg (fun e => h e.symm), if_neg h]
theorem look_del (L : List En) (p q : Pf) : look (delE L p) q = if q = p then none else look L q := by
  by_cases h : q = p
  · rw [if_pos h]
    subst h
    exact look_no (fun x hx => (mem_del.1 hx).2)
  · rw [if_neg h]
    unfold look delE
    rw [List.find?_filter]
    congr 1
    congr 1
    funext x
    by_cases e : x.1 = q
    · simp [e, h]
    · simp [e]
/-- A rising list holds no more than the prefixes it was made of. -/
theorem up_few {L : List En} (h : Up L) (M : List Pf) (hm : ∀ x ∈ L, x.1 ∈ M) : L.length ≤ M.length := by
  have hn : (L.map Prod.fst).Nodup := by
    refine List.pairwise_map.2 (h.imp fun {x y} hl => lt_ne hl)
  have := nodup_le (L.map Prod.fst) M hn (fun x hx => by
    obtain ⟨y, hy, rfl⟩ := List.mem_map.1 hx
    exact hm y hy)
  simpa using this
end Tp
end Go.Proofs.Ytdjhgahdiggahaa

namespace Go.Proofs.Ytdjhgahdiggahaa
namespace Tp
open Wp

theorem bitLenAux_bd : ∀ (f x : Nat), x < 2 ^ f → x < 2 ^ Lib.bitLenAux f x ∧ (x ≠ 0 → 2 ^ Lib.bitLenAux f x ≤ 2 * x)
  | 0, x, h => by
    have : x = 0 := by simpa using h
    subst this
    exact ⟨by simp [Lib.bitLenAux], fun h => absurd rfl h⟩
  | f + 1, x, h => by
    unfold Lib.bitLenAux
    by_cases hx : x = 0
    · rw [if_pos hx]; subst hx; exact ⟨by simp, fun h => absurd rfl h⟩
    · rw [if_neg hx]
      obtain ⟨h1, h2⟩ := bitLenAux_bd f (x / 2) (by rw [Nat.pow_succ] at h; omega)
      rw [Nat.add_comm 1, Nat.pow_succ]
      refine ⟨by omega, fun _ => ?_⟩
      by_cases h3 : x / 2 = 0
      · have e : Lib.bitLenAux f (x / 2) = 0 := by rw [h3]; cases f <;> simp [Lib.bitLenAux]
        rw [e]; simp; omega
      · have := h2 h3; omega
theorem bitLen_bd {x : Nat} (h : x < 4294967296) : x < 2 ^ Lib.bitLen x ∧ (x ≠ 0 → 2 ^ Lib.bitLen x ≤ 2 * x) ∧ Lib.bitLen x ≤ 32 := by
  obtain ⟨h1, h2⟩ := bitLenAux_bd 64 x (by omega)
  exact ⟨h1, h2, Lib.bitLen_le x 32 (by decide) h⟩
/-- How many bits two addresses share. -/
def lz (a b : Int) : Int := 32 - (Lib.bitLen (a.toNat ^^^ b.toNat) : Int)
def mn (p q : Pf) : Int := min (min p.2 q.2) (lz p.1 q.1)
theorem fst_eq_iff {a b : Nat} {n : Int} {k : Nat} (hk : (32 - n).toNat = k) : fst (a : Int) n = fst (b : Int) n ↔ (a ^^^ b) < 2 ^ k := by
  have hp : 0 < 2 ^ k := Nat.pow_pos (by decide)
  rw [fst_nat a k n hk, fst_nat b k n hk]
  constructor
  · intro h
    have h2 : a / 2 ^ k * 2 ^ k = b / 2 ^ k * 2 ^ k := by omega
    have h3 := (nat_xor_zero a b k).2 (Nat.eq_of_mul_eq_mul_right hp h2)
    exact (Nat.div_eq_zero_iff_lt hp).1 h3
  · intro h
    have h3 := (nat_xor_zero a b k).1 ((Nat.div_eq_zero_iff_lt hp).2 h)
    rw [h3]
theorem lz_bd {a b : Int} (ha : 0 ≤ a) (ha2 : a < 4294967296) (hb : 0 ≤ b) (hb2 : b < 4294967296) : 0 ≤ lz a b ∧ lz a b ≤ 32 := by
  have hx : (a.toNat ^^^ b.toNat) < 4294967296 := Nat.xor_lt_two_pow (n := 32) (by omega) (by omega)
  obtain ⟨_, _, h⟩ := bitLen_bd hx
  unfold lz; omega
theorem mn_bd {p q : Pf} (hp : Ok p) (hq : Ok q) : 0 ≤ mn p q ∧ mn p q ≤ 32 ∧ mn p q ≤ p.2 ∧ mn p q ≤ q.2 := by
  obtain ⟨h1, h2⟩ := lz_bd hp.a0 hp.a1 hq.a0 hq.a1
  have := hp.n0; have := hp.n1; have := hq.n0; have := hq.n1
  unfold mn; omega
/-- The longest prefix of both, as it is reckoned. -/
theorem com_mn {p q : Pf} (hp : Ok p) (hq : Ok q) : com p q = (fst p.1 (mn p q), mn p q) := by
  obtain ⟨h0, h32, h1, h2⟩ := mn_bd hp hq
  obtain ⟨a, ha⟩ := Int.eq_ofNat_of_zero_le hp.a0
  obtain ⟨b, hb⟩ := Int.eq_ofNat_of_zero_le hq.a0
  have a1 := hp.a1
  have b1 := hq.a1
  rw [ha] at a1
  rw [hb] at b1
  have hx : (a ^^^ b) < 4294967296 := Nat.xor_lt_two_pow (n := 32) (by omega) (by omega)
  obtain ⟨x1, x2, x3⟩ := bitLen_bd hx
  have hlz : lz p.1 q.1 = 32 - (Lib.bitLen (a ^^^ b) : Int) := by unfold lz; rw [ha, hb]; rfl
  have hmn : mn p q ≤ lz p.1 q.1 := by unfold mn; omega
  refine com_eq hp h0 ⟨h1, h2, ?_⟩ ?_
  · rw [ha, hb, fst_eq_iff rfl]
    exact Nat.lt_of_lt_of_le x1 (Nat.pow_le_pow_right (by decide) (by omega))
  · by_cases e1 : p.2 = mn p q
    · exact .inl e1
    · by_cases e2 : q.2 = mn p q
      · exact .inr (.inl e2)
      · refine .inr (.inr fun hbit => ?_)
        have e3 : mn p q = lz p.1 q.1 := by unfold mn at *; omega
        have hp1 := hp.n1
        have hfs : fst p.1 (mn p q) = fst q.1 (mn p q) := by
          rw [ha, hb, fst_eq_iff rfl]
          exact Nat.lt_of_lt_of_le x1 (Nat.pow_le_pow_right (by decide) (by omega))
        have h3 := eq_bit h0 (by omega) hbit hfs
        rw [ha, hb, fst_eq_iff rfl] at h3
        have h4 : a ^^^ b ≠ 0 := by
          intro h; rw [h] at hlz
          have : Lib.bitLen 0 = 0 := by decide
          rw [this] at hlz; omega
        have h5 := x2 h4
        obtain ⟨k, hk⟩ : ∃ k, Lib.bitLen (a ^^^ b) = k + 1 := ⟨Lib.bitLen (a ^^^ b) - 1, by omega⟩
        have e4 : (32 - (mn p q + 1)).toNat = k := by omega
        rw [e4] at h3
        rw [hk, Nat.pow_succ] at h5
        omega
/-- On which side, as it is reckoned. -/
theorem side_bit {a n : Int} (h0 : 0 ≤ n) (h1 : n ≤ 31) : a * 2 ^ n.toNat % 4294967296 / 2147483648 = bit a n := by
  unfold bit
  obtain ⟨P, hP⟩ : ∃ P : Int, P = 2 ^ (31 - n).toNat := ⟨_, rfl⟩
  obtain ⟨Q, hQ⟩ : ∃ Q : Int, Q = 2 ^ n.toNat := ⟨_, rfl⟩
  have p0 : 0 < P := by rw [hP]; exact pow_pos' _
  have q0 : 0 < Q := by rw [hQ]; exact pow_pos' _
  have e : P * Q = 2147483648 := by
    rw [hP, hQ, ← Int.pow_add]
    have : (31 - n).toNat + n.toNat = 31 := by omega
    rw [this]; decide
  rw [← hP, ← hQ]
  have e2 : (4294967296 : Int) = (P * 2) * Q := by rw [Int.mul_assoc, Int.mul_comm 2, ← Int.mul_assoc, e]; rfl
  rw [e2, ← e, Int.mul_comm a Q, Int.mul_comm (P * 2) Q, Int.mul_emod_mul_of_pos _ _ q0, Int.mul_comm P Q]
  rw [Int.mul_ediv_mul_of_pos _ _ q0]
  have m0 := Int.emod_nonneg a (show P * 2 ≠ 0 by omega)
  have m1 := Int.emod_lt_of_pos a (show 0 < P * 2 by omega)
  have d := Int.mul_ediv_add_emod a (P * 2)
  obtain ⟨r, hr⟩ : ∃ r, r = a % (P * 2) := ⟨_, rfl⟩
  obtain ⟨c, hc⟩ : ∃ c, c = a / (P * 2) := ⟨_, rfl⟩
  rw [← hr] at m0 m1 d
  rw [← hc] at d
  rw [← hr, ← d]
  have e3 : P * 2 * c + r = r + (2 * c) * P := by rw [Int.mul_assoc, Int.mul_comm P]; omega
  rw [e3, Int.add_mul_ediv_right _ _ (Int.ne_of_gt p0)]
  have r0 : 0 ≤ r / P := Int.ediv_nonneg m0 (Int.le_of_lt p0)
  have r1 : r / P < 2 := Int.ediv_lt_of_lt_mul p0 (by omega)
  omega
theorem com_wi {p q : Pf} (hp : Ok p) (hq : Ok q) : com p q = p ↔ wi p q = true := by
  constructor
  · intro h
    obtain ⟨_, _, h1, h2⟩ := mn_bd hp hq
    have e := com_mn hp hq
    rw [h] at e
    have e1 : p.2 = mn p q := congrArg Prod.snd e
    by_cases hw : wi p q = true
    · exact hw
    · by_cases hw2 : wi q p = true
      · obtain ⟨g1, g2⟩ := (wi_iff hq hp).1 hw2
        have e3 : p.2 = q.2 := by omega
        have : p = q := Prod.ext (by rw [← g2, ← e3]; exact hp.fs.symm) e3
        rw [this] at hw2 ⊢; exact hw2
      · obtain ⟨_, c2, _, _⟩ := com_part hp hq (by simpa using hw) (by simpa using hw2)
        have := c2.len
        rw [h] at this; omega
  · intro h
    obtain ⟨h1, h2⟩ := (wi_iff hp hq).1 h
    have := com_eq hp (q := q) (n := p.2) hp.n0 ⟨Int.le_refl _, h1, by rw [hp.fs]; exact h2.symm⟩ (.inl rfl)
    rw [this, hp.fs]
theorem com_comm {p q : Pf} (hp : Ok p) (hq : Ok q) : com p q = com q p := by
  obtain ⟨h0, h32, h1, h2⟩ := mn_bd hp hq
  have e : mn p q = mn q p := by
    have : lz p.1 q.1 = lz q.1 p.1 := by unfold lz; rw [Nat.xor_comm]
    unfold mn; rw [this]; omega
  rw [com_mn hp hq, com_mn hq hp, ← e]
  congr 1
  obtain ⟨a, ha⟩ := Int.eq_ofNat_of_zero_le hp.a0
  obtain ⟨b, hb⟩ := Int.eq_ofNat_of_zero_le hq.a0
  have a1 := hp.a1
  have b1 := hq.a1
  rw [ha] at a1
  rw [hb] at b1
  have hx : (a ^^^ b) < 4294967296 := Nat.xor_lt_two_pow (n := 32) (by omega) (by omega)
  obtain ⟨x1, x2, x3⟩ := bitLen_bd hx
  have hlz : lz p.1 q.1 = 32 - (Lib.bitLen (a ^^^ b) : Int) := by unfold lz; rw [ha, hb]; rfl
  have hmn : mn p q ≤ lz p.1 q.1 := by unfold mn; omega
  rw [ha, hb, fst_eq_iff rfl]
  exact Nat.lt_of_lt_of_le x1 (Nat.pow_le_pow_right (by decide) (by omega))
end Tp
end Go.Proofs.Ytdjhgahdiggahaa

namespace Go.Proofs.Ytdjhgahdiggahaa
namespace Tp
open Wp

/-- The trees on the way down to a prefix's place, and what stands there. -/
def pth (p : Pf) : Tr → List Tr × Tr
  | .nil => ([], .nil)
  | .node q o l r =>
    if com p q = p then ([], .node q o l r)
    else if com p q = q then (if bit p.1 q.2 = 0 then (.node q o l r :: (pth p l).1, (pth p l).2) else (.node q o l r :: (pth p r).1, (pth p r).2))
    else ([], .node q o l r)
/-- A tree with another one on a prefix's side. -/
def put1 (p : Pf) (n : Tr) : Tr → Tr
  | .nil => .nil
  | .node q o l r => if bit p.1 q.2 = 0 then mk q o n r else mk q o l n
/-- What is laid at a prefix's place. -/
def lay (p : Pf) : List Tr → Tr → Tr
  | [], n => n
  | t :: ts, n => put1 p (lay p ts n) t
theorem lay_append (p : Pf) : ∀ (a b : List Tr) (n : Tr), lay p (a ++ b) n = lay p a (lay p b n)
  | [], _, _ => rfl
  | t :: a, b, n => by simp only [List.cons_append, lay]; rw [lay_append p a b n]
/-- What stands at a prefix's place, once it is put in. -/
def withN (p : Pf) (v : Int) : Tr → Tr
  | .nil => .node p (some v) .nil .nil
  | .node q o l r =>
    if com p q = q then .node p (some v) l r
    else if com p q = p then (if bit q.1 p.2 = 0 then .node p (some v) (.node q o l r) .nil else .node p (some v) .nil (.node q o l r))
    else (if bit p.1 (com p q).2 = 0 then .node (com p q) none (.node p (some v) .nil .nil) (.node q o l r) else .node (com p q) none (.node q o l r) (.node p (some v) .nil .nil))
/-- Is it the node of a prefix, and that there? -/
def isN (p : Pf) : Tr → Bool
  | .nil => false
  | .node q o _ _ => o.isSome && decide (q = p)
/-- What stands where a node was, once its prefix is gone. -/
def bare : Tr → Tr
  | .nil => .nil
  | .node q _ l r => mk q none l r
theorem mk_some {q : Pf} {v : Int} {l r : Tr} : mk q (some v) l r = .node q (some v) l r := by unfold mk; rfl
theorem mk_full {q : Pf} {o : Option Int} {l r : Tr} (h : o = none → l ≠ .nil ∧ r ≠ .nil) : mk q o l r = .node q o l r := by
  cases o with
  | some v => exact mk_some
  | none =>
    obtain ⟨h1, h2⟩ := h rfl
    unfold mk
    split
    · exact absurd rfl h1
    · exact absurd rfl h2
    · rfl
theorem com_same (p : Pf) (hp : Ok p) : com p p = p := (com_wi hp hp).2 ((wi_iff hp hp).2 ⟨Int.le_refl _, hp.fs⟩)
theorem wi_of_com {p q : Pf} (hp : Ok p) (hq : Ok q) (h : com p q = q) : wi q p = true := (com_wi hq hp).1 ((com_comm hq hp).trans h)
theorem com_of_wi {p q : Pf} (hp : Ok p) (hq : Ok q) (h : wi q p = true) : com p q = q := (com_comm hp hq).trans ((com_wi hq hp).2 h)
theorem wi_anti {p q : Pf} (hp : Ok p) (hq : Ok q) (h : wi p q = true) (h2 : wi q p = true) : p = q := by
  obtain ⟨a1, a2⟩ := (wi_iff hp hq).1 h
  obtain ⟨b1, b2⟩ := (wi_iff hq hp).1 h2
  have e : p.2 = q.2 := by omega
  exact Prod.ext (by rw [← b2, ← e]; exact hp.fs.symm) e
/-- Putting in is laying at the place. -/
theorem ins_lay {p : Pf} (hp : Ok p) (v : Int) : ∀ T : Tr, T.Inv → ins p v T = lay p (pth p T).1 (withN p v (pth p T).2)
  | .nil, _ => rfl
  | .node q o l r, h => by
    obtain ⟨h1, h2, h3, h4, h5, h6⟩ := h
    unfold ins pth
    by_cases e1 : q = p
    · subst e1
      rw [if_pos rfl, if_pos (com_same q hp)]
      simp only [lay, withN]
      rw [if_pos (com_same q hp)]
    · rw [if_neg e1]
      by_cases e2 : wi q p = true
      · have c1 := com_of_wi hp h1 e2
        rw [if_pos e2, if_neg (fun e => e1 (c1.symm.trans e)), if_pos c1]
        by_cases e3 : bit p.1 q.2 = 0
        · rw [if_pos e3, if_pos e3]
          simp only [lay, put1]
          rw [if_pos e3, ← ins_lay hp v l h5, mk_full (fun ho => ⟨ins_ne _ _ _, (h4 ho).2⟩)]
        · rw [if_neg e3, if_neg e3]
          simp only [lay, put1]
          rw [if_neg e3, ← ins_lay hp v r h6, mk_full (fun ho => ⟨(h4 ho).1, ins_ne _ _ _⟩)]
      · have c1 : ¬ com p q = q := fun e => e2 (wi_of_com hp h1 e)
        rw [if_neg e2]
        by_cases e3 : wi p q = true
        · have c2 := (com_wi hp h1).2 e3
          rw [if_pos e3, if_pos c2]
          simp only [lay, withN]
          rw [if_neg c1, if_pos c2]
        · have c2 : ¬ com p q = p := fun e => e3 ((com_wi hp h1).1 e)
          rw [if_neg e3, if_neg c2, if_neg c1]
          simp only [lay, withN]
          rw [if_neg c1, if_neg c2]
/-- Is it there? -/
theorem isN_find {p : Pf} (hp : Ok p) : ∀ T : Tr, T.Inv → isN p (pth p T).2 = (find p T).isSome
  | .nil, _ => rfl
  | .node q o l r, h => by
    obtain ⟨h1, h2, h3, h4, h5, h6⟩ := h
    unfold find pth
    by_cases e1 : q = p
    · subst e1
      rw [if_pos rfl, if_pos (com_same q hp)]
      simp [isN]
    · rw [if_neg e1]
      by_cases e2 : wi q p = true
      · have c1 := com_of_wi hp h1 e2
        rw [if_pos e2, if_neg (fun e => e1 (c1.symm.trans e)), if_pos c1]
        by_cases e3 : bit p.1 q.2 = 0
        · rw [if_pos e3, if_pos e3]; exact isN_find hp l h5
        · rw [if_neg e3, if_neg e3]; exact isN_find hp r h6
      · have c1 : ¬ com p q = q := fun e => e2 (wi_of_com hp h1 e)
        rw [if_neg e2]
        by_cases e3 : wi p q = true
        · rw [if_pos ((com_wi hp h1).2 e3)]; simp [isN, e1]
        · rw [if_neg (fun e => e3 ((com_wi hp h1).1 e)), if_neg c1]; simp [isN, e1]
/-- Taking out is laying what is left at the place. -/
theorem del_lay {p : Pf} (hp : Ok p) : ∀ T : Tr, T.Inv → isN p (pth p T).2 = true → del p T = lay p (pth p T).1 (bare (pth p T).2)
  | .nil, _, h => by simp [pth, isN] at h
  | .node q o l r, h, hn => by
    obtain ⟨h1, h2, h3, h4, h5, h6⟩ := h
    unfold pth at hn
    unfold del pth
    by_cases e1 : q = p
    · subst e1
      rw [if_pos rfl, if_pos (com_same q hp)]
      rfl
    · rw [if_neg e1]
      by_cases e2 : wi q p = true
      · have c1 := com_of_wi hp h1 e2
        have c2 : ¬ com p q = p := fun e => e1 (c1.symm.trans e)
        rw [if_neg c2, if_pos c1] at hn
        rw [if_pos e2, if_neg c2, if_pos c1]
        by_cases e3 : bit p.1 q.2 = 0
        · rw [if_pos e3] at hn
          rw [if_pos e3, if_pos e3]
          simp only [lay, put1]
          rw [if_pos e3, ← del_lay hp l h5 hn]
        · rw [if_neg e3] at hn
          rw [if_neg e3, if_neg e3]
          simp only [lay, put1]
          rw [if_neg e3, ← del_lay hp r h6 hn]
      · have c1 : ¬ com p q = q := fun e => e2 (wi_of_com hp h1 e)
        exfalso
        by_cases e3 : wi p q = true
        · rw [if_pos ((com_wi hp h1).2 e3)] at hn; simp [isN, e1] at hn
        · rw [if_neg (fun e => e3 ((com_wi hp h1).1 e)), if_neg c1] at hn; simp [isN, e1] at hn
/-- What stands at the place is right, too, and on the way down all are nodes above it. -/
theorem pth_inv {p : Pf} (hp : Ok p) : ∀ T : Tr, T.Inv → (pth p T).2.Inv ∧ ∀ t ∈ (pth p T).1, ∃ q o l r, t = .node q o l r ∧ Ok q ∧ 0 ≤ q.2 ∧ q.2 ≤ 31
  | .nil, _ => ⟨trivial, fun t h => by simp [pth] at h⟩
  | .node q o l r, h => by
    have hh := h
    obtain ⟨h1, h2, h3, h4, h5, h6⟩ := h
    unfold pth
    by_cases c1 : com p q = p
    · rw [if_pos c1]; exact ⟨hh, fun t h => by simp at h⟩
    · rw [if_neg c1]
      by_cases c2 : com p q = q
      · rw [if_pos c2]
        have hw := wi_of_com hp h1 c2
        have hb := Bel.of h1 hp hw (fun e => c1 (c2.trans e))
        by_cases e3 : bit p.1 q.2 = 0
        · rw [if_pos e3]
          obtain ⟨a1, a2⟩ := pth_inv hp l h5
          refine ⟨a1, fun t ht => ?_⟩
          rcases List.mem_cons.1 ht with rfl | ht
          · exact ⟨q, o, l, r, rfl, h1, h1.n0, hb.n31⟩
          · exact a2 t ht
        · rw [if_neg e3]
          obtain ⟨a1, a2⟩ := pth_inv hp r h6
          refine ⟨a1, fun t ht => ?_⟩
          rcases List.mem_cons.1 ht with rfl | ht
          · exact ⟨q, o, l, r, rfl, h1, h1.n0, hb.n31⟩
          · exact a2 t ht
      · rw [if_neg c2]; exact ⟨hh, fun t h => by simp at h⟩
/-- What is not there is not taken out: the tree stays. -/
theorem del_same' {p : Pf} (hp : Ok p) : ∀ T : Tr, T.Inv → find p T = none → del p T = T
  | .nil, _, _ => rfl
  | .node q o l r, h, hf => by
    obtain ⟨h1, h2, h3, h4, h5, h6⟩ := h
    unfold find at hf
    unfold del
    by_cases e1 : q = p
    · rw [if_pos e1] at hf
      subst hf
      rw [if_pos e1, mk_full h4]
    · rw [if_neg e1] at hf
      rw [if_neg e1]
      by_cases e2 : wi q p = true
      · rw [if_pos e2] at hf
        rw [if_pos e2]
        by_cases e3 : bit p.1 q.2 = 0
        · rw [if_pos e3] at hf
          rw [if_pos e3, del_same' hp l h5 hf, mk_full h4]
        · rw [if_neg e3] at hf
          rw [if_neg e3, del_same' hp r h6 hf, mk_full h4]
      · rw [if_neg e2]
theorem del_same {p : Pf} (hp : Ok p) {T : Tr} (h : T.Inv) (hn : ¬ isAt T.el p = true) : del p T = T := by
  refine del_same' hp T h ?_
  have := isAt_look (p := p) h.up
  rw [← find_el hp T h] at this
  cases hf : find p T with
  | none => rfl
  | some v => rw [hf] at this; exact absurd this.symm hn
theorem pth_len (p : Pf) : ∀ T : Tr, (pth p T).1.length ≤ T.size
  | .nil => Nat.le_refl _
  | .node q o l r => by
    have hl := pth_len p l
    have hr := pth_len p r
    unfold pth
    simp only [Tr.size]
    split
    · simp
    · split
      · split
        · simp; omega
        · simp; omega
      · simp
end Tp
end Go.Proofs.Ytdjhgahdiggahaa

namespace Go.Proofs.Ytdjhgahdiggahaa
open Go.RowKit
set_option maxHeartbeats 400000 in
theorem mayW_any (a n : Int) (w : World) :
    Calls Try.prog 86 #[.agg #[.int .u32 a, .int .i64 n]] w fun e w' => e = .returned (.bool (Wp.mayB a n)) ∧ Below w.heap.size w w' := by
  go_enter Try.func86, Try.ntmps86
  go_wp2
  · have h1 : 0 ≤ n := by assumption
    have h2 : n ≤ 32 := by assumption
    go_ret
    exact ⟨ret_b (by rw [Wp.shl_zero h1 h2]; simp [Wp.mayB, h1, h2]), by go_grown⟩
  · have h1 : 0 ≤ n := by assumption
    have h2 : ¬ n ≤ 32 := by omega
    go_ret
    exact ⟨ret_b (by simp [Wp.mayB, h2]), by go_grown⟩
  · have h1 : ¬ 0 ≤ n := by omega
    go_ret
    exact ⟨ret_b (by simp [Wp.mayB, h1]), by go_grown⟩

theorem xor_shr {a b n : Int} (ha : 0 ≤ a) (ha2 : a < 4294967296) (hb : 0 ≤ b) (hb2 : b < 4294967296) (h : Wp.fst a n = a) :
    (bits BinOp.xor IntKind.u32 a b / 2 ^ (32 - n).toNat == 0) = decide (Wp.fst b n = a) := by
  rw [u32_xor a b ha ha2 hb hb2]
  obtain ⟨a', rfl⟩ := Int.eq_ofNat_of_zero_le ha
  obtain ⟨b', rfl⟩ := Int.eq_ofNat_of_zero_le hb
  exact Wp.xor_fst a' b' _ n rfl h

end Go.Proofs.Ytdjhgahdiggahaa

namespace Go.Proofs.Ytdjhgahdiggahaa
open Go.RowKit


theorem quiet_same {P : Program} {f : FuncId} {args : Array Value} {w : World} {n : Nat} {v : Value}
    (h : Calls P f args (w.drewN n) fun e w' => e = .returned v ∧ w.drewN n = w') : Calls P f args (w.drewN n) fun e w'' => e = .returned v ∧ ∃ m, w'' = w.drewN m :=
  h.mono fun _ _ ⟨he, hm⟩ => ⟨he, n, hm.symm⟩

end Go.Proofs.Ytdjhgahdiggahaa
