/- What was sent or taken by an end changes.
   append to an owned slice: its block is the old one or a new one.
   Both ends in memory, what flies, what was sent and taken: what stands when one part changes. -/
import Derived.Test.YtghaajmalhcgbaaZ01
import Derived.Test.YtghaajmalhcgbaaZ05

set_option linter.unusedSimpArgs false
set_option linter.unusedVariables false
namespace Go.Proofs.Ytghaajmalhcgbaa
open Go.RowKit

/-- The type of a block. -/
def ty (w : World) (b : Nat) : Option TypeId := match w.heap[b]? with
  | some (.cells _ t _) => some t
  | _ => none
theorem blk_ty {t : TypeId} {g : Nat} {cs : List Value} {w : World} (h : BlkAt t g cs w) : ty w g = some t := by
  unfold ty
  rw [show w.heap[g]? = _ from h]
theorem own_ty {w : World} {B : Nat} {e : TypeId} {size n : Nat} {v : Value} {xs : List Value} (h : w.ownsRow B e size v n xs) {g : Nat} (hg : v.ownBlock = some g) : ty w g = some e := by
  obtain ⟨cur, hc⟩ := own_block h hg
  unfold ty
  rw [hc]
theorem ty_noB {w : World} {g : Nat} {t : TypeId} (h : ty w g = some t) (ht : t ≠ 5) : NoB w g := by
  intro cur fr h2
  unfold ty at h
  rw [h2] at h
  simp at h
  exact ht h.symm
theorem psm_ty {p g : Nat} {X : List Nat} {s : Sm} {w : World} (h : PSm p g X s w) : ty w p = some 137 ∧ (g = p ∨ ty w g = some 90) := by
  obtain ⟨v, h1, h2⟩ := h
  refine ⟨blk_ty h1, ?_⟩
  rcases h2 with ⟨_, e, _⟩ | ⟨o, cap, cs, _, _, hb, _⟩
  · exact .inl e
  · exact .inr (blk_ty hb)
theorem PSm.less {p g : Nat} {X Y : List Nat} {s : Sm} {w : World} (h : PSm p g X s w) (hY : ∀ k ∈ Y, k ∈ X) : PSm p g Y s w := by
  obtain ⟨v, h1, h2⟩ := h
  refine ⟨v, h1, ?_⟩
  rcases h2 with h2 | ⟨o, cap, cs, a1, a2, a3, a4, a5, a6⟩
  · exact .inl h2
  · exact .inr ⟨o, cap, cs, a1, a2, a3, a4, a5, fun j b hj => by
      obtain ⟨u, hu, hb⟩ := a6 j b hj
      exact ⟨u, hu, hb.less hY⟩⟩
theorem PSm.more {p g : Nat} {X : List Nat} {s : Sm} {w : World} (h : PSm p g X s w) {k : Nat} (hk : w.heap.size ≤ k) : PSm p g (k :: X) s w := by
  obtain ⟨v, h1, h2⟩ := h
  refine ⟨v, h1, ?_⟩
  rcases h2 with h2 | ⟨o, cap, cs, a1, a2, a3, a4, a5, a6⟩
  · exact .inl h2
  · exact .inr ⟨o, cap, cs, a1, a2, a3, a4, a5, fun j b hj => by
      obtain ⟨u, hu, hb⟩ := a6 j b hj
      exact ⟨u, hu, hb.more hk⟩⟩
/-- What was sent (false) or taken (true) by an end. -/
def cont (σ : Wn) (k d : Bool) : List UInt8 := if k then σ.y d else σ.x d
def pr2 (V : Bool → Value) : List Value := [V false, V true]
/-- Both ends in memory. -/
structure WM (w0 : World) (P : Bool → Nat) (eb fb : Nat) (A : Bool → Nat) (G : Bool → Nat) (X : List Nat) (V : Bool → Value) (R : Bool → Bool → Value) (σ : Wn) (w : World) : Prop where
  e : BlkAt 87 eb (pr2 fun d => .pointer (some ⟨P d, 0, none⟩)) w
  s : ∀ d, PSm (P d) (G d) X (σ.s d) w
  f : BlkAt 89 fb (pr2 V) w
  fm : ∀ d, ∃ M, M.map (·.1) = σ.f d ∧ OwnS w w0.heap.size (V d) M ∧ Bods w X M
  a : ∀ k, BlkAt 91 (A k) (pr2 (R k)) w
  r : ∀ k d, OwnB w w0.heap.size (R k d) (cont σ k d)
  rx : ∀ k d g, (R k d).ownBlock = some g → g ∈ X
  xl : ∀ g ∈ X, g < w.heap.size
  pp : ∀ d, P d ≠ P (!d)
  gp : ∀ d, G d ≠ P (!d)
  gg : ∀ d, G d ≠ G (!d)
  vv : ∀ d g, (V d).ownBlock = some g → (V (!d)).ownBlock ≠ some g
  rr : ∀ k d k' d' g, (R k d).ownBlock = some g → (R k' d').ownBlock = some g → k = k' ∧ d = d'
  aa : A false ≠ A true
  lo : ∀ d, w0.heap.size ≤ P d ∧ w0.heap.size ≤ G d ∧ w0.heap.size ≤ A d
  lf : w0.heap.size ≤ fb
  bel : Below w0.heap.size w0 w
section
variable {w0 : World} {P : Bool → Nat} {eb fb : Nat} {A G : Bool → Nat} {X : List Nat} {V : Bool → Value} {R : Bool → Bool → Value} {σ : Wn} {w w' : World}
theorem key2 (b d : Bool) : b = d ∨ b = !d := by cases b <;> cases d <;> simp
/-- Behind a change that touches no part of it. -/
theorem WM.later (h : WM w0 P eb fb A G X V R σ w) (hb : Below w.heap.size w w') : WM w0 P eb fb A G X V R σ w' :=
  ⟨h.e.later hb, fun d => (h.s d).later hb, h.f.later hb, fun d => by
    obtain ⟨M, h1, h2, h3⟩ := h.fm d
    exact ⟨M, h1, h2.later hb, h3.later hb⟩, fun k => (h.a k).later hb, fun k d => (h.r k d).later hb, h.rx, fun g hg => Nat.lt_of_lt_of_le (h.xl g hg) hb.size, h.pp, h.gp, h.gg, h.vv, h.rr, h.aa, h.lo, h.lf, below_of h.bel hb⟩
theorem ne_ty {a b : Nat} {s t : TypeId} (h1 : ty w a = some s) (h2 : ty w b = some t) (hn : s ≠ t) : a ≠ b := fun e => by rw [e, h2] at h1; exact hn (Option.some.inj h1).symm
/-- One end's stream changes. -/
theorem WM.stream (h : WM w0 P eb fb A G X V R σ w) (d : Bool) {s' : Sm} {g' : Nat} (hP : PSm (P d) g' X s' w') (hc : Chg [P d, G d] w w') (hg : g' = G d ∨ w.heap.size ≤ g') :
    WM w0 P eb fb A (upB G d g') X V R ⟨upB σ.s d s', σ.f, σ.x, σ.y⟩ w' := by
  obtain ⟨tp, tg⟩ := psm_ty (h.s d)
  have hln := (h.s (!d)).lt
  have hsz := h.bel.size
  have out : ∀ b t, ty w b = some t → t ≠ 137 → t ≠ 90 → b ∉ [P d, G d] := by
    intro b t hb h1 h2
    simp only [List.mem_cons, List.not_mem_nil, or_false, not_or]
    refine ⟨ne_ty hb tp h1, ?_⟩
    rcases tg with e | e
    · rw [e]; exact ne_ty hb tp h1
    · exact ne_ty hb e h2
  have nob : ∀ k ∈ [P d, G d], NoB w k ∨ k ∈ X := by
    intro k hk
    simp at hk
    rcases hk with e | e
    · rw [e]; exact .inl (h.s d).noB.1
    · rw [e]; exact .inl (h.s d).noB.2
  refine ⟨hc.blk h.e (out _ _ (blk_ty h.e) (by decide) (by decide)), fun b => ?_, hc.blk h.f (out _ _ (blk_ty h.f) (by decide) (by decide)), fun b => ?_, fun k => hc.blk (h.a k) (out _ _ (blk_ty (h.a k)) (by decide) (by decide)), fun k b => hc.owns (h.r k b) (fun g hg => out _ _ (own_ty (h.r k b) hg) (by decide) (by decide)), h.rx, fun g hg => Nat.lt_of_lt_of_le (h.xl g hg) hc.size, h.pp, fun b => ?_, fun b => ?_, h.vv, h.rr, h.aa, fun b => ?_, h.lf, h.bel.trans (hc.below hsz (by have := h.lo d; simp; omega))⟩
  · rcases key2 b d with rfl | rfl
    · simp only [upB_self]; exact hP
    · simp only [upB_not]
      have e1 := h.pp d
      have e2 := h.gp d
      have e3 := h.gp (!d)
      have e4 := h.gg d
      rw [Bool.not_not] at e3
      exact (h.s (!d)).chg hc (by simp; omega) (by simp; omega) nob
  · obtain ⟨M, h1, h2, h3⟩ := h.fm b
    exact ⟨M, h1, hc.owns h2 (fun g hg => out _ _ (own_ty h2 hg) (by decide) (by decide)), h3.chg hc nob⟩
  · rcases key2 b d with rfl | rfl
    · simp only [upB_self]
      have := h.gp b
      have := (h.s (!b)).lt.1
      rcases hg with e | e <;> omega
    · simp only [upB_not]; exact h.gp (!d)
  · rcases key2 b d with rfl | rfl
    · simp only [upB_self, upB_not]
      have := h.gg b
      rcases hg with e | e <;> omega
    · simp only [upB_not, Bool.not_not, upB_self]
      have := h.gg d
      rcases hg with e | e <;> omega
  · rcases key2 b d with rfl | rfl
    · simp only [upB_self]
      have := h.lo b
      refine ⟨this.1, ?_, this.2.2⟩
      rcases hg with e | e <;> omega
    · simp only [upB_not]; exact h.lo _
/-- What flies from one end changes. -/
theorem WM.fly (h : WM w0 P eb fb A G X V R σ w) (d : Bool) {v' : Value} {F' : List Sg} {M : List (Sg × Value)} {L : List Nat} (hf : BlkAt 89 fb (pr2 (upB V d v')) w') (hM : M.map (·.1) = F') (hO : OwnS w' w0.heap.size v' M) (hB : Bods w' X M)
    (hc : Chg L w w') (hL : ∀ g ∈ L, g = fb ∨ (V d).ownBlock = some g) (hv : ∀ g, v'.ownBlock = some g → (V d).ownBlock = some g ∨ w.heap.size ≤ g) :
    WM w0 P eb fb A G X (upB V d v') R ⟨σ.s, upB σ.f d F', σ.x, σ.y⟩ w' := by
  obtain ⟨M0, q1, q2, q3⟩ := h.fm d
  obtain ⟨M1, r1, r2, r3⟩ := h.fm (!d)
  have tl : ∀ g ∈ L, ty w g = some 89 ∨ ty w g = some 94 := by
    intro g hg
    rcases hL g hg with e | e
    · rw [e]; exact .inl (blk_ty h.f)
    · exact .inr (own_ty q2 e)
  have out : ∀ b t, ty w b = some t → t ≠ 89 → t ≠ 94 → b ∉ L := by
    intro b t hb h1 h2 hm
    rcases tl b hm with e | e
    · rw [hb] at e; exact h1 (Option.some.inj e)
    · rw [hb] at e; exact h2 (Option.some.inj e)
  have nob : ∀ k ∈ L, NoB w k ∨ k ∈ X := fun k hk => by
    rcases tl k hk with e | e
    · exact .inl (ty_noB e (by decide))
    · exact .inl (ty_noB e (by decide))
  have sout : ∀ b, P b ∉ L ∧ G b ∉ L := by
    intro b
    obtain ⟨tp, tg⟩ := psm_ty (h.s b)
    refine ⟨out _ _ tp (by decide) (by decide), ?_⟩
    rcases tg with e | e
    · rw [e]; exact out _ _ tp (by decide) (by decide)
    · exact out _ _ e (by decide) (by decide)
  refine ⟨hc.blk h.e (out _ _ (blk_ty h.e) (by decide) (by decide)), fun b => (h.s b).chg hc (sout b).1 (sout b).2 nob, hf, fun b => ?_, fun k => hc.blk (h.a k) (out _ _ (blk_ty (h.a k)) (by decide) (by decide)), fun k b => hc.owns (h.r k b) (fun g hg => out _ _ (own_ty (h.r k b) hg) (by decide) (by decide)), h.rx, fun g hg => Nat.lt_of_lt_of_le (h.xl g hg) hc.size, h.pp, h.gp, h.gg, fun b g hg => ?_, h.rr, h.aa, h.lo, h.lf, h.bel.trans (hc.below h.bel.size (fun g hg => ?_))⟩
  · rcases key2 b d with rfl | rfl
    · simp only [upB_self]; exact ⟨M, hM, hO, hB⟩
    · simp only [upB_not]
      refine ⟨M1, r1, hc.owns r2 (fun g hg hm => ?_), r3.chg hc nob⟩
      rcases hL g hm with e | e
      · rw [e] at hg; exact ne_ty (own_ty r2 hg) (blk_ty h.f) (by decide) rfl
      · exact h.vv d g e hg
  · rcases key2 b d with rfl | rfl
    · simp only [upB_self, upB_not] at hg ⊢
      rcases hv g hg with e | e
      · exact h.vv b g e
      · intro e2
        have := (r2.lt g e2).2
        omega
    · simp only [upB_not, Bool.not_not, upB_self] at hg ⊢
      intro e2
      rcases hv g e2 with e | e
      · exact h.vv d g e hg
      · have := (r2.lt g hg).2
        omega
  · rcases hL g hg with e | e
    · rw [e]; exact h.lf
    · exact (q2.lt g e).1
end
end Go.Proofs.Ytghaajmalhcgbaa

namespace Go.Proofs.Ytghaajmalhcgbaa
open Go.RowKit

theorem app_fresh {w w' : World} {v' : Value} (base : Nat) (t ty e : TypeId) (i : TypeInfo) (z : Value) (size bytes : Nat) (ht : (Try.prog).underlying t = some (.slice e)) (hi : (Try.prog).info? e = some i) (hz : i.zero = some z)
    (hsize : i.size = size) (hby : i.bytes = bytes) (hzs : z.cells.size = size) (hsz : 0 < size)
    (v : Value) (n : Nat) (xs : List Value) (hown : w.ownsRow base e size v n xs)
    (a : Addr) (m c : Nat) (news : List Value) (hl : news.length = m * size) (hnews : ∀ j u, news[j]? = some u → w.cell? (a.add j) = some u) (h1 : ∀ u ∈ news, u.oneCell' = true)
    (h63 : n + m ≤ maxLen) (hbytes : (n + m) * bytes ≤ 140737488355328)
    (hr : (Builtin.append_ #[t, t] ty #[v, .slice (some a) m c]).run Try.prog w = .ok v' w') (g : Nat) (hg : v'.ownBlock = some g) : v.ownBlock = some g ∨ w.heap.size ≤ g := by
  subst hsize
  subst hby
  rcases hown.2 with ⟨rfl, rfl⟩ | ⟨g0, cap, cur, rfl, hbg, hg0, hnc, hcm, hcs, htake⟩
  · have hx : xs = [] := List.eq_nil_of_length_eq_zero (by simpa using hown.1)
    subst hx
    obtain ⟨v2, w2, hr2, ho2, _⟩ := run_append_own (P := Try.prog) (w := w) w.heap.size t ty e i z i.size i.bytes ht hi hz rfl rfl hzs hsz (.slice none 0 0) 0 [] (World.ownsRow_nil w _ _ _) a m c news hl hnews h1 h63 hbytes (Nat.le_refl _)
    rw [hr2] at hr
    cases hr
    exact .inr (ho2.lt g hg).1
  · by_cases hroom : n + m ≤ cap
    · have hfit : n * i.size + news.length ≤ cur.size := by rw [hl, hcs, ← Nat.add_mul]; exact Nat.mul_le_mul_right _ hroom
      have hr2 := run_append_room (P := Try.prog) w t ty e i ht hi g0 n cap cur hg0 a m c news hl hnews h1 hroom hfit
      rw [hr2] at hr
      cases hr
      exact .inl hg
    · have holds : ∀ j u, xs[j]? = some u → w.cell? ((⟨g0, 0, none⟩ : Addr).add j) = some u := hown.cells (g := g0) rfl
      have hr2 := run_append_grow (P := Try.prog) w t ty e i z ht hi hz ⟨g0, 0, none⟩ n cap xs hown.1 holds a m c news hl hnews (by omega) (by unfold maxLen at h63; omega) (growslice_fits (by omega) hbytes)
      rw [hr2] at hr
      cases hr
      simp [Value.ownBlock] at hg
      exact .inr (by omega)
/-- The old row's cells stand, behind an append to it. -/
theorem app_keeps {w w' : World} {v' : Value} (base : Nat) (t ty e : TypeId) (i : TypeInfo) (z : Value) (size bytes : Nat) (ht : (Try.prog).underlying t = some (.slice e)) (hi : (Try.prog).info? e = some i) (hz : i.zero = some z)
    (hsize : i.size = size) (hby : i.bytes = bytes) (hzs : z.cells.size = size) (hsz : 0 < size)
    (v : Value) (n : Nat) (xs : List Value) (hown : w.ownsRow base e size v n xs)
    (a : Addr) (m c : Nat) (news : List Value) (hl : news.length = m * size) (hnews : ∀ j u, news[j]? = some u → w.cell? (a.add j) = some u) (h1 : ∀ u ∈ news, u.oneCell' = true)
    (h63 : n + m ≤ maxLen) (hbytes : (n + m) * bytes ≤ 140737488355328) (hbase : base ≤ w.heap.size)
    (hr : (Builtin.append_ #[t, t] ty #[v, .slice (some a) m c]).run Try.prog w = .ok v' w') (g : Nat) (hg : v.ownBlock = some g) : ∀ j u, xs[j]? = some u → w'.cell? ((⟨g, 0, none⟩ : Addr).add j) = some u := by
  obtain ⟨v2, w2, hr2, ho2, _⟩ := run_append_own (P := Try.prog) (w := w) base t ty e i z size bytes ht hi hz hsize hby hzs hsz v n xs hown a m c news hl hnews h1 h63 hbytes hbase
  rw [hr2] at hr
  cases hr
  subst hsize
  subst hby
  rcases hown.2 with ⟨rfl, rfl⟩ | ⟨g0, cap, cur, rfl, hbg, hg0, hnc, hcm, hcs, htake⟩
  · simp [Value.ownBlock] at hg
  · obtain rfl : g0 = g := by simpa [Value.ownBlock] using hg
    by_cases hroom : n + m ≤ cap
    · have hfit : n * i.size + news.length ≤ cur.size := by rw [hl, hcs, ← Nat.add_mul]; exact Nat.mul_le_mul_right _ hroom
      have hr3 := run_append_room (P := Try.prog) w t ty e i ht hi g0 n cap cur hg0 a m c news hl hnews h1 hroom hfit
      rw [hr3] at hr2
      cases hr2
      intro j u hj
      exact ho2.cells (g := g0) rfl j u (by rw [List.getElem?_append_left (List.getElem?_eq_some_iff.1 hj).1]; exact hj)
    · have holds : ∀ j u, xs[j]? = some u → w.cell? ((⟨g0, 0, none⟩ : Addr).add j) = some u := hown.cells (g := g0) rfl
      have hr3 := run_append_grow (P := Try.prog) w t ty e i z ht hi hz ⟨g0, 0, none⟩ n cap xs hown.1 holds a m c news hl hnews (by omega) (by unfold maxLen at h63; omega) (growslice_fits (by omega) hbytes)
      rw [hr3] at hr2
      cases hr2
      intro j u hj
      have hb : Below w.heap.size w (w.drew.alloc (.cells (xs.toArray ++ news.toArray ++ Builtin.zeroCells z.cells (grownCap w (n + m) cap e - (n + m))) e)) := (Below.refl _ _).drew.trans (show Below w.heap.size w.drew _ from ba1 w.drew _)
      exact cell_later hb (holds j u hj)
end Go.Proofs.Ytghaajmalhcgbaa

namespace Go.Proofs.Ytghaajmalhcgbaa
open Go.RowKit
theorem Bods.more {w : World} {X : List Nat} {L : List (Sg × Value)} (h : Bods w X L) {k : Nat} (hk : w.heap.size ≤ k) : Bods w (k :: X) L := fun x hx => (h x hx).more hk
theorem Bods.less {w : World} {X Y : List Nat} {L : List (Sg × Value)} (h : Bods w X L) (hY : ∀ k ∈ Y, k ∈ X) : Bods w Y L := fun x hx => (h x hx).less hY
def upR (R : Bool → Bool → Value) (k d : Bool) (v : Value) : Bool → Bool → Value := upB R k (upB (R k) d v)
def rowW (σ : Wn) (k d : Bool) (ys : List UInt8) : Wn := ⟨σ.s, σ.f, if k then σ.x else upB σ.x d ys, if k then upB σ.y d ys else σ.y⟩
theorem upR_cases (R : Bool → Bool → Value) (k d : Bool) (v : Value) (k' d' : Bool) : (k' = k ∧ d' = d ∧ upR R k d v k' d' = v) ∨ (¬ (k' = k ∧ d' = d) ∧ upR R k d v k' d' = R k' d') := by
  unfold upR upB
  by_cases h1 : k' = k
  · subst h1
    by_cases h2 : d' = d
    · subst h2; simp
    · right; simp [h2]
  · right; simp [h1]
theorem cont_row (σ : Wn) (k d : Bool) (ys : List UInt8) (k' d' : Bool) : (k' = k ∧ d' = d ∧ cont (rowW σ k d ys) k' d' = ys) ∨ (¬ (k' = k ∧ d' = d) ∧ cont (rowW σ k d ys) k' d' = cont σ k' d') := by
  unfold cont rowW upB
  cases k <;> cases k' <;> cases d <;> cases d' <;> simp
section
variable {w0 : World} {P : Bool → Nat} {eb fb : Nat} {A G : Bool → Nat} {X : List Nat} {V : Bool → Value} {R : Bool → Bool → Value} {σ : Wn} {w w' : World}
theorem WM.wide (h : WM w0 P eb fb A G X V R σ w) {g : Nat} (hg : w.heap.size ≤ g) : (∀ d, PSm (P d) (G d) (g :: X) (σ.s d) w) ∧ ∀ d, ∃ M, M.map (·.1) = σ.f d ∧ OwnS w w0.heap.size (V d) M ∧ Bods w (g :: X) M :=
  ⟨fun d => (h.s d).more hg, fun d => by
    obtain ⟨M, h1, h2, h3⟩ := h.fm d
    exact ⟨M, h1, h2, h3.more hg⟩⟩
theorem WM.rowX (h : WM w0 P eb fb A G X V R σ w) (k d : Bool) {v' : Value} {ys : List UInt8} {L X' : List Nat} (ha : BlkAt 91 (A k) (pr2 (upB (R k) d v')) w') (hr : OwnB w' w0.heap.size v' ys)
    (hc : Chg L w w') (hL : ∀ g ∈ L, g = A k ∨ (R k d).ownBlock = some g) (hv : ∀ g, v'.ownBlock = some g → (R k d).ownBlock = some g ∨ w.heap.size ≤ g)
    (hs : ∀ d, PSm (P d) (G d) X' (σ.s d) w) (hf : ∀ d, ∃ M, M.map (·.1) = σ.f d ∧ OwnS w w0.heap.size (V d) M ∧ Bods w X' M) (hX : ∀ g ∈ X, g ∈ X') (hX1 : ∀ g, v'.ownBlock = some g → g ∈ X') (hX2 : ∀ g ∈ X', g < w'.heap.size) :
    WM w0 P eb fb A G X' V (upR R k d v') (rowW σ k d ys) w' := by
  have tl : ∀ g ∈ L, ty w g = some 91 ∨ ty w g = some 5 := by
    intro g hg
    rcases hL g hg with e | e
    · rw [e]; exact .inl (blk_ty (h.a k))
    · exact .inr (own_ty (h.r k d) e)
  have out : ∀ b t, ty w b = some t → t ≠ 91 → t ≠ 5 → b ∉ L := by
    intro b t hb h1 h2 hm
    rcases tl b hm with e | e
    · rw [hb] at e; exact h1 (Option.some.inj e)
    · rw [hb] at e; exact h2 (Option.some.inj e)
  have nob : ∀ j ∈ L, NoB w j ∨ j ∈ X' := fun j hj => by
    rcases hL j hj with e | e
    · rw [e]; exact .inl (ty_noB (blk_ty (h.a k)) (by decide))
    · exact .inr (hX _ (h.rx k d j e))
  have sout : ∀ b, P b ∉ L ∧ G b ∉ L := by
    intro b
    obtain ⟨tp, tg⟩ := psm_ty (h.s b)
    refine ⟨out _ _ tp (by decide) (by decide), ?_⟩
    rcases tg with e | e
    · rw [e]; exact out _ _ tp (by decide) (by decide)
    · exact out _ _ e (by decide) (by decide)
  refine ⟨hc.blk h.e (out _ _ (blk_ty h.e) (by decide) (by decide)), fun b => (hs b).chg hc (sout b).1 (sout b).2 nob, hc.blk h.f (out _ _ (blk_ty h.f) (by decide) (by decide)), fun b => ?_, fun j => ?_, fun j b => ?_, fun j b g hg => ?_, hX2, h.pp, h.gp, h.gg, h.vv, fun k1 d1 k2 d2 g h1 h2 => ?_, h.aa, h.lo, h.lf, h.bel.trans (hc.below h.bel.size (fun g hg => ?_))⟩
  · obtain ⟨M, h1, h2, h3⟩ := hf b
    exact ⟨M, h1, hc.owns h2 (fun g hg => out _ _ (own_ty h2 hg) (by decide) (by decide)), h3.chg hc nob⟩
  · rcases key2 j k with rfl | rfl
    · unfold upR; rw [upB_self]; exact ha
    · unfold upR; rw [upB_not]
      refine hc.blk (h.a _) (fun hm => ?_)
      rcases hL _ hm with e | e
      · have := h.aa; cases k <;> simp at e <;> omega
      · exact ne_ty (blk_ty (h.a (!k))) (own_ty (h.r k d) e) (by decide) rfl
  · rcases upR_cases R k d v' j b with ⟨rfl, rfl, e⟩ | ⟨hn, e⟩
    · rw [e]
      rcases cont_row σ j b ys j b with ⟨_, _, e2⟩ | ⟨hn, _⟩
      · rw [e2]; exact hr
      · exact absurd ⟨rfl, rfl⟩ hn
    · rw [e]
      rcases cont_row σ k d ys j b with ⟨e1, e2, _⟩ | ⟨_, e2⟩
      · exact absurd ⟨e1, e2⟩ hn
      · rw [e2]
        refine hc.owns (h.r j b) (fun g hg hm => ?_)
        rcases hL g hm with e3 | e3
        · rw [e3] at hg; exact ne_ty (own_ty (h.r j b) hg) (blk_ty (h.a k)) (by decide) rfl
        · exact hn (h.rr _ _ _ _ g hg e3)
  · rcases upR_cases R k d v' j b with ⟨_, _, e⟩ | ⟨_, e⟩
    · rw [e] at hg; exact hX1 g hg
    · rw [e] at hg; exact hX g (h.rx j b g hg)
  · have old : ∀ j b, ¬ (j = k ∧ b = d) → (R j b).ownBlock = some g → v'.ownBlock = some g → False := by
      intro j b hn a1 a2
      rcases hv g a2 with e | e
      · exact hn (h.rr _ _ _ _ g a1 e)
      · have := h.xl g (h.rx j b g a1); omega
    rcases upR_cases R k d v' k1 d1 with ⟨e1, e2, e⟩ | ⟨hn, e⟩ <;> rcases upR_cases R k d v' k2 d2 with ⟨f1, f2, f⟩ | ⟨fn, f⟩ <;> rw [e] at h1 <;> rw [f] at h2
    · exact ⟨e1.trans f1.symm, e2.trans f2.symm⟩
    · exact (old _ _ fn h2 h1).elim
    · exact (old _ _ hn h1 h2).elim
    · exact h.rr _ _ _ _ g h1 h2
  · rcases hL g hg with e | e
    · rw [e]; exact (h.lo k).2.2
    · exact ((h.r k d).lt g e).1
theorem WM.row (h : WM w0 P eb fb A G X V R σ w) (k d : Bool) {v' : Value} {ys : List UInt8} {L : List Nat} (ha : BlkAt 91 (A k) (pr2 (upB (R k) d v')) w') (hr : OwnB w' w0.heap.size v' ys)
    (hc : Chg L w w') (hL : ∀ g ∈ L, g = A k ∨ (R k d).ownBlock = some g) (hv : ∀ g, v'.ownBlock = some g → (R k d).ownBlock = some g ∨ w.heap.size ≤ g) :
    ∃ X', WM w0 P eb fb A G X' V (upR R k d v') (rowW σ k d ys) w' ∧ ∀ M, Bods w X M → Bods w' X' M := by
  have nob : ∀ {X' : List Nat}, (∀ g ∈ X, g ∈ X') → ∀ j ∈ L, NoB w j ∨ j ∈ X' := fun hX j hj => by
    rcases hL j hj with e | e
    · rw [e]; exact .inl (ty_noB (blk_ty (h.a k)) (by decide))
    · exact .inr (hX _ (h.rx k d j e))
  cases ho : v'.ownBlock with
  | none => exact ⟨X, h.rowX k d ha hr hc hL hv h.s h.fm (fun _ hg => hg) (fun g hg => by rw [ho] at hg; cases hg) (fun g hg => Nat.lt_of_lt_of_le (h.xl g hg) hc.size), fun M hM => hM.chg hc (nob fun _ hg => hg)⟩
  | some g =>
    rcases hv g ho with e | e
    · exact ⟨X, h.rowX k d ha hr hc hL hv h.s h.fm (fun _ hg => hg) (fun g' hg => by rw [ho] at hg; cases hg; exact h.rx _ _ _ e) (fun g hg => Nat.lt_of_lt_of_le (h.xl g hg) hc.size), fun M hM => hM.chg hc (nob fun _ hg => hg)⟩
    · exact ⟨g :: X, h.rowX k d ha hr hc hL hv (h.wide e).1 (h.wide e).2 (fun _ hg => by simp [hg]) (fun g' hg => by rw [ho] at hg; cases hg; simp) (fun j hj => by
        rcases List.mem_cons.1 hj with e1 | e1
        · rw [e1]; exact (hr.lt g ho).2
        · exact Nat.lt_of_lt_of_le (h.xl j e1) hc.size), fun M hM => (hM.more e).chg hc (nob fun _ hg => by simp [hg])⟩
/-- What the law's take leaves. -/
def FA (w0 : World) (P : Bool → Nat) (eb fb : Nat) (A : Bool → Nat) (X : List Nat) (V : Bool → Value) (σ : Wn) (d : Bool) (g : Sg) (w : World) (e : Ending) (w' : World) : Prop :=
  ∃ G' X' R', e = .returned (.bool true) ∧ WM w0 P eb fb A G' X' V R' (takeW σ d g) w' ∧ (∀ M, Bods w X M → Bods w' X' M) ∧ ∃ L, Chg L w w' ∧ ∀ k ∈ L, ty w k ≠ some 94
theorem upB_same {α : Type} (h : Bool → α) (d : Bool) : upB h d (h d) = h := by funext b; unfold upB; split <;> simp_all
theorem bod1 {w : World} {X : List Nat} {u : Value} {c : UInt8} (h : Bod w X u [c]) : ∃ b o k, u = .slice (some ⟨b, o, none⟩) 1 k := by
  rcases h with ⟨h0, _⟩ | ⟨b, o, k, cur, fr, e1, _⟩
  · cases h0
  · exact ⟨b, o, k, e1⟩
theorem bod1c {w : World} {X : List Nat} {b o k : Nat} {c : UInt8} (h : Bod w X (.slice (some ⟨b, o, none⟩) 1 k) [c]) : w.cell? ⟨b, o, none⟩ = some (.int .u8 c.toNat) := by
  rcases h with ⟨h0, _⟩ | ⟨b, o, k, cur, fr, e1, _, _, _, h5⟩
  · cases h0
  · cases e1
    exact h5 0 c rfl
theorem run_app1 (w : World) (B : Nat) (ty : TypeId) (v : Value) (l : List UInt8) (c : UInt8) (e : Nat) (hown : OwnB w B v l) (hc : BlkAt 5 e [.int .u8 (c.toNat : Int)] w) (hn : l.length ≤ 1000000) (hB : B ≤ w.heap.size) :
    ∃ v' w', (Builtin.append_ #[90, 90] ty #[v, .slice (some ⟨e, 0, none⟩) 1 1]).run Try.prog w = .ok v' w' ∧ OwnB w' B v' (l ++ [c]) ∧ w.grownBy w' v.ownBlock ∧ ∀ g, v'.ownBlock = some g → v.ownBlock = some g ∨ w.heap.size ≤ g := by
  have hb : Bytes w (.slice (some ⟨e, 0, none⟩) 1 1) [c] := .inr ⟨e, 0, 1, rfl, hc.lt, Nat.le_refl _, fun j x hx => by
    match j, hx with
    | 0, hx => simp at hx; subst hx; exact hc.cell (j := 0) rfl⟩
  obtain ⟨v', w', h1, h2, _, h4⟩ := run_app w B ty v _ l [c] hown hb (by simp; omega) hB
  obtain ⟨i0, hi, hz0, hz1, hz2⟩ := info8
  exact ⟨v', w', h1, h2, h4, fun g hg => app_fresh (w := w) B 90 ty 5 i0 (.int .u8 0) 1 1 Try.underlying90 hi hz0 hz1 hz2 rfl (by decide) v l.length (bv l) hown ⟨e, 0, none⟩ 1 1 (bv [c]) (by simp [bv]) hb.news (bv_one [c]) (by unfold maxLen; omega) (by omega) h1 g hg⟩
end
end Go.Proofs.Ytghaajmalhcgbaa
