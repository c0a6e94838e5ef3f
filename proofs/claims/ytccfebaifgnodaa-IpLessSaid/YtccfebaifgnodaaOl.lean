/- Lists of options in memory: owned, and read. -/
import Derived.RangeFuncNested
import Derived.Test.YtccfebaifgnodaaAp
import Derived.Test.YtccfebaifgnodaaIs
namespace Go.Proofs.Ytccfebaifgnodaa
open Go.RowKit

theorem own_block {w : World} {B : Nat} {e : TypeId} {size n g : Nat} {v : Value} {xs : List Value} (h : w.ownsRow B e size v n xs) (hg : v.ownBlock = some g) : ∃ cur, w.heap[g]? = some (.cells cur e (0, 0)) := by
  rcases h.2 with ⟨rfl, _⟩ | ⟨g', cap, cur, rfl, _, hgg, _⟩
  · simp [Value.ownBlock] at hg
  · simp [Value.ownBlock] at hg; subst hg; exact ⟨_, hgg⟩
theorem own_apart {w : World} {B B' : Nat} {e e' : TypeId} {size size' n n' : Nat} {v v' : Value} {xs xs' : List Value} (h : w.ownsRow B e size v n xs) (h' : w.ownsRow B' e' size' v' n' xs') (he : e ≠ e') : v.ownBlock = none ∨ v.ownBlock ≠ v'.ownBlock := by
  cases hv : v.ownBlock with
  | none => exact .inl rfl
  | some g =>
    refine .inr fun e2 => ?_
    obtain ⟨c1, h1⟩ := own_block h hv
    obtain ⟨c2, h2⟩ := own_block h' e2.symm
    rw [h1] at h2
    simp at h2
    exact he h2.2
theorem OwnB.weak {w : World} {B B' : Nat} {v : Value} {l : List UInt8} (h : OwnB w B' v l) (hB : B ≤ B') : OwnB w B v l := by
  obtain ⟨hl, h0 | ⟨g, cap, cur, rfl, hb1, hr⟩⟩ := h
  · exact ⟨hl, .inl h0⟩
  · exact ⟨hl, .inr ⟨g, cap, cur, rfl, Nat.le_trans hB hb1, hr⟩⟩

/-- The cells of options. -/
def oc : List (List UInt8) → List Value → List Value
  | r :: R, u :: us => .int .u8 (Sm.at0 r 0 : Nat) :: u :: oc R us
  | _, _ => []
theorem oc_snoc : ∀ (R : List (List UInt8)) (us : List Value) (r : List UInt8) (u : Value), us.length = R.length → oc (R ++ [r]) (us ++ [u]) = oc R us ++ [.int .u8 (Sm.at0 r 0 : Nat), u]
  | [], [], _, _, _ => rfl
  | a :: R, b :: us, r, u, h => by
    have := oc_snoc R us r u (by simpa using h)
    simp only [List.cons_append, oc, this]
theorem oc_at : ∀ (R : List (List UInt8)) (us : List Value) (j : Nat) (r : List UInt8) (u : Value), us.length = R.length → R[j]? = some r → us[j]? = some u → (oc R us)[2 * j]? = some (.int .u8 (Sm.at0 r 0 : Nat)) ∧ (oc R us)[2 * j + 1]? = some u
  | [], _, _, _, _, _, h, _ => by simp at h
  | _ :: _, [], _, _, _, h, _, _ => by simp at h
  | a :: R, b :: us, 0, r, u, _, h, h2 => by simp at h h2; subst h h2; exact ⟨rfl, rfl⟩
  | a :: R, b :: us, j + 1, r, u, hl, h, h2 => by
    have := oc_at R us j r u (by simpa using hl) (by simpa using h) (by simpa using h2)
    rw [show 2 * (j + 1) = 2 * j + 1 + 1 by omega]
    simpa [oc] using this

/-- The value owns these options, and each one's data is owned. -/
def OptL (W : World) (B : Nat) (v : Value) (R : List (List UInt8)) : Prop :=
  ∃ us : List Value, us.length = R.length ∧ W.ownsRow B 50 2 v R.length (oc R us) ∧ ∀ (j : Nat) (u : Value) (r : List UInt8), us[j]? = some u → R[j]? = some r → OwnB W B u (r.drop 2)
theorem OptL.nil (W : World) (B : Nat) : OptL W B (.slice none 0 0) [] := ⟨[], rfl, World.ownsRow_nil W _ _ _, by simp⟩
theorem OptL.form {W : World} {B : Nat} {v : Value} {R : List (List UInt8)} (h : OptL W B v R) : ∃ a c, v = .slice a R.length c := by
  obtain ⟨us, _, h, _⟩ := h
  rcases h.2 with ⟨rfl, h0⟩ | ⟨g, cap, cur, rfl, _⟩
  · exact ⟨none, 0, by rw [h0]⟩
  · exact ⟨_, _, rfl⟩
theorem OptL.later {W W' : World} {B : Nat} {v : Value} {R : List (List UInt8)} (h : OptL W B v R) (hb : Below W.heap.size W W') : OptL W' B v R := by
  obtain ⟨us, h1, h2, h3⟩ := h
  refine ⟨us, h1, ?_, fun j u r hu hr => (h3 j u r hu hr).later hb⟩
  obtain ⟨hl, h0 | ⟨g, cap, cur, rfl, hb1, hg, hr⟩⟩ := h2
  · exact ⟨hl, .inl h0⟩
  · refine ⟨hl, .inr ⟨g, cap, cur, rfl, hb1, ?_, hr⟩⟩
    rw [hb.block g ?_]
    · exact hg
    · rcases Nat.lt_or_ge g W.heap.size with h1 | h1
      · exact h1
      · rw [Array.getElem?_eq_none h1] at hg; cases hg
/-- A turn of a block that holds no bytes and no options. -/
theorem OptL.kept {X Y : World} {B : Nat} {v : Value} {R : List (List UInt8)} {row : Option Nat} (h : OptL X B v R) (hg : X.grownBy Y row)
    (hr : ∀ r, row = some r → ∃ o, X.heap[r]? = some o ∧ (∀ cs p, o ≠ .cells cs 5 p) ∧ (∀ cs p, o ≠ .cells cs 50 p)) : OptL Y B v R := by
  obtain ⟨us, h1, h2, h3⟩ := h
  refine ⟨us, h1, h2.kept hg ?_, fun j u r hu hrr => World.ownsRow.kept (h3 j u r hu hrr) hg ?_⟩
  · cases hv : v.ownBlock with
    | none => exact .inl rfl
    | some g =>
      refine .inr fun e => ?_
      obtain ⟨o, ho, _, hn⟩ := hr g e.symm
      obtain ⟨cur, hc⟩ := own_block h2 hv
      rw [ho] at hc
      exact hn _ _ (Option.some.inj hc)
  · cases hv : u.ownBlock with
    | none => exact .inl rfl
    | some g =>
      refine .inr fun e => ?_
      obtain ⟨o, ho, hn, _⟩ := hr g e.symm
      obtain ⟨cur, hc⟩ := own_block (h3 j u r hu hrr) hv
      rw [ho] at hc
      exact hn _ _ (Option.some.inj hc)
theorem OptL.set {W : World} {B Bx : Nat} {v u u' : Value} {t : TypeId} {R : List (List UInt8)} (h : OptL W B v R) (hb : Boxed W Bx t u) (h1 : t ≠ 5) (h2 : t ≠ 50) : OptL (W.setCell ⟨Bx, 0, none⟩ u') B v R :=
  h.kept (grownBy_setCell' W Bx u') fun r e => by cases e; exact ⟨_, hb, fun cs p e => by simp at e; exact h1 e.2.1, fun cs p e => by simp at e; exact h2 e.2.1⟩
theorem optl_own {β : Type} (B Bx : Nat) (t : TypeId) (f : β → List (List UInt8)) (G : β → Prop) : Own (fun s W => ∃ v, Boxed W Bx t v ∧ OptL W B v (f s) ∧ G s) := by
  rintro s X Y row ⟨v, hv, hr, hG⟩ hg hrow
  refine ⟨v, hv.kept hg (fun e' => ?_), hr.kept hg (fun r e => ?_), hG⟩
  · obtain ⟨o, ho, hc⟩ := hrow Bx e'.symm
    rw [show X.heap[Bx]? = _ from hv] at ho; cases ho; cases hc
  · obtain ⟨o, ho, hc⟩ := hrow r e
    exact ⟨o, ho, ⟨fun cs p e => (by subst e; cases hc), fun cs p e => (by subst e; cases hc)⟩⟩

theorem infoO : ∃ i0, Try.prog.info? 50 = some i0 ∧ i0.zero = some (.agg #[.int .u8 0, .slice none 0 0]) ∧ i0.size = 2 ∧ i0.bytes = 32 := by
  have hi5 : (Try.prog.info? 50).map (fun i => (i.zero, i.size, i.bytes)) = some (some (.agg #[.int .u8 0, .slice none 0 0]), 2, 32) := by kernel_rfl
  obtain ⟨i0, hi, hx⟩ := Option.map_eq_some_iff.1 hi5
  simp only [Prod.mk.injEq] at hx
  exact ⟨i0, hi, hx.1, hx.2.1, hx.2.2⟩
theorem run_appO (w : World) (B : Nat) (ty : TypeId) (v u : Value) (R : List (List UInt8)) (r : List UInt8) (g : Nat) (h : OptL w B v R) (hu : OwnB w B u (r.drop 2)) (hc0 : w.cell? ⟨g, 0, none⟩ = some (.int .u8 (Sm.at0 r 0 : Nat))) (hc1 : w.cell? ⟨g, 1, none⟩ = some u)
    (hn : R.length ≤ 2000000) (hB : B ≤ w.heap.size) :
    ∃ v' w', (Builtin.append_ #[44, 44] ty #[v, .slice (some ⟨g, 0, none⟩) 1 1]).run Try.prog w = .ok v' w' ∧ OptL w' B v' (R ++ [r]) ∧ Below B w w' ∧ w.grownBy w' v.ownBlock := by
  obtain ⟨i0, hi, hz0, hz1, hz2⟩ := infoO
  obtain ⟨us, hl, ho, he⟩ := h
  obtain ⟨a, c, rfl⟩ := OwnB.form hu
  obtain ⟨v', w', h1, h2, h3, _⟩ := run_append_own (P := Try.prog) (w := w) B 44 ty 50 i0 _ 2 32 Try.underlying44 hi hz0 hz1 hz2 rfl (by decide) v R.length _ ho ⟨g, 0, none⟩ 1 1 [.int .u8 (Sm.at0 r 0 : Nat), .slice a (r.drop 2).length c] rfl
    (fun j x hx => by
      match j, hx with
      | 0, hx => simp at hx; subst hx; simpa [Addr.add] using hc0
      | 1, hx => simp at hx; subst hx; simpa [Addr.add] using hc1)
    (by intro x hx; simp at hx; rcases hx with rfl | rfl <;> rfl) (by unfold maxLen; omega) (by omega) hB
  refine ⟨v', w', h1, ⟨us ++ [.slice a (r.drop 2).length c], by simp [hl], ?_, fun j x y hx hy => ?_⟩, (Below.refl B w).grown h3 hB (fun j hj => own_base ho hj), h3⟩
  · rw [oc_snoc R us _ _ hl, List.length_append]; exact h2
  · have key : OwnB w B x (y.drop 2) := by
      rcases Nat.lt_or_ge j us.length with hj | hj
      · rw [List.getElem?_append_left hj] at hx
        rw [List.getElem?_append_left (by omega)] at hy
        exact he j x y hx hy
      · rw [List.getElem?_append_right hj] at hx
        rw [List.getElem?_append_right (by omega)] at hy
        have hj0 : j - us.length = 0 := by
          have := (List.getElem?_eq_some_iff.1 hx).1
          simp at this; omega
        rw [hj0] at hx
        rw [show j - R.length = 0 by omega] at hy
        simp only [List.getElem?_cons_zero, Option.some.injEq] at hx hy
        subst hx hy
        exact hu
    exact World.ownsRow.kept key h3 (own_apart key ho (by decide))

theorem step_appO {w : World} {ops : Array Oper} {o : Oper} {a : Act} {K : Act → World → Prop} {Q : Exit → Act → World → Prop} {E : Prop} (hgd : o.guard = none) (s x : Operand)
    (ho : o.op = .call { callee := .builtin .append, args := #[s, x], argTypes := #[44, 44] }) (B : Nat) (v u : Value) (R : List (List UInt8)) (r : List UInt8) (g : Nat) (hs : a.eval s = v) (hx : a.eval x = .slice (some ⟨g, 0, none⟩) 1 1)
    (hl : OptL w B v R) (hu : OwnB w B u (r.drop 2)) (hc0 : w.cell? ⟨g, 0, none⟩ = some (.int .u8 (Sm.at0 r 0 : Nat))) (hc1 : w.cell? ⟨g, 1, none⟩ = some u) (hn : R.length ≤ 2000000) (hB : B ≤ w.heap.size)
    (h : ∀ v' w', OptL w' B v' (R ++ [r]) → Below B w w' → w.grownBy w' v.ownBlock → K (a.put o.dst v') w') :
    if Region.wanted o (yielded ops a.tmps) = true then Oper.wp Try.prog o a w K Q else E := by
  have hw : Region.wanted o (yielded ops a.tmps) = true := by simp [Region.wanted, hgd]
  rw [if_pos hw]
  obtain ⟨v', w', hr, h2, h3, h4⟩ := run_appO w B o.type v u R r g hl hu hc0 hc1 hn hB
  unfold Oper.wp execOp
  simp only [ho, resolve, invoke, builtin, Sem.run_bind, Sem.run_pure, Result.andThen_ok, List.map_toArray, List.map_cons, List.map_nil, hs, hx, hr]
  exact h v' w' h2 h3 h4

/-- The value reads as these options: kinds, and data. -/
def OptR (w : World) (v : Value) (K : List (Nat × List UInt8)) : Prop :=
  (K = [] ∧ ∃ a c, v = .slice a 0 c) ∨
  ∃ b o c, v = .slice (some ⟨b, o, none⟩) K.length c ∧ b < w.heap.size ∧ ∀ (j k : Nat) (d : List UInt8), K[j]? = some (k, d) → w.cell? ⟨b, o + 2 * j, none⟩ = some (.int .u8 k) ∧ ∃ u, w.cell? ⟨b, o + (2 * j + 1), none⟩ = some u ∧ Bytes w u d
def kd (r : List UInt8) : Nat × List UInt8 := (Sm.at0 r 0, r.drop 2)
theorem OptL.reads {w : World} {B : Nat} {v : Value} {R : List (List UInt8)} (h : OptL w B v R) : OptR w v (R.map kd) := by
  obtain ⟨us, hl, ho, he⟩ := h
  rcases ho.2 with ⟨rfl, h0⟩ | ⟨g, cap, cur, rfl, hb, hg, hn, hm, hc, ht⟩
  · have : R = [] := List.length_eq_zero_iff.1 h0
    subst this
    exact .inl ⟨rfl, _, _, rfl⟩
  · refine .inr ⟨g, 0, cap, by rw [List.length_map], ?_, fun j k d hj => ?_⟩
    · rcases Nat.lt_or_ge g w.heap.size with h1 | h1
      · exact h1
      · rw [Array.getElem?_eq_none h1] at hg; cases hg
    · rw [List.getElem?_map, Option.map_eq_some_iff] at hj
      obtain ⟨r, hr, hkd⟩ := hj
      simp only [kd, Prod.mk.injEq] at hkd
      obtain ⟨rfl, rfl⟩ := hkd
      have hjl : j < us.length := by rw [hl]; exact (List.getElem?_eq_some_iff.1 hr).1
      have hu : us[j]? = some us[j] := List.getElem?_eq_getElem hjl
      obtain ⟨e0, e1⟩ := oc_at R us j r _ hl hr hu
      have hcell : ∀ i x, (oc R us)[i]? = some x → w.cell? ⟨g, 0 + i, none⟩ = some x := fun i x hx => by
        rw [Nat.zero_add, cell_of_row w g i cur _ (0, 0) hg]
        rw [← ht, List.getElem?_take] at hx
        split at hx
        · simpa using hx
        · cases hx
      exact ⟨hcell _ _ e0, _, hcell _ _ e1, (he j _ r hu hr).bytes⟩
theorem OptR.later {w w' : World} {v : Value} {K : List (Nat × List UInt8)} (h : OptR w v K) (hb : Below w.heap.size w w') : OptR w' v K := by
  rcases h with h | ⟨b, o, c, h1, h2, h3⟩
  · exact .inl h
  · refine .inr ⟨b, o, c, h1, Nat.lt_of_lt_of_le h2 hb.size, fun j k d hj => ?_⟩
    obtain ⟨e1, u, e2, e3⟩ := h3 j k d hj
    exact ⟨cell_later hb e1, u, cell_later hb e2, e3.later hb⟩
theorem OptR.form {w : World} {v : Value} {K : List (Nat × List UInt8)} (h : OptR w v K) : ∃ a c, v = .slice a K.length c := by
  rcases h with ⟨rfl, a, c, rfl⟩ | ⟨b, o, c, rfl, _⟩
  · exact ⟨a, c, rfl⟩
  · exact ⟨_, c, rfl⟩
theorem OptR.at {w : World} {a : Option Addr} {n c : Nat} {K : List (Nat × List UInt8)} (h : OptR w (.slice a n c) K) {i : Nat} (hi : i < K.length) :
    ∃ b o, a = some ⟨b, o, none⟩ ∧ b < w.heap.size ∧ w.cell? ⟨b, o + 2 * i, none⟩ = some (.int .u8 K[i].1) ∧ ∃ x m d, w.cell? ⟨b, o + (2 * i + 1), none⟩ = some (.slice x m d) ∧ m = K[i].2.length ∧ Bytes w (.slice x m d) K[i].2 := by
  rcases h with ⟨rfl, _⟩ | ⟨b, o, c', h1, h2, h3⟩
  · simp at hi
  · simp only [Value.slice.injEq] at h1
    obtain ⟨e1, u, e2, e3⟩ := h3 i K[i].1 K[i].2 (List.getElem?_eq_getElem hi)
    obtain ⟨x, d, rfl⟩ := e3.form
    exact ⟨b, o, h1.1, h2, e1, x, _, d, e2, rfl, e3⟩
end Go.Proofs.Ytccfebaifgnodaa
