/- A region that draws its order, cut at what is done: one lemma for each set of done operations.
   Bits of a header's word of flags; numbers of one byte.
   A header's block in memory.
   Lists of options in memory: owned, and read.
   The contract of bytes.Clone.
   The library's contracts at this translation, in plain words.
   append on bytes that the call owns, whatever the source: one law in three forms. -/
import Derived.Deep.AppendLies
import Derived.Laws.AppendOwnNone
import Derived.Laws.OwnMore
import Derived.Shelf.Bytes.SlSearch0
import Derived.Ground.SlbCloneProg
import Derived.Shelf.Bytes.SlClone
import Derived.Shelf.Bytes.SlEqualAll
import Derived.Shelf.Bytes.Small
import Derived.Test.YtnhkkpcepppgoaaProg
import Derived.RangeFuncNested
import Derived.Deep.MidRow
import Derived.Deep.RegionHeld3
import Derived.Test.YtnhkkpcepppgoaaZ01
import Derived.Test.YtnhkkpcepppgoaaZ02

namespace Go.Proofs.Ytnhkkpcepppgoaa
open Go.RowKit

/-- The value owns these bytes. -/
def OwnB (w : World) (B : Nat) (v : Value) (l : List UInt8) : Prop := w.ownsRow B 5 1 v l.length (bv l)
theorem OwnB.bytes {w : World} {B : Nat} {v : Value} {l : List UInt8} (h : OwnB w B v l) : Bytes w v l := Bytes.of_own h
theorem OwnB.nil (w : World) (B : Nat) : OwnB w B (.slice none 0 0) [] := World.ownsRow_nil w _ _ _
theorem OwnB.form {w : World} {B : Nat} {v : Value} {l : List UInt8} (h : OwnB w B v l) : ∃ a c, v = .slice a l.length c := (OwnB.bytes h).form
theorem OwnB.alloc {w : World} {B : Nat} {v : Value} {l : List UInt8} (h : OwnB w B v l) (o : Obj) : OwnB (w.alloc o) B v l := World.ownsRow.alloc h o
theorem OwnB.drew {w : World} {B : Nat} {v : Value} {l : List UInt8} (h : OwnB w B v l) : OwnB w.drew B v l := h
theorem info8 : ∃ i0, Try.prog.info? 5 = some i0 ∧ i0.zero = some (.int .u8 0) ∧ i0.size = 1 ∧ i0.bytes = 1 := by
  have hi5 : (Try.prog.info? 5).map (fun i => (i.zero, i.size, i.bytes)) = some (some (.int .u8 0), 1, 1) := by kernel_rfl
  obtain ⟨i0, hi, hx⟩ := Option.map_eq_some_iff.1 hi5
  simp only [Prod.mk.injEq] at hx
  exact ⟨i0, hi, hx.1, hx.2.1, hx.2.2⟩
/-- Behind a call that left what was there: what is owned is still owned. -/
theorem OwnB.later {w w' : World} {B : Nat} {v : Value} {l : List UInt8} (h : OwnB w B v l) (hb : Below w.heap.size w w') : OwnB w' B v l := by
  obtain ⟨hl, h0 | ⟨g, cap, cur, rfl, hb1, hg, hn, hm, hc, ht⟩⟩ := h
  · exact ⟨hl, .inl h0⟩
  · refine ⟨hl, .inr ⟨g, cap, cur, rfl, hb1, ?_, hn, hm, hc, ht⟩⟩
    rw [hb.block g ?_]
    · exact hg
    · rcases Nat.lt_or_ge g w.heap.size with h1 | h1
      · exact h1
      · rw [Array.getElem?_eq_none h1] at hg; cases hg

theorem run_app (w : World) (B : Nat) (ty : TypeId) (v u : Value) (l0 l1 : List UInt8) (hown : OwnB w B v l0) (hu : Bytes w u l1) (hn : l0.length + l1.length ≤ 140737488355328) (hB : B ≤ w.heap.size) :
    ∃ v' w', (Builtin.append_ #[22, 22] ty #[v, u]).run Try.prog w = .ok v' w' ∧ OwnB w' B v' (l0 ++ l1) ∧ Below B w w' ∧ w.grownBy w' v.ownBlock := by
  obtain ⟨i0, hi, hz0, hz1, hz2⟩ := info8
  obtain ⟨a, c, rfl⟩ := hu.form
  cases a with
  | none =>
    obtain ⟨e1, rfl, rfl⟩ := hu.noaddr
    have := run_append_owned_none (P := Try.prog) (w := w) B 22 ty 5 i0 1 Try.underlying22 hi v l0.length _ hown
    refine ⟨v, w, this, by simpa using hown, Below.refl _ _, ⟨rfl, rfl, rfl, Nat.le_refl _, fun _ _ _ => rfl⟩⟩
  | some x =>
    obtain ⟨v', w', h1, h2, h3, _⟩ := run_append_own (P := Try.prog) (w := w) B 22 ty 5 i0 (.int .u8 0) 1 1 Try.underlying22 hi hz0 hz1 hz2 rfl (by decide) v l0.length (bv l0) hown x l1.length c (bv l1) (by simp [bv]) hu.news (bv_one l1) (by unfold maxLen; omega) (by omega) hB
    refine ⟨v', w', h1, ?_, (Below.refl B w).grown h3 hB (fun j hj => own_base hown hj), h3⟩
    show World.ownsRow _ _ _ _ _ _ _
    rw [List.length_append, bv_append]; exact h2

theorem wp_app {w : World} {o : Oper} {a : Act} {K : Act → World → Prop} {Q : Exit → Act → World → Prop} (s x : Operand)
    (ho : o.op = .call { callee := .builtin .append, args := #[s, x], argTypes := #[22, 22] }) (B : Nat) (v u : Value) (l0 l1 : List UInt8) (hs : a.eval s = v) (hx : a.eval x = u)
    (hown : OwnB w B v l0) (hu : Bytes w u l1) (hn : l0.length + l1.length ≤ 140737488355328) (hB : B ≤ w.heap.size)
    (h : ∀ v' w', OwnB w' B v' (l0 ++ l1) → Below B w w' → w.grownBy w' v.ownBlock → K (a.put o.dst v') w') : o.wp Try.prog a w K Q := by
  obtain ⟨v', w', hr, h2, h3, h4⟩ := run_app w B o.type v u l0 l1 hown hu hn hB
  unfold Oper.wp execOp
  simp only [ho, resolve, invoke, builtin, Sem.run_bind, Sem.run_pure, Result.andThen_ok, List.map_toArray, List.map_cons, List.map_nil, hs, hx, hr]
  exact h v' w' h2 h3 h4
theorem wpList_app {w : World} {ops : Array Oper} {rest : List Oper} {o : Oper} {a : Act} {Q : Exit → Act → World → Prop} (hgd : o.guard = none) (s x : Operand)
    (ho : o.op = .call { callee := .builtin .append, args := #[s, x], argTypes := #[22, 22] }) (B : Nat) (v u : Value) (l0 l1 : List UInt8) (hs : a.eval s = v) (hx : a.eval x = u)
    (hown : OwnB w B v l0) (hu : Bytes w u l1) (hn : l0.length + l1.length ≤ 140737488355328) (hB : B ≤ w.heap.size)
    (h : ∀ v' w', OwnB w' B v' (l0 ++ l1) → Below B w w' → w.grownBy w' v.ownBlock → wpList Try.prog ops Q rest (a.put o.dst v') w') : wpList Try.prog ops Q (o :: rest) a w :=
  wpList_plain hgd fun _ hK => wp_app s x ho B v u l0 l1 hs hx hown hu hn hB fun v' w' h2 h3 h4 => hK _ _ (h v' w' h2 h3 h4)
/-- At a step of a region that draws its order. -/
theorem step_app {w : World} {ops : Array Oper} {o : Oper} {a : Act} {K : Act → World → Prop} {Q : Exit → Act → World → Prop} {E : Prop} (hgd : o.guard = none) (s x : Operand)
    (ho : o.op = .call { callee := .builtin .append, args := #[s, x], argTypes := #[22, 22] }) (B : Nat) (v u : Value) (l0 l1 : List UInt8) (hs : a.eval s = v) (hx : a.eval x = u)
    (hown : OwnB w B v l0) (hu : Bytes w u l1) (hn : l0.length + l1.length ≤ 140737488355328) (hB : B ≤ w.heap.size)
    (h : ∀ v' w', OwnB w' B v' (l0 ++ l1) → Below B w w' → w.grownBy w' v.ownBlock → K (a.put o.dst v') w') :
    if Region.wanted o (yielded ops a.tmps) = true then Oper.wp Try.prog o a w K Q else E := by
  have hw : Region.wanted o (yielded ops a.tmps) = true := by simp [Region.wanted, hgd]
  rw [if_pos hw]
  exact wp_app s x ho B v u l0 l1 hs hx hown hu hn hB h
end Go.Proofs.Ytnhkkpcepppgoaa

namespace Go.Proofs
open Go.Shelf
def Try.lays115_ren : Go.Shelf.Ren := ⟨fun | 115 => 59 | n => n, fun | 37 => 22 | 4 => 4 | 9 => 9 | 5 => 5 | n => n, fun | n => n⟩
theorem Try.lays115 : Go.Proofs.Lays.n115 Try.prog Try.lays115_ren := {
  mixed := by kernel_rfl
  f115 := Try.func59.trans (congrArg some (by kernel_rfl))
  t4 := Try.underlying4
  a4 := Try.isAgg4
  z4 := Try.sizeOf4
  v4 := Try.zeroValue4
  t9 := Try.underlying9
  a9 := Try.isAgg9
  z9 := Try.sizeOf9
  v9 := Try.zeroValue9
  t37 := Try.underlying22
  a37 := Try.isAgg22
  z37 := Try.sizeOf22
  v37 := Try.zeroValue22 }
open Go.Proofs Go.RowKit Go.Lib in
theorem Try.bytes_Equal_strs (v1 v2 : Value) (t1 t2 : ByteArray) (w : World) (h1 : (convert 22 9 v1).run Try.prog w = .ok (.string t1) w) (h2 : (convert 22 9 v2).run Try.prog w = .ok (.string t2) w) :
    Calls Try.prog 59 #[v1, v2] w fun e w' => e = .returned (.bool (t1.toList == t2.toList)) ∧ w' = w := Any.bytes_Equal_strs Try.lays115 v1 v2 t1 t2 w h1 h2
def Try.laysSlK4_ren : Go.Shelf.Ren := ⟨fun | 4 => 54 | n => n, fun | 22 => 22 | 4 => 4 | 5 => 5 | n => n, fun | n => n⟩
theorem Try.laysSlK4 : Go.Proofs.SlLaysK.n4 Try.prog Try.laysSlK4_ren := {
  mixed := by kernel_rfl
  f4 := Try.func54.trans (congrArg some (by kernel_rfl))
  t4 := Try.underlying4
  a4 := Try.isAgg4
  z4 := Try.sizeOf4
  v4 := Try.zeroValue4
  t22 := Try.underlying22
  a22 := Try.isAgg22
  z22 := Try.sizeOf22
  v22 := Try.zeroValue22
  t5 := Try.underlying5
  i5 := by kernel_rfl }
open Go.RowKit Go.Lib in
theorem Try.bytes_Clone_at (a : Addr) (n c : Nat) (xs : List Int) (w : World) (hx : xs.length = n) (hbig : n ≤ 140737488355328) (hc : ∀ i, i < n → w.cell? (a.add i) = some (.int .u8 (xs.getD i 0))) :
    Calls Try.prog 54 #[.slice (some a) n c] w fun e w' => ∃ v', e = .returned v' ∧ w'.ownsRow w.heap.size 5 1 v' n (xs.map (Value.int .u8)) ∧ v' ≠ .slice none 0 0 ∧ Below w.heap.size w w' := Any.bytes_Clone_at Try.laysSlK4 a n c xs w hx hbig hc
open Go.RowKit Go.Lib in
theorem Try.bytes_Clone_nil (n c : Nat) (w : World) :
    Calls Try.prog 54 #[.slice none n c] w fun e w' => e = .returned (.slice none 0 0) ∧ w' = w := Any.bytes_Clone_nil Try.laysSlK4 n c w
def Try.laysnb115_ren : Go.Shelf.Ren := ⟨fun | 115 => 59 | n => n, fun | 37 => 22 | 4 => 4 | 9 => 9 | 5 => 5 | n => n, fun | n => n⟩
theorem Try.laysnb115 : Go.Proofs.Lays.nb115 Try.prog Try.laysnb115_ren := {
  mixed := by kernel_rfl
  f115 := Try.func59.trans (congrArg some (by kernel_rfl))
  t4 := Try.underlying4
  a4 := Try.isAgg4
  z4 := Try.sizeOf4
  v4 := Try.zeroValue4
  t9 := Try.underlying9
  a9 := Try.isAgg9
  z9 := Try.sizeOf9
  v9 := Try.zeroValue9
  t37 := Try.underlying22
  a37 := Try.isAgg22
  z37 := Try.sizeOf22
  v37 := Try.zeroValue22
  t5 := Try.underlying5
  a5 := Try.isAgg5
  z5 := Try.sizeOf5
  v5 := Try.zeroValue5 }
theorem Try.bytes_Equal_all (p1 p2 : Option Addr) (n c m d : Nat) (xs ys : List Int) (w : World) (hx : xs.length = n) (hy : ys.length = m) (h1 : Lib.BytesIn w p1 n xs) (h2 : Lib.BytesIn w p2 m ys) :
    Calls Try.prog 59 #[.slice p1 n c, .slice p2 m d] w fun e w' => e = .returned (.bool (Lib.bytesOf xs == Lib.bytesOf ys)) ∧ w' = w := Any.bytes_Equal_all Try.laysnb115 p1 p2 n c m d xs ys w hx hy h1 h2
theorem Try.bytes_Equal (v1 v2 : Value) (xs ys : List Int) (w : World) (h1 : (convert 22 9 v1).run Try.prog w = .ok (.string (strOfNums xs)) w) (h2 : (convert 22 9 v2).run Try.prog w = .ok (.string (strOfNums ys)) w) :
    Calls Try.prog 59 #[v1, v2] w fun e w' => e = .returned (.bool (Lib.bytesOf xs == Lib.bytesOf ys)) ∧ w' = w := Any.bytes_Equal Try.lays115 v1 v2 xs ys w h1 h2
end Go.Proofs

namespace Go.Proofs.Ytnhkkpcepppgoaa
open Go.RowKit
theorem clone_any (v : Value) (l : List UInt8) (w : World) (hv : Bytes w v l) (hl : l.length ≤ 140737488355328) :
    Calls Try.prog 54 #[v] w fun e w' => ∃ v', e = .returned v' ∧ OwnB w' w.heap.size v' l ∧ Below w.heap.size w w' := by
  obtain ⟨a, c, rfl⟩ := hv.form
  cases a with
  | none =>
    obtain ⟨e1, rfl, rfl⟩ := hv.noaddr
    refine (Try.bytes_Clone_nil _ _ w).mono ?_
    rintro e w' ⟨rfl, rfl⟩
    exact ⟨_, rfl, OwnB.nil _ _, Below.refl _ _⟩
  | some ad =>
    refine (Try.bytes_Clone_at ad l.length c (l.map fun b => (b.toNat : Int)) w (by simp) hl (fun i hi => ?_)).mono ?_
    · have := hv.news i (.int .u8 (l[i].toNat : Int)) (by simp [bv, hi])
      rw [this]; simp [hi]
    · rintro e w' ⟨v', rfl, h1, _, h2⟩
      refine ⟨v', rfl, ?_, h2⟩
      rw [List.map_map] at h1
      exact h1
end Go.Proofs.Ytnhkkpcepppgoaa

namespace Go.Proofs.Ytnhkkpcepppgoaa
open Go.RowKit

theorem own_block {w : World} {B : Nat} {e : TypeId} {size n g : Nat} {v : Value} {xs : List Value} (h : w.ownsRow B e size v n xs) (hg : v.ownBlock = some g) : ∃ cur, w.heap[g]? = some (.cells cur e (0, 0)) := by
  rcases h.2 with ⟨rfl, _⟩ | ⟨g', cap, cur, rfl, _, hgg, _⟩
  · simp [Value.ownBlock] at hg
  · simp [Value.ownBlock] at hg; subst hg; exact ⟨_, hgg⟩
theorem own_apart {w : World} {B B' : Nat} {e e' : TypeId} {size size' n n' : Nat} {v v' : Value} {xs xs' : List Value} (h : w.ownsRow B e size v n xs) (h' : w.ownsRow B' e' size' v' n' xs') (he : e ≠ e') : v.ownBlock = none ∨ v.ownBlock ≠ v'.ownBlock := by
  cases hv : v.ownBlock with
  | none => exact .inl rfl
  | some g =>
    refine .inr fun e2 => ?_
    obtain ⟨c1, h1⟩ := own_block h hv
    obtain ⟨c2, h2⟩ := own_block h' e2.symm
    rw [h1] at h2
    simp at h2
    exact he h2.2
theorem OwnB.weak {w : World} {B B' : Nat} {v : Value} {l : List UInt8} (h : OwnB w B' v l) (hB : B ≤ B') : OwnB w B v l := by
  obtain ⟨hl, h0 | ⟨g, cap, cur, rfl, hb1, hr⟩⟩ := h
  · exact ⟨hl, .inl h0⟩
  · exact ⟨hl, .inr ⟨g, cap, cur, rfl, Nat.le_trans hB hb1, hr⟩⟩

/-- The cells of options. -/
def oc : List (List UInt8) → List Value → List Value
  | r :: R, u :: us => .int .u8 (Sm.at0 r 0 : Nat) :: u :: oc R us
  | _, _ => []
theorem oc_snoc : ∀ (R : List (List UInt8)) (us : List Value) (r : List UInt8) (u : Value), us.length = R.length → oc (R ++ [r]) (us ++ [u]) = oc R us ++ [.int .u8 (Sm.at0 r 0 : Nat), u]
  | [], [], _, _, _ => rfl
  | a :: R, b :: us, r, u, h => by
    have := oc_snoc R us r u (by simpa using h)
    simp only [List.cons_append, oc, this]
theorem oc_at : ∀ (R : List (List UInt8)) (us : List Value) (j : Nat) (r : List UInt8) (u : Value), us.length = R.length → R[j]? = some r → us[j]? = some u → (oc R us)[2 * j]? = some (.int .u8 (Sm.at0 r 0 : Nat)) ∧ (oc R us)[2 * j + 1]? = some u
  | [], _, _, _, _, _, h, _ => by simp at h
  | _ :: _, [], _, _, _, h, _, _ => by simp at h
  | a :: R, b :: us, 0, r, u, _, h, h2 => by simp at h h2; subst h h2; exact ⟨rfl, rfl⟩
  | a :: R, b :: us, j + 1, r, u, hl, h, h2 => by
    have := oc_at R us j r u (by simpa using hl) (by simpa using h) (by simpa using h2)
    rw [show 2 * (j + 1) = 2 * j + 1 + 1 by omega]
    simpa [oc] using this

/-- The value owns these options, and each one's data is owned. -/
def OptL (W : World) (B : Nat) (v : Value) (R : List (List UInt8)) : Prop :=
  ∃ us : List Value, us.length = R.length ∧ W.ownsRow B 70 2 v R.length (oc R us) ∧ ∀ (j : Nat) (u : Value) (r : List UInt8), us[j]? = some u → R[j]? = some r → OwnB W B u (r.drop 2)
theorem OptL.nil (W : World) (B : Nat) : OptL W B (.slice none 0 0) [] := ⟨[], rfl, World.ownsRow_nil W _ _ _, by simp⟩
theorem OptL.form {W : World} {B : Nat} {v : Value} {R : List (List UInt8)} (h : OptL W B v R) : ∃ a c, v = .slice a R.length c := by
  obtain ⟨us, _, h, _⟩ := h
  rcases h.2 with ⟨rfl, h0⟩ | ⟨g, cap, cur, rfl, _⟩
  · exact ⟨none, 0, by rw [h0]⟩
  · exact ⟨_, _, rfl⟩
theorem OptL.later {W W' : World} {B : Nat} {v : Value} {R : List (List UInt8)} (h : OptL W B v R) (hb : Below W.heap.size W W') : OptL W' B v R := by
  obtain ⟨us, h1, h2, h3⟩ := h
  refine ⟨us, h1, ?_, fun j u r hu hr => (h3 j u r hu hr).later hb⟩
  obtain ⟨hl, h0 | ⟨g, cap, cur, rfl, hb1, hg, hr⟩⟩ := h2
  · exact ⟨hl, .inl h0⟩
  · refine ⟨hl, .inr ⟨g, cap, cur, rfl, hb1, ?_, hr⟩⟩
    rw [hb.block g ?_]
    · exact hg
    · rcases Nat.lt_or_ge g W.heap.size with h1 | h1
      · exact h1
      · rw [Array.getElem?_eq_none h1] at hg; cases hg
/-- A turn of a block that holds no bytes and no options. -/
theorem OptL.kept {X Y : World} {B : Nat} {v : Value} {R : List (List UInt8)} {row : Option Nat} (h : OptL X B v R) (hg : X.grownBy Y row)
    (hr : ∀ r, row = some r → ∃ o, X.heap[r]? = some o ∧ (∀ cs p, o ≠ .cells cs 5 p) ∧ (∀ cs p, o ≠ .cells cs 70 p)) : OptL Y B v R := by
  obtain ⟨us, h1, h2, h3⟩ := h
  refine ⟨us, h1, h2.kept hg ?_, fun j u r hu hrr => World.ownsRow.kept (h3 j u r hu hrr) hg ?_⟩
  · cases hv : v.ownBlock with
    | none => exact .inl rfl
    | some g =>
      refine .inr fun e => ?_
      obtain ⟨o, ho, _, hn⟩ := hr g e.symm
      obtain ⟨cur, hc⟩ := own_block h2 hv
      rw [ho] at hc
      exact hn _ _ (Option.some.inj hc)
  · cases hv : u.ownBlock with
    | none => exact .inl rfl
    | some g =>
      refine .inr fun e => ?_
      obtain ⟨o, ho, hn, _⟩ := hr g e.symm
      obtain ⟨cur, hc⟩ := own_block (h3 j u r hu hrr) hv
      rw [ho] at hc
      exact hn _ _ (Option.some.inj hc)
theorem OptL.set {W : World} {B Bx : Nat} {v u u' : Value} {t : TypeId} {R : List (List UInt8)} (h : OptL W B v R) (hb : Boxed W Bx t u) (h1 : t ≠ 5) (h2 : t ≠ 70) : OptL (W.setCell ⟨Bx, 0, none⟩ u') B v R :=
  h.kept (grownBy_setCell' W Bx u') fun r e => by cases e; exact ⟨_, hb, fun cs p e => by simp at e; exact h1 e.2.1, fun cs p e => by simp at e; exact h2 e.2.1⟩
theorem optl_own {β : Type} (B Bx : Nat) (t : TypeId) (f : β → List (List UInt8)) (G : β → Prop) : Own (fun s W => ∃ v, Boxed W Bx t v ∧ OptL W B v (f s) ∧ G s) := by
  rintro s X Y row ⟨v, hv, hr, hG⟩ hg hrow
  refine ⟨v, hv.kept hg (fun e' => ?_), hr.kept hg (fun r e => ?_), hG⟩
  · obtain ⟨o, ho, hc⟩ := hrow Bx e'.symm
    rw [show X.heap[Bx]? = _ from hv] at ho; cases ho; cases hc
  · obtain ⟨o, ho, hc⟩ := hrow r e
    exact ⟨o, ho, ⟨fun cs p e => (by subst e; cases hc), fun cs p e => (by subst e; cases hc)⟩⟩

theorem infoO : ∃ i0, Try.prog.info? 70 = some i0 ∧ i0.zero = some (.agg #[.int .u8 0, .slice none 0 0]) ∧ i0.size = 2 ∧ i0.bytes = 32 := by
  have hi5 : (Try.prog.info? 70).map (fun i => (i.zero, i.size, i.bytes)) = some (some (.agg #[.int .u8 0, .slice none 0 0]), 2, 32) := by kernel_rfl
  obtain ⟨i0, hi, hx⟩ := Option.map_eq_some_iff.1 hi5
  simp only [Prod.mk.injEq] at hx
  exact ⟨i0, hi, hx.1, hx.2.1, hx.2.2⟩
theorem run_appO (w : World) (B : Nat) (ty : TypeId) (v u : Value) (R : List (List UInt8)) (r : List UInt8) (g : Nat) (h : OptL w B v R) (hu : OwnB w B u (r.drop 2)) (hc0 : w.cell? ⟨g, 0, none⟩ = some (.int .u8 (Sm.at0 r 0 : Nat))) (hc1 : w.cell? ⟨g, 1, none⟩ = some u)
    (hn : R.length ≤ 2000000) (hB : B ≤ w.heap.size) :
    ∃ v' w', (Builtin.append_ #[65, 65] ty #[v, .slice (some ⟨g, 0, none⟩) 1 1]).run Try.prog w = .ok v' w' ∧ OptL w' B v' (R ++ [r]) ∧ Below B w w' ∧ w.grownBy w' v.ownBlock := by
  obtain ⟨i0, hi, hz0, hz1, hz2⟩ := infoO
  obtain ⟨us, hl, ho, he⟩ := h
  obtain ⟨a, c, rfl⟩ := OwnB.form hu
  obtain ⟨v', w', h1, h2, h3, _⟩ := run_append_own (P := Try.prog) (w := w) B 65 ty 70 i0 _ 2 32 Try.underlying65 hi hz0 hz1 hz2 rfl (by decide) v R.length _ ho ⟨g, 0, none⟩ 1 1 [.int .u8 (Sm.at0 r 0 : Nat), .slice a (r.drop 2).length c] rfl
    (fun j x hx => by
      match j, hx with
      | 0, hx => simp at hx; subst hx; simpa [Addr.add] using hc0
      | 1, hx => simp at hx; subst hx; simpa [Addr.add] using hc1)
    (by intro x hx; simp at hx; rcases hx with rfl | rfl <;> rfl) (by unfold maxLen; omega) (by omega) hB
  refine ⟨v', w', h1, ⟨us ++ [.slice a (r.drop 2).length c], by simp [hl], ?_, fun j x y hx hy => ?_⟩, (Below.refl B w).grown h3 hB (fun j hj => own_base ho hj), h3⟩
  · rw [oc_snoc R us _ _ hl, List.length_append]; exact h2
  · have key : OwnB w B x (y.drop 2) := by
      rcases Nat.lt_or_ge j us.length with hj | hj
      · rw [List.getElem?_append_left hj] at hx
        rw [List.getElem?_append_left (by omega)] at hy
        exact he j x y hx hy
      · rw [List.getElem?_append_right hj] at hx
        rw [List.getElem?_append_right (by omega)] at hy
        have hj0 : j - us.length = 0 := by
          have := (List.getElem?_eq_some_iff.1 hx).1
          simp at this; omega
        rw [hj0] at hx
        rw [show j - R.length = 0 by omega] at hy
        simp only [List.getElem?_cons_zero, Option.some.injEq] at hx hy
        subst hx hy
        exact hu
    exact World.ownsRow.kept key h3 (own_apart key ho (by decide))

theorem step_appO {w : World} {ops : Array Oper} {o : Oper} {a : Act} {K : Act → World → Prop} {Q : Exit → Act → World → Prop} {E : Prop} (hgd : o.guard = none) (s x : Operand)
    (ho : o.op = .call { callee := .builtin .append, args := #[s, x], argTypes := #[65, 65] }) (B : Nat) (v u : Value) (R : List (List UInt8)) (r : List UInt8) (g : Nat) (hs : a.eval s = v) (hx : a.eval x = .slice (some ⟨g, 0, none⟩) 1 1)
    (hl : OptL w B v R) (hu : OwnB w B u (r.drop 2)) (hc0 : w.cell? ⟨g, 0, none⟩ = some (.int .u8 (Sm.at0 r 0 : Nat))) (hc1 : w.cell? ⟨g, 1, none⟩ = some u) (hn : R.length ≤ 2000000) (hB : B ≤ w.heap.size)
    (h : ∀ v' w', OptL w' B v' (R ++ [r]) → Below B w w' → w.grownBy w' v.ownBlock → K (a.put o.dst v') w') :
    if Region.wanted o (yielded ops a.tmps) = true then Oper.wp Try.prog o a w K Q else E := by
  have hw : Region.wanted o (yielded ops a.tmps) = true := by simp [Region.wanted, hgd]
  rw [if_pos hw]
  obtain ⟨v', w', hr, h2, h3, h4⟩ := run_appO w B o.type v u R r g hl hu hc0 hc1 hn hB
  unfold Oper.wp execOp
  simp only [ho, resolve, invoke, builtin, Sem.run_bind, Sem.run_pure, Result.andThen_ok, List.map_toArray, List.map_cons, List.map_nil, hs, hx, hr]
  exact h v' w' h2 h3 h4

/-- The value reads as these options: kinds, and data. -/
def OptR (w : World) (v : Value) (K : List (Nat × List UInt8)) : Prop :=
  (K = [] ∧ ∃ a c, v = .slice a 0 c) ∨
  ∃ b o c, v = .slice (some ⟨b, o, none⟩) K.length c ∧ b < w.heap.size ∧ ∀ (j k : Nat) (d : List UInt8), K[j]? = some (k, d) → w.cell? ⟨b, o + 2 * j, none⟩ = some (.int .u8 k) ∧ ∃ u, w.cell? ⟨b, o + (2 * j + 1), none⟩ = some u ∧ Bytes w u d
def kd (r : List UInt8) : Nat × List UInt8 := (Sm.at0 r 0, r.drop 2)
theorem OptL.reads {w : World} {B : Nat} {v : Value} {R : List (List UInt8)} (h : OptL w B v R) : OptR w v (R.map kd) := by
  obtain ⟨us, hl, ho, he⟩ := h
  rcases ho.2 with ⟨rfl, h0⟩ | ⟨g, cap, cur, rfl, hb, hg, hn, hm, hc, ht⟩
  · have : R = [] := List.length_eq_zero_iff.1 h0
    subst this
    exact .inl ⟨rfl, _, _, rfl⟩
  · refine .inr ⟨g, 0, cap, by rw [List.length_map], ?_, fun j k d hj => ?_⟩
    · rcases Nat.lt_or_ge g w.heap.size with h1 | h1
      · exact h1
      · rw [Array.getElem?_eq_none h1] at hg; cases hg
    · rw [List.getElem?_map, Option.map_eq_some_iff] at hj
      obtain ⟨r, hr, hkd⟩ := hj
      simp only [kd, Prod.mk.injEq] at hkd
      obtain ⟨rfl, rfl⟩ := hkd
      have hjl : j < us.length := by rw [hl]; exact (List.getElem?_eq_some_iff.1 hr).1
      have hu : us[j]? = some us[j] := List.getElem?_eq_getElem hjl
      obtain ⟨e0, e1⟩ := oc_at R us j r _ hl hr hu
      have hcell : ∀ i x, (oc R us)[i]? = some x → w.cell? ⟨g, 0 + i, none⟩ = some x := fun i x hx => by
        rw [Nat.zero_add, cell_of_row w g i cur _ (0, 0) hg]
        rw [← ht, List.getElem?_take] at hx
        split at hx
        · simpa using hx
        · cases hx
      exact ⟨hcell _ _ e0, _, hcell _ _ e1, (he j _ r hu hr).bytes⟩
theorem OptR.later {w w' : World} {v : Value} {K : List (Nat × List UInt8)} (h : OptR w v K) (hb : Below w.heap.size w w') : OptR w' v K := by
  rcases h with h | ⟨b, o, c, h1, h2, h3⟩
  · exact .inl h
  · refine .inr ⟨b, o, c, h1, Nat.lt_of_lt_of_le h2 hb.size, fun j k d hj => ?_⟩
    obtain ⟨e1, u, e2, e3⟩ := h3 j k d hj
    exact ⟨cell_later hb e1, u, cell_later hb e2, e3.later hb⟩
theorem OptR.form {w : World} {v : Value} {K : List (Nat × List UInt8)} (h : OptR w v K) : ∃ a c, v = .slice a K.length c := by
  rcases h with ⟨rfl, a, c, rfl⟩ | ⟨b, o, c, rfl, _⟩
  · exact ⟨a, c, rfl⟩
  · exact ⟨_, c, rfl⟩
theorem OptR.at {w : World} {a : Option Addr} {n c : Nat} {K : List (Nat × List UInt8)} (h : OptR w (.slice a n c) K) {i : Nat} (hi : i < K.length) :
    ∃ b o, a = some ⟨b, o, none⟩ ∧ b < w.heap.size ∧ w.cell? ⟨b, o + 2 * i, none⟩ = some (.int .u8 K[i].1) ∧ ∃ x m d, w.cell? ⟨b, o + (2 * i + 1), none⟩ = some (.slice x m d) ∧ m = K[i].2.length ∧ Bytes w (.slice x m d) K[i].2 := by
  rcases h with ⟨rfl, _⟩ | ⟨b, o, c', h1, h2, h3⟩
  · simp at hi
  · simp only [Value.slice.injEq] at h1
    obtain ⟨e1, u, e2, e3⟩ := h3 i K[i].1 K[i].2 (List.getElem?_eq_getElem hi)
    obtain ⟨x, d, rfl⟩ := e3.form
    exact ⟨b, o, h1.1, h2, e1, x, _, d, e2, rfl, e3⟩
end Go.Proofs.Ytnhkkpcepppgoaa

namespace Go.Proofs.Ytnhkkpcepppgoaa
open Go.RowKit

/-- The cells of a header of noughts. -/
def hz : List Value := [.int .u8 0, .int .u16 0, .bool false, .bool false, .bool false, .int .i64 0, .int .u8 0, .int .u8 0, .int .u32 0, .int .u32 0, .slice none 0 0]
/-- A header's block. -/
def HdAt (g : Nat) (cs : List Value) (w : World) : Prop := w.heap[g]? = some (.cells cs.toArray 28 (0, 0))
theorem HdAt.lt {g : Nat} {cs : List Value} {w : World} (h : HdAt g cs w) : g < w.heap.size := (Array.getElem?_eq_some_iff.1 h).1
theorem HdAt.later {g : Nat} {cs : List Value} {w w' : World} (h : HdAt g cs w) (hb : Below w.heap.size w w') : HdAt g cs w' := (hb.block g h.lt).trans h
theorem HdAt.new (w : World) (cs : List Value) : HdAt w.heap.size cs (w.alloc (.cells cs.toArray 28)) := World.alloc_heap_new w _
theorem HdAt.cell {g : Nat} {cs : List Value} {w : World} (h : HdAt g cs w) {j : Nat} {x : Value} (hx : cs[j]? = some x) : w.cell? ⟨g, j, none⟩ = some x := by
  rw [cell_of_row w g j cs.toArray _ (0, 0) h]; simpa using hx
theorem HdAt.frozen {g : Nat} {cs : List Value} {w : World} (h : HdAt g cs w) (j : Nat) : w.frozen? ⟨g, j, none⟩ = false := by
  unfold World.frozen?; simp [show w.heap[g]? = _ from h]
theorem HdAt.set {g : Nat} {cs : List Value} {w : World} (h : HdAt g cs w) (j : Nat) (x : Value) : HdAt g (cs.set j x) (w.setCell ⟨g, j, none⟩ x) := by
  have hl := h.lt
  have hk : w.heap[g] = .cells cs.toArray 28 (0, 0) := (Array.getElem?_eq_some_iff.1 h).2
  show (w.heap.modify g _)[g]? = _
  rw [Array.getElem?_eq_getElem (by rw [Array.size_modify]; exact hl), Array.getElem_modify_self, hk]
  simp
theorem HdAt.other {g b : Nat} {cs : List Value} {w : World} (h : HdAt g cs w) (hne : g ≠ b) (j : Nat) (x : Value) : HdAt g cs (w.setCell ⟨b, j, none⟩ x) := by
  show (w.setCell ⟨b, j, none⟩ x).heap[g]? = _
  rw [Below.heap_setCell _ _ _ _ (by simpa using hne)]; exact h
theorem HdAt.range {g : Nat} {cs : List Value} {w : World} (h : HdAt g cs w) : w.rangeAt g 0 cs := fun j v hv => by rw [Nat.zero_add]; exact h.cell hv
theorem grownBy_setCell_at (W : World) (b j : Nat) (v : Value) : W.grownBy (W.setCell ⟨b, j, none⟩ v) (some b) :=
  ⟨rfl, rfl, rfl, (KeepsWalks.setCell W _ v).size, fun k _ hk => Below.heap_setCell _ _ _ k (fun e => hk (by rw [e]))⟩
theorem HdAt.own {g : Nat} {cs : List Value} {w : World} (h : HdAt g cs w) (j : Nat) (x : Value) {B : Nat} {v : Value} {l : List UInt8} (ho : OwnB w B v l) : OwnB (w.setCell ⟨g, j, none⟩ x) B v l := by
  refine World.ownsRow.kept ho (grownBy_setCell_at w g j x) ?_
  cases hv : v.ownBlock with
  | none => exact .inl rfl
  | some b =>
    refine .inr fun e => ?_
    obtain ⟨cur, hc⟩ := own_block ho hv
    simp only [Option.some.injEq] at e
    subst e
    have h2 : w.heap[b]? = _ := h
    rw [hc] at h2
    simp at h2
/-- Eleven stores into a header's block. -/
theorem HdAt.set11 {g : Nat} {w : World} {c0 c1 c2 c3 c4 c5 c6 c7 c8 c9 c10 : Value} (h : HdAt g [c0, c1, c2, c3, c4, c5, c6, c7, c8, c9, c10] w) (x0 x1 x2 x3 x4 x5 x6 x7 x8 x9 x10 : Value) :
    HdAt g [x0, x1, x2, x3, x4, x5, x6, x7, x8, x9, x10] (((((((((((w.setCell ⟨g, 0, none⟩ x0).setCell ⟨g, 1, none⟩ x1).setCell ⟨g, 2, none⟩ x2).setCell ⟨g, 3, none⟩ x3).setCell ⟨g, 4, none⟩ x4).setCell ⟨g, 5, none⟩ x5).setCell ⟨g, 6, none⟩ x6).setCell ⟨g, 7, none⟩ x7).setCell ⟨g, 8, none⟩ x8).setCell ⟨g, 9, none⟩ x9).setCell ⟨g, 10, none⟩ x10) ∧ (∀ B v l, OwnB w B v l → OwnB (((((((((((w.setCell ⟨g, 0, none⟩ x0).setCell ⟨g, 1, none⟩ x1).setCell ⟨g, 2, none⟩ x2).setCell ⟨g, 3, none⟩ x3).setCell ⟨g, 4, none⟩ x4).setCell ⟨g, 5, none⟩ x5).setCell ⟨g, 6, none⟩ x6).setCell ⟨g, 7, none⟩ x7).setCell ⟨g, 8, none⟩ x8).setCell ⟨g, 9, none⟩ x9).setCell ⟨g, 10, none⟩ x10) B v l) ∧ (∀ B, B ≤ g → Below B w (((((((((((w.setCell ⟨g, 0, none⟩ x0).setCell ⟨g, 1, none⟩ x1).setCell ⟨g, 2, none⟩ x2).setCell ⟨g, 3, none⟩ x3).setCell ⟨g, 4, none⟩ x4).setCell ⟨g, 5, none⟩ x5).setCell ⟨g, 6, none⟩ x6).setCell ⟨g, 7, none⟩ x7).setCell ⟨g, 8, none⟩ x8).setCell ⟨g, 9, none⟩ x9).setCell ⟨g, 10, none⟩ x10)) ∧ (∀ g' cs', g' ≠ g → HdAt g' cs' w → HdAt g' cs' (((((((((((w.setCell ⟨g, 0, none⟩ x0).setCell ⟨g, 1, none⟩ x1).setCell ⟨g, 2, none⟩ x2).setCell ⟨g, 3, none⟩ x3).setCell ⟨g, 4, none⟩ x4).setCell ⟨g, 5, none⟩ x5).setCell ⟨g, 6, none⟩ x6).setCell ⟨g, 7, none⟩ x7).setCell ⟨g, 8, none⟩ x8).setCell ⟨g, 9, none⟩ x9).setCell ⟨g, 10, none⟩ x10)) := by
  have h1 := HdAt.set h 0 x0
  have h2 := HdAt.set h1 1 x1
  have h3 := HdAt.set h2 2 x2
  have h4 := HdAt.set h3 3 x3
  have h5 := HdAt.set h4 4 x4
  have h6 := HdAt.set h5 5 x5
  have h7 := HdAt.set h6 6 x6
  have h8 := HdAt.set h7 7 x7
  have h9 := HdAt.set h8 8 x8
  have h10 := HdAt.set h9 9 x9
  have h11 := HdAt.set h10 10 x10
  refine ⟨h11, fun B v l ho => ?_, fun B hB => ?_, fun g' cs' hne hh => ?_⟩
  · exact HdAt.own h10 10 x10 (HdAt.own h9 9 x9 (HdAt.own h8 8 x8 (HdAt.own h7 7 x7 (HdAt.own h6 6 x6 (HdAt.own h5 5 x5 (HdAt.own h4 4 x4 (HdAt.own h3 3 x3 (HdAt.own h2 2 x2 (HdAt.own h1 1 x1 (HdAt.own h 0 x0 (ho)))))))))))
  · exact (((((((((((Below.refl _ _).setCell (p := ⟨g, 0, none⟩) hB x0).setCell (p := ⟨g, 1, none⟩) hB x1).setCell (p := ⟨g, 2, none⟩) hB x2).setCell (p := ⟨g, 3, none⟩) hB x3).setCell (p := ⟨g, 4, none⟩) hB x4).setCell (p := ⟨g, 5, none⟩) hB x5).setCell (p := ⟨g, 6, none⟩) hB x6).setCell (p := ⟨g, 7, none⟩) hB x7).setCell (p := ⟨g, 8, none⟩) hB x8).setCell (p := ⟨g, 9, none⟩) hB x9).setCell (p := ⟨g, 10, none⟩) hB x10
  · exact HdAt.other (HdAt.other (HdAt.other (HdAt.other (HdAt.other (HdAt.other (HdAt.other (HdAt.other (HdAt.other (HdAt.other (HdAt.other (hh) hne 0 x0) hne 1 x1) hne 2 x2) hne 3 x3) hne 4 x4) hne 5 x5) hne 6 x6) hne 7 x7) hne 8 x8) hne 9 x9) hne 10 x10
end Go.Proofs.Ytnhkkpcepppgoaa

namespace Go.Proofs.Ytnhkkpcepppgoaa
open Go.RowKit
def evB (f : Nat) : Bool := decide (f / 32768 % 2 = 1)
def dfB (f : Nat) : Bool := decide (f / 16384 % 2 = 1)
def mfB (f : Nat) : Bool := decide (f / 8192 % 2 = 1)
theorem and_bit (f k : Nat) : (f &&& 2 ^ k != 0) = f.testBit k := by
  cases h : f.testBit k with
  | true =>
    rw [bne_iff_ne]
    intro e
    have h2 : (f &&& 2 ^ k).testBit k = true := by rw [Nat.testBit_and, Nat.testBit_two_pow, h]; simp
    rw [e] at h2; simp at h2
  | false =>
    rw [bne_eq_false_iff_eq]
    refine Nat.eq_of_testBit_eq fun j => ?_
    rw [Nat.testBit_and, Nat.testBit_two_pow]
    by_cases e : k = j
    · subst e; rw [h]; simp
    · simp [e]
theorem cast_bne (n : Nat) : ((n : Int) != 0) = (n != 0) := by rw [Bool.eq_iff_iff]; simp
theorem and_pow {f : Nat} (hf : f < 65536) (m k : Nat) (hm : m = 2 ^ k) (hk : m < 65536) : (bits .and .u64 (f : Int) (m : Int) != 0) = decide (f / 2 ^ k % 2 = 1) := by
  rw [u64_and _ _ (by omega) (by omega) (by omega) (by omega), Int.toNat_natCast, Int.toNat_natCast, cast_bne, hm, and_bit, Nat.testBit_eq_decide_div_mod_eq]
theorem ev_bits {f : Nat} (hf : f < 65536) : (bits .and .u64 (f : Int) 32768 != 0) = evB f := and_pow hf 32768 15 (by decide) (by decide)
theorem df_bits {f : Nat} (hf : f < 65536) : (bits .and .u64 (f : Int) 16384 != 0) = dfB f := and_pow hf 16384 14 (by decide) (by decide)
theorem mf_bits {f : Nat} (hf : f < 65536) : (bits .and .u64 (f : Int) 8192 != 0) = mfB f := and_pow hf 8192 13 (by decide) (by decide)
theorem off_bits {f : Nat} (hf : f < 65536) : bits .and .u64 (f : Int) 8191 = ((f % 8192 : Nat) : Int) := by
  rw [u64_and _ _ (by omega) (by omega) (by omega) (by omega), Int.toNat_natCast]
  have : (8191 : Int).toNat = 8191 := rfl
  rw [this, Nat.and_two_pow_sub_one_eq_mod f 13]
theorem drop_take_cons {l : List UInt8} {i k : Nat} (h : i < l.length) : (l.take (i + (k + 1))).drop i = l[i] :: (l.take (i + 1 + k)).drop (i + 1) := by
  rw [show i + (k + 1) = i + 1 + k by omega, List.drop_eq_getElem_cons (by simp; omega), List.getElem_take]
theorem drop_take_nil {l : List UInt8} {i : Nat} : (l.take (i + 0)).drop i = [] := by rw [List.drop_eq_nil_of_le]; simp; omega
theorem numAt_1 {l : List UInt8} {i : Nat} (h : i + 1 ≤ l.length) : numAt l i 1 = Sm.at0 l i := by
  unfold numAt
  rw [drop_take_cons (k := 0) (by omega), drop_take_nil, at0_get (by omega)]
  simp [getL]
theorem numAt_2 {l : List UInt8} {i : Nat} (h : i + 2 ≤ l.length) : numAt l i 2 = 256 * Sm.at0 l i + Sm.at0 l (i + 1) := by
  unfold numAt
  rw [drop_take_cons (k := 1) (by omega), drop_take_cons (k := 0) (by omega), drop_take_nil, at0_get (by omega), at0_get (by omega)]
  simp [getL]; omega
end Go.Proofs.Ytnhkkpcepppgoaa

namespace Go.Proofs.Ytnhkkpcepppgoaa
open Go.RowKit
theorem wpAnyH_cut {P : Program} {md : Region.Mode} {ops : Array Oper} {Q : Exit → Act → World → Prop} {S : World → Prop} {fuel : Nat} {listed : Array Bool} {a : Act} {w : World}
    (m : Array Bool) (fm : Nat) (I : Act → World → Prop)
    (tail : ∀ (l : Array Bool) (A : Act) (w1 : World), l = m → I A w1 → S w1 → wpAnyH P md ops Q S fm l A w1)
    (main : (∀ (l : Array Bool) (A : Act) (w1 : World), l = m → I A w1 → S w1 → wpAnyH P md ops Q S fm l A w1) → wpAnyH P md ops Q S fuel listed a w) : wpAnyH P md ops Q S fuel listed a w := main tail
/-- A region, cut behind it: what its walk leaves is said once. -/
theorem wp_region_fin {P : Program} {Q : Exit → Act → World → Prop} {S : World → Prop} {id : Nat} {ops : Array Oper} {a : Act} {w : World} (I : Act → World → Prop) (hm : P.follows .mixedOrders = true) (hS : S w.drew) (h1 : ∀ A w3, I A w3 → Q .normal A w3)
    (h : (∀ A w3, I A w3 → Q .normal A w3) → S w.drew → wpAnyH P .any ops Q S ops.size (Array.replicate ops.size false) a w.drew) : (Code.region id ops true).wp P Q a w :=
  wp_region_held_drew hm hS (h h1)
end Go.Proofs.Ytnhkkpcepppgoaa
