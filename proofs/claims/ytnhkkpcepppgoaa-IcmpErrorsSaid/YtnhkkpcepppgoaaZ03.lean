/- icmp.Same and ref04.Same of any two messages.
   The walks of icmp.pair, and of IsError, the program's and the reference's.
   The walk of ip's closure that writes a number.
   A header's block in memory.
   Lists of options in memory: owned, and read.
   The contract of bytes.Clone.
   The library's contracts at this translation, in plain words.
   append on bytes that the call owns, whatever the source: one law in three forms. -/
import Derived.Deep.AppendLies
import Derived.Laws.AppendOwnNone
import Derived.Laws.OwnMore
import Derived.Shelf.Bytes.SlSearch0
import Derived.Ground.SlbCloneProg
import Derived.Shelf.Bytes.SlClone
import Derived.Shelf.Bytes.SlEqualAll
import Derived.Shelf.Bytes.Small
import Derived.Test.YtnhkkpcepppgoaaProg
import Derived.RangeFuncNested
import Derived.Deep.MidRow
import Derived.Laws.CopyOwn
import Derived.ChangeKeysEq
import Derived.Test.YtnhkkpcepppgoaaZ01
import Derived.Test.YtnhkkpcepppgoaaZ02

set_option linter.unusedSimpArgs false
set_option linter.unusedVariables false
namespace Go.Proofs.Ytnhkkpcepppgoaa
open Go.RowKit

/-- The value owns these bytes. -/
def OwnB (w : World) (B : Nat) (v : Value) (l : List UInt8) : Prop := w.ownsRow B 5 1 v l.length (bv l)
theorem OwnB.bytes {w : World} {B : Nat} {v : Value} {l : List UInt8} (h : OwnB w B v l) : Bytes w v l := Bytes.of_own h
theorem OwnB.nil (w : World) (B : Nat) : OwnB w B (.slice none 0 0) [] := World.ownsRow_nil w _ _ _
theorem OwnB.form {w : World} {B : Nat} {v : Value} {l : List UInt8} (h : OwnB w B v l) : ∃ a c, v = .slice a l.length c := (OwnB.bytes h).form
theorem OwnB.alloc {w : World} {B : Nat} {v : Value} {l : List UInt8} (h : OwnB w B v l) (o : Obj) : OwnB (w.alloc o) B v l := World.ownsRow.alloc h o
theorem OwnB.drew {w : World} {B : Nat} {v : Value} {l : List UInt8} (h : OwnB w B v l) : OwnB w.drew B v l := h
theorem info8 : ∃ i0, Try.prog.info? 5 = some i0 ∧ i0.zero = some (.int .u8 0) ∧ i0.size = 1 ∧ i0.bytes = 1 := by
  have hi5 : (Try.prog.info? 5).map (fun i => (i.zero, i.size, i.bytes)) = some (some (.int .u8 0), 1, 1) := by kernel_rfl
  obtain ⟨i0, hi, hx⟩ := Option.map_eq_some_iff.1 hi5
  simp only [Prod.mk.injEq] at hx
  exact ⟨i0, hi, hx.1, hx.2.1, hx.2.2⟩
/-- Behind a call that left what was there: what is owned is still owned. -/
theorem OwnB.later {w w' : World} {B : Nat} {v : Value} {l : List UInt8} (h : OwnB w B v l) (hb : Below w.heap.size w w') : OwnB w' B v l := by
  obtain ⟨hl, h0 | ⟨g, cap, cur, rfl, hb1, hg, hn, hm, hc, ht⟩⟩ := h
  · exact ⟨hl, .inl h0⟩
  · refine ⟨hl, .inr ⟨g, cap, cur, rfl, hb1, ?_, hn, hm, hc, ht⟩⟩
    rw [hb.block g ?_]
    · exact hg
    · rcases Nat.lt_or_ge g w.heap.size with h1 | h1
      · exact h1
      · rw [Array.getElem?_eq_none h1] at hg; cases hg

theorem run_app (w : World) (B : Nat) (ty : TypeId) (v u : Value) (l0 l1 : List UInt8) (hown : OwnB w B v l0) (hu : Bytes w u l1) (hn : l0.length + l1.length ≤ 140737488355328) (hB : B ≤ w.heap.size) :
    ∃ v' w', (Builtin.append_ #[22, 22] ty #[v, u]).run Try.prog w = .ok v' w' ∧ OwnB w' B v' (l0 ++ l1) ∧ Below B w w' ∧ w.grownBy w' v.ownBlock := by
  obtain ⟨i0, hi, hz0, hz1, hz2⟩ := info8
  obtain ⟨a, c, rfl⟩ := hu.form
  cases a with
  | none =>
    obtain ⟨e1, rfl, rfl⟩ := hu.noaddr
    have := run_append_owned_none (P := Try.prog) (w := w) B 22 ty 5 i0 1 Try.underlying22 hi v l0.length _ hown
    refine ⟨v, w, this, by simpa using hown, Below.refl _ _, ⟨rfl, rfl, rfl, Nat.le_refl _, fun _ _ _ => rfl⟩⟩
  | some x =>
    obtain ⟨v', w', h1, h2, h3, _⟩ := run_append_own (P := Try.prog) (w := w) B 22 ty 5 i0 (.int .u8 0) 1 1 Try.underlying22 hi hz0 hz1 hz2 rfl (by decide) v l0.length (bv l0) hown x l1.length c (bv l1) (by simp [bv]) hu.news (bv_one l1) (by unfold maxLen; omega) (by omega) hB
    refine ⟨v', w', h1, ?_, (Below.refl B w).grown h3 hB (fun j hj => own_base hown hj), h3⟩
    show World.ownsRow _ _ _ _ _ _ _
    rw [List.length_append, bv_append]; exact h2

theorem wp_app {w : World} {o : Oper} {a : Act} {K : Act → World → Prop} {Q : Exit → Act → World → Prop} (s x : Operand)
    (ho : o.op = .call { callee := .builtin .append, args := #[s, x], argTypes := #[22, 22] }) (B : Nat) (v u : Value) (l0 l1 : List UInt8) (hs : a.eval s = v) (hx : a.eval x = u)
    (hown : OwnB w B v l0) (hu : Bytes w u l1) (hn : l0.length + l1.length ≤ 140737488355328) (hB : B ≤ w.heap.size)
    (h : ∀ v' w', OwnB w' B v' (l0 ++ l1) → Below B w w' → w.grownBy w' v.ownBlock → K (a.put o.dst v') w') : o.wp Try.prog a w K Q := by
  obtain ⟨v', w', hr, h2, h3, h4⟩ := run_app w B o.type v u l0 l1 hown hu hn hB
  unfold Oper.wp execOp
  simp only [ho, resolve, invoke, builtin, Sem.run_bind, Sem.run_pure, Result.andThen_ok, List.map_toArray, List.map_cons, List.map_nil, hs, hx, hr]
  exact h v' w' h2 h3 h4
theorem wpList_app {w : World} {ops : Array Oper} {rest : List Oper} {o : Oper} {a : Act} {Q : Exit → Act → World → Prop} (hgd : o.guard = none) (s x : Operand)
    (ho : o.op = .call { callee := .builtin .append, args := #[s, x], argTypes := #[22, 22] }) (B : Nat) (v u : Value) (l0 l1 : List UInt8) (hs : a.eval s = v) (hx : a.eval x = u)
    (hown : OwnB w B v l0) (hu : Bytes w u l1) (hn : l0.length + l1.length ≤ 140737488355328) (hB : B ≤ w.heap.size)
    (h : ∀ v' w', OwnB w' B v' (l0 ++ l1) → Below B w w' → w.grownBy w' v.ownBlock → wpList Try.prog ops Q rest (a.put o.dst v') w') : wpList Try.prog ops Q (o :: rest) a w :=
  wpList_plain hgd fun _ hK => wp_app s x ho B v u l0 l1 hs hx hown hu hn hB fun v' w' h2 h3 h4 => hK _ _ (h v' w' h2 h3 h4)
/-- At a step of a region that draws its order. -/
theorem step_app {w : World} {ops : Array Oper} {o : Oper} {a : Act} {K : Act → World → Prop} {Q : Exit → Act → World → Prop} {E : Prop} (hgd : o.guard = none) (s x : Operand)
    (ho : o.op = .call { callee := .builtin .append, args := #[s, x], argTypes := #[22, 22] }) (B : Nat) (v u : Value) (l0 l1 : List UInt8) (hs : a.eval s = v) (hx : a.eval x = u)
    (hown : OwnB w B v l0) (hu : Bytes w u l1) (hn : l0.length + l1.length ≤ 140737488355328) (hB : B ≤ w.heap.size)
    (h : ∀ v' w', OwnB w' B v' (l0 ++ l1) → Below B w w' → w.grownBy w' v.ownBlock → K (a.put o.dst v') w') :
    if Region.wanted o (yielded ops a.tmps) = true then Oper.wp Try.prog o a w K Q else E := by
  have hw : Region.wanted o (yielded ops a.tmps) = true := by simp [Region.wanted, hgd]
  rw [if_pos hw]
  exact wp_app s x ho B v u l0 l1 hs hx hown hu hn hB h
end Go.Proofs.Ytnhkkpcepppgoaa

namespace Go.Proofs
open Go.Shelf
def Try.lays115_ren : Go.Shelf.Ren := ⟨fun | 115 => 59 | n => n, fun | 37 => 22 | 4 => 4 | 9 => 9 | 5 => 5 | n => n, fun | n => n⟩
theorem Try.lays115 : Go.Proofs.Lays.n115 Try.prog Try.lays115_ren := {
  mixed := by kernel_rfl
  f115 := Try.func59.trans (congrArg some (by kernel_rfl))
  t4 := Try.underlying4
  a4 := Try.isAgg4
  z4 := Try.sizeOf4
  v4 := Try.zeroValue4
  t9 := Try.underlying9
  a9 := Try.isAgg9
  z9 := Try.sizeOf9
  v9 := Try.zeroValue9
  t37 := Try.underlying22
  a37 := Try.isAgg22
  z37 := Try.sizeOf22
  v37 := Try.zeroValue22 }
open Go.Proofs Go.RowKit Go.Lib in
theorem Try.bytes_Equal_strs (v1 v2 : Value) (t1 t2 : ByteArray) (w : World) (h1 : (convert 22 9 v1).run Try.prog w = .ok (.string t1) w) (h2 : (convert 22 9 v2).run Try.prog w = .ok (.string t2) w) :
    Calls Try.prog 59 #[v1, v2] w fun e w' => e = .returned (.bool (t1.toList == t2.toList)) ∧ w' = w := Any.bytes_Equal_strs Try.lays115 v1 v2 t1 t2 w h1 h2
def Try.laysSlK4_ren : Go.Shelf.Ren := ⟨fun | 4 => 54 | n => n, fun | 22 => 22 | 4 => 4 | 5 => 5 | n => n, fun | n => n⟩
theorem Try.laysSlK4 : Go.Proofs.SlLaysK.n4 Try.prog Try.laysSlK4_ren := {
  mixed := by kernel_rfl
  f4 := Try.func54.trans (congrArg some (by kernel_rfl))
  t4 := Try.underlying4
  a4 := Try.isAgg4
  z4 := Try.sizeOf4
  v4 := Try.zeroValue4
  t22 := Try.underlying22
  a22 := Try.isAgg22
  z22 := Try.sizeOf22
  v22 := Try.zeroValue22
  t5 := Try.underlying5
  i5 := by kernel_rfl }
open Go.RowKit Go.Lib in
theorem Try.bytes_Clone_at (a : Addr) (n c : Nat) (xs : List Int) (w : World) (hx : xs.length = n) (hbig : n ≤ 140737488355328) (hc : ∀ i, i < n → w.cell? (a.add i) = some (.int .u8 (xs.getD i 0))) :
    Calls Try.prog 54 #[.slice (some a) n c] w fun e w' => ∃ v', e = .returned v' ∧ w'.ownsRow w.heap.size 5 1 v' n (xs.map (Value.int .u8)) ∧ v' ≠ .slice none 0 0 ∧ Below w.heap.size w w' := Any.bytes_Clone_at Try.laysSlK4 a n c xs w hx hbig hc
open Go.RowKit Go.Lib in
theorem Try.bytes_Clone_nil (n c : Nat) (w : World) :
    Calls Try.prog 54 #[.slice none n c] w fun e w' => e = .returned (.slice none 0 0) ∧ w' = w := Any.bytes_Clone_nil Try.laysSlK4 n c w
def Try.laysnb115_ren : Go.Shelf.Ren := ⟨fun | 115 => 59 | n => n, fun | 37 => 22 | 4 => 4 | 9 => 9 | 5 => 5 | n => n, fun | n => n⟩
theorem Try.laysnb115 : Go.Proofs.Lays.nb115 Try.prog Try.laysnb115_ren := {
  mixed := by kernel_rfl
  f115 := Try.func59.trans (congrArg some (by kernel_rfl))
  t4 := Try.underlying4
  a4 := Try.isAgg4
  z4 := Try.sizeOf4
  v4 := Try.zeroValue4
  t9 := Try.underlying9
  a9 := Try.isAgg9
  z9 := Try.sizeOf9
  v9 := Try.zeroValue9
  t37 := Try.underlying22
  a37 := Try.isAgg22
  z37 := Try.sizeOf22
  v37 := Try.zeroValue22
  t5 := Try.underlying5
  a5 := Try.isAgg5
  z5 := Try.sizeOf5
  v5 := Try.zeroValue5 }
theorem Try.bytes_Equal_all (p1 p2 : Option Addr) (n c m d : Nat) (xs ys : List Int) (w : World) (hx : xs.length = n) (hy : ys.length = m) (h1 : Lib.BytesIn w p1 n xs) (h2 : Lib.BytesIn w p2 m ys) :
    Calls Try.prog 59 #[.slice p1 n c, .slice p2 m d] w fun e w' => e = .returned (.bool (Lib.bytesOf xs == Lib.bytesOf ys)) ∧ w' = w := Any.bytes_Equal_all Try.laysnb115 p1 p2 n c m d xs ys w hx hy h1 h2
theorem Try.bytes_Equal (v1 v2 : Value) (xs ys : List Int) (w : World) (h1 : (convert 22 9 v1).run Try.prog w = .ok (.string (strOfNums xs)) w) (h2 : (convert 22 9 v2).run Try.prog w = .ok (.string (strOfNums ys)) w) :
    Calls Try.prog 59 #[v1, v2] w fun e w' => e = .returned (.bool (Lib.bytesOf xs == Lib.bytesOf ys)) ∧ w' = w := Any.bytes_Equal Try.lays115 v1 v2 xs ys w h1 h2
end Go.Proofs

namespace Go.Proofs.Ytnhkkpcepppgoaa
open Go.RowKit
theorem clone_any (v : Value) (l : List UInt8) (w : World) (hv : Bytes w v l) (hl : l.length ≤ 140737488355328) :
    Calls Try.prog 54 #[v] w fun e w' => ∃ v', e = .returned v' ∧ OwnB w' w.heap.size v' l ∧ Below w.heap.size w w' := by
  obtain ⟨a, c, rfl⟩ := hv.form
  cases a with
  | none =>
    obtain ⟨e1, rfl, rfl⟩ := hv.noaddr
    refine (Try.bytes_Clone_nil _ _ w).mono ?_
    rintro e w' ⟨rfl, rfl⟩
    exact ⟨_, rfl, OwnB.nil _ _, Below.refl _ _⟩
  | some ad =>
    refine (Try.bytes_Clone_at ad l.length c (l.map fun b => (b.toNat : Int)) w (by simp) hl (fun i hi => ?_)).mono ?_
    · have := hv.news i (.int .u8 (l[i].toNat : Int)) (by simp [bv, hi])
      rw [this]; simp [hi]
    · rintro e w' ⟨v', rfl, h1, _, h2⟩
      refine ⟨v', rfl, ?_, h2⟩
      rw [List.map_map] at h1
      exact h1
end Go.Proofs.Ytnhkkpcepppgoaa

namespace Go.Proofs.Ytnhkkpcepppgoaa
open Go.RowKit

theorem own_block {w : World} {B : Nat} {e : TypeId} {size n g : Nat} {v : Value} {xs : List Value} (h : w.ownsRow B e size v n xs) (hg : v.ownBlock = some g) : ∃ cur, w.heap[g]? = some (.cells cur e (0, 0)) := by
  rcases h.2 with ⟨rfl, _⟩ | ⟨g', cap, cur, rfl, _, hgg, _⟩
  · simp [Value.ownBlock] at hg
  · simp [Value.ownBlock] at hg; subst hg; exact ⟨_, hgg⟩
theorem own_apart {w : World} {B B' : Nat} {e e' : TypeId} {size size' n n' : Nat} {v v' : Value} {xs xs' : List Value} (h : w.ownsRow B e size v n xs) (h' : w.ownsRow B' e' size' v' n' xs') (he : e ≠ e') : v.ownBlock = none ∨ v.ownBlock ≠ v'.ownBlock := by
  cases hv : v.ownBlock with
  | none => exact .inl rfl
  | some g =>
    refine .inr fun e2 => ?_
    obtain ⟨c1, h1⟩ := own_block h hv
    obtain ⟨c2, h2⟩ := own_block h' e2.symm
    rw [h1] at h2
    simp at h2
    exact he h2.2
theorem OwnB.weak {w : World} {B B' : Nat} {v : Value} {l : List UInt8} (h : OwnB w B' v l) (hB : B ≤ B') : OwnB w B v l := by
  obtain ⟨hl, h0 | ⟨g, cap, cur, rfl, hb1, hr⟩⟩ := h
  · exact ⟨hl, .inl h0⟩
  · exact ⟨hl, .inr ⟨g, cap, cur, rfl, Nat.le_trans hB hb1, hr⟩⟩

/-- The cells of options. -/
def oc : List (List UInt8) → List Value → List Value
  | r :: R, u :: us => .int .u8 (Sm.at0 r 0 : Nat) :: u :: oc R us
  | _, _ => []
theorem oc_snoc : ∀ (R : List (List UInt8)) (us : List Value) (r : List UInt8) (u : Value), us.length = R.length → oc (R ++ [r]) (us ++ [u]) = oc R us ++ [.int .u8 (Sm.at0 r 0 : Nat), u]
  | [], [], _, _, _ => rfl
  | a :: R, b :: us, r, u, h => by
    have := oc_snoc R us r u (by simpa using h)
    simp only [List.cons_append, oc, this]
theorem oc_at : ∀ (R : List (List UInt8)) (us : List Value) (j : Nat) (r : List UInt8) (u : Value), us.length = R.length → R[j]? = some r → us[j]? = some u → (oc R us)[2 * j]? = some (.int .u8 (Sm.at0 r 0 : Nat)) ∧ (oc R us)[2 * j + 1]? = some u
  | [], _, _, _, _, _, h, _ => by simp at h
  | _ :: _, [], _, _, _, h, _, _ => by simp at h
  | a :: R, b :: us, 0, r, u, _, h, h2 => by simp at h h2; subst h h2; exact ⟨rfl, rfl⟩
  | a :: R, b :: us, j + 1, r, u, hl, h, h2 => by
    have := oc_at R us j r u (by simpa using hl) (by simpa using h) (by simpa using h2)
    rw [show 2 * (j + 1) = 2 * j + 1 + 1 by omega]
    simpa [oc] using this

/-- The value owns these options, and each one's data is owned. -/
def OptL (W : World) (B : Nat) (v : Value) (R : List (List UInt8)) : Prop :=
  ∃ us : List Value, us.length = R.length ∧ W.ownsRow B 70 2 v R.length (oc R us) ∧ ∀ (j : Nat) (u : Value) (r : List UInt8), us[j]? = some u → R[j]? = some r → OwnB W B u (r.drop 2)
theorem OptL.nil (W : World) (B : Nat) : OptL W B (.slice none 0 0) [] := ⟨[], rfl, World.ownsRow_nil W _ _ _, by simp⟩
theorem OptL.form {W : World} {B : Nat} {v : Value} {R : List (List UInt8)} (h : OptL W B v R) : ∃ a c, v = .slice a R.length c := by
  obtain ⟨us, _, h, _⟩ := h
  rcases h.2 with ⟨rfl, h0⟩ | ⟨g, cap, cur, rfl, _⟩
  · exact ⟨none, 0, by rw [h0]⟩
  · exact ⟨_, _, rfl⟩
theorem OptL.later {W W' : World} {B : Nat} {v : Value} {R : List (List UInt8)} (h : OptL W B v R) (hb : Below W.heap.size W W') : OptL W' B v R := by
  obtain ⟨us, h1, h2, h3⟩ := h
  refine ⟨us, h1, ?_, fun j u r hu hr => (h3 j u r hu hr).later hb⟩
  obtain ⟨hl, h0 | ⟨g, cap, cur, rfl, hb1, hg, hr⟩⟩ := h2
  · exact ⟨hl, .inl h0⟩
  · refine ⟨hl, .inr ⟨g, cap, cur, rfl, hb1, ?_, hr⟩⟩
    rw [hb.block g ?_]
    · exact hg
    · rcases Nat.lt_or_ge g W.heap.size with h1 | h1
      · exact h1
      · rw [Array.getElem?_eq_none h1] at hg; cases hg
/-- A turn of a block that holds no bytes and no options. -/
theorem OptL.kept {X Y : World} {B : Nat} {v : Value} {R : List (List UInt8)} {row : Option Nat} (h : OptL X B v R) (hg : X.grownBy Y row)
    (hr : ∀ r, row = some r → ∃ o, X.heap[r]? = some o ∧ (∀ cs p, o ≠ .cells cs 5 p) ∧ (∀ cs p, o ≠ .cells cs 70 p)) : OptL Y B v R := by
  obtain ⟨us, h1, h2, h3⟩ := h
  refine ⟨us, h1, h2.kept hg ?_, fun j u r hu hrr => World.ownsRow.kept (h3 j u r hu hrr) hg ?_⟩
  · cases hv : v.ownBlock with
    | none => exact .inl rfl
    | some g =>
      refine .inr fun e => ?_
      obtain ⟨o, ho, _, hn⟩ := hr g e.symm
      obtain ⟨cur, hc⟩ := own_block h2 hv
      rw [ho] at hc
      exact hn _ _ (Option.some.inj hc)
  · cases hv : u.ownBlock with
    | none => exact .inl rfl
    | some g =>
      refine .inr fun e => ?_
      obtain ⟨o, ho, hn, _⟩ := hr g e.symm
      obtain ⟨cur, hc⟩ := own_block (h3 j u r hu hrr) hv
      rw [ho] at hc
      exact hn _ _ (Option.some.inj hc)
theorem OptL.set {W : World} {B Bx : Nat} {v u u' : Value} {t : TypeId} {R : List (List UInt8)} (h : OptL W B v R) (hb : Boxed W Bx t u) (h1 : t ≠ 5) (h2 : t ≠ 70) : OptL (W.setCell ⟨Bx, 0, none⟩ u') B v R :=
  h.kept (grownBy_setCell' W Bx u') fun r e => by cases e; exact ⟨_, hb, fun cs p e => by simp at e; exact h1 e.2.1, fun cs p e => by simp at e; exact h2 e.2.1⟩
theorem optl_own {β : Type} (B Bx : Nat) (t : TypeId) (f : β → List (List UInt8)) (G : β → Prop) : Own (fun s W => ∃ v, Boxed W Bx t v ∧ OptL W B v (f s) ∧ G s) := by
  rintro s X Y row ⟨v, hv, hr, hG⟩ hg hrow
  refine ⟨v, hv.kept hg (fun e' => ?_), hr.kept hg (fun r e => ?_), hG⟩
  · obtain ⟨o, ho, hc⟩ := hrow Bx e'.symm
    rw [show X.heap[Bx]? = _ from hv] at ho; cases ho; cases hc
  · obtain ⟨o, ho, hc⟩ := hrow r e
    exact ⟨o, ho, ⟨fun cs p e => (by subst e; cases hc), fun cs p e => (by subst e; cases hc)⟩⟩

theorem infoO : ∃ i0, Try.prog.info? 70 = some i0 ∧ i0.zero = some (.agg #[.int .u8 0, .slice none 0 0]) ∧ i0.size = 2 ∧ i0.bytes = 32 := by
  have hi5 : (Try.prog.info? 70).map (fun i => (i.zero, i.size, i.bytes)) = some (some (.agg #[.int .u8 0, .slice none 0 0]), 2, 32) := by kernel_rfl
  obtain ⟨i0, hi, hx⟩ := Option.map_eq_some_iff.1 hi5
  simp only [Prod.mk.injEq] at hx
  exact ⟨i0, hi, hx.1, hx.2.1, hx.2.2⟩
theorem run_appO (w : World) (B : Nat) (ty : TypeId) (v u : Value) (R : List (List UInt8)) (r : List UInt8) (g : Nat) (h : OptL w B v R) (hu : OwnB w B u (r.drop 2)) (hc0 : w.cell? ⟨g, 0, none⟩ = some (.int .u8 (Sm.at0 r 0 : Nat))) (hc1 : w.cell? ⟨g, 1, none⟩ = some u)
    (hn : R.length ≤ 2000000) (hB : B ≤ w.heap.size) :
    ∃ v' w', (Builtin.append_ #[65, 65] ty #[v, .slice (some ⟨g, 0, none⟩) 1 1]).run Try.prog w = .ok v' w' ∧ OptL w' B v' (R ++ [r]) ∧ Below B w w' ∧ w.grownBy w' v.ownBlock := by
  obtain ⟨i0, hi, hz0, hz1, hz2⟩ := infoO
  obtain ⟨us, hl, ho, he⟩ := h
  obtain ⟨a, c, rfl⟩ := OwnB.form hu
  obtain ⟨v', w', h1, h2, h3, _⟩ := run_append_own (P := Try.prog) (w := w) B 65 ty 70 i0 _ 2 32 Try.underlying65 hi hz0 hz1 hz2 rfl (by decide) v R.length _ ho ⟨g, 0, none⟩ 1 1 [.int .u8 (Sm.at0 r 0 : Nat), .slice a (r.drop 2).length c] rfl
    (fun j x hx => by
      match j, hx with
      | 0, hx => simp at hx; subst hx; simpa [Addr.add] using hc0
      | 1, hx => simp at hx; subst hx; simpa [Addr.add] using hc1)
    (by intro x hx; simp at hx; rcases hx with rfl | rfl <;> rfl) (by unfold maxLen; omega) (by omega) hB
  refine ⟨v', w', h1, ⟨us ++ [.slice a (r.drop 2).length c], by simp [hl], ?_, fun j x y hx hy => ?_⟩, (Below.refl B w).grown h3 hB (fun j hj => own_base ho hj), h3⟩
  · rw [oc_snoc R us _ _ hl, List.length_append]; exact h2
  · have key : OwnB w B x (y.drop 2) := by
      rcases Nat.lt_or_ge j us.length with hj | hj
      · rw [List.getElem?_append_left hj] at hx
        rw [List.getElem?_append_left (by omega)] at hy
        exact he j x y hx hy
      · rw [List.getElem?_append_right hj] at hx
        rw [List.getElem?_append_right (by omega)] at hy
        have hj0 : j - us.length = 0 := by
          have := (List.getElem?_eq_some_iff.1 hx).1
          simp at this; omega
        rw [hj0] at hx
        rw [show j - R.length = 0 by omega] at hy
        simp only [List.getElem?_cons_zero, Option.some.injEq] at hx hy
        subst hx hy
        exact hu
    exact World.ownsRow.kept key h3 (own_apart key ho (by decide))

theorem step_appO {w : World} {ops : Array Oper} {o : Oper} {a : Act} {K : Act → World → Prop} {Q : Exit → Act → World → Prop} {E : Prop} (hgd : o.guard = none) (s x : Operand)
    (ho : o.op = .call { callee := .builtin .append, args := #[s, x], argTypes := #[65, 65] }) (B : Nat) (v u : Value) (R : List (List UInt8)) (r : List UInt8) (g : Nat) (hs : a.eval s = v) (hx : a.eval x = .slice (some ⟨g, 0, none⟩) 1 1)
    (hl : OptL w B v R) (hu : OwnB w B u (r.drop 2)) (hc0 : w.cell? ⟨g, 0, none⟩ = some (.int .u8 (Sm.at0 r 0 : Nat))) (hc1 : w.cell? ⟨g, 1, none⟩ = some u) (hn : R.length ≤ 2000000) (hB : B ≤ w.heap.size)
    (h : ∀ v' w', OptL w' B v' (R ++ [r]) → Below B w w' → w.grownBy w' v.ownBlock → K (a.put o.dst v') w') :
    if Region.wanted o (yielded ops a.tmps) = true then Oper.wp Try.prog o a w K Q else E := by
  have hw : Region.wanted o (yielded ops a.tmps) = true := by simp [Region.wanted, hgd]
  rw [if_pos hw]
  obtain ⟨v', w', hr, h2, h3, h4⟩ := run_appO w B o.type v u R r g hl hu hc0 hc1 hn hB
  unfold Oper.wp execOp
  simp only [ho, resolve, invoke, builtin, Sem.run_bind, Sem.run_pure, Result.andThen_ok, List.map_toArray, List.map_cons, List.map_nil, hs, hx, hr]
  exact h v' w' h2 h3 h4

/-- The value reads as these options: kinds, and data. -/
def OptR (w : World) (v : Value) (K : List (Nat × List UInt8)) : Prop :=
  (K = [] ∧ ∃ a c, v = .slice a 0 c) ∨
  ∃ b o c, v = .slice (some ⟨b, o, none⟩) K.length c ∧ b < w.heap.size ∧ ∀ (j k : Nat) (d : List UInt8), K[j]? = some (k, d) → w.cell? ⟨b, o + 2 * j, none⟩ = some (.int .u8 k) ∧ ∃ u, w.cell? ⟨b, o + (2 * j + 1), none⟩ = some u ∧ Bytes w u d
def kd (r : List UInt8) : Nat × List UInt8 := (Sm.at0 r 0, r.drop 2)
theorem OptL.reads {w : World} {B : Nat} {v : Value} {R : List (List UInt8)} (h : OptL w B v R) : OptR w v (R.map kd) := by
  obtain ⟨us, hl, ho, he⟩ := h
  rcases ho.2 with ⟨rfl, h0⟩ | ⟨g, cap, cur, rfl, hb, hg, hn, hm, hc, ht⟩
  · have : R = [] := List.length_eq_zero_iff.1 h0
    subst this
    exact .inl ⟨rfl, _, _, rfl⟩
  · refine .inr ⟨g, 0, cap, by rw [List.length_map], ?_, fun j k d hj => ?_⟩
    · rcases Nat.lt_or_ge g w.heap.size with h1 | h1
      · exact h1
      · rw [Array.getElem?_eq_none h1] at hg; cases hg
    · rw [List.getElem?_map, Option.map_eq_some_iff] at hj
      obtain ⟨r, hr, hkd⟩ := hj
      simp only [kd, Prod.mk.injEq] at hkd
      obtain ⟨rfl, rfl⟩ := hkd
      have hjl : j < us.length := by rw [hl]; exact (List.getElem?_eq_some_iff.1 hr).1
      have hu : us[j]? = some us[j] := List.getElem?_eq_getElem hjl
      obtain ⟨e0, e1⟩ := oc_at R us j r _ hl hr hu
      have hcell : ∀ i x, (oc R us)[i]? = some x → w.cell? ⟨g, 0 + i, none⟩ = some x := fun i x hx => by
        rw [Nat.zero_add, cell_of_row w g i cur _ (0, 0) hg]
        rw [← ht, List.getElem?_take] at hx
        split at hx
        · simpa using hx
        · cases hx
      exact ⟨hcell _ _ e0, _, hcell _ _ e1, (he j _ r hu hr).bytes⟩
theorem OptR.later {w w' : World} {v : Value} {K : List (Nat × List UInt8)} (h : OptR w v K) (hb : Below w.heap.size w w') : OptR w' v K := by
  rcases h with h | ⟨b, o, c, h1, h2, h3⟩
  · exact .inl h
  · refine .inr ⟨b, o, c, h1, Nat.lt_of_lt_of_le h2 hb.size, fun j k d hj => ?_⟩
    obtain ⟨e1, u, e2, e3⟩ := h3 j k d hj
    exact ⟨cell_later hb e1, u, cell_later hb e2, e3.later hb⟩
theorem OptR.form {w : World} {v : Value} {K : List (Nat × List UInt8)} (h : OptR w v K) : ∃ a c, v = .slice a K.length c := by
  rcases h with ⟨rfl, a, c, rfl⟩ | ⟨b, o, c, rfl, _⟩
  · exact ⟨a, c, rfl⟩
  · exact ⟨_, c, rfl⟩
theorem OptR.at {w : World} {a : Option Addr} {n c : Nat} {K : List (Nat × List UInt8)} (h : OptR w (.slice a n c) K) {i : Nat} (hi : i < K.length) :
    ∃ b o, a = some ⟨b, o, none⟩ ∧ b < w.heap.size ∧ w.cell? ⟨b, o + 2 * i, none⟩ = some (.int .u8 K[i].1) ∧ ∃ x m d, w.cell? ⟨b, o + (2 * i + 1), none⟩ = some (.slice x m d) ∧ m = K[i].2.length ∧ Bytes w (.slice x m d) K[i].2 := by
  rcases h with ⟨rfl, _⟩ | ⟨b, o, c', h1, h2, h3⟩
  · simp at hi
  · simp only [Value.slice.injEq] at h1
    obtain ⟨e1, u, e2, e3⟩ := h3 i K[i].1 K[i].2 (List.getElem?_eq_getElem hi)
    obtain ⟨x, d, rfl⟩ := e3.form
    exact ⟨b, o, h1.1, h2, e1, x, _, d, e2, rfl, e3⟩
end Go.Proofs.Ytnhkkpcepppgoaa

namespace Go.Proofs.Ytnhkkpcepppgoaa
open Go.RowKit

/-- The cells of a header of noughts. -/
def hz : List Value := [.int .u8 0, .int .u16 0, .bool false, .bool false, .bool false, .int .i64 0, .int .u8 0, .int .u8 0, .int .u32 0, .int .u32 0, .slice none 0 0]
/-- A header's block. -/
def HdAt (g : Nat) (cs : List Value) (w : World) : Prop := w.heap[g]? = some (.cells cs.toArray 28 (0, 0))
theorem HdAt.lt {g : Nat} {cs : List Value} {w : World} (h : HdAt g cs w) : g < w.heap.size := (Array.getElem?_eq_some_iff.1 h).1
theorem HdAt.later {g : Nat} {cs : List Value} {w w' : World} (h : HdAt g cs w) (hb : Below w.heap.size w w') : HdAt g cs w' := (hb.block g h.lt).trans h
theorem HdAt.new (w : World) (cs : List Value) : HdAt w.heap.size cs (w.alloc (.cells cs.toArray 28)) := World.alloc_heap_new w _
theorem HdAt.cell {g : Nat} {cs : List Value} {w : World} (h : HdAt g cs w) {j : Nat} {x : Value} (hx : cs[j]? = some x) : w.cell? ⟨g, j, none⟩ = some x := by
  rw [cell_of_row w g j cs.toArray _ (0, 0) h]; simpa using hx
theorem HdAt.frozen {g : Nat} {cs : List Value} {w : World} (h : HdAt g cs w) (j : Nat) : w.frozen? ⟨g, j, none⟩ = false := by
  unfold World.frozen?; simp [show w.heap[g]? = _ from h]
theorem HdAt.set {g : Nat} {cs : List Value} {w : World} (h : HdAt g cs w) (j : Nat) (x : Value) : HdAt g (cs.set j x) (w.setCell ⟨g, j, none⟩ x) := by
  have hl := h.lt
  have hk : w.heap[g] = .cells cs.toArray 28 (0, 0) := (Array.getElem?_eq_some_iff.1 h).2
  show (w.heap.modify g _)[g]? = _
  rw [Array.getElem?_eq_getElem (by rw [Array.size_modify]; exact hl), Array.getElem_modify_self, hk]
  simp
theorem HdAt.other {g b : Nat} {cs : List Value} {w : World} (h : HdAt g cs w) (hne : g ≠ b) (j : Nat) (x : Value) : HdAt g cs (w.setCell ⟨b, j, none⟩ x) := by
  show (w.setCell ⟨b, j, none⟩ x).heap[g]? = _
  rw [Below.heap_setCell _ _ _ _ (by simpa using hne)]; exact h
theorem HdAt.range {g : Nat} {cs : List Value} {w : World} (h : HdAt g cs w) : w.rangeAt g 0 cs := fun j v hv => by rw [Nat.zero_add]; exact h.cell hv
theorem grownBy_setCell_at (W : World) (b j : Nat) (v : Value) : W.grownBy (W.setCell ⟨b, j, none⟩ v) (some b) :=
  ⟨rfl, rfl, rfl, (KeepsWalks.setCell W _ v).size, fun k _ hk => Below.heap_setCell _ _ _ k (fun e => hk (by rw [e]))⟩
theorem HdAt.own {g : Nat} {cs : List Value} {w : World} (h : HdAt g cs w) (j : Nat) (x : Value) {B : Nat} {v : Value} {l : List UInt8} (ho : OwnB w B v l) : OwnB (w.setCell ⟨g, j, none⟩ x) B v l := by
  refine World.ownsRow.kept ho (grownBy_setCell_at w g j x) ?_
  cases hv : v.ownBlock with
  | none => exact .inl rfl
  | some b =>
    refine .inr fun e => ?_
    obtain ⟨cur, hc⟩ := own_block ho hv
    simp only [Option.some.injEq] at e
    subst e
    have h2 : w.heap[b]? = _ := h
    rw [hc] at h2
    simp at h2
/-- Eleven stores into a header's block. -/
theorem HdAt.set11 {g : Nat} {w : World} {c0 c1 c2 c3 c4 c5 c6 c7 c8 c9 c10 : Value} (h : HdAt g [c0, c1, c2, c3, c4, c5, c6, c7, c8, c9, c10] w) (x0 x1 x2 x3 x4 x5 x6 x7 x8 x9 x10 : Value) :
    HdAt g [x0, x1, x2, x3, x4, x5, x6, x7, x8, x9, x10] (((((((((((w.setCell ⟨g, 0, none⟩ x0).setCell ⟨g, 1, none⟩ x1).setCell ⟨g, 2, none⟩ x2).setCell ⟨g, 3, none⟩ x3).setCell ⟨g, 4, none⟩ x4).setCell ⟨g, 5, none⟩ x5).setCell ⟨g, 6, none⟩ x6).setCell ⟨g, 7, none⟩ x7).setCell ⟨g, 8, none⟩ x8).setCell ⟨g, 9, none⟩ x9).setCell ⟨g, 10, none⟩ x10) ∧ (∀ B v l, OwnB w B v l → OwnB (((((((((((w.setCell ⟨g, 0, none⟩ x0).setCell ⟨g, 1, none⟩ x1).setCell ⟨g, 2, none⟩ x2).setCell ⟨g, 3, none⟩ x3).setCell ⟨g, 4, none⟩ x4).setCell ⟨g, 5, none⟩ x5).setCell ⟨g, 6, none⟩ x6).setCell ⟨g, 7, none⟩ x7).setCell ⟨g, 8, none⟩ x8).setCell ⟨g, 9, none⟩ x9).setCell ⟨g, 10, none⟩ x10) B v l) ∧ (∀ B, B ≤ g → Below B w (((((((((((w.setCell ⟨g, 0, none⟩ x0).setCell ⟨g, 1, none⟩ x1).setCell ⟨g, 2, none⟩ x2).setCell ⟨g, 3, none⟩ x3).setCell ⟨g, 4, none⟩ x4).setCell ⟨g, 5, none⟩ x5).setCell ⟨g, 6, none⟩ x6).setCell ⟨g, 7, none⟩ x7).setCell ⟨g, 8, none⟩ x8).setCell ⟨g, 9, none⟩ x9).setCell ⟨g, 10, none⟩ x10)) ∧ (∀ g' cs', g' ≠ g → HdAt g' cs' w → HdAt g' cs' (((((((((((w.setCell ⟨g, 0, none⟩ x0).setCell ⟨g, 1, none⟩ x1).setCell ⟨g, 2, none⟩ x2).setCell ⟨g, 3, none⟩ x3).setCell ⟨g, 4, none⟩ x4).setCell ⟨g, 5, none⟩ x5).setCell ⟨g, 6, none⟩ x6).setCell ⟨g, 7, none⟩ x7).setCell ⟨g, 8, none⟩ x8).setCell ⟨g, 9, none⟩ x9).setCell ⟨g, 10, none⟩ x10)) := by
  have h1 := HdAt.set h 0 x0
  have h2 := HdAt.set h1 1 x1
  have h3 := HdAt.set h2 2 x2
  have h4 := HdAt.set h3 3 x3
  have h5 := HdAt.set h4 4 x4
  have h6 := HdAt.set h5 5 x5
  have h7 := HdAt.set h6 6 x6
  have h8 := HdAt.set h7 7 x7
  have h9 := HdAt.set h8 8 x8
  have h10 := HdAt.set h9 9 x9
  have h11 := HdAt.set h10 10 x10
  refine ⟨h11, fun B v l ho => ?_, fun B hB => ?_, fun g' cs' hne hh => ?_⟩
  · exact HdAt.own h10 10 x10 (HdAt.own h9 9 x9 (HdAt.own h8 8 x8 (HdAt.own h7 7 x7 (HdAt.own h6 6 x6 (HdAt.own h5 5 x5 (HdAt.own h4 4 x4 (HdAt.own h3 3 x3 (HdAt.own h2 2 x2 (HdAt.own h1 1 x1 (HdAt.own h 0 x0 (ho)))))))))))
  · exact (((((((((((Below.refl _ _).setCell (p := ⟨g, 0, none⟩) hB x0).setCell (p := ⟨g, 1, none⟩) hB x1).setCell (p := ⟨g, 2, none⟩) hB x2).setCell (p := ⟨g, 3, none⟩) hB x3).setCell (p := ⟨g, 4, none⟩) hB x4).setCell (p := ⟨g, 5, none⟩) hB x5).setCell (p := ⟨g, 6, none⟩) hB x6).setCell (p := ⟨g, 7, none⟩) hB x7).setCell (p := ⟨g, 8, none⟩) hB x8).setCell (p := ⟨g, 9, none⟩) hB x9).setCell (p := ⟨g, 10, none⟩) hB x10
  · exact HdAt.other (HdAt.other (HdAt.other (HdAt.other (HdAt.other (HdAt.other (HdAt.other (HdAt.other (HdAt.other (HdAt.other (HdAt.other (hh) hne 0 x0) hne 1 x1) hne 2 x2) hne 3 x3) hne 4 x4) hne 5 x5) hne 6 x6) hne 7 x7) hne 8 x8) hne 9 x9) hne 10 x10
end Go.Proofs.Ytnhkkpcepppgoaa

namespace Go.Proofs.Ytnhkkpcepppgoaa
open Go.RowKit
attribute [local go_sem ↓] Go.wp_at_zero Go.wp_at_succ

/-- Bytes with others laid over them from a place on. -/
def spl (l : List UInt8) (i : Nat) (x : List UInt8) : List UInt8 := l.take i ++ (x ++ l.drop (i + x.length))
theorem spl_length {l : List UInt8} {i : Nat} {x : List UInt8} (h : i + x.length ≤ l.length) : (spl l i x).length = l.length := by unfold spl; simp; omega
theorem splice_bv {cur : List Value} {l x : List UInt8} {i : Nat} (h : cur.take l.length = bv l) (hi : i + x.length ≤ l.length) (hc : l.length ≤ cur.length) : (splice cur i (bv x)).take (spl l i x).length = bv (spl l i x) := by
  rw [spl_length hi]
  unfold splice spl
  have hb : (bv x).length = x.length := by simp [bv]
  rw [bv_append, bv_append, hb]
  have e1 : cur.take i = bv (l.take i) := by
    have := congrArg (List.take i) h
    rw [List.take_take, Nat.min_eq_left (by omega)] at this
    rw [this]; simp only [bv, ← List.map_take]
  have e2 : (cur.drop (i + x.length)).take (l.length - (i + x.length)) = bv (l.drop (i + x.length)) := by
    have := congrArg (List.drop (i + x.length)) h
    rw [List.drop_take] at this
    rw [this]; simp [bv, List.map_drop]
  have l1 : (bv (l.take i)).length = i := by simp [bv]; omega
  rw [e1, List.take_append, l1, List.take_of_length_le (l := bv (l.take i)) (by omega), List.take_append, hb, List.take_of_length_le (l := bv x) (by omega), ← e2]
  congr 3
  omega
theorem OwnB.splice {w w' : World} {base g cap : Nat} {l x : List UInt8} {i : Nat} {cur : Array Value} (h : OwnB w base (.slice (some ⟨g, 0, none⟩) l.length cap) l) (hg : w.heap[g]? = some (.cells cur 5 (0, 0)))
    (hw : w'.heap[g]? = some (.cells (Go.splice cur.toList i (bv x)).toArray 5 (0, 0))) (hi : i + x.length ≤ l.length) : OwnB w' base (.slice (some ⟨g, 0, none⟩) (spl l i x).length cap) (spl l i x) := by
  obtain ⟨hl, h0 | ⟨g', cap', cur', e, hb, hgg, hn, hm, hc, ht⟩⟩ := h
  · cases h0.1
  · simp only [Value.slice.injEq, Option.some.injEq, Addr.mk.injEq, and_true] at e
    obtain ⟨rfl, _, rfl⟩ := e
    rw [hg] at hgg
    simp only [Option.some.injEq, Obj.cells.injEq, and_true] at hgg
    subst hgg
    have hcl : cur.toList.length = cap := by simpa using hc
    refine ⟨by simp [bv], .inr ⟨g, cap, _, rfl, hb, hw, ?_, hm, ?_, ?_⟩⟩
    · rw [spl_length hi]; exact hn
    · rw [List.size_toArray, length_splice _ _ _ (by simp [bv]; omega)]; omega
    · rw [Nat.mul_one] at ht ⊢
      exact splice_bv ht hi (by omega)
theorem OwnB.row {w : World} {base : Nat} {v : Value} {l : List UInt8} (h : OwnB w base v l) (hl : 0 < l.length) : ∃ g cap cur, v = .slice (some ⟨g, 0, none⟩) l.length cap ∧ base ≤ g ∧ w.heap[g]? = some (.cells cur 5 (0, 0)) ∧ l.length ≤ cap ∧ cur.size = cap := by
  obtain ⟨_, h0 | ⟨g, cap, cur, rfl, hb, hg, hn, hm, hc, ht⟩⟩ := h
  · omega
  · exact ⟨g, cap, cur, rfl, hb, hg, hn, by simpa using hc⟩
/-- b[i:] of what lies at a block's front. -/
theorem cut_front (g n c i : Nat) (hi : i ≤ n) (hc : i < c) (w : World) : (Instr.slice 22 (.slice (some ⟨g, 0, none⟩) n c) (some (.int .i64 (i : Int))) none none).run Try.prog w = .ok (.slice (some ⟨g, i, none⟩) (n - i) (c - i)) w := by
  rw [run_slice_l w _ _ _ _ cells1 _ _ (by omega) (by omega), size1]
  show Result.ok (Go.sliced _ _ _ _ 1) w = _
  unfold Go.sliced
  rw [if_neg (by omega)]
  simp [Addr.add]
  omega

/-- A copy over a block known whole: the rest of memory stays. -/
theorem wpList_copy_put {w : World} {ops : Array Oper} {rest : List Oper} {o : Oper} {a : Act} {Q : Exit → Act → World → Prop} (hgd : o.guard = none) (d s : Operand)
    (ho : o.op = .call { callee := .builtin .copy, args := #[d, s], argTypes := #[22, 22] })
    (g off dLen dCap : Nat) (ad : Addr) (sLen sCap : Nat) (hd : a.eval d = .slice (some ⟨g, off, none⟩) dLen dCap) (hs : a.eval s = .slice (some ad) sLen sCap)
    (cur : Array Value) (hg : w.heap[g]? = some (.cells cur 5 (0, 0))) (cs : List Value) (hn : cs.length = Nat.min sLen dLen)
    (hsrc : ∀ j v, cs[j]? = some v → w.cell? (ad.add j) = some v) (hfit : off + cs.length ≤ cur.size) (h1 : ∀ v ∈ cs, v.oneCell' = true)
    (h : ∀ w', Hid (w'.heap[g]? = some (.cells (Go.splice cur.toList off cs).toArray 5 (0, 0))) → Hid (∀ k, k ≠ g → w'.heap[k]? = w.heap[k]?) → Hid (∀ B, B ≤ g → Below B w w') → wpList Try.prog ops Q rest (a.put o.dst (goInt cs.length)) w') :
    wpList Try.prog ops Q (o :: rest) a w :=
  wpList_copy_own hgd d s 22 22 ho 5 Try.underlying22 (by kernel_rfl) g off dLen dCap ad sLen sCap hd hs cur 5 hg cs hn hsrc hfit h1
    (h _ (show _ = _ from setRow_heap w g _ _ _ _ hg) (fun k hk => setRow_other w g k _ hk) (fun B hB => below_setRow (Below.refl B w) hB _))
/-- What a store of a number into bytes leaves. -/
def PutR (w : World) (base g cap : Nat) (l' : List UInt8) (n : Nat) (e : Ending) (w' : World) : Prop :=
  (∃ v, e = .returned v) ∧ OwnB w' base (.slice (some ⟨g, 0, none⟩) n cap) l' ∧ Below base w w' ∧ ∀ b, b < w.heap.size → b ≠ g → w'.heap[b]? = w.heap[b]?

set_option maxHeartbeats 4000000 in
set_option maxRecDepth 100000 in
theorem putC_any (at_ size n B g cap base : Nat) (l : List UInt8) (w : World) (hc : w.cell? ⟨B, 0, none⟩ = some (.slice (some ⟨g, 0, none⟩) l.length cap)) (ho : OwnB w base (.slice (some ⟨g, 0, none⟩) l.length cap) l)
    (h1 : 1 ≤ size) (h8 : size ≤ 8) (hn : n < 256 ^ size) (hat : at_ + size ≤ l.length) (hl : l.length ≤ 1000000) (hbase : base ≤ w.heap.size) (hBg : B ≠ g) :
    Calls Try.prog 79 #[.int .i64 (at_ : Int), .int .i64 (size : Int), .int .u64 (n : Nat), .pointer (some ⟨B, 0, none⟩)] w (PutR w base g cap (spl l at_ (putL n size)) l.length) := by
  obtain ⟨g', cap', cur, e1, hbg, hg, hnc, hcs⟩ := ho.row (by omega)
  simp only [Value.slice.injEq, Option.some.injEq, Addr.mk.injEq, and_true] at e1
  obtain ⟨rfl, _, rfl⟩ := e1
  have hgl : g < w.heap.size := by
    rcases Nat.lt_or_ge g w.heap.size with h | h
    · exact h
    · rw [Array.getElem?_eq_none h] at hg; cases hg
  have HP := Lib.hid (putW_yes n size w h1 h8 hn)
  have hcut := cut_front g l.length cap at_ (by omega) (by omega)
  have hxl : (putL n size).length = size := putL_length n size
  obtain ⟨X, hX⟩ : ∃ X, X = bv (putL n size) := ⟨_, rfl⟩
  have hXl : X.length = size := by rw [hX]; simp [bv, hxl]
  have hX1 : ∀ v ∈ X, v.oneCell' = true := by rw [hX]; exact bv_one _
  have H1 : Hid (0 < size) := by show 0 < size; omega
  have HX := Lib.hid hX
  have HXL := Lib.hid hXl
  have HX1 := Lib.hid hX1
  have HG := Lib.hid hg
  have HO := Lib.hid ho
  have HH := Lib.hid (And.intro hat (And.intro hl (And.intro hbase (And.intro hbg (And.intro hnc (And.intro hcs (And.intro hgl hxl)))))))
  have k1 : (at_ : Int) ≤ l.length := by omega
  clear hX hXl hX1 hxl ho hg hn h1 h8 hat hl hbase hbg hnc hcs hgl
  go_enter Try.func79, Try.ntmps79
  go_wp2_with fail
  refine HP.out.mono ?_
  rintro e w1 ⟨v1, rfl, hby, hb1⟩
  obtain ⟨a1, c1, rfl⟩ := hby.form
  obtain ⟨N1, hN1⟩ : ∃ k, k = (putL n size).length := ⟨_, rfl⟩
  have hby2 := hby
  rw [← hN1] at hby ⊢
  have hc1 := cell_later hb1 hc
  have hc' := hcut w1
  have HB1 := Lib.hid hb1
  have HBY := Lib.hid hby2
  have HN1 := Lib.hid hN1
  have hb1b : Below base w w1 := hb1.mono HH.out.2.2.1
  have HB1b := Lib.hid hb1b
  have hg1 : w1.heap[g]? = some (.cells cur 5 (0, 0)) := (hb1.block g HH.out.2.2.2.2.2.2.1).trans HG.out
  have HG1 := Lib.hid hg1
  clear hcut hb1 hb1b hby hby2 hN1 hc hg1
  obtain ⟨b1, o1, rfl, _⟩ := (show Bytes w1 (.slice a1 (putL n size).length c1) (putL n size) from HBY.out).at (i := 0) (by rw [HH.out.2.2.2.2.2.2.2]; exact H1.out)
  go_wp2_with (with_reducible refine wpList_copy_put rfl (.tmp 17) (.tmp 18) rfl g at_ (l.length - at_) (cap - at_) ⟨b1, o1, none⟩ N1 c1 rfl rfl cur HG1.out X ?_ ?_ ?_ HX1.out ?_)
  · rw [HXL.out, HN1.out, HH.out.2.2.2.2.2.2.2]
    have := HH.out.1
    exact (Nat.min_eq_left (by omega)).symm
  · rw [HX.out]; exact Bytes.news HBY.out
  · rw [HXL.out]; have := HH.out; omega
  · intro w2 hr hk hbl
    go_wp2_with fail
    go_end0
    refine ⟨⟨_, rfl⟩, ?_, HB1b.out.trans (hbl.out _ HH.out.2.2.2.1), fun b hb hne => (hk.out b hne).trans (HB1.out.block b hb)⟩
    have hx : at_ + (putL n size).length ≤ l.length := by rw [HH.out.2.2.2.2.2.2.2]; exact HH.out.1
    have ho1 : OwnB w1 base (.slice (some ⟨g, 0, none⟩) l.length cap) l := OwnB.later HO.out HB1.out
    have h2 := OwnB.splice (w' := w2) ho1 HG1.out (by rw [← HX.out]; exact hr.out) hx
    rw [spl_length hx] at h2
    exact h2
end Go.Proofs.Ytnhkkpcepppgoaa

namespace Go.Proofs.Ytnhkkpcepppgoaa
open Go.RowKit
attribute [local go_sem ↓] Go.wp_at_zero Go.wp_at_succ

/-- A message: its Type, its Code, its Rest. -/
structure Mg where
  ty : Nat
  co : Nat
  r0 : Nat
  r1 : Nat
  r2 : Nat
  r3 : Nat
structure Mg.Ok (m : Mg) : Prop where
  ty : m.ty < 256
  co : m.co < 256
  r0 : m.r0 < 256
  r1 : m.r1 < 256
  r2 : m.r2 < 256
  r3 : m.r3 < 256

set_option maxHeartbeats 2000000 in
set_option maxRecDepth 100000 in
theorem pair_any (n : Nat) (hn : n < 65536) (w : World) : Calls Try.prog 68 #[.int .i64 (n : Nat)] w fun e w' => ∃ v, e = .returned v ∧ Bytes w' v (putL n 2) ∧ Below w.heap.size w w' := by
  have HP := Lib.hid (putW_yes n 2 w (by omega) (by omega) (by omega))
  have k1 : (n : Int) < 65536 := by omega
  go_enter Try.func68, Try.ntmps68
  go_wp2_with fail
  refine HP.out.mono ?_
  rintro e w1 ⟨v1, rfl, hby, hb1⟩
  go_wp2_with fail
  go_ret
  exact ⟨_, rfl, hby, hb1⟩

def errB (t : Nat) : Bool := t == 3 || t == 4 || t == 5 || t == 11 || t == 12
theorem int_beq (n k : Nat) : ((n : Int) == (k : Int)) = (n == k) := by rw [Bool.eq_iff_iff]; simp; omega
set_option maxHeartbeats 2000000 in
set_option maxRecDepth 100000 in
theorem isErrW_any (m : Mg) (u : Value) (w : World) (hu : ∃ a n c, u = .slice a n c) : Calls Try.prog 34 #[.agg #[.int .u8 (m.ty : Nat), .int .u8 (m.co : Nat), .int .u8 (m.r0 : Nat), .int .u8 (m.r1 : Nat), .int .u8 (m.r2 : Nat), .int .u8 (m.r3 : Nat), u]] w fun e w' => e = .returned (.bool (errB m.ty)) ∧ Below w.heap.size w w' := by
  obtain ⟨a, n, c, rfl⟩ := hu
  have he : errB m.ty = ((m.ty : Int) == 3 || (m.ty : Int) == 4 || (m.ty : Int) == 5 || (m.ty : Int) == 11 || (m.ty : Int) == 12) := by
    unfold errB; rw [← int_beq, ← int_beq, ← int_beq, ← int_beq, ← int_beq]; rfl
  have HE := Lib.hid he
  clear he
  go_enter Try.func34, Try.ntmps34
  go_wp2_with fail
  all_goals
    go_ret
    exact ⟨ret_b (by rw [HE.out]; simp [*]), by go_grown⟩
set_option maxHeartbeats 2000000 in
set_option maxRecDepth 100000 in
theorem isErrR_any (n : Nat) (w : World) : Calls Try.prog 35 #[.int .u8 (n : Nat)] w fun e w' => e = .returned (.bool (errB n)) ∧ w = w' := by
  have he : errB n = ((n : Int) == 3 || (n : Int) == 4 || (n : Int) == 5 || (n : Int) == 11 || (n : Int) == 12) := by
    unfold errB; rw [← int_beq, ← int_beq, ← int_beq, ← int_beq, ← int_beq]; rfl
  have HE := Lib.hid he
  clear he
  go_enter Try.func35, Try.ntmps35
  by_cases h1 : ((n : Int) == 3) = true
  · go_wp2_with fail
    go_ret
    exact ⟨ret_b (by rw [HE.out]; simp [*]), rfl⟩
  have e1 := Bool.not_eq_true _ ▸ h1
  clear h1
  by_cases h1 : ((n : Int) == 4) = true
  · go_wp2_with fail
    go_ret
    exact ⟨ret_b (by rw [HE.out]; simp [*]), rfl⟩
  have e2 := Bool.not_eq_true _ ▸ h1
  clear h1
  by_cases h1 : ((n : Int) == 5) = true
  · go_wp2_with fail
    go_ret
    exact ⟨ret_b (by rw [HE.out]; simp [*]), rfl⟩
  have e3 := Bool.not_eq_true _ ▸ h1
  clear h1
  by_cases h1 : ((n : Int) == 11) = true
  · go_wp2_with fail
    go_ret
    exact ⟨ret_b (by rw [HE.out]; simp [*]), rfl⟩
  have e4 := Bool.not_eq_true _ ▸ h1
  clear h1
  go_wp2_with fail
  go_ret
  exact ⟨ret_b (by rw [HE.out]; simp [*]), rfl⟩
end Go.Proofs.Ytnhkkpcepppgoaa

namespace Go.Proofs.Ytnhkkpcepppgoaa
open Go.RowKit
attribute [local go_sem ↓] Go.wp_at_zero Go.wp_at_succ

theorem item_u8 (i : Nat) (xs ys : Array Value) (a b : Nat) (is : List Nat) (w : World) (hx : xs[i]? = some (.int .u8 (a : Nat))) (hy : ys[i]? = some (.int .u8 (b : Nat))) {r : Bool} (hr : (Op.eqItems 9999 5 1 xs ys is).run Try.prog w = .ok r w) :
    (Op.eqItems 9999 5 1 xs ys (i :: is)).run Try.prog w = .ok ((a : Int) == (b : Int) && r) w := by
  have h1 := run_part_plain (P := Try.prog) (e := 5) w (by kernel_rfl) (xs := xs) (off := i) hx
  have h2 := run_part_plain (P := Try.prog) (e := 5) w (by kernel_rfl) (xs := ys) (off := i) hy
  have h3 := run_equalIn_int (P := Try.prog) w 9998 5 .u8 .u8 (a : Int) (b : Int) Try.underlying5
  simp only [Op.eqItems, Sem.run_bind, Nat.mul_one, h1, h2, h3, Result.andThen_ok]
  cases h : ((a : Int) == (b : Int)) with
  | false => simp
  | true => simpa using hr
theorem arr4 (a0 a1 a2 a3 b0 b1 b2 b3 : Nat) (w : World) : (Op.equalIn 10000 44 (.agg #[.int .u8 (a0 : Nat), .int .u8 (a1 : Nat), .int .u8 (a2 : Nat), .int .u8 (a3 : Nat)]) (.agg #[.int .u8 (b0 : Nat), .int .u8 (b1 : Nat), .int .u8 (b2 : Nat), .int .u8 (b3 : Nat)])).run Try.prog w = .ok ((a0 : Int) == (b0 : Int) && ((a1 : Int) == (b1 : Int) && ((a2 : Int) == (b2 : Int) && ((a3 : Int) == (b3 : Int) && true)))) w := by
  obtain ⟨i0, hi, _⟩ := info8
  refine (run_equalIn_array (P := Try.prog) w 9999 (e := 5) (n := 4) (i := i0) _ _ Try.underlying44 hi).trans ?_
  rw [show Try.prog.cellsOf 5 = 1 from by kernel_rfl, show List.range 4 = [0, 1, 2, 3] from rfl]
  exact item_u8 0 _ _ a0 b0 _ w rfl rfl (item_u8 1 _ _ a1 b1 _ w rfl rfl (item_u8 2 _ _ a2 b2 _ w rfl rfl (item_u8 3 _ _ a3 b3 _ w rfl rfl (by simp [Op.eqItems]))))

/-- Are two messages the same? -/
def restB (m o : Mg) : Bool := (m.r0 : Int) == (o.r0 : Int) && ((m.r1 : Int) == (o.r1 : Int) && ((m.r2 : Int) == (o.r2 : Int) && ((m.r3 : Int) == (o.r3 : Int) && true)))
def sameM (m o : Mg) (B C : List UInt8) : Bool := (m.ty : Int) == (o.ty : Int) && ((m.co : Int) == (o.co : Int) && (restB m o && B == C))
theorem equal_msg (u v : Value) (l m : List UInt8) (w : World) (hu : Bytes w u l) (hv : Bytes w v m) :
    Calls Try.prog 59 #[u, v] w fun e w' => e = .returned (.bool (l == m)) ∧ w' = w := by
  refine (Try.bytes_Equal_strs u v _ _ w (hu.str Try.underlying22 Try.underlying5 Try.underlying9) (hv.str Try.underlying22 Try.underlying5 Try.underlying9)).mono ?_
  rintro e w' ⟨rfl, rfl⟩
  exact ⟨ret_b (by simp), rfl⟩
set_option maxHeartbeats 4000000 in
set_option maxRecDepth 100000 in
theorem ew0 (m o : Mg) (a a' : Option Addr) (c c' k n : Nat) (w : World) (t0 : ((m.ty : Int) == (o.ty : Int)) = false) :
    Calls Try.prog 33 #[.agg #[.int .u8 (m.ty : Nat), .int .u8 (m.co : Nat), .int .u8 (m.r0 : Nat), .int .u8 (m.r1 : Nat), .int .u8 (m.r2 : Nat), .int .u8 (m.r3 : Nat), .slice a k c], .agg #[.int .u8 (o.ty : Nat), .int .u8 (o.co : Nat), .int .u8 (o.r0 : Nat), .int .u8 (o.r1 : Nat), .int .u8 (o.r2 : Nat), .int .u8 (o.r3 : Nat), .slice a' n c']] w fun e w' => e = .returned (.bool (false)) ∧ Below w.heap.size w w' := by
  go_enter Try.func33, Try.ntmps33
  go_wp2_with fail
  go_ret
  exact ⟨rfl, by go_grown⟩
set_option maxHeartbeats 4000000 in
set_option maxRecDepth 100000 in
theorem ew1 (m o : Mg) (a a' : Option Addr) (c c' k n : Nat) (w : World) (t0 : ((m.ty : Int) == (o.ty : Int)) = true) (t1 : ((m.co : Int) == (o.co : Int)) = false) :
    Calls Try.prog 33 #[.agg #[.int .u8 (m.ty : Nat), .int .u8 (m.co : Nat), .int .u8 (m.r0 : Nat), .int .u8 (m.r1 : Nat), .int .u8 (m.r2 : Nat), .int .u8 (m.r3 : Nat), .slice a k c], .agg #[.int .u8 (o.ty : Nat), .int .u8 (o.co : Nat), .int .u8 (o.r0 : Nat), .int .u8 (o.r1 : Nat), .int .u8 (o.r2 : Nat), .int .u8 (o.r3 : Nat), .slice a' n c']] w fun e w' => e = .returned (.bool (false)) ∧ Below w.heap.size w w' := by
  go_enter Try.func33, Try.ntmps33
  go_wp2_with fail
  go_ret
  exact ⟨rfl, by go_grown⟩
set_option maxHeartbeats 4000000 in
set_option maxRecDepth 100000 in
theorem ew2 (m o : Mg) (a a' : Option Addr) (c c' k n : Nat) (w : World) (t0 : ((m.ty : Int) == (o.ty : Int)) = true) (t1 : ((m.co : Int) == (o.co : Int)) = true) (t2 : restB m o = false) :
    Calls Try.prog 33 #[.agg #[.int .u8 (m.ty : Nat), .int .u8 (m.co : Nat), .int .u8 (m.r0 : Nat), .int .u8 (m.r1 : Nat), .int .u8 (m.r2 : Nat), .int .u8 (m.r3 : Nat), .slice a k c], .agg #[.int .u8 (o.ty : Nat), .int .u8 (o.co : Nat), .int .u8 (o.r0 : Nat), .int .u8 (o.r1 : Nat), .int .u8 (o.r2 : Nat), .int .u8 (o.r3 : Nat), .slice a' n c']] w fun e w' => e = .returned (.bool (false)) ∧ Below w.heap.size w w' := by
  have h4 : ∀ W, (Op.equalIn 10000 44 (.agg #[.int .u8 (m.r0 : Nat), .int .u8 (m.r1 : Nat), .int .u8 (m.r2 : Nat), .int .u8 (m.r3 : Nat)]) (.agg #[.int .u8 (o.r0 : Nat), .int .u8 (o.r1 : Nat), .int .u8 (o.r2 : Nat), .int .u8 (o.r3 : Nat)])).run Try.prog W = .ok false W := fun W => by rw [← t2]; exact arr4 _ _ _ _ _ _ _ _ W
  clear t2
  go_enter Try.func33, Try.ntmps33
  go_wp2_with fail
  go_ret
  exact ⟨rfl, by go_grown⟩
set_option maxHeartbeats 4000000 in
set_option maxRecDepth 100000 in
theorem ew3 (m o : Mg) (a a' : Option Addr) (c c' k n : Nat) (B C : List UInt8) (w : World) (t0 : ((m.ty : Int) == (o.ty : Int)) = true) (t1 : ((m.co : Int) == (o.co : Int)) = true) (t2 : restB m o = true) (hu : Bytes w (.slice a k c) B) (hv : Bytes w (.slice a' n c') C) :
    Calls Try.prog 33 #[.agg #[.int .u8 (m.ty : Nat), .int .u8 (m.co : Nat), .int .u8 (m.r0 : Nat), .int .u8 (m.r1 : Nat), .int .u8 (m.r2 : Nat), .int .u8 (m.r3 : Nat), .slice a k c], .agg #[.int .u8 (o.ty : Nat), .int .u8 (o.co : Nat), .int .u8 (o.r0 : Nat), .int .u8 (o.r1 : Nat), .int .u8 (o.r2 : Nat), .int .u8 (o.r3 : Nat), .slice a' n c']] w fun e w' => e = .returned (.bool (B == C)) ∧ Below w.heap.size w w' := by
  have h4 : ∀ W, (Op.equalIn 10000 44 (.agg #[.int .u8 (m.r0 : Nat), .int .u8 (m.r1 : Nat), .int .u8 (m.r2 : Nat), .int .u8 (m.r3 : Nat)]) (.agg #[.int .u8 (o.r0 : Nat), .int .u8 (o.r1 : Nat), .int .u8 (o.r2 : Nat), .int .u8 (o.r3 : Nat)])).run Try.prog W = .ok true W := fun W => by rw [← t2]; exact arr4 _ _ _ _ _ _ _ _ W
  clear t2
  have hb : Below w.heap.size w ((w.alloc (.cells #[.int .u8 (m.ty : Nat), .int .u8 (m.co : Nat), .int .u8 (m.r0 : Nat), .int .u8 (m.r1 : Nat), .int .u8 (m.r2 : Nat), .int .u8 (m.r3 : Nat), .slice a k c] 46)).alloc (.cells #[.int .u8 (o.ty : Nat), .int .u8 (o.co : Nat), .int .u8 (o.r0 : Nat), .int .u8 (o.r1 : Nat), .int .u8 (o.r2 : Nat), .int .u8 (o.r3 : Nat), .slice a' n c'] 46)) := by go_grown
  have hq := equal_msg _ _ B C _ (hu.later hb) (hv.later hb)
  have HB := Lib.hid hb
  clear hu hv hb
  have HQ := Lib.hid hq
  clear hq
  go_enter Try.func33, Try.ntmps33
  go_wp2_with fail
  refine HQ.out.mono ?_
  rintro e w1 ⟨rfl, rfl⟩
  go_wp2_with fail
  go_ret
  exact ⟨rfl, HB.out⟩
theorem sameMW_any (m o : Mg) (a a' : Option Addr) (c c' k n : Nat) (B C : List UInt8) (w : World) (hu : Bytes w (.slice a k c) B) (hv : Bytes w (.slice a' n c') C) :
    Calls Try.prog 33 #[.agg #[.int .u8 (m.ty : Nat), .int .u8 (m.co : Nat), .int .u8 (m.r0 : Nat), .int .u8 (m.r1 : Nat), .int .u8 (m.r2 : Nat), .int .u8 (m.r3 : Nat), .slice a k c], .agg #[.int .u8 (o.ty : Nat), .int .u8 (o.co : Nat), .int .u8 (o.r0 : Nat), .int .u8 (o.r1 : Nat), .int .u8 (o.r2 : Nat), .int .u8 (o.r3 : Nat), .slice a' n c']] w fun e w' => e = .returned (.bool (sameM m o B C)) ∧ Below w.heap.size w w' := by
  cases e0 : (((m.ty : Int) == (o.ty : Int))) with
  | false =>
    refine (ew0 m o a a' c c' k n w e0).mono ?_
    rintro e w' ⟨rfl, hb⟩
    exact ⟨ret_b (by unfold sameM; rw [e0]; rfl), hb⟩
  | true =>
  cases e1 : (((m.co : Int) == (o.co : Int))) with
  | false =>
    refine (ew1 m o a a' c c' k n w e0 e1).mono ?_
    rintro e w' ⟨rfl, hb⟩
    exact ⟨ret_b (by unfold sameM; rw [e0, e1]; rfl), hb⟩
  | true =>
  cases e2 : (restB m o) with
  | false =>
    refine (ew2 m o a a' c c' k n w e0 e1 e2).mono ?_
    rintro e w' ⟨rfl, hb⟩
    exact ⟨ret_b (by unfold sameM; rw [e0, e1, e2]; rfl), hb⟩
  | true =>
  refine (ew3 m o a a' c c' k n B C w e0 e1 e2 hu hv).mono ?_
  rintro e w' ⟨rfl, hb⟩
  exact ⟨ret_b (by unfold sameM; rw [e0, e1, e2]; simp), hb⟩
set_option maxHeartbeats 4000000 in
set_option maxRecDepth 100000 in
theorem er0 (m o : Mg) (a a' : Option Addr) (c c' k n : Nat) (w : World) (t0 : ((m.ty : Int) == (o.ty : Int)) = false) :
    Calls Try.prog 29 #[.agg #[.int .u8 (m.ty : Nat), .int .u8 (m.co : Nat), .int .u8 (m.r0 : Nat), .int .u8 (m.r1 : Nat), .int .u8 (m.r2 : Nat), .int .u8 (m.r3 : Nat), .slice a k c], .agg #[.int .u8 (o.ty : Nat), .int .u8 (o.co : Nat), .int .u8 (o.r0 : Nat), .int .u8 (o.r1 : Nat), .int .u8 (o.r2 : Nat), .int .u8 (o.r3 : Nat), .slice a' n c']] w fun e w' => e = .returned (.bool (false)) ∧ Below w.heap.size w w' := by
  go_enter Try.func29, Try.ntmps29
  go_wp2_with fail
  go_ret
  exact ⟨rfl, by go_grown⟩
set_option maxHeartbeats 4000000 in
set_option maxRecDepth 100000 in
theorem er1 (m o : Mg) (a a' : Option Addr) (c c' k n : Nat) (w : World) (t0 : ((m.ty : Int) == (o.ty : Int)) = true) (t1 : ((m.co : Int) == (o.co : Int)) = false) :
    Calls Try.prog 29 #[.agg #[.int .u8 (m.ty : Nat), .int .u8 (m.co : Nat), .int .u8 (m.r0 : Nat), .int .u8 (m.r1 : Nat), .int .u8 (m.r2 : Nat), .int .u8 (m.r3 : Nat), .slice a k c], .agg #[.int .u8 (o.ty : Nat), .int .u8 (o.co : Nat), .int .u8 (o.r0 : Nat), .int .u8 (o.r1 : Nat), .int .u8 (o.r2 : Nat), .int .u8 (o.r3 : Nat), .slice a' n c']] w fun e w' => e = .returned (.bool (false)) ∧ Below w.heap.size w w' := by
  go_enter Try.func29, Try.ntmps29
  go_wp2_with fail
  go_ret
  exact ⟨rfl, by go_grown⟩
set_option maxHeartbeats 4000000 in
set_option maxRecDepth 100000 in
theorem er2 (m o : Mg) (a a' : Option Addr) (c c' k n : Nat) (w : World) (t0 : ((m.ty : Int) == (o.ty : Int)) = true) (t1 : ((m.co : Int) == (o.co : Int)) = true) (t2 : restB m o = false) :
    Calls Try.prog 29 #[.agg #[.int .u8 (m.ty : Nat), .int .u8 (m.co : Nat), .int .u8 (m.r0 : Nat), .int .u8 (m.r1 : Nat), .int .u8 (m.r2 : Nat), .int .u8 (m.r3 : Nat), .slice a k c], .agg #[.int .u8 (o.ty : Nat), .int .u8 (o.co : Nat), .int .u8 (o.r0 : Nat), .int .u8 (o.r1 : Nat), .int .u8 (o.r2 : Nat), .int .u8 (o.r3 : Nat), .slice a' n c']] w fun e w' => e = .returned (.bool (false)) ∧ Below w.heap.size w w' := by
  have h4 : ∀ W, (Op.equalIn 10000 44 (.agg #[.int .u8 (m.r0 : Nat), .int .u8 (m.r1 : Nat), .int .u8 (m.r2 : Nat), .int .u8 (m.r3 : Nat)]) (.agg #[.int .u8 (o.r0 : Nat), .int .u8 (o.r1 : Nat), .int .u8 (o.r2 : Nat), .int .u8 (o.r3 : Nat)])).run Try.prog W = .ok false W := fun W => by rw [← t2]; exact arr4 _ _ _ _ _ _ _ _ W
  clear t2
  go_enter Try.func29, Try.ntmps29
  go_wp2_with fail
  go_ret
  exact ⟨rfl, by go_grown⟩
set_option maxHeartbeats 4000000 in
set_option maxRecDepth 100000 in
theorem er3 (m o : Mg) (a a' : Option Addr) (c c' k n : Nat) (B C : List UInt8) (w : World) (t0 : ((m.ty : Int) == (o.ty : Int)) = true) (t1 : ((m.co : Int) == (o.co : Int)) = true) (t2 : restB m o = true) (hu : Bytes w (.slice a k c) B) (hv : Bytes w (.slice a' n c') C) :
    Calls Try.prog 29 #[.agg #[.int .u8 (m.ty : Nat), .int .u8 (m.co : Nat), .int .u8 (m.r0 : Nat), .int .u8 (m.r1 : Nat), .int .u8 (m.r2 : Nat), .int .u8 (m.r3 : Nat), .slice a k c], .agg #[.int .u8 (o.ty : Nat), .int .u8 (o.co : Nat), .int .u8 (o.r0 : Nat), .int .u8 (o.r1 : Nat), .int .u8 (o.r2 : Nat), .int .u8 (o.r3 : Nat), .slice a' n c']] w fun e w' => e = .returned (.bool (B == C)) ∧ Below w.heap.size w w' := by
  have h4 : ∀ W, (Op.equalIn 10000 44 (.agg #[.int .u8 (m.r0 : Nat), .int .u8 (m.r1 : Nat), .int .u8 (m.r2 : Nat), .int .u8 (m.r3 : Nat)]) (.agg #[.int .u8 (o.r0 : Nat), .int .u8 (o.r1 : Nat), .int .u8 (o.r2 : Nat), .int .u8 (o.r3 : Nat)])).run Try.prog W = .ok true W := fun W => by rw [← t2]; exact arr4 _ _ _ _ _ _ _ _ W
  clear t2
  have hb : Below w.heap.size w ((w.alloc (.cells #[.int .u8 (m.ty : Nat), .int .u8 (m.co : Nat), .int .u8 (m.r0 : Nat), .int .u8 (m.r1 : Nat), .int .u8 (m.r2 : Nat), .int .u8 (m.r3 : Nat), .slice a k c] 46)).alloc (.cells #[.int .u8 (o.ty : Nat), .int .u8 (o.co : Nat), .int .u8 (o.r0 : Nat), .int .u8 (o.r1 : Nat), .int .u8 (o.r2 : Nat), .int .u8 (o.r3 : Nat), .slice a' n c'] 46)) := by go_grown
  have hq1 := (hu.later hb).str (P := Try.prog) (src := 22) (dst := 9) Try.underlying22 Try.underlying5 Try.underlying9
  have hq2 := (hv.later hb).str (P := Try.prog) (src := 22) (dst := 9) Try.underlying22 Try.underlying5 Try.underlying9
  have HB := Lib.hid hb
  clear hu hv hb
  go_enter Try.func29, Try.ntmps29
  go_wp2_with fail
  go_ret
  exact ⟨ret_b (by simp), HB.out⟩
theorem sameMR_any (m o : Mg) (a a' : Option Addr) (c c' k n : Nat) (B C : List UInt8) (w : World) (hu : Bytes w (.slice a k c) B) (hv : Bytes w (.slice a' n c') C) :
    Calls Try.prog 29 #[.agg #[.int .u8 (m.ty : Nat), .int .u8 (m.co : Nat), .int .u8 (m.r0 : Nat), .int .u8 (m.r1 : Nat), .int .u8 (m.r2 : Nat), .int .u8 (m.r3 : Nat), .slice a k c], .agg #[.int .u8 (o.ty : Nat), .int .u8 (o.co : Nat), .int .u8 (o.r0 : Nat), .int .u8 (o.r1 : Nat), .int .u8 (o.r2 : Nat), .int .u8 (o.r3 : Nat), .slice a' n c']] w fun e w' => e = .returned (.bool (sameM m o B C)) ∧ Below w.heap.size w w' := by
  cases e0 : (((m.ty : Int) == (o.ty : Int))) with
  | false =>
    refine (er0 m o a a' c c' k n w e0).mono ?_
    rintro e w' ⟨rfl, hb⟩
    exact ⟨ret_b (by unfold sameM; rw [e0]; rfl), hb⟩
  | true =>
  cases e1 : (((m.co : Int) == (o.co : Int))) with
  | false =>
    refine (er1 m o a a' c c' k n w e0 e1).mono ?_
    rintro e w' ⟨rfl, hb⟩
    exact ⟨ret_b (by unfold sameM; rw [e0, e1]; rfl), hb⟩
  | true =>
  cases e2 : (restB m o) with
  | false =>
    refine (er2 m o a a' c c' k n w e0 e1 e2).mono ?_
    rintro e w' ⟨rfl, hb⟩
    exact ⟨ret_b (by unfold sameM; rw [e0, e1, e2]; rfl), hb⟩
  | true =>
  refine (er3 m o a a' c c' k n B C w e0 e1 e2 hu hv).mono ?_
  rintro e w' ⟨rfl, hb⟩
  exact ⟨ret_b (by unfold sameM; rw [e0, e1, e2]; simp), hb⟩
theorem sameM_refl (m : Mg) (B : List UInt8) : sameM m m B B = true := by unfold sameM restB; simp
end Go.Proofs.Ytnhkkpcepppgoaa
