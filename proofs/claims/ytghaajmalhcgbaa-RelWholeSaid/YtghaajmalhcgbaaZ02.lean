/- The walk of tell.
   Segments in memory: a slice of them that is owned, append; the walks of teller and of what it answers.
   A row of one-cell elements in memory: a slice value that reads as a list of values.
   A region that draws its order, cut at what is done: one lemma for each set of done operations.
   Copies: the walks of slices.Clone of bytes, of bodies, and of Copy.
   append of whatever comes, by what its run leaves.
   A stream in memory; what asks it alone; slices.Clone; New and Copy. -/
import Derived.IntWalk
import Derived.Deep.RegionHeld3
import Derived.Deep.AppendLies
import Derived.Test.YtghaajmalhcgbaaZ01

set_option linter.unusedSimpArgs false
set_option linter.unusedVariables false
namespace Go.Proofs.Ytghaajmalhcgbaa
open Go.RowKit
attribute [local go_sem ↓] Go.wp_at_zero Go.wp_at_succ

/-- The cells of a stream. -/
def pcs (v : Value) (s : Sm) : List Value := [.int .i64 s.ag, v, .int .i64 (s.told : Int), .int .i64 s.ti, .int .u64 (s.ac : Int), .int .u64 (s.tk : Int), .bool s.ow]
/-- A stream, in memory. -/
def PSm (p g : Nat) (X : List Nat) (s : Sm) (w : World) : Prop := ∃ v, BlkAt 137 p (pcs v s) w ∧ LnAt w p g X v s.line
theorem PSm.lt {p g : Nat} {X : List Nat} {s : Sm} {w : World} (h : PSm p g X s w) : p < w.heap.size ∧ g < w.heap.size := by
  obtain ⟨v, h1, h2⟩ := h
  exact ⟨h1.lt, h2.lt h1.lt⟩
theorem PSm.noB {p g : Nat} {X : List Nat} {s : Sm} {w : World} (h : PSm p g X s w) : NoB w p ∧ NoB w g := by
  obtain ⟨v, h1, h2⟩ := h
  have := noB_blk h1 (by decide)
  exact ⟨this, h2.noB this⟩
theorem PSm.chg {p g : Nat} {X L : List Nat} {s : Sm} {w w' : World} (h : PSm p g X s w) (hm : Chg L w w') (hp : p ∉ L) (hg : g ∉ L) (hL : ∀ k ∈ L, NoB w k ∨ k ∈ X) : PSm p g X s w' := by
  obtain ⟨v, h1, h2⟩ := h
  exact ⟨v, hm.blk h1 hp, h2.chg hm (fun _ => hg) hL⟩
theorem PSm.later {p g : Nat} {X : List Nat} {s : Sm} {w w' : World} (h : PSm p g X s w) (hb : Below w.heap.size w w') : PSm p g X s w' := h.chg (Chg.of_below [] hb) (by simp) (by simp) (by simp)
/-- What a stream's block alone tells. -/
structure SmB (p n : Nat) (s : Sm) (w : World) : Prop where
  blk : ∃ a c, n = s.line.length ∧ BlkAt 137 p (pcs (.slice a n c) s) w
  ag : 1 ≤ s.ag
theorem PSm.smB {p g : Nat} {X : List Nat} {s : Sm} {w : World} (h : PSm p g X s w) (ha : 1 ≤ s.ag) : SmB p s.line.length s w := by
  obtain ⟨v, h1, h2⟩ := h
  obtain ⟨a, c, rfl⟩ := h2.form
  exact ⟨⟨a, c, rfl, h1⟩, ha⟩
theorem SmB.chg {p n : Nat} {L : List Nat} {s : Sm} {w w' : World} (h : SmB p n s w) (hm : Chg L w w') (hp : p ∉ L) : SmB p n s w' := by
  obtain ⟨⟨a, c, h1, h2⟩, h3⟩ := h
  exact ⟨⟨a, c, h1, hm.blk h2 hp⟩, h3⟩
theorem SmB.lt {p n : Nat} {s : Sm} {w : World} (h : SmB p n s w) : p < w.heap.size := by
  obtain ⟨⟨a, c, h1, h2⟩, h3⟩ := h
  exact h2.lt
theorem SmB.cells {p n : Nat} {s : Sm} {w : World} (h : SmB p n s w) : ∃ a c, w.cell? ⟨p, 0, none⟩ = some (.int .i64 s.ag) ∧ w.cell? ⟨p, 1, none⟩ = some (.slice a n c) ∧ w.cell? ⟨p, 2, none⟩ = some (.int .i64 (s.told : Int)) ∧ w.cell? ⟨p, 3, none⟩ = some (.int .i64 s.ti) ∧ w.cell? ⟨p, 4, none⟩ = some (.int .u64 (s.ac : Int)) ∧ w.cell? ⟨p, 5, none⟩ = some (.int .u64 (s.tk : Int)) ∧ w.cell? ⟨p, 6, none⟩ = some (.bool s.ow) := by
  obtain ⟨⟨a, c, h1, h⟩, h3⟩ := h
  exact ⟨a, c, h.cell (j := 0) rfl, h.cell (j := 1) rfl, h.cell (j := 2) rfl, h.cell (j := 3) rfl, h.cell (j := 4) rfl, h.cell (j := 5) rfl, h.cell (j := 6) rfl⟩

theorem noneM {p n : Nat} {s : Sm} {w : World} (h : SmB p n s w) :
    Calls Try.prog 67 #[.pointer (some ⟨p, 0, none⟩)] w fun e w' => e = .returned (.bool false) ∧ w = w' := by
  obtain ⟨a, c, c0, _⟩ := h.cells
  have k : (s.ag == 0) = false := by have := h.ag; rw [beq_eq_false_iff_ne]; omega
  clear h
  go_enter Try.func67, Try.ntmps67
  go_wp2_with fail
  go_ret
  exact ⟨by simp [k], rfl⟩
theorem leftM {p n : Nat} {s : Sm} {w : World} (h : SmB p n s w) :
    Calls Try.prog 35 #[.pointer (some ⟨p, 0, none⟩)] w fun e w' => e = .returned (.int .i64 (n : Int)) ∧ w = w' := by
  have H := Lib.hid (noneM h)
  obtain ⟨a, c, c0, c1, _⟩ := h.cells
  clear h
  go_enter Try.func35, Try.ntmps35
  go_wp2_with fail
  refine H.out.mono ?_
  rintro e w1 ⟨rfl, rfl⟩
  go_wp2_with fail
  go_ret
  exact ⟨rfl, rfl⟩
theorem ackedM {p n : Nat} {s : Sm} {w : World} (h : SmB p n s w) :
    Calls Try.prog 33 #[.pointer (some ⟨p, 0, none⟩)] w fun e w' => e = .returned (.int .u64 (s.ac : Int)) ∧ w = w' := by
  have H := Lib.hid (noneM h)
  obtain ⟨a, c, c0, c1, c2, c3, c4, _⟩ := h.cells
  obtain ⟨x, hx⟩ : ∃ x : Int, x = s.ac := ⟨_, rfl⟩
  rw [← hx] at c4 ⊢
  clear h hx
  go_enter Try.func33, Try.ntmps33
  go_wp2_with fail
  refine H.out.mono ?_
  rintro e w1 ⟨rfl, rfl⟩
  go_wp2_with fail
  go_ret
  exact ⟨rfl, rfl⟩
theorem takenM {p n : Nat} {s : Sm} {w : World} (h : SmB p n s w) :
    Calls Try.prog 34 #[.pointer (some ⟨p, 0, none⟩)] w fun e w' => e = .returned (.int .u64 (s.tk : Int)) ∧ w = w' := by
  have H := Lib.hid (noneM h)
  obtain ⟨a, c, c0, c1, c2, c3, c4, c5, _⟩ := h.cells
  obtain ⟨x, hx⟩ : ∃ x : Int, x = s.tk := ⟨_, rfl⟩
  rw [← hx] at c5 ⊢
  clear h hx
  go_enter Try.func34, Try.ntmps34
  go_wp2_with fail
  refine H.out.mono ?_
  rintro e w1 ⟨rfl, rfl⟩
  go_wp2_with fail
  go_ret
  exact ⟨rfl, rfl⟩
/-- What is wrong ahead of a message. -/
def rdyE (n : Nat) : Int := if 1024 < n then 3 else 0
theorem readyM {p n : Nat} {s : Sm} {w : World} (h : SmB p n s w) (a : Option Addr) (m c : Nat) (hm : (m : Int) ≤ 9223372036854775807) :
    Calls Try.prog 64 #[.pointer (some ⟨p, 0, none⟩), .slice a m c] w fun e w' => e = .returned (.int .i64 (rdyE m)) ∧ w = w' := by
  have H := Lib.hid (noneM h)
  clear h
  unfold rdyE
  by_cases hl : 1024 < m
  · rw [if_pos hl]
    have k : decide ((1024 : Int) < m) = true := by simp; omega
    clear hl
    go_enter Try.func64, Try.ntmps64
    go_wp2_with fail
    refine H.out.mono ?_
    rintro e w1 ⟨rfl, rfl⟩
    go_wp2_with fail
    go_ret
    exact ⟨rfl, rfl⟩
  · rw [if_neg hl]
    have k : decide ((1024 : Int) < m) = false := by simp; omega
    clear hl
    go_enter Try.func64, Try.ntmps64
    go_wp2_with fail
    refine H.out.mono ?_
    rintro e w1 ⟨rfl, rfl⟩
    go_wp2_with fail
    go_ret
    exact ⟨rfl, rfl⟩

theorem newM (ag : Int) (w : World) (h1 : 1 ≤ ag) (h2 : ag ≤ 100) : Calls Try.prog 27 #[.int .i64 ag] w fun e w' => e = .returned (.tuple #[.pointer (some ⟨w.heap.size, 0, none⟩), .int .i64 0]) ∧ (∀ X, PSm w.heap.size w.heap.size X (smN ag) w') ∧ Below w.heap.size w w' := by
  have k1 : decide (ag < 1) = false := by simp; omega
  have k2 : decide (100 < ag) = false := by simp; omega
  clear h1 h2
  go_enter Try.func27, Try.ntmps27
  go_wp2_with fail
  go_ret2
  exact ⟨rfl, fun X => ⟨.slice none 0 0, BlkAt.new w (pcs (.slice none 0 0) (smN ag)), .inl ⟨rfl, rfl, none, rfl⟩⟩, ba1 _ _⟩
theorem newMno (ag : Int) (w : World) (h : ag < 1 ∨ 100 < ag) : Calls Try.prog 27 #[.int .i64 ag] w fun e w' => e = .returned (.tuple #[.pointer none, .int .i64 2]) ∧ w = w' := by
  by_cases h1 : ag < 1
  · have k1 : decide (ag < 1) = true := by simp; omega
    clear h
    go_enter Try.func27, Try.ntmps27
    go_wp2_with fail
    go_ret2
    exact ⟨rfl, rfl⟩
  · have k1 : decide (ag < 1) = false := by simp; omega
    have k2 : decide (100 < ag) = true := by simp; omega
    clear h h1
    go_enter Try.func27, Try.ntmps27
    go_wp2_with fail
    go_ret2
    exact ⟨rfl, rfl⟩
end Go.Proofs.Ytghaajmalhcgbaa

namespace Go.Proofs.Ytghaajmalhcgbaa
open Go.RowKit

theorem add0 (g k : Nat) : (⟨g, 0, none⟩ : Addr).add k = ⟨g, k, none⟩ := by cases k <;> simp [Addr.add]
/-- append of whatever comes, by what its run leaves. -/
theorem wpList_appG {w : World} {ops : Array Oper} {rest : List Oper} {o : Oper} {a : Act} {Q : Exit → Act → World → Prop} (hgd : o.guard = none) (s x : Operand) (t t' : TypeId)
    (ho : o.op = .call { callee := .builtin .append, args := #[s, x], argTypes := #[t, t'] }) (v u : Value) (R : Value → World → Prop) (hs : a.eval s = v) (hx : a.eval x = u)
    (hr : ∀ ty, ∃ v' w', (Builtin.append_ #[t, t'] ty #[v, u]).run Try.prog w = .ok v' w' ∧ R v' w') (h : ∀ v' w', R v' w' → wpList Try.prog ops Q rest (a.put o.dst v') w') : wpList Try.prog ops Q (o :: rest) a w :=
  wpList_plain hgd fun K hK => by
    obtain ⟨v', w', hr, h2⟩ := hr o.type
    unfold Oper.wp execOp
    simp only [ho, resolve, invoke, builtin, Sem.run_bind, Sem.run_pure, Result.andThen_ok, List.map_toArray, List.map_cons, List.map_nil, hs, hx, hr]
    exact hK _ _ (h v' w' h2)
/-- At a step of a region that draws its order. -/
theorem step_appG {w : World} {ops : Array Oper} {o : Oper} {a : Act} {K : Act → World → Prop} {Q : Exit → Act → World → Prop} {E : Prop} (hgd : o.guard = none) (s x : Operand) (t t' : TypeId)
    (ho : o.op = .call { callee := .builtin .append, args := #[s, x], argTypes := #[t, t'] }) (v u : Value) (R : Value → World → Prop) (hs : a.eval s = v) (hx : a.eval x = u)
    (hr : ∀ ty, ∃ v' w', (Builtin.append_ #[t, t'] ty #[v, u]).run Try.prog w = .ok v' w' ∧ R v' w') (h : ∀ v' w', R v' w' → K (a.put o.dst v') w') :
    if Region.wanted o (yielded ops a.tmps) = true then Oper.wp Try.prog o a w K Q else E := by
  have hw : Region.wanted o (yielded ops a.tmps) = true := by simp [Region.wanted, hgd]
  rw [if_pos hw]
  obtain ⟨v', w', hr, h2⟩ := hr o.type
  unfold Oper.wp execOp
  simp only [ho, resolve, invoke, builtin, Sem.run_bind, Sem.run_pure, Result.andThen_ok, List.map_toArray, List.map_cons, List.map_nil, hs, hx, hr]
  exact h v' w' h2
end Go.Proofs.Ytghaajmalhcgbaa

namespace Go.Proofs.Ytghaajmalhcgbaa
open Go.RowKit
attribute [local go_sem ↓] Go.wp_at_zero Go.wp_at_succ

theorem own_empty (w : World) : OwnB (w.alloc (.cells #[] 5)) w.heap.size (.slice (some ⟨w.heap.size, 0, none⟩) 0 0) [] := World.ownsRow_made w #[] 0 (Nat.le_refl _) (by decide) rfl
set_option maxHeartbeats 1000000 in
set_option maxRecDepth 100000 in
theorem cloneB (v : Value) (l : List UInt8) (w : World) (h : Bytes w v l) (hl : l.length ≤ 1000000) :
    Calls Try.prog 66 #[v] w fun e w' => ∃ u, e = .returned u ∧ OwnB w' w.heap.size u l ∧ Below w.heap.size w w' := by
  obtain ⟨a, c, rfl⟩ := h.form
  have hnil : ∀ (w : World) (a : Option Addr) (n c n' c' : Nat), (binOp .eql 90 (.slice a n c) (.slice none n' c')).run Try.prog w = .ok (.bool a.isNone) w := fun w a n c n' c' => Lib.run_eql_slice_nil w _ _ a n c n' c' Try.underlying90
  cases a with
  | none =>
    obtain ⟨e1, rfl, e2⟩ := h.noaddr
    subst e2
    clear h hl e1
    go_enter Try.func66, Try.ntmps66
    go_wp2_with fail
    go_ret
    exact ⟨_, rfl, OwnB.nil _ _, Below.refl _ _⟩
  | some x =>
    obtain ⟨w1, hw1⟩ : ∃ w1, w1 = w.alloc (.cells #[] 5) := ⟨_, rfl⟩
    have hb1 : Below w.heap.size w w1 := by rw [hw1]; exact ba1 _ _
    have ho : OwnB w1 w.heap.size (.slice (some ⟨w.heap.size, 0, none⟩) 0 0) [] := by rw [hw1]; exact own_empty w
    have HR : Hid (∀ ty, ∃ v' w', (Builtin.append_ #[90, 90] ty #[.slice (some ⟨w.heap.size, 0, none⟩) 0 0, .slice (some x) l.length c]).run Try.prog w1 = .ok v' w' ∧ OwnB w' w.heap.size v' l ∧ Below w.heap.size w w') := fun ty => by
      obtain ⟨v', w', hr, h2, h3, h4⟩ := run_app w1 w.heap.size ty _ _ [] l ho (h.later hb1) (by simp; omega) hb1.size
      exact ⟨v', w', hr, h2, hb1.trans h3⟩
    obtain ⟨n, hn⟩ : ∃ n, n = l.length := ⟨_, rfl⟩
    rw [← hn] at HR ⊢
    clear h hb1 ho hn hl
    go_enter Try.func66, Try.ntmps66
    go_wp2_with (at_builtin; refine wpList_appG rfl (.tmp 5) (.tmp 6) _ _ rfl _ _ _ rfl rfl (by rw [← hw1]; exact HR.out) ?_; intro v' w' hc)
    go_ret
    exact ⟨_, rfl, hc.1, hc.2⟩

/-- A row of bodies that was just made is a line. -/
theorem ln_own {w : World} {X : List Nat} {v : Value} {P : List (List UInt8)} {xs : List Value} {B : Nat} (h : w.ownsRow B 90 1 v P.length xs) (hP : ∀ (j : Nat) (b : List UInt8), P[j]? = some b → ∃ u : Value, xs[j]? = some u ∧ Bod w X u b) {p : Nat} (hp : p < B) :
    ∃ g, LnAt w p g X v P ∧ (g = p ∨ B ≤ g) := by
  obtain ⟨e1, ⟨rfl, e2⟩ | ⟨g, cap, cur, rfl, e3, e4, e5, e6, e7, e8⟩⟩ := h
  · exact ⟨p, .inl ⟨List.length_eq_zero_iff.1 e2, rfl, none, rfl⟩, .inl rfl⟩
  · refine ⟨g, .inr ⟨0, cap, cur.toList, rfl, by omega, by show _ = _; rw [e4], by simp; omega, e5, fun j b hj => ?_⟩, .inr e3⟩
    obtain ⟨u, hu, hb⟩ := hP j b hj
    refine ⟨u, ?_, hb⟩
    rw [← e8, List.getElem?_take] at hu
    split at hu
    · rw [Nat.zero_add]; exact hu
    · cases hu
/-- What a line's clone is. -/
def ClnA (w : World) (X : List Nat) (P : List (List UInt8)) (v' : Value) (w' : World) : Prop := (∀ p, p < w.heap.size → ∃ g, LnAt w' p g X v' P ∧ (g = p ∨ w.heap.size ≤ g)) ∧ Below w.heap.size w w'
end Go.Proofs.Ytghaajmalhcgbaa

namespace Go.Proofs.Ytghaajmalhcgbaa
open Go.RowKit
theorem wpAnyH_cut {P : Program} {md : Region.Mode} {ops : Array Oper} {Q : Exit → Act → World → Prop} {S : World → Prop} {fuel : Nat} {listed : Array Bool} {a : Act} {w : World}
    (m : Array Bool) (fm : Nat) (I : Act → World → Prop)
    (tail : ∀ (l : Array Bool) (A : Act) (w1 : World), l = m → I A w1 → S w1 → wpAnyH P md ops Q S fm l A w1)
    (main : (∀ (l : Array Bool) (A : Act) (w1 : World), l = m → I A w1 → S w1 → wpAnyH P md ops Q S fm l A w1) → wpAnyH P md ops Q S fuel listed a w) : wpAnyH P md ops Q S fuel listed a w := main tail
/-- A region, cut behind it: what its walk leaves is said once. -/
theorem wp_region_fin {P : Program} {Q : Exit → Act → World → Prop} {S : World → Prop} {id : Nat} {ops : Array Oper} {a : Act} {w : World} (I : Act → World → Prop) (hm : P.follows .mixedOrders = true) (hS : S w.drew) (h1 : ∀ A w3, I A w3 → Q .normal A w3)
    (h : (∀ A w3, I A w3 → Q .normal A w3) → S w.drew → wpAnyH P .any ops Q S ops.size (Array.replicate ops.size false) a w.drew) : (Code.region id ops true).wp P Q a w :=
  wp_region_held_drew hm hS (h h1)
/-- A region under a promise that holds more. -/
theorem wpAnyH_str {P : Program} {md : Region.Mode} {ops : Array Oper} {Q : Exit → Act → World → Prop} {S S' : World → Prop} (h : ∀ w, S' w → S w) : ∀ (fuel : Nat) (listed : Array Bool) (a : Act) (w : World), wpAnyH P md ops Q S' fuel listed a w → wpAnyH P md ops Q S fuel listed a w
  | 0, _, _, _, H => H
  | fuel + 1, _, _, _, H => ⟨H.1, fun i hi => wpOp_mono (fun a' w' h' => ⟨h _ h'.1, wpAnyH_str h fuel _ a' w' h'.2⟩) (H.2 i hi)⟩
/-- The list of what is done, spelled out. -/
theorem wpAnyH_at {P : Program} {md : Region.Mode} {ops : Array Oper} {Q : Exit → Act → World → Prop} {S : World → Prop} {fuel : Nat} {listed : Array Bool} {a : Act} {w : World} {m : Array Bool} (e : listed = m) (h : wpAnyH P md ops Q S fuel m a w) : wpAnyH P md ops Q S fuel listed a w := e ▸ h
end Go.Proofs.Ytghaajmalhcgbaa

namespace Go.Proofs.Ytghaajmalhcgbaa
open Go.RowKit

def Row (w : World) (v : Value) (xs : List Value) : Prop :=
  (xs = [] ∧ ∃ a c, v = .slice a 0 c ∧ (a = none → c = 0)) ∨
  ∃ b o c, v = .slice (some ⟨b, o, none⟩) xs.length c ∧ b < w.heap.size ∧ xs.length ≤ c ∧ ∀ j x, xs[j]? = some x → w.cell? ⟨b, o + j, none⟩ = some x
theorem Row.later {w w' : World} {v : Value} {l : List Value} (h : Row w v l) (hb : Below w.heap.size w w') : Row w' v l := by
  rcases h with h | ⟨b, o, c, h1, h2, hp, h3⟩
  · exact .inl h
  · exact .inr ⟨b, o, c, h1, Nat.lt_of_lt_of_le h2 hb.size, hp, fun j x hx => cell_later hb (h3 j x hx)⟩
theorem Row.form {w : World} {v : Value} {l : List Value} (h : Row w v l) : ∃ a c, v = .slice a l.length c := by
  rcases h with ⟨rfl, a, c, rfl, _⟩ | ⟨b, o, c, rfl, _, _⟩
  · exact ⟨a, c, rfl⟩
  · exact ⟨_, c, rfl⟩
theorem Row.at {w : World} {a : Option Addr} {n c : Nat} {l : List Value} (h : Row w (.slice a n c) l) {i : Nat} {x : Value} (hi : l[i]? = some x) :
    ∃ b o, a = some ⟨b, o, none⟩ ∧ b < w.heap.size ∧ w.cell? ⟨b, o + i, none⟩ = some x := by
  rcases h with ⟨rfl, _⟩ | ⟨b, o, c', h1, h2, _, h3⟩
  · simp at hi
  · simp only [Value.slice.injEq] at h1
    exact ⟨b, o, h1.1, h2, h3 i _ hi⟩
theorem Row.of_own {w : World} {base : Nat} {e : TypeId} {v : Value} {n : Nat} {l : List Value} (h : w.ownsRow base e 1 v n l) : Row w v l := by
  obtain ⟨hl, h0 | ⟨g, cap, cur, rfl, hb, hg, hn, hm, hc, ht⟩⟩ := h
  · obtain ⟨rfl, rfl⟩ := h0
    simp at hl
    subst hl
    exact .inl ⟨rfl, _, _, rfl, fun _ => rfl⟩
  · have hln : l.length = n := by simpa using hl
    subst hln
    refine .inr ⟨g, 0, cap, rfl, ?_, hn, fun j x hx => ?_⟩
    · rcases Nat.lt_or_ge g w.heap.size with h1 | h1
      · exact h1
      · rw [Array.getElem?_eq_none h1] at hg; cases hg
    · rw [Nat.zero_add, cell_of_row w g j cur e (0, 0) hg]
      have hj : j < l.length := (List.getElem?_eq_some_iff.1 hx).1
      have : l[j]? = some x := hx
      rw [← ht, List.getElem?_take, if_pos (by omega)] at this
      simpa using this
theorem Row.of_bytes {w : World} {v : Value} {l : List UInt8} (h : Bytes w v l) : Row w v (bv l) := by
  rcases h with ⟨rfl, a, c, rfl, h1⟩ | ⟨b, o, c, rfl, h2, hp, h3⟩
  · exact .inl ⟨rfl, a, c, rfl, h1⟩
  · refine .inr ⟨b, o, c, by simp [bv], h2, by simpa [bv] using hp, fun j x hx => ?_⟩
    simp only [bv, List.getElem?_map, Option.map_eq_some_iff] at hx
    obtain ⟨y, hy, rfl⟩ := hx
    exact h3 j y hy
theorem ownsRow_later {w w' : World} {B : Nat} {e : TypeId} {s n : Nat} {v : Value} {xs : List Value} (h : w.ownsRow B e s v n xs) (hb : Below w.heap.size w w') : w'.ownsRow B e s v n xs := by
  obtain ⟨hl, h0 | ⟨g, cap, cur, rfl, hb1, hg, hn, hm, hc, ht⟩⟩ := h
  · exact ⟨hl, .inl h0⟩
  · refine ⟨hl, .inr ⟨g, cap, cur, rfl, hb1, ?_, hn, hm, hc, ht⟩⟩
    rw [hb.block g ?_]
    · exact hg
    · rcases Nat.lt_or_ge g w.heap.size with h1 | h1
      · exact h1
      · rw [Array.getElem?_eq_none h1] at hg; cases hg
def iv (l : List Int) : List Value := l.map fun z => .int .i64 z
theorem iv_at {zs : List Int} {k : Nat} (h : k < zs.length) : (iv zs)[k]? = some (.int .i64 zs[k]) := by simp [iv, h]
end Go.Proofs.Ytghaajmalhcgbaa

namespace Go.Proofs.Ytghaajmalhcgbaa
open Go.RowKit
attribute [local go_sem ↓] Go.wp_at_zero Go.wp_at_succ

/-- The cells of segments, each with the value that its body is. -/
def sc (L : List (Sg × Value)) : List Value := L.flatMap fun x => [.int .u64 (x.1.q : Int), .int .u64 (x.1.a : Int), x.2]
theorem sc_snoc (L : List (Sg × Value)) (x : Sg × Value) : sc (L ++ [x]) = sc L ++ [.int .u64 (x.1.q : Int), .int .u64 (x.1.a : Int), x.2] := by simp [sc]
theorem sc_append (L M : List (Sg × Value)) : sc (L ++ M) = sc L ++ sc M := by simp [sc]
theorem sc_length (L : List (Sg × Value)) : (sc L).length = L.length * 3 := by
  induction L with
  | nil => rfl
  | cons x L ih => simp only [sc, List.flatMap_cons, List.length_append, List.length_cons, List.length_nil] at ih ⊢; omega
theorem sc_at : ∀ (L : List (Sg × Value)) (j : Nat) (x : Sg × Value), L[j]? = some x → (sc L)[j * 3]? = some (.int .u64 (x.1.q : Int)) ∧ (sc L)[j * 3 + 1]? = some (.int .u64 (x.1.a : Int)) ∧ (sc L)[j * 3 + 2]? = some x.2
  | [], _, _, h => by simp at h
  | y :: L, 0, x, h => by simp at h; subst h; exact ⟨rfl, rfl, rfl⟩
  | y :: L, j + 1, x, h => by
    have := sc_at L j x (by simpa using h)
    have e : (j + 1) * 3 = j * 3 + 1 + 1 + 1 := by omega
    rw [e]
    exact ⟨this.1, this.2.1, this.2.2⟩
/-- The value owns these segments. -/
def OwnS (w : World) (B : Nat) (v : Value) (L : List (Sg × Value)) : Prop := w.ownsRow B 94 3 v L.length (sc L)
theorem OwnS.nil (w : World) (B : Nat) : OwnS w B (.slice none 0 0) [] := World.ownsRow_nil w _ _ _
theorem OwnS.later {w w' : World} {B : Nat} {v : Value} {L : List (Sg × Value)} (h : OwnS w B v L) (hb : Below w.heap.size w w') : OwnS w' B v L := ownsRow_later h hb
theorem OwnS.weak {w : World} {B B' : Nat} {v : Value} {L : List (Sg × Value)} (h : OwnS w B' v L) (hB : B ≤ B') : OwnS w B v L := by
  obtain ⟨hl, h0 | ⟨g, cap, cur, rfl, hb1, hr⟩⟩ := h
  · exact ⟨hl, .inl h0⟩
  · exact ⟨hl, .inr ⟨g, cap, cur, rfl, Nat.le_trans hB hb1, hr⟩⟩
theorem OwnS.form {w : World} {B : Nat} {v : Value} {L : List (Sg × Value)} (h : OwnS w B v L) : ∃ a c, v = .slice a L.length c := by
  rcases h.2 with ⟨rfl, h0⟩ | ⟨g, cap, cur, rfl, _⟩
  · exact ⟨none, 0, by rw [h0]⟩
  · exact ⟨_, cap, rfl⟩
theorem OwnS.at {w : World} {B : Nat} {a : Option Addr} {n c : Nat} {L : List (Sg × Value)} (h : OwnS w B (.slice a n c) L) {j : Nat} {x : Sg × Value} (hj : L[j]? = some x) :
    ∃ g, a = some ⟨g, 0, none⟩ ∧ B ≤ g ∧ w.cell? ⟨g, j * 3, none⟩ = some (.int .u64 (x.1.q : Int)) ∧ w.cell? ⟨g, j * 3 + 1, none⟩ = some (.int .u64 (x.1.a : Int)) ∧ w.cell? ⟨g, j * 3 + 2, none⟩ = some x.2 := by
  have hl := (List.getElem?_eq_some_iff.1 hj).1
  rcases h.2 with ⟨_, h0⟩ | ⟨g, cap, cur, hv, hb, _⟩
  · omega
  · simp only [Value.slice.injEq] at hv
    obtain ⟨rfl, rfl, rfl⟩ := hv
    obtain ⟨e0, e1, e2⟩ := sc_at L j x hj
    exact ⟨g, rfl, hb, (World.ownsRow.cellAt h (j * 3) (by omega)).trans e0, (World.ownsRow.cellAt h (j * 3 + 1) (by omega)).trans e1, (World.ownsRow.cellAt h (j * 3 + 2) (by omega)).trans e2⟩
theorem infoS : ∃ i0, Try.prog.info? 94 = some i0 ∧ i0.zero = some (.agg #[.int .u64 0, .int .u64 0, .slice none 0 0]) ∧ i0.size = 3 ∧ i0.bytes = 40 := by
  have hi5 : (Try.prog.info? 94).map (fun i => (i.zero, i.size, i.bytes)) = some (some (.agg #[.int .u64 0, .int .u64 0, .slice none 0 0]), 3, 40) := by kernel_rfl
  obtain ⟨i0, hi, hx⟩ := Option.map_eq_some_iff.1 hi5
  simp only [Prod.mk.injEq] at hx
  exact ⟨i0, hi, hx.1, hx.2.1, hx.2.2⟩
/-- append of segments that lie somewhere. -/
theorem run_appSs (w : World) (B : Nat) (ty : TypeId) (v : Value) (L M : List (Sg × Value)) (ad : Addr) (c : Nat) (h : OwnS w B v L) (hM : ∀ j u, (sc M)[j]? = some u → w.cell? (ad.add j) = some u) (h1 : ∀ x ∈ M, x.2.oneCell' = true)
    (hn : L.length + M.length ≤ 1000000) (hB : B ≤ w.heap.size) :
    ∃ v' w', (Builtin.append_ #[88, 88] ty #[v, .slice (some ad) M.length c]).run Try.prog w = .ok v' w' ∧ OwnS w' B v' (L ++ M) ∧ Below B w w' ∧ w.grownBy w' v.ownBlock := by
  obtain ⟨i0, hi, hz0, hz1, hz2⟩ := infoS
  obtain ⟨v', w', h1, h2, h3, _⟩ := run_append_own (P := Try.prog) (w := w) B 88 ty 94 i0 _ 3 40 Try.underlying88 hi hz0 hz1 hz2 rfl (by decide) v L.length _ h ad M.length c (sc M) (sc_length M) hM
    (by
      intro u hu
      simp only [sc, List.mem_flatMap] at hu
      obtain ⟨x, hx, hu⟩ := hu
      simp at hu
      rcases hu with rfl | rfl | rfl
      · rfl
      · rfl
      · exact h1 x hx) (by unfold maxLen; omega) (by omega) hB
  refine ⟨v', w', h1, ?_, (Below.refl B w).grown h3 hB (fun j hj => own_base h hj), h3⟩
  show World.ownsRow _ _ _ _ _ _ _
  rw [sc_append, List.length_append]; exact h2
theorem run_appS (w : World) (B : Nat) (ty : TypeId) (v : Value) (L : List (Sg × Value)) (x : Sg × Value) (g : Nat) (h : OwnS w B v L) (hc : BlkAt 94 g [.int .u64 (x.1.q : Int), .int .u64 (x.1.a : Int), x.2] w) (h1 : x.2.oneCell' = true)
    (hn : L.length ≤ 900000) (hB : B ≤ w.heap.size) :
    ∃ v' w', (Builtin.append_ #[88, 88] ty #[v, .slice (some ⟨g, 0, none⟩) 1 1]).run Try.prog w = .ok v' w' ∧ OwnS w' B v' (L ++ [x]) ∧ Below B w w' ∧ w.grownBy w' v.ownBlock :=
  run_appSs w B ty v L [x] ⟨g, 0, none⟩ 1 h (fun j u hj => by
    rw [add0]; exact hc.cell (by simpa [sc] using hj)) (by intro y hy; simp at hy; subst hy; exact h1) (by simp; omega) hB
theorem wp_appS {w : World} {o : Oper} {a : Act} {K : Act → World → Prop} {Q : Exit → Act → World → Prop} (s x : Operand)
    (ho : o.op = .call { callee := .builtin .append, args := #[s, x], argTypes := #[88, 88] }) (B : Nat) (v : Value) (L : List (Sg × Value)) (y : Sg × Value) (g : Nat) (hs : a.eval s = v) (hx : a.eval x = .slice (some ⟨g, 0, none⟩) 1 1)
    (hl : OwnS w B v L) (hc : BlkAt 94 g [.int .u64 (y.1.q : Int), .int .u64 (y.1.a : Int), y.2] w) (h1 : y.2.oneCell' = true) (hn : L.length ≤ 900000) (hB : B ≤ w.heap.size)
    (h : ∀ v' w', OwnS w' B v' (L ++ [y]) → Below B w w' → w.grownBy w' v.ownBlock → K (a.put o.dst v') w') : o.wp Try.prog a w K Q := by
  obtain ⟨v', w', hr, h2, h3, h4⟩ := run_appS w B o.type v L y g hl hc h1 hn hB
  unfold Oper.wp execOp
  simp only [ho, resolve, invoke, builtin, Sem.run_bind, Sem.run_pure, Result.andThen_ok, List.map_toArray, List.map_cons, List.map_nil, hs, hx, hr]
  exact h v' w' h2 h3 h4
theorem step_appS {w : World} {ops : Array Oper} {o : Oper} {a : Act} {K : Act → World → Prop} {Q : Exit → Act → World → Prop} {E : Prop} (hgd : o.guard = none) (s x : Operand)
    (ho : o.op = .call { callee := .builtin .append, args := #[s, x], argTypes := #[88, 88] }) (B : Nat) (v : Value) (L : List (Sg × Value)) (y : Sg × Value) (g : Nat) (hs : a.eval s = v) (hx : a.eval x = .slice (some ⟨g, 0, none⟩) 1 1)
    (hl : OwnS w B v L) (hc : BlkAt 94 g [.int .u64 (y.1.q : Int), .int .u64 (y.1.a : Int), y.2] w) (h1 : y.2.oneCell' = true) (hn : L.length ≤ 900000) (hB : B ≤ w.heap.size)
    (h : ∀ v' w', OwnS w' B v' (L ++ [y]) → Below B w w' → w.grownBy w' v.ownBlock → K (a.put o.dst v') w') :
    if Region.wanted o (yielded ops a.tmps) = true then Oper.wp Try.prog o a w K Q else E := by
  have hw : Region.wanted o (yielded ops a.tmps) = true := by simp [Region.wanted, hgd]
  rw [if_pos hw]
  exact wp_appS s x ho B v L y g hs hx hl hc h1 hn hB h

theorem store_f (w : World) (a : Addr) (m : Mode) (fn : Fn) (first captured : Array Value) : (store a (.func fn first captured) m).run Try.prog w = stored Try.prog w a (.func fn first captured) m := run_store Try.prog w a _ m rfl
attribute [local go_sem] store_f
def offM (s : Sm) : Sm := { s with ow := false }
set_option maxRecDepth 100000 in
theorem tellerM {p g : Nat} {X : List Nat} {s : Sm} {w : World} (h : PSm p g X s w) :
    Calls Try.prog 69 #[.pointer (some ⟨p, 0, none⟩)] w fun e w' => ∃ k, e = .returned (.func (.func 88) #[] #[.pointer (some ⟨k, 0, none⟩)]) ∧ w.heap.size ≤ k ∧ BlkAt 92 k [.int .u64 (s.tk : Int)] w' ∧ PSm p g X (offM s) w' ∧ Chg [p] w w' := by
  obtain ⟨v, hb, hl⟩ := h
  have c5 := BlkAt.cell hb (j := 5) rfl
  have c6 := BlkAt.cell hb (j := 6) rfl
  have hfz : ∀ j, w.frozen? ⟨p, j, none⟩ = false := fun j => hb.frozen j
  have hlt := hb.lt
  have hq : Chg [p] w (w.setCell ⟨p, 6, none⟩ (.bool false)) := (Chg.refl _ _).set (by simp) _ _
  have hn := noB_blk hb (by decide)
  have HL : Hid (LnAt (w.setCell ⟨p, 6, none⟩ (.bool false)) p g X v s.line) := hl.chg hq (fun hne => by simp; exact hne) (fun k hk => by simp at hk; subst hk; exact .inl hn)
  have HB : Hid (BlkAt 137 p (pcs v (offM s)) (w.setCell ⟨p, 6, none⟩ (.bool false))) := hb.set 6 (.bool false)
  have HC := Lib.hid hq
  obtain ⟨x, hx⟩ : ∃ x : Int, x = s.tk := ⟨_, rfl⟩
  rw [← hx] at c5 ⊢
  clear hb hl hq hn hx
  go_enter Try.func69, Try.ntmps69
  go_wp2_with fail
  go_ret
  have hb := ba1 (w.setCell ⟨p, 6, none⟩ (.bool false)) (.cells #[.int .u64 x] 92)
  refine ⟨_, rfl, by simp, ?_, ⟨v, HB.out.later hb, HL.out.later hb⟩, HC.out.alloc _⟩
  have := BlkAt.new (t := 92) (w.setCell ⟨p, 6, none⟩ (.bool false)) [.int .u64 x]
  simpa using this
set_option maxHeartbeats 2000000 in
set_option maxRecDepth 100000 in
theorem tellF {k : Nat} {q a : Nat} {u : Value} {l : List UInt8} {w : World} (hk : BlkAt 92 k [.int .u64 (a : Int)] w) (hu : Bytes w u l) (hl : l.length ≤ 1000000) :
    Calls Try.prog 88 #[.int .u64 (q : Int), u, .pointer (some ⟨k, 0, none⟩)] w fun e w' => ∃ y, e = .returned (.agg #[.int .u64 (q : Int), .int .u64 (a : Int), y]) ∧ OwnB w' w.heap.size y l ∧ Below w.heap.size w w' := by
  obtain ⟨w1, hw1⟩ : ∃ w1, w1 = w.alloc (.cells #[.int .u64 0, .int .u64 0, .slice none 0 0] 94) := ⟨_, rfl⟩
  have hb1 : Below w.heap.size w w1 := by rw [hw1]; exact ba1 _ _
  have hs1 : w1.heap.size = w.heap.size + 1 := by rw [hw1]; simp
  have HK := Lib.hid hk
  have HU := Lib.hid (hu.later hb1)
  have HR : Hid (BlkAt 94 w.heap.size [.int .u64 0, .int .u64 0, .slice none 0 0] w1) := by rw [hw1]; exact BlkAt.new w _
  have HB1 := Lib.hid hb1
  have HW := Lib.hid hw1
  have HS1 := Lib.hid hs1
  have HLL := Lib.hid hl
  obtain ⟨ua, uc, rfl⟩ := hu.form
  obtain ⟨n, hn⟩ : ∃ n, n = l.length := ⟨_, rfl⟩
  rw [← hn] at HU ⊢
  obtain ⟨x, hx⟩ : ∃ x : Int, x = a := ⟨_, rfl⟩
  rw [← hx] at HK ⊢
  obtain ⟨y, hy⟩ : ∃ y : Int, y = q := ⟨_, rfl⟩
  rw [← hy]
  clear hk hu hl hb1 hw1 hs1 hn hx hy
  go_enter Try.func88, Try.ntmps88
  go_wp2_with fail
  rw [← HW.out]
  (refine wp_region_held_drew (S := (fun w' => Below w.heap.size w w')) (by kernel_rfl) ?_ (fun hHeld => ?_); (focus ((try dsimp only); (exact HB1.out.drew))))
  (try dsimp only at hHeld)
  (refine wpAnyH_take (i := 0) (v := ?_) rfl (by kernel_rfl) (by kernel_rfl) (by kernel_rfl) (fun _ _ _ h => h) (Or.inl ⟨by rfl, ?_⟩) hHeld ?_; rotate_left; (focus (intro w hSw; (try dsimp only at hSw); go_simp; try with_reducible rfl)); (try simp only [Act.put, List.setIfInBounds_toArray, List.set_cons_zero, List.set_cons_succ, List.getElem_toArray, List.getElem_cons_zero]))
  (refine wpAnyH_take (i := 1) (v := ?_) rfl (by kernel_rfl) (by kernel_rfl) (by kernel_rfl) (fun _ _ _ h => h) (Or.inl ⟨by rfl, ?_⟩) hHeld ?_; rotate_left; (focus (intro w hSw; (try dsimp only at hSw); go_simp; (have c0 := BlkAt.cell (BlkAt.later HK.out hSw) (j := 0) rfl; go_simp; try with_reducible rfl))); (try simp only [Act.put, List.setIfInBounds_toArray, List.set_cons_zero, List.set_cons_succ, List.getElem_toArray, List.getElem_cons_zero, List.getElem_cons_succ]))
  (refine wpAnyH_take (i := 2) (v := ?_) rfl (by kernel_rfl) (by kernel_rfl) (by kernel_rfl) (fun _ _ _ h => h) (Or.inl ⟨by rfl, ?_⟩) hHeld ?_; rotate_left; (focus (intro w hSw; (try dsimp only at hSw); go_simp; try with_reducible rfl)); (try simp only [Act.put, List.setIfInBounds_toArray, List.set_cons_zero, List.set_cons_succ, List.getElem_toArray, List.getElem_cons_zero, List.getElem_cons_succ]))
  (refine wpAnyH_ready (rs := [3]) (by kernel_rfl) (by simp) ?_; refine AllReadyH.cons rfl (fun K hK => ?_) AllReadyH.nil; go_simp; refine (cloneB (.slice ua n uc) l _ (HU.out.later (Below.refl _ _).drew) HLL.out).mono ?_; rintro e w3 ⟨b, rfl, ho, hs⟩; obtain ⟨ba, bc, rfl⟩ := OwnB.form ho; obtain ⟨m, hm⟩ : ∃ m, m = l.length := ⟨_, rfl⟩; rw [← hm] at ho ⊢; clear hm; refine hK.out _ _ ?_ (fun hHeldN => ?_); (focus ((try dsimp only); (exact hHeld.trans (hs.mono hHeld.size)))); clear hK K hHeld; have hHeld := hHeldN; clear hHeldN; (try simp only [Act.put, List.setIfInBounds_toArray, List.set_cons_zero, List.set_cons_succ, List.getElem_toArray, List.getElem_cons_zero, List.getElem_cons_succ]))
  (refine wpAnyH_take (i := 4) (v := ?_) rfl (by kernel_rfl) (by kernel_rfl) (by kernel_rfl) (fun _ _ _ h => h) (Or.inl ⟨by rfl, ?_⟩) hHeld ?_; rotate_left; (focus (intro w hSw; (try dsimp only at hSw); go_simp; try with_reducible rfl)); (try simp only [Act.put, List.setIfInBounds_toArray, List.set_cons_zero, List.set_cons_succ, List.getElem_toArray, List.getElem_cons_zero, List.getElem_cons_succ]))
  have HO := Lib.hid (OwnB.weak (show OwnB w3 w1.heap.size (.slice ba m bc) l from ho) HB1.out.size)
  have HR3 := Lib.hid (BlkAt.later HR.out (show Below w1.heap.size w1 w3 from (Below.refl w1.heap.size w1).drew.trans hs))
  have HSZ := Lib.hid (Nat.le_trans (Nat.le_of_eq HS1.out.symm) hs.size)
  have HO1 : Hid (w1.heap.size ≤ w3.heap.size) := hs.size
  clear hs
  have d0 := BlkAt.cell HR3.out (j := 0) rfl
  have d1 := BlkAt.cell HR3.out (j := 1) rfl
  have d2 := BlkAt.cell HR3.out (j := 2) rfl
  have hfz : ∀ j, w3.frozen? ⟨w.heap.size, j, none⟩ = false := fun j => BlkAt.frozen HR3.out j
  obtain ⟨s1, s3⟩ := BlkAt.set3 (show BlkAt 94 w.heap.size [.int .u64 0, .int .u64 0, .slice none 0 0] w3 from HR3.out) (.int .u64 y) (.int .u64 x) (.slice ba m bc)
  have G1 := Lib.hid s1
  have G3 := Lib.hid (hHeld.trans (s3 _ (Nat.le_refl _)))
  clear s1 s3
  (refine wpAnyH_ready (rs := [5]) (by kernel_rfl) (by simp) ?_; refine AllReadyH.cons rfl (fun K hK => ?_) AllReadyH.nil; go_simp; skip; refine hK.out _ _ ?_ (fun hHeldN => ?_); (focus ((try dsimp only); (exact G3.out))); clear hK K hHeld; have hHeld := hHeldN; clear hHeldN; (try simp only [Act.put, List.setIfInBounds_toArray, List.set_cons_zero, List.set_cons_succ, List.getElem_toArray, List.getElem_cons_zero, List.getElem_cons_succ]))
  refine wpAnyH_done (by kernel_rfl) ?_ _
  have hc : Chg [w.heap.size] w3 (((w3.setCell ⟨w.heap.size, 0, none⟩ (.int .u64 y)).setCell ⟨w.heap.size, 1, none⟩ (.int .u64 x)).setCell ⟨w.heap.size, 2, none⟩ (.slice ba m bc)) := (((Chg.refl _ _).set (by simp) _ _).set (by simp) _ _).set (by simp) _ _
  have HF : Hid (OwnB (((w3.setCell ⟨w.heap.size, 0, none⟩ (.int .u64 y)).setCell ⟨w.heap.size, 1, none⟩ (.int .u64 x)).setCell ⟨w.heap.size, 2, none⟩ (.slice ba m bc)) w.heap.size (.slice ba m bc) l) := by
    refine OwnB.weak (show OwnB _ w1.heap.size _ _ from hc.owns ho (fun j hj => ?_)) HB1.out.size
    have h1 : w1.heap.size ≤ j := own_base ho hj
    have h2 := HS1.out
    simp; omega
  clear hc ho
  go_wp2_with fail
  have q0 := BlkAt.cell G1.out (j := 0) rfl
  have q1 := BlkAt.cell G1.out (j := 1) rfl
  have q2 := BlkAt.cell G1.out (j := 2) rfl
  exact bodyPost_ret (v := .agg #[.int .u64 y, .int .u64 x, .slice ba m bc]) (by simp [results, Try.results88, go_sem, q0, q1, q2]) rfl ⟨_, rfl, HF.out, G3.out⟩
end Go.Proofs.Ytghaajmalhcgbaa

namespace Go.Proofs.Ytghaajmalhcgbaa
open Go.RowKit
attribute [local go_sem ↓] Go.wp_at_zero Go.wp_at_succ

/-- The bodies are these. -/
def Bods (w : World) (X : List Nat) (L : List (Sg × Value)) : Prop := ∀ x ∈ L, Bod w X x.2 x.1.b
theorem Bods.chg {w w' : World} {X M : List Nat} {L : List (Sg × Value)} (h : Bods w X L) (hm : Chg M w w') (hL : ∀ k ∈ M, NoB w k ∨ k ∈ X) : Bods w' X L := fun x hx => (h x hx).chg hm hL
theorem Bods.later {w w' : World} {X : List Nat} {L : List (Sg × Value)} (h : Bods w X L) (hb : Below w.heap.size w w') : Bods w' X L := fun x hx => (h x hx).later hb
theorem own_noB {w : World} {B : Nat} {v : Value} {L : List (Sg × Value)} (h : OwnS w B v L) {g : Nat} (hg : v.ownBlock = some g) : NoB w g := by
  obtain ⟨cur, hc⟩ := own_block h hg
  intro c2 fr h2
  rw [hc] at h2
  simp at h2
theorem Chg.of_grown {w w' : World} {row : Option Nat} (h : w.grownBy w' row) : Chg row.toList w w' :=
  ⟨⟨h.os, h.tape, h.output, h.size, fun b hb => by omega⟩, fun b hb hn => h.block b hb (fun e => hn (by rw [← e]; simp))⟩
theorem Bods.grown {w w' : World} {X : List Nat} {L : List (Sg × Value)} {row : Option Nat} (h : Bods w X L) (hg : w.grownBy w' row) (hn : ∀ g, row = some g → NoB w g) : Bods w' X L :=
  h.chg (Chg.of_grown hg) (fun k hk => .inl (hn k (by simpa using hk)))
theorem Bod.grown {w w' : World} {X : List Nat} {u : Value} {l : List UInt8} {row : Option Nat} (h : Bod w X u l) (hg : w.grownBy w' row) (hn : ∀ g, row = some g → NoB w g) : Bod w' X u l :=
  h.chg (Chg.of_grown hg) (fun k hk => .inl (hn k (by simpa using hk)))
/-- What tells messages leaves. -/
def TlA (p g : Nat) (X : List Nat) (s : Sm) (L : List Sg) (w : World) (e : Ending) (w' : World) : Prop :=
  ∃ v M, e = .returned v ∧ M.map (·.1) = L ∧ OwnS w' w.heap.size v M ∧ Bods w' X M ∧ PSm p g X s w' ∧ Chg [p] w w'
theorem seg_step (n a : Nat) (l : List (List UInt8)) (f k : Nat) (b : List UInt8) (hf : f ≤ k) (hb : l[k]? = some b) : segL (n + f) a ((l.take (k + 1)).drop f) = segL (n + f) a ((l.take k).drop f) ++ [⟨n + k + 1, a, b⟩] := by
  have hk := (List.getElem?_eq_some_iff.1 hb)
  obtain ⟨hk1, rfl⟩ := hk
  rw [List.take_succ_eq_append_getElem hk1, List.drop_append_of_le_length (by simp; omega), segL_snoc]
  simp; omega
set_option maxHeartbeats 4000000 in
set_option maxRecDepth 100000 in
theorem tellC {p g : Nat} {X : List Nat} {s : Sm} {w : World} (h : PSm p g X s w) (ok : s.Tl) (hX : ∀ k ∈ X, k < w.heap.size) (f : Nat) (hf : f ≤ s.told) :
    Calls Try.prog 68 #[.pointer (some ⟨p, 0, none⟩), .int .i64 (f : Int)] w (TlA p g X (tellM s) (segL (s.ac + f) s.tk ((s.line.take s.told).drop f)) w) := by
  obtain ⟨v, hb, hl⟩ := h
  have hq : Chg [p] w (w.setCell ⟨p, 3, none⟩ (.int .i64 0)) := (Chg.refl _ _).set (by simp) _ _
  have hnb := noB_blk hb (by decide)
  have hP1 : PSm p g X { s with ti := 0 } (w.setCell ⟨p, 3, none⟩ (.int .i64 0)) := ⟨v, hb.set 3 (.int .i64 0), hl.chg hq (fun hne => by simp; exact hne) (fun k hk => by simp at hk; subst hk; exact .inl hnb)⟩
  have HT := Lib.hid (tellerM hP1)
  have c3 := BlkAt.cell hb (j := 3) rfl
  have hfz : ∀ j, w.frozen? ⟨p, j, none⟩ = false := fun j => hb.frozen j
  have HC1 := Lib.hid hq
  have HX := Lib.hid hX
  have HLE := Lib.hid ok.len
  have HF : Hid (f ≤ s.told ∧ s.told ≤ s.line.length ∧ s.told ≤ 8 ∧ s.ac + s.line.length ≤ 1000000 ∧ s.tk ≤ 1000000) := ⟨hf, ok.t1, ok.t8, ok.few, ok.tkN⟩
  clear hb hl hq hnb hP1 ok hX hf
  go_enter Try.func68, Try.ntmps68
  go_wp2_with fail
  refine HT.out.mono ?_
  rintro e w1 ⟨k, rfl, hk, hkb, hP, hC⟩
  have HP : Hid (PSm p g X (tellM s) w1) := hP
  have HC : Hid (Chg [p] w w1) := HC1.out.trans hC
  have HK := Lib.hid hkb
  have HWS : Hid (w.heap.size ≤ w1.heap.size) := HC.out.size
  clear hP hC hk hkb c3 hfz
  go_wp2_with fail
  go_loopw [6, 7] (fun v i wr => ∃ (k : Nat) (M : List (Sg × Value)), k ≤ s.told ∧ i = .int .i64 k ∧ Hid (f ≤ k) ∧ Hid (M.map (·.1) = segL (s.ac + f) s.tk ((s.line.take k).drop f)) ∧ Hid (OwnS wr w1.heap.size v M) ∧ Hid (Bods wr X M) ∧ Hid (Below w1.heap.size w1 wr)) (fun _ i _ => s.told - (intOf i).toNat)
  case atStart =>
    have hff := HF.out
    exact ⟨f, [], hff.1, rfl, Nat.le_refl _, by show _ = _; rw [List.drop_eq_nil_of_le (by simp; omega)]; rfl, OwnS.nil _ _, fun x hx => by simp at hx, Below.refl _ _⟩
  case round =>
    obtain ⟨i, M, hi, rfl, HFI, HM, HO, HBD, HBW⟩ := hrel
    obtain ⟨v1, hb1, hl1⟩ := HP.out
    have hff := HF.out
    have hmx : M.length ≤ 900000 := by
      have := congrArg List.length HM.out
      rw [List.length_map, segL_len] at this
      simp at this; omega
    have HMX := Lib.hid hmx
    have c2 := BlkAt.cell (BlkAt.later hb1 HBW.out) (j := 2) rfl
    obtain ⟨T, hT⟩ : ∃ T, T = s.told := ⟨_, rfl⟩
    have hc2 : wr.cell? ⟨p, 2, none⟩ = some (.int .i64 (T : Int)) := by rw [hT]; exact c2
    have HTT := Lib.hid hT
    rw [← hT] at hi ⊢
    clear c2 hmx hT
    rcases Nat.lt_or_ge i T with hlt | hge
    · have g8 : (T : Int) ≤ 8 := by have := HTT.out; omega
      have g1 : (i : Int) < T := by omega
      have hiL : i < s.line.length := by have := HTT.out; omega
      obtain ⟨b, hbb⟩ : ∃ b, s.line[i]? = some b := ⟨_, List.getElem?_eq_getElem hiL⟩
      obtain ⟨va, vc, rfl⟩ := hl1.form
      obtain ⟨o, rfl, u, hu, hbu⟩ := hl1.at hbb
      obtain ⟨ua, uc, rfl⟩ := hbu.form
      obtain ⟨n, hn⟩ : ∃ n, n = (tellM s).line.length := ⟨_, rfl⟩
      rw [← hn] at hl1 hb1
      have g2 : (i : Int) < n := by rw [hn]; show (i : Int) < s.line.length; omega
      have hlen : i < n := by omega
      obtain ⟨m, hm⟩ : ∃ m, m = b.length := ⟨_, rfl⟩
      rw [← hm] at hu hbu
      obtain ⟨x, hx⟩ : ∃ x : Int, x = s.ac := ⟨_, rfl⟩
      obtain ⟨y, hy⟩ : ∃ y : Int, y = x + i := ⟨_, rfl⟩
      obtain ⟨q, hq⟩ : ∃ q : Nat, q = s.ac + i + 1 := ⟨_, rfl⟩
      have e0 : IntKind.u64.wrap (i : Int) = i := IntWalk.u64_in _ ⟨by omega, by omega⟩
      have e1 : IntKind.u64.wrap (x + (i : Int)) = y := by rw [hy]; exact IntWalk.u64_in _ ⟨by omega, by omega⟩
      have e2 : IntKind.u64.wrap (y + 1) = (q : Int) := by rw [IntWalk.u64_in _ ⟨by omega, by omega⟩]; omega
      have HCE : Hid (∀ W, Below w1.heap.size w1 W → W.cell? ⟨p, 4, none⟩ = some (.int .u64 x) ∧ W.cell? ⟨p, 1, none⟩ = some (.slice (some ⟨g, o, none⟩) n vc) ∧ W.cell? ⟨g, o + i, none⟩ = some (.slice ua m uc)) := by
        have : ∀ W, Below w1.heap.size w1 W → W.cell? ⟨p, 4, none⟩ = some (.int .u64 x) ∧ W.cell? ⟨p, 1, none⟩ = some (.slice (some ⟨g, o, none⟩) n vc) ∧ W.cell? ⟨g, o + i, none⟩ = some (.slice ua m uc) := fun W hW =>
          ⟨by rw [hx]; exact BlkAt.cell (BlkAt.later hb1 hW) (j := 4) rfl, BlkAt.cell (BlkAt.later hb1 hW) (j := 1) rfl, cell_later hW hu⟩
        exact this
      have HBU := Lib.hid hbu
      have HQ := Lib.hid hq
      have HBB := Lib.hid hbb
      have HMM := Lib.hid hm
      have HLN : Hid (b.length ≤ 1000000) := by
        have := HLE.out b (List.mem_of_getElem? hbb)
        show _ ≤ _; omega
      clear hb1 hl1 hff hiL hbb hu hbu hn hm hx hy hq
      go_wp2_with fail
      (refine wp_region_held_drew (S := (fun w' => Below w1.heap.size w1 w')) (by kernel_rfl) ?_ (fun hHeld => ?_); (focus ((try dsimp only); (exact HBW.out.drew))))
      (try dsimp only at hHeld)
      (refine wpAnyH_take (i := 0) (v := ?_) rfl (by kernel_rfl) (by kernel_rfl) (by kernel_rfl) (fun _ _ _ h => h) (Or.inl ⟨by rfl, ?_⟩) hHeld ?_; rotate_left; (focus (intro w hSw; (try dsimp only at hSw); go_simp; try with_reducible rfl)); (try simp only [Act.put, List.setIfInBounds_toArray, List.set_cons_zero, List.set_cons_succ, List.getElem_toArray, List.getElem_cons_zero])); (refine wpAnyH_take (i := 1) (v := ?_) rfl (by kernel_rfl) (by kernel_rfl) (by kernel_rfl) (fun _ _ _ h => h) (Or.inl ⟨by rfl, ?_⟩) hHeld ?_; rotate_left; (focus (intro w hSw; (try dsimp only at hSw); go_simp; try with_reducible rfl)); (try simp only [Act.put, List.setIfInBounds_toArray, List.set_cons_zero, List.set_cons_succ, List.getElem_toArray, List.getElem_cons_zero, List.getElem_cons_succ])); (refine wpAnyH_take (i := 2) (v := ?_) rfl (by kernel_rfl) (by kernel_rfl) (by kernel_rfl) (fun _ _ _ h => h) (Or.inl ⟨by rfl, ?_⟩) hHeld ?_; rotate_left; (focus (intro w hSw; (try dsimp only at hSw); go_simp; try with_reducible rfl)); (try simp only [Act.put, List.setIfInBounds_toArray, List.set_cons_zero, List.set_cons_succ, List.getElem_toArray, List.getElem_cons_zero, List.getElem_cons_succ])); (refine wpAnyH_take (i := 3) (v := ?_) rfl (by kernel_rfl) (by kernel_rfl) (by kernel_rfl) (fun _ _ _ h => h) (Or.inl ⟨by rfl, ?_⟩) hHeld ?_; rotate_left; (focus (intro w hSw; (try dsimp only at hSw); go_simp; try with_reducible rfl)); (try simp only [Act.put, List.setIfInBounds_toArray, List.set_cons_zero, List.set_cons_succ, List.getElem_toArray, List.getElem_cons_zero, List.getElem_cons_succ])); (refine wpAnyH_take (i := 4) (v := ?_) rfl (by kernel_rfl) (by kernel_rfl) (by kernel_rfl) (fun _ _ _ h => h) (Or.inl ⟨by rfl, ?_⟩) hHeld ?_; rotate_left; (focus (intro w hSw; (try dsimp only at hSw); go_simp; try with_reducible rfl)); (try simp only [Act.put, List.setIfInBounds_toArray, List.set_cons_zero, List.set_cons_succ, List.getElem_toArray, List.getElem_cons_zero, List.getElem_cons_succ]))
      (refine wpAnyH_take (i := 5) (v := ?_) rfl (by kernel_rfl) (by kernel_rfl) (by kernel_rfl) (fun _ _ _ h => h) (Or.inl ⟨by rfl, ?_⟩) hHeld ?_; rotate_left; (focus (intro w hSw; (try dsimp only at hSw); go_simp; (have c0 := (HCE.out _ hSw).1; go_simp; try with_reducible rfl))); (try simp only [Act.put, List.setIfInBounds_toArray, List.set_cons_zero, List.set_cons_succ, List.getElem_toArray, List.getElem_cons_zero, List.getElem_cons_succ]))
      (refine wpAnyH_take (i := 6) (v := ?_) rfl (by kernel_rfl) (by kernel_rfl) (by kernel_rfl) (fun _ _ _ h => h) (Or.inl ⟨by rfl, ?_⟩) hHeld ?_; rotate_left; (focus (intro w hSw; (try dsimp only at hSw); go_simp; try with_reducible rfl)); (try simp only [Act.put, List.setIfInBounds_toArray, List.set_cons_zero, List.set_cons_succ, List.getElem_toArray, List.getElem_cons_zero, List.getElem_cons_succ])); (refine wpAnyH_take (i := 7) (v := ?_) rfl (by kernel_rfl) (by kernel_rfl) (by kernel_rfl) (fun _ _ _ h => h) (Or.inl ⟨by rfl, ?_⟩) hHeld ?_; rotate_left; (focus (intro w hSw; (try dsimp only at hSw); go_simp; try with_reducible rfl)); (try simp only [Act.put, List.setIfInBounds_toArray, List.set_cons_zero, List.set_cons_succ, List.getElem_toArray, List.getElem_cons_zero, List.getElem_cons_succ])); (refine wpAnyH_take (i := 8) (v := ?_) rfl (by kernel_rfl) (by kernel_rfl) (by kernel_rfl) (fun _ _ _ h => h) (Or.inl ⟨by rfl, ?_⟩) hHeld ?_; rotate_left; (focus (intro w hSw; (try dsimp only at hSw); go_simp; try with_reducible rfl)); (try simp only [Act.put, List.setIfInBounds_toArray, List.set_cons_zero, List.set_cons_succ, List.getElem_toArray, List.getElem_cons_zero, List.getElem_cons_succ])); (refine wpAnyH_take (i := 9) (v := ?_) rfl (by kernel_rfl) (by kernel_rfl) (by kernel_rfl) (fun _ _ _ h => h) (Or.inl ⟨by rfl, ?_⟩) hHeld ?_; rotate_left; (focus (intro w hSw; (try dsimp only at hSw); go_simp; try with_reducible rfl)); (try simp only [Act.put, List.setIfInBounds_toArray, List.set_cons_zero, List.set_cons_succ, List.getElem_toArray, List.getElem_cons_zero, List.getElem_cons_succ])); (refine wpAnyH_take (i := 10) (v := ?_) rfl (by kernel_rfl) (by kernel_rfl) (by kernel_rfl) (fun _ _ _ h => h) (Or.inl ⟨by rfl, ?_⟩) hHeld ?_; rotate_left; (focus (intro w hSw; (try dsimp only at hSw); go_simp; try with_reducible rfl)); (try simp only [Act.put, List.setIfInBounds_toArray, List.set_cons_zero, List.set_cons_succ, List.getElem_toArray, List.getElem_cons_zero, List.getElem_cons_succ])); (refine wpAnyH_take (i := 11) (v := ?_) rfl (by kernel_rfl) (by kernel_rfl) (by kernel_rfl) (fun _ _ _ h => h) (Or.inl ⟨by rfl, ?_⟩) hHeld ?_; rotate_left; (focus (intro w hSw; (try dsimp only at hSw); go_simp; try with_reducible rfl)); (try simp only [Act.put, List.setIfInBounds_toArray, List.set_cons_zero, List.set_cons_succ, List.getElem_toArray, List.getElem_cons_zero, List.getElem_cons_succ])); (refine wpAnyH_take (i := 12) (v := ?_) rfl (by kernel_rfl) (by kernel_rfl) (by kernel_rfl) (fun _ _ _ h => h) (Or.inl ⟨by rfl, ?_⟩) hHeld ?_; rotate_left; (focus (intro w hSw; (try dsimp only at hSw); go_simp; try with_reducible rfl)); (try simp only [Act.put, List.setIfInBounds_toArray, List.set_cons_zero, List.set_cons_succ, List.getElem_toArray, List.getElem_cons_zero, List.getElem_cons_succ]))
      (refine wpAnyH_take (i := 13) (v := ?_) rfl (by kernel_rfl) (by kernel_rfl) (by kernel_rfl) (fun _ _ _ h => h) (Or.inl ⟨by rfl, ?_⟩) hHeld ?_; rotate_left; (focus (intro w hSw; (try dsimp only at hSw); go_simp; (have c0 := (HCE.out _ hSw).2.1; go_simp; try with_reducible rfl))); (try simp only [Act.put, List.setIfInBounds_toArray, List.set_cons_zero, List.set_cons_succ, List.getElem_toArray, List.getElem_cons_zero, List.getElem_cons_succ]))
      (refine wpAnyH_take (i := 14) (v := ?_) rfl (by kernel_rfl) (by kernel_rfl) (by kernel_rfl) (fun _ _ _ h => h) (Or.inl ⟨by rfl, ?_⟩) hHeld ?_; rotate_left; (focus (intro w hSw; (try dsimp only at hSw); go_simp; try with_reducible rfl)); (try simp only [Act.put, List.setIfInBounds_toArray, List.set_cons_zero, List.set_cons_succ, List.getElem_toArray, List.getElem_cons_zero, List.getElem_cons_succ])); (refine wpAnyH_take (i := 15) (v := ?_) rfl (by kernel_rfl) (by kernel_rfl) (by kernel_rfl) (fun _ _ _ h => h) (Or.inl ⟨by rfl, ?_⟩) hHeld ?_; rotate_left; (focus (intro w hSw; (try dsimp only at hSw); go_simp; try with_reducible rfl)); (try simp only [Act.put, List.setIfInBounds_toArray, List.set_cons_zero, List.set_cons_succ, List.getElem_toArray, List.getElem_cons_zero, List.getElem_cons_succ]))
      (refine wpAnyH_take (i := 16) (v := ?_) rfl (by kernel_rfl) (by kernel_rfl) (by kernel_rfl) (fun _ _ _ h => h) (Or.inl ⟨by rfl, ?_⟩) hHeld ?_; rotate_left; (focus (intro w hSw; (try dsimp only at hSw); go_simp; (have c0 := (HCE.out _ hSw).2.2; go_simp; try with_reducible rfl))); (try simp only [Act.put, List.setIfInBounds_toArray, List.set_cons_zero, List.set_cons_succ, List.getElem_toArray, List.getElem_cons_zero, List.getElem_cons_succ]))
      have HBY : Hid (Bytes wr.drew (.slice ua m uc) b) := (HBU.out.later hHeld).bytes
      have HO0 : Hid (OwnS wr.drew w1.heap.size u6 M) := HO.out.later (Below.refl _ _).drew
      have HBD0 : Hid (Bods wr.drew X M) := HBD.out.later (Below.refl _ _).drew
      (refine wpAnyH_ready (rs := [17]) (by kernel_rfl) (by simp) ?_; refine AllReadyH.cons rfl (fun K hK => ?_) AllReadyH.nil; go_simp; refine (tellF (q := q) (HK.out.later hHeld) HBY.out HLN.out).mono ?_; rintro e w3 ⟨z, rfl, ho, hs⟩; obtain ⟨za, zc, rfl⟩ := OwnB.form ho; rw [← HMM.out] at ho ⊢; have HSZ := Lib.hid hHeld.size; refine hK.out _ _ ?_ (fun hHeldN => ?_); (focus ((try dsimp only); (exact hHeld.trans (hs.mono hHeld.size)))); clear hK K hHeld; have hHeld := hHeldN; clear hHeldN; (try simp only [Act.put, List.setIfInBounds_toArray, List.set_cons_zero, List.set_cons_succ, List.getElem_toArray, List.getElem_cons_zero, List.getElem_cons_succ]))
      have HBO : Hid (Bod w3 X (.slice za m zc) b) := Bod.own (show OwnB w3 wr.drew.heap.size (.slice za m zc) b by rw [HMM.out] at ho ⊢; exact ho) (fun j hj => by have h1 := HX.out j hj; have h2 := HWS.out; have h3 : w1.heap.size ≤ wr.drew.heap.size := HSZ.out; omega)
      have HO3 := Lib.hid (HO0.out.later hs)
      have HBD3 := Lib.hid (HBD0.out.later hs)
      clear ho hs e0 e1 e2
      (refine wpAnyH_ready (rs := [18]) (by kernel_rfl) (by simp) ?_; refine AllReadyH.cons rfl (fun K hK => ?_) AllReadyH.nil; go_simp; skip; refine hK.out _ _ ?_ (fun hHeldN => ?_); (focus ((try dsimp only); (exact hHeld.alloc hHeld.size _))); clear hK K hHeld; have hHeld := hHeldN; clear hHeldN; (try simp only [Act.put, List.setIfInBounds_toArray, List.set_cons_zero, List.set_cons_succ, List.getElem_toArray, List.getElem_cons_zero, List.getElem_cons_succ]))
      (refine wpAnyH_ready (rs := [19]) (by kernel_rfl) (by simp) ?_; refine AllReadyH.cons rfl (fun K hK => ?_) AllReadyH.nil; refine step_appS rfl (.tmp 22) (.tmp 40) rfl w1.heap.size _ M (⟨q, s.tk, b⟩, .slice za m zc) w3.heap.size rfl rfl (OwnS.later HO3.out (ba1 _ _)) (BlkAt.new _ _) rfl HMX.out hHeld.size ?_; intro v4 w4 ho4 hb4 hg4; refine hK.out _ _ ?_ (fun hHeldN => ?_); (focus ((try dsimp only); (exact hHeld.trans hb4))); clear hK K hHeld; have hHeld := hHeldN; clear hHeldN; (try simp only [Act.put, List.setIfInBounds_toArray, List.set_cons_zero, List.set_cons_succ, List.getElem_toArray, List.getElem_cons_zero, List.getElem_cons_succ]))
      (refine wpAnyH_take (i := 20) (v := ?_) rfl (by kernel_rfl) (by kernel_rfl) (by kernel_rfl) (fun _ _ _ h => h) (Or.inl ⟨by rfl, ?_⟩) hHeld ?_; rotate_left; (focus (intro w hSw; (try dsimp only at hSw); go_simp; try with_reducible rfl)); (try simp only [Act.put, List.setIfInBounds_toArray, List.set_cons_zero, List.set_cons_succ, List.getElem_toArray, List.getElem_cons_zero, List.getElem_cons_succ]))
      refine wpAnyH_done (by kernel_rfl) ?_ _
      have HO4 := Lib.hid ho4
      have HBW4 := Lib.hid hHeld
      have HBD4 : Hid (Bods w4 X (M ++ [(⟨q, s.tk, b⟩, .slice za m zc)])) := by
        have hnb : ∀ j, u6.ownBlock = some j → NoB (w3.alloc (.cells #[.int .u64 (q : Int), .int .u64 (s.tk : Int), .slice za m zc] 94)) j := fun j hj => own_noB (OwnS.later HO3.out (ba1 _ _)) hj
        intro y hy
        rcases List.mem_append.1 hy with hy | hy
        · exact (Bods.later HBD3.out (ba1 _ _)).grown hg4 hnb y hy
        · simp at hy; subst hy
          exact (Bod.later HBO.out (ba1 _ _)).grown hg4 hnb
      have HM4 : Hid ((M ++ [((⟨q, s.tk, b⟩ : Sg), Value.slice za m zc)]).map (·.1) = segL (s.ac + f) s.tk ((s.line.take (i + 1)).drop f)) := by
        show _ = _
        rw [seg_step s.ac s.tk s.line f i b HFI.out HBB.out, List.map_append, HM.out, HQ.out]; rfl
      clear ho4 hb4 hg4
      go_wp2_with fail
      go_roundw
      case rel => exact ⟨i + 1, _, by omega, by go_num, by show _ ≤ _; have := HFI.out; omega, HM4, HO4, HBD4, HBW4⟩
      case measure => simp [intOf]; omega
    · have e : i = T := by omega
      subst e
      go_wp2_with fail
      go_ret
      refine ⟨_, M, rfl, ?_, HO.out.weak HWS.out, HBD.out, HP.out.later HBW.out, HC.out.trans (Chg.of_below _ HBW.out)⟩
      rw [← HTT.out]; exact HM.out
end Go.Proofs.Ytghaajmalhcgbaa
