/- The chapter's rows: the walk of the law's 'known'.
   A session is never come back to: views rise; plainly.
   A map whose keys are views: what it holds; a look at a key that is not there, and one that is laid anew. -/
import Derived.DeepKeys3
import Derived.MapKept
import Derived.Test.YtcedninipbafaaaZ04

set_option linter.unusedSimpArgs false
set_option linter.unusedVariables false
namespace Go.Proofs.Ytcedninipbafaaa
open Go.RowKit

theorem viewLaw : WideMaps.KeyLaw Try.prog 40 := deep_law (m := 3) (by omega) (by kernel_rfl) (by kernel_rfl) (by kernel_rfl)
/-- A view as a key may be. -/
structure KyV (v : Vw) : Prop where
  s0 : 0 ≤ v.st
  s1 : v.st ≤ 2
  m : TgOk v.mb v.mt
  t : TgOk v.tb v.tt
  n0 : 0 ≤ v.n
  n1 : v.n ≤ 16
def vv (v : Vw) : Value := .agg #[.int .i64 v.st, .int .u64 v.mb, .int .u64 v.mt, .int .u64 v.tb, .int .u64 v.tt, .int .i64 v.n]
theorem key_vv {v : Vw} (h : KyV v) : ∃ l, keyOf Try.prog 40 (vv v) = some l := by
  obtain ⟨s0, s1, ⟨m0, m1, m2, m3⟩, ⟨t0, t1, t2, t3⟩, n0, n1⟩ := h
  have hf : (Try.prog.keyType 40 && (vv v).formed Try.prog 40) = true := by kernel_rfl
  have e0 : IntKind.u64.min = 0 := rfl
  have e1 : IntKind.u64.max = 18446744073709551615 := rfl
  have e2 : IntKind.i64.min = -9223372036854775808 := rfl
  have e3 : IntKind.i64.max = 9223372036854775807 := rfl
  have wu : ∀ x : Int, 0 ≤ x → x ≤ 18446744073709551615 → (Lit.int .u64 x).wf = true := by
    intro x h0 h1
    show (decide (IntKind.u64.min ≤ x) && decide (x ≤ IntKind.u64.max)) = true
    rw [e0, e1]; simp; omega
  have wi : ∀ x : Int, 0 ≤ x → x ≤ 16 → (Lit.int .i64 x).wf = true := by
    intro x h0 h1
    show (decide (IntKind.i64.min ≤ x) && decide (x ≤ IntKind.i64.max)) = true
    rw [e2, e3]; simp; omega
  have k0 : ∀ d, Try.prog.keyLits (d + 1) 38 [.int .i64 v.st] = some [.int .i64 v.st] := by
    intro d
    unfold Program.keyLits
    rw [Try.underlying38]
    simp [wi v.st s0 (by omega)]
  have k1 : ∀ d, Try.prog.keyLits (d + 1) 3 [.int .i64 v.n] = some [.int .i64 v.n] := by
    intro d
    unfold Program.keyLits
    rw [Try.underlying3]
    simp [wi v.n n0 n1]
  have ku : ∀ d (x : Int), 0 ≤ x → x ≤ 18446744073709551615 → Try.prog.keyLits (d + 1) 23 [.int .u64 x] = some [.int .u64 x] := by
    intro d x h0 h1
    unfold Program.keyLits
    rw [Try.underlying23]
    simp [wu x h0 h1]
  have c0 : Try.prog.cellsOf 40 = 6 := by kernel_rfl
  have c1 : Try.prog.cellsOf 38 = 1 := by kernel_rfl
  have c2 : Try.prog.cellsOf 3 = 1 := by kernel_rfl
  have c3 : Try.prog.cellsOf 25 = 2 := by kernel_rfl
  have c4 : Try.prog.cellsOf 23 = 1 := by kernel_rfl
  have kt : ∀ d (a b : Int), 0 ≤ a → a ≤ 18446744073709551615 → 0 ≤ b → b ≤ 18446744073709551615 → Try.prog.keyLits (d + 2) 25 [.int .u64 a, .int .u64 b] = some [.int .u64 a, .int .u64 b] := by
    intro d a b a0 a1 b0 b1
    unfold Program.keyLits
    rw [Try.underlying25]
    simp [c3, c4, ku d a a0 a1, ku d b b0 b1]
  obtain ⟨m, hm⟩ : ∃ m, Try.prog.types.size = m + 2 := ⟨_, rfl⟩
  unfold keyOf
  rw [Try.underlying40]
  simp only [hf, if_true, hm]
  unfold Program.keyLits
  rw [Try.underlying40]
  simp [vv, Value.cells, c0, c1, c2, c3, k0, k1, kt m v.mb v.mt m0 m1 m2 m3, kt m v.tb v.tt t0 t1 t2 t3]
theorem vv_inj {u v : Vw} (h : vv u = vv v) : u = v := by
  cases u; cases v
  unfold vv at h
  simp at h
  simp [h]
/-- A map's block holds these. -/
structure MVw (g : Nat) (S : List Vw) (w : World) : Prop where
  ex : ∃ es clock, w.heap[g]? = some (.map es clock) ∧ es.toList.map (fun e => e.key) = S.map vv
  ok : ∀ v ∈ S, KyV v
theorem MVw.lt {g : Nat} {S : List Vw} {w : World} (h : MVw g S w) : g < w.heap.size := by obtain ⟨es, c, hb, _⟩ := h.ex; exact (Array.getElem?_eq_some_iff.1 hb).1
theorem MVw.new (w : World) : MVw w.heap.size [] (w.alloc (.map #[] 0)) := ⟨⟨#[], 0, World.alloc_heap_new w _, rfl⟩, by simp⟩
theorem MVw.chg {g : Nat} {S : List Vw} {w w' : World} (h : MVw g S w) {l : List Nat} (hm : Chg l w w') (hg : g ∉ l) : MVw g S w' := by
  obtain ⟨es, c, hb, e⟩ := h.ex
  exact ⟨⟨es, c, hm.heap hb hg, e⟩, h.ok⟩
theorem MVw.later {g : Nat} {S : List Vw} {w w' : World} (h : MVw g S w) (hb : Below w.heap.size w w') : MVw g S w' := h.chg (Chg.of_below [] hb) (by simp)
theorem chg_mapV (w : World) (g : Nat) (o : Obj) : Chg [g] w { w with heap := w.heap.setIfInBounds g o } :=
  ⟨⟨rfl, rfl, rfl, by simp, fun b hb => by omega⟩, fun b _ hb => by
    have : g ≠ b := fun e => hb (by simp [e])
    show (w.heap.setIfInBounds g o)[b]? = _
    simp [this]⟩
theorem MVw.find {g : Nat} {S : List Vw} {w : World} (h : MVw g S w) {es : Array MapEntry} (e : es.toList.map (fun e => e.key) = S.map vv) {v : Vw} (hv : KyV v) (hn : v ∉ S) (W : World) :
    (Instr.findKey 40 (vv v) es.toList).run Try.prog W = .ok none W := by
  obtain ⟨l, hl⟩ := key_vv hv
  have hall : ∀ x ∈ es.toList, ∃ l, keyOf Try.prog 40 x.key = some l := by
    intro x hx
    have : x.key ∈ S.map vv := by rw [← e]; exact List.mem_map.2 ⟨x, hx, rfl⟩
    obtain ⟨y, hy, hxy⟩ := List.mem_map.1 this
    obtain ⟨l, hl⟩ := key_vv (h.ok y hy)
    exact ⟨l, by rw [← hxy]; exact hl⟩
  rcases viewLaw.find W hl es.toList hall with ⟨h1, h2⟩ | ⟨j, e0, h1, h2, h3⟩
  · exact h1
  · exfalso
    have hm : e0.key ∈ S.map vv := by rw [← e]; exact List.mem_map.2 ⟨e0, List.mem_of_getElem? h2, rfl⟩
    obtain ⟨y, hy, hxy⟩ := List.mem_map.1 hm
    have : y = v := vv_inj (hxy.trans h3)
    exact hn (this ▸ hy)
theorem run_lookV {mt e : TypeId} (hm : Try.prog.underlying mt = some (.map 40 e)) {z : Value} (hz : ∀ w, (zeroValue e).run Try.prog w = .ok z w) {g : Nat} {S : List Vw} {w : World} (h : MVw g S w) {v : Vw} (hv : KyV v) (hn : v ∉ S) :
    (Instr.lookup mt (.map (some g)) (vv v) false).run Try.prog w = .ok z w := by
  obtain ⟨es, clock, hb, e⟩ := h.ex
  obtain ⟨l, hl⟩ := key_vv hv
  have hc := viewLaw.check w es.isEmpty hl
  have h1 := h.find e hv hn w
  simp [Instr.lookup, run_underlying hm, MapKept.run_getObj_map hb, hc, h1, hz w, Result.andThen]
theorem run_updV {mt e : TypeId} (hm : Try.prog.underlying mt = some (.map 40 e)) {g : Nat} {S : List Vw} {w : World} (h : MVw g S w) {v : Vw} (hv : KyV v) (hn : v ∉ S) (x : Value) :
    ∃ w', (Instr.mapUpdate mt (.map (some g)) (vv v) x).run Try.prog w = .ok () w' ∧ MVw g (S ++ [v]) w' ∧ Chg [g] w w' := by
  obtain ⟨es, clock, hb, e⟩ := h.ex
  obtain ⟨l, hl⟩ := key_vv hv
  have hc := viewLaw.check w false hl
  have h1 := h.find e hv hn w
  refine ⟨{ w with heap := w.heap.setIfInBounds g (.map (es.push { key := vv v, val := x, born := clock }) (clock + 1)) }, ?_, ⟨⟨_, _, (MapKept.heap_set hb).1, ?_⟩, ?_⟩, chg_mapV w g _⟩
  · simp [Instr.mapUpdate, run_underlying hm, MapKept.run_getObj_map hb, hc, h1, MapKept.run_setObj_map _ hb, Result.andThen]
  · rw [Array.toList_push, List.map_append, List.map_append, e]; rfl
  · intro u hu
    rcases List.mem_append.1 hu with hu | hu
    · exact h.ok u hu
    · rw [List.mem_singleton.1 hu]; exact hv
end Go.Proofs.Ytcedninipbafaaa

namespace Go.Proofs.Ytcedninipbafaaa
open Go.RowKit

/-- One view behind another. -/
def lt4 (u v : Vw) : Prop := u.mt < v.mt ∨ u.mt = v.mt ∧ (u.tb < v.tb ∨ u.tb = v.tb ∧ (u.tt < v.tt ∨ u.tt = v.tt ∧ u.st < v.st))
theorem lt4.trans {u v x : Vw} (h : lt4 u v) (h2 : lt4 v x) : lt4 u x := by unfold lt4 at *; omega
theorem lt4.irrefl {u : Vw} (h : lt4 u u) : False := by unfold lt4 at h; omega
theorem wrap_u {x : Int} (h : 0 ≤ x) (h2 : x ≤ 1000) : IntKind.u64.wrap (x + 1) = x + 1 := IntWalk.u64_in _ ⟨by omega, by omega⟩
/-- What is so of the adjacency behind so many acts. -/
structure Bd (a : Ad) (i : Nat) : Prop where
  inv : Inv a
  mb : a.v.mb = 5
  m0 : 1 ≤ a.v.mt
  m1 : a.v.mt ≤ i + 1
  t : TgOk a.v.tb a.v.tt
  n0 : 0 ≤ a.v.n
  n1 : a.v.n ≤ 16
theorem Bd.key {a : Ad} {i : Nat} (h : Bd a i) (hi : i ≤ 200) : KyV a.v := by
  have := h.m0; have := h.m1; have hm := h.mb
  exact ⟨by rcases h.inv.st with q | q | q <;> omega, by rcases h.inv.st with q | q | q <;> omega, ⟨by omega, by omega, by omega, by omega⟩, h.t, h.n0, h.n1⟩
/-- A step: the view stands, or rises. -/
structure Stp (v v' : Vw) : Prop where
  mb : v'.mb = v.mb
  m0 : v.mt ≤ v'.mt
  m1 : v'.mt ≤ v.mt + 1
  up : v' = v ∨ lt4 v v'
theorem Stp.rfl {v : Vw} : Stp v v := ⟨by rfl, by omega, by omega, .inl (by rfl)⟩
theorem Stp.an {v : Vw} (h : 0 ≤ v.mt) (h2 : v.mt ≤ 1000) : Stp v (anV v) := by
  have e : (anV v).mt = v.mt + 1 := wrap_u h h2
  exact ⟨by rfl, by omega, by omega, .inr (.inl (by omega))⟩
theorem upV_2 {v : Vw} {h : Hl} (hs : v.st = 1 ∨ v.st = 2) : upV v h = v ∨ v.st = 1 ∧ upV v h = ⟨2, v.mb, v.mt, v.tb, v.tt, v.n⟩ := by
  unfold upV
  split
  · rcases hs with q | q
    · exact .inr ⟨q, by rfl⟩
    · left; cases v; simp only at q; subst q; rfl
  · exact .inl (by rfl)
theorem step_heed {a : Ad} (hI : Inv a) (h0 : 0 ≤ a.v.mt) (h1 : a.v.mt ≤ 1000) (ht : TgOk a.v.tb a.v.tt) (hn0 : 0 ≤ a.v.n) (hn1 : a.v.n ≤ 16) (g : Hl) (hg : TgOk g.mb g.mt) (hm : mayHl g = true) :
    Stp a.v (heedA a g).v ∧ TgOk (heedA a g).v.tb (heedA a g).v.tt ∧ (0 ≤ (heedA a g).v.n ∧ (heedA a g).v.n ≤ 16) ∧
      (0 < a.v.st → 0 < (heedA a g).v.st → (heedA a g).v.n = a.v.n → eldI (heedA a g).v.tb (heedA a g).v.tt a.v.tb a.v.tt = false) := by
  obtain ⟨m1, m2, m3, m4⟩ := mayHl_iff.1 hm
  have noeld : ∀ x y : Int, eldI x y x y = false := fun x y => decide_eq_false (by omega)
  unfold heedA
  by_cases hs : stay a g = true
  · rw [if_pos hs]
    exact ⟨Stp.rfl, ht, ⟨hn0, hn1⟩, fun _ _ _ => noeld _ _⟩
  · rw [if_neg hs]
    simp only
    obtain ⟨u1, u2, u3, u4, u5, u6⟩ := upV_rest (nowV a.v g) g
    have e0 : g.n ≠ a.node := fun e => hs (by unfold stay; simp [e])
    have e1 : g.n = a.v.n → eldI g.mb g.mt a.v.tb a.v.tt = false := fun e => by
      cases q : eldI g.mb g.mt a.v.tb a.v.tt with
      | false => rfl
      | true => exact absurd (by unfold stay; rw [q]; simp [e]) hs
    rw [u3, u4, u5]
    by_cases c1 : a.v.st ≠ 0 ∧ g.n ≠ a.v.n
    · have en : nowV a.v g = setV (anV a.v) g := by unfold nowV; rw [if_pos c1]
      have em : (nowV a.v g).mt = a.v.mt + 1 := by rw [en]; exact wrap_u h0 h1
      refine ⟨⟨by rw [u1, en]; rfl, by rw [u2, em]; omega, by rw [u2, em]; omega, .inr (.inl (by rw [u2, em]; omega))⟩, by rw [en]; exact hg, by rw [en]; exact ⟨by show 0 ≤ g.n; omega, m2⟩, fun _ _ q => ?_⟩
      rw [en] at q
      exact absurd q c1.2
    · by_cases c2 : a.v.st ≠ 0 ∧ g.mb = a.v.tb ∧ g.mt = a.v.tt
      · have en : nowV a.v g = a.v := by unfold nowV; rw [if_neg c1, if_pos c2]
        rw [en]
        have hst : a.v.st = 1 ∨ a.v.st = 2 := by rcases hI.st with q | q | q; exact absurd q c2.1; exact .inl q; exact .inr q
        refine ⟨?_, ht, ⟨hn0, hn1⟩, fun _ _ _ => noeld _ _⟩
        rcases upV_2 (h := g) hst with e | ⟨e2, e⟩
        · rw [e]; exact Stp.rfl
        · rw [e]; exact ⟨by rfl, by simp only; omega, by simp only; omega, .inr (.inr ⟨by rfl, .inr ⟨by rfl, .inr ⟨by rfl, by simp only; omega⟩⟩⟩)⟩
      · have en : nowV a.v g = setV a.v g := by unfold nowV; rw [if_neg c1, if_neg c2]
        rw [en] at u1 u2 u3 u4 u5 ⊢
        have hlt : a.v.tb < g.mb ∨ a.v.tb = g.mb ∧ a.v.tt < g.mt := by
          by_cases z : a.v.st = 0
          · have := hI.down z; have := hg.b0; omega
          · have hn : g.n = a.v.n := by
              by_cases w : g.n = a.v.n
              · exact w
              · exact absurd ⟨z, w⟩ c1
            have := of_decide_eq_false (e1 hn)
            have : ¬ (g.mb = a.v.tb ∧ g.mt = a.v.tt) := fun q => c2 ⟨z, q⟩
            omega
        refine ⟨⟨u1, by rw [u2]; simp [setV], by rw [u2]; simp only [setV]; omega, .inr (.inr ⟨by rw [u2]; rfl, ?_⟩)⟩, hg, ⟨by show 0 ≤ g.n; omega, m2⟩, fun _ _ _ => ?_⟩
        · rw [u3, u4]
          show a.v.tb < g.mb ∨ a.v.tb = g.mb ∧ (a.v.tt < g.mt ∨ _)
          rcases hlt with q | q
          · exact .inl q
          · exact .inr ⟨q.1, .inl q.2⟩
        · show eldI g.mb g.mt a.v.tb a.v.tt = false
          exact decide_eq_false (by omega)
theorem step_act {a : Ad} {i : Nat} (hB : Bd a i) (hi : i ≤ 200) (x : AcA) (hx : x.Ok) (s : Int) :
    Bd (actA a x s) (i + 1) ∧ Stp a.v (actA a x s).v ∧ (x.k = 1 → 0 < a.v.st → 0 < (actA a x s).v.st → (actA a x s).v.n = a.v.n → eldI (actA a x s).v.tb (actA a x s).v.tt a.v.tb a.v.tt = false) := by
  have hI' := hB.inv.act x s
  have hm0 := hB.m0
  have hm1 := hB.m1
  have fin : ∀ a' : Ad, Inv a' → Stp a.v a'.v → TgOk a'.v.tb a'.v.tt → (0 ≤ a'.v.n ∧ a'.v.n ≤ 16) → Bd a' (i + 1) := fun a' h1 h2 h3 h4 =>
    ⟨h1, by rw [h2.mb]; exact hB.mb, by have := h2.m0; omega, by have := h2.m1; omega, h3, h4.1, h4.2⟩
  have zz : TgOk 0 0 := ⟨by omega, by omega, by omega, by omega⟩
  by_cases k1 : x.k = 1
  · have ea : actA a x s = hearA a x.h := if_pos k1
    rw [ea] at hI' ⊢
    by_cases hm : mayHl x.h = true
    · have e2 : hearA a x.h = heedA a x.h := if_pos hm
      rw [e2] at hI' ⊢
      obtain ⟨h1, h2, h3, h4⟩ := step_heed hB.inv (by omega) (by omega) hB.t hB.n0 hB.n1 x.h hx.m hm
      exact ⟨fin _ hI' h1 h2 h3, h1, fun _ => h4⟩
    · have e2 : hearA a x.h = a := if_neg hm
      rw [e2] at hI' ⊢
      exact ⟨fin _ hI' Stp.rfl hB.t ⟨hB.n0, hB.n1⟩, Stp.rfl, fun _ _ _ _ => decide_eq_false (by omega)⟩
  refine ⟨?_, ?_, fun q => absurd q k1⟩
  all_goals by_cases k2 : x.k = 2
  · have ea : actA a x s = tickA a s := by unfold actA; rw [if_neg k1, if_pos k2]
    rw [ea] at hI' ⊢
    unfold tickA at hI' ⊢
    split at hI'
    · rename_i c; rw [if_pos c]; exact fin _ hI' (Stp.an (by omega) (by omega)) zz ⟨by simp [anV], by simp [anV]⟩
    · rename_i c; rw [if_neg c]; exact fin _ hI' Stp.rfl hB.t ⟨hB.n0, hB.n1⟩
  · by_cases k3 : x.k = 3
    · have ea : actA a x s = dropA a := by unfold actA; rw [if_neg k1, if_neg k2, if_pos k3]
      rw [ea] at hI' ⊢
      exact fin _ hI' (Stp.an (by omega) (by omega)) zz ⟨by simp [anV, dropA], by simp [anV, dropA]⟩
    · have ea : actA a x s = a := by unfold actA; rw [if_neg k1, if_neg k2, if_neg k3]
      rw [ea] at hI' ⊢
      exact fin _ hI' Stp.rfl hB.t ⟨hB.n0, hB.n1⟩
  · have ea : actA a x s = tickA a s := by unfold actA; rw [if_neg k1, if_pos k2]
    rw [ea]
    unfold tickA
    split
    · exact Stp.an (by omega) (by omega)
    · exact Stp.rfl
  · by_cases k3 : x.k = 3
    · have ea : actA a x s = dropA a := by unfold actA; rw [if_neg k1, if_neg k2, if_pos k3]
      rw [ea]
      exact Stp.an (by omega) (by omega)
    · have ea : actA a x s = a := by unfold actA; rw [if_neg k1, if_neg k2, if_neg k3]
      rw [ea]
      exact Stp.rfl
end Go.Proofs.Ytcedninipbafaaa

namespace Go.Proofs.Ytcedninipbafaaa
open Go.RowKit
attribute [local go_sem ↓] Go.wp_at_zero Go.wp_at_succ
attribute [local go_sem ↓ high] eqTI neTI eqVI neVI

def ka0 : Ad := ⟨1, 3, 9, 2, 0, 0, 5, 1, 0, 0, 0⟩
def kb0 : Ad := ⟨2, 3, 9, 2, 0, 0, 7, 1, 0, 0, 0⟩
def ka1 : Ad := ⟨1, 3, 9, 2, 0, 2, 5, 1, 7, 1, 2⟩
def kb1 : Ad := ⟨2, 3, 9, 2, 0, 1, 7, 1, 5, 1, 1⟩
def kb2 : Ad := ⟨2, 3, 9, 2, 0, 2, 7, 1, 5, 1, 1⟩
theorem inv_k {a : Ad} (h1 : 1 ≤ a.node) (h2 : a.v.st = 0 ∨ a.v.st = 1 ∨ a.v.st = 2) (h3 : a.v.st = 0 → a.v.tb = 0 ∧ a.v.tt = 0 ∧ a.v.n = 0) (h4 : a.v.st ≠ 0 → a.v.tb ≠ 0 ∧ a.v.n ≠ a.node ∧ 1 ≤ a.v.n) : Inv a := ⟨h1, h2, h3, h4⟩
theorem ika0 : Inv ka0 := ⟨by decide, by decide, by decide, by decide⟩
theorem ikb0 : Inv kb0 := ⟨by decide, by decide, by decide, by decide⟩
theorem ikb1 : Inv kb1 := ⟨by decide, by decide, by decide, by decide⟩
theorem k_1 : hearA kb0 ⟨1, 5, 1, 0, 0⟩ = kb1 := by kernel_rfl
theorem k_2 : hearA ka0 ⟨2, 7, 1, 5, 1⟩ = ka1 := by kernel_rfl
theorem k_3 : hearA kb1 ⟨1, 5, 1, 7, 1⟩ = kb2 := by kernel_rfl
theorem k_1e : (if mayHl ⟨1, 5, 1, 0, 0⟩ = true then cameI kb0.v (hearA kb0 ⟨1, 5, 1, 0, 0⟩).v else 0) = 0 ∧ (if mayHl ⟨1, 5, 1, 0, 0⟩ = true then 0 else 2 : Int) = 0 := ⟨by kernel_rfl, by kernel_rfl⟩
theorem k_2e : (if mayHl ⟨2, 7, 1, 5, 1⟩ = true then cameI ka0.v (hearA ka0 ⟨2, 7, 1, 5, 1⟩).v else 0) = 1 ∧ (if mayHl ⟨2, 7, 1, 5, 1⟩ = true then 0 else 2 : Int) = 0 := ⟨by kernel_rfl, by kernel_rfl⟩
theorem k_3e : (if mayHl ⟨1, 5, 1, 7, 1⟩ = true then cameI kb1.v (hearA kb1 ⟨1, 5, 1, 7, 1⟩).v else 0) = 1 ∧ (if mayHl ⟨1, 5, 1, 7, 1⟩ = true then 0 else 2 : Int) = 0 := ⟨by kernel_rfl, by kernel_rfl⟩
theorem k_acc : accB ka1.v 2 5 1 7 1 = true ∧ accB kb2.v 1 7 1 5 1 = true := ⟨by kernel_rfl, by kernel_rfl⟩
theorem sayK {p : Nat} {a : Ad} {w : World} (h : PA p a w) (hn : a.node ≠ 0) {n ob ot tb tt : Int} (h1 : a.node = n) (h2 : a.v.mb = ob) (h3 : a.v.mt = ot) (h4 : a.v.tb = tb) (h5 : a.v.tt = tt) :
    Calls Try.prog 16 #[.pointer (some ⟨p, 0, none⟩)] w fun e w' => e = .returned (.tuple #[.agg #[.int .i64 n, .int .u64 ob, .int .u64 ot, .int .u64 tb, .int .u64 tt], .int .i64 0]) ∧ Below w.heap.size w w' := by
  subst h1 h2 h3 h4 h5
  exact sayW h hn
theorem viewK {p : Nat} {a : Ad} {w : World} (h : PA p a w) (hn : a.node ≠ 0) {s n ob ot tb tt : Int} (h0 : a.v.st = s) (h1 : a.v.n = n) (h2 : a.v.mb = ob) (h3 : a.v.mt = ot) (h4 : a.v.tb = tb) (h5 : a.v.tt = tt) :
    Calls Try.prog 11 #[.pointer (some ⟨p, 0, none⟩)] w fun e w' => e = .returned (.agg #[.int .i64 s, .int .u64 ob, .int .u64 ot, .int .u64 tb, .int .u64 tt, .int .i64 n]) ∧ Below w.heap.size w w' := by
  subst h0 h1 h2 h3 h4 h5
  exact viewW h hn
theorem field_V (s a b c d n : Int) (W : World) : (Instr.field 40 (.agg #[.int .i64 s, .int .u64 a, .int .u64 b, .int .u64 c, .int .u64 d, .int .i64 n]) 0).run Try.prog W = .ok (.int .i64 s) W := rfl
attribute [local go_sem ↓ high] field_V
/-- Hear, of one that is known. -/
theorem hearK {p : Nat} {a b : Ad} {w : World} (hA : PA p a w) (hI : Inv a) (h : Hl) {ev er : Int} (e1 : hearA a h = b) (e2 : (if mayHl h = true then cameI a.v (hearA a h).v else 0) = ev ∧ (if mayHl h = true then 0 else 2 : Int) = er) :
    Calls Try.prog 13 #[.pointer (some ⟨p, 0, none⟩), .agg #[.int .i64 h.n, .int .u64 h.mb, .int .u64 h.mt, .int .u64 h.hb, .int .u64 h.ht]] w fun e w' => e = .returned (.tuple #[.int .i64 ev, .int .i64 er]) ∧ PA p b w' ∧ Chg [p] w w' := by
  have := hearW hA hI h
  unfold HrA at this
  rw [e2.1, e2.2, e1] at this
  exact this
set_option maxHeartbeats 8000000 in
set_option maxRecDepth 100000 in
theorem knownA (w : World) : Calls Try.prog 7 #[] w fun e w' => e = .returned (.bool true) ∧ Below w.heap.size w w' := by
  go_enter Try.func7, Try.ntmps7
  go_wp2_with fail
  refine (newW 1 5 w (by omega) (by omega) (by omega)).mono ?_
  rintro e w1 ⟨rfl, hP, hb⟩
  have HA1 := Lib.hid (show PA w.heap.size ka0 w1 from hP)
  have HB1 := Lib.hid hb
  clear hP hb
  go_wp2_with fail
  refine (newW 2 7 w1 (by omega) (by omega) (by omega)).mono ?_
  rintro e w2 ⟨rfl, hP, hb⟩
  have HA2 := Lib.hid (HA1.out.later hb)
  have HQ2 := Lib.hid (show PA w1.heap.size kb0 w2 from hP)
  have HB2 := Lib.hid (below_of HB1.out hb)
  have HL : Hid (w.heap.size < w1.heap.size) := by
    have : w.heap.size < w1.heap.size := HA1.out.lt
    exact this
  clear hP hb
  go_wp2_with fail
  refine (sayK HA2.out (by decide) (n := 1) (ob := 5) (ot := 1) (tb := 0) (tt := 0) rfl rfl rfl rfl rfl).mono ?_
  rintro e w3 ⟨rfl, hb⟩
  obtain ⟨w4, hw4⟩ : ∃ W, W = w3.alloc (.cells #[.int .i64 1, .int .u64 5, .int .u64 1, .int .u64 0, .int .u64 0] 35) := ⟨_, rfl⟩
  have hb4 : Below w2.heap.size w2 w4 := by rw [hw4]; exact hb.alloc hb.size _
  have hX : BlkAt 35 w3.heap.size [.int .i64 1, .int .u64 5, .int .u64 1, .int .u64 0, .int .u64 0] w4 := by rw [hw4]; exact BlkAt.new w3 _
  have HA4 := Lib.hid (HA2.out.later hb4)
  have HQ4 := Lib.hid (HQ2.out.later hb4)
  have HB4 := Lib.hid (below_of HB2.out hb4)
  have HX4 := Lib.hid hX
  have HLX : Hid (w1.heap.size < w3.heap.size) := by
    have : w1.heap.size < w3.heap.size := by have := HQ2.out.lt; have := hb.size; omega
    exact this
  have HH := Lib.hid (hearK HQ4.out ikb0 ⟨1, 5, 1, 0, 0⟩ k_1 k_1e)
  have HW := Lib.hid hw4
  rw [hw4] at hX
  have x0 := BlkAt.cell hX (j := 0) rfl; have x1 := BlkAt.cell hX (j := 1) rfl; have x2 := BlkAt.cell hX (j := 2) rfl; have x3 := BlkAt.cell hX (j := 3) rfl; have x4 := BlkAt.cell hX (j := 4) rfl
  clear hb hb4 hw4 hX
  go_wp2_with fail
  rw [← HW.out]
  refine HH.out.mono ?_
  rintro e w5 ⟨rfl, hP, hC⟩
  have HA5 := Lib.hid (HA4.out.chg hC (by have := HL.out; simp; omega))
  have HQ5 := Lib.hid hP
  have HX5 := Lib.hid (hC.blk HX4.out (by have := HLX.out; simp; omega))
  have HB5 := Lib.hid (hC.onA HB4.out (by have := HL.out; simp; omega))
  clear hP hC x0 x1 x2 x3 x4
  go_wp2_with fail
  refine (viewK HQ5.out (by decide) (s := 1) (n := 1) (ob := 7) (ot := 1) (tb := 5) (tt := 1) rfl rfl rfl rfl rfl rfl).mono ?_
  rintro e w6 ⟨rfl, hb⟩
  have HA6 := Lib.hid (HA5.out.later hb)
  have HQ6 := Lib.hid (HQ5.out.later hb)
  have HX6 := Lib.hid (BlkAt.later HX5.out hb)
  have HB6 := Lib.hid (below_of HB5.out hb)
  clear hb
  go_wp2_with fail
  refine (sayK HQ6.out (by decide) (n := 2) (ob := 7) (ot := 1) (tb := 5) (tt := 1) rfl rfl rfl rfl rfl).mono ?_
  rintro e w7 ⟨rfl, hb⟩
  obtain ⟨w8, hw8⟩ : ∃ W, W = w7.alloc (.cells #[.int .i64 2, .int .u64 7, .int .u64 1, .int .u64 5, .int .u64 1] 35) := ⟨_, rfl⟩
  have hb8 : Below w6.heap.size w6 w8 := by rw [hw8]; exact hb.alloc hb.size _
  have hY : BlkAt 35 w7.heap.size [.int .i64 2, .int .u64 7, .int .u64 1, .int .u64 5, .int .u64 1] w8 := by rw [hw8]; exact BlkAt.new w7 _
  have HA8 := Lib.hid (HA6.out.later hb8)
  have HQ8 := Lib.hid (HQ6.out.later hb8)
  have HX8 := Lib.hid (BlkAt.later HX6.out hb8)
  have HB8 := Lib.hid (below_of HB6.out hb8)
  have HH := Lib.hid (hearK HA8.out ika0 ⟨2, 7, 1, 5, 1⟩ k_2 k_2e)
  have HW8 := Lib.hid hw8
  rw [hw8] at hY
  have y0 := BlkAt.cell hY (j := 0) rfl; have y1 := BlkAt.cell hY (j := 1) rfl; have y2 := BlkAt.cell hY (j := 2) rfl; have y3 := BlkAt.cell hY (j := 3) rfl; have y4 := BlkAt.cell hY (j := 4) rfl
  clear hb hb8 hw8 hY
  go_wp2_with fail
  rw [← HW8.out]
  refine HH.out.mono ?_
  rintro e w9 ⟨rfl, hP, hC⟩
  have HA9 := Lib.hid hP
  have HQ9 := Lib.hid (HQ8.out.chg hC (by have := HL.out; simp; omega))
  have HX9 := Lib.hid (hC.blk HX8.out (by have := HLX.out; have := HL.out; simp; omega))
  have HB9 := Lib.hid (hC.onA HB8.out (by simp))
  clear hP hC y0 y1 y2 y3 y4
  go_wp2_with fail
  refine (sayK HA9.out (by decide) (n := 1) (ob := 5) (ot := 1) (tb := 7) (tt := 1) rfl rfl rfl rfl rfl).mono ?_
  rintro e wa ⟨rfl, hb⟩
  have hXa := BlkAt.later HX9.out hb
  have x0 := BlkAt.cell hXa (j := 0) rfl; have x1 := BlkAt.cell hXa (j := 1) rfl; have x2 := BlkAt.cell hXa (j := 2) rfl; have x3 := BlkAt.cell hXa (j := 3) rfl; have x4 := BlkAt.cell hXa (j := 4) rfl
  have hfz : ∀ j, wa.frozen? ⟨w3.heap.size, j, none⟩ = false := fun j => BlkAt.frozen hXa j
  obtain ⟨wb, hwb⟩ : ∃ W, W = ((((wa.setCell ⟨w3.heap.size, 0, none⟩ (.int .i64 1)).setCell ⟨w3.heap.size, 1, none⟩ (.int .u64 5)).setCell ⟨w3.heap.size, 2, none⟩ (.int .u64 1)).setCell ⟨w3.heap.size, 3, none⟩ (.int .u64 7)).setCell ⟨w3.heap.size, 4, none⟩ (.int .u64 1) := ⟨_, rfl⟩
  have hC : Chg [w3.heap.size] wa wb := by rw [hwb]; exact (((((Chg.refl [w3.heap.size] wa).set (by simp) 0 _).set (by simp) 1 _).set (by simp) 2 _).set (by simp) 3 _).set (by simp) 4 _
  have HQb := Lib.hid ((HQ9.out.later hb).chg hC (by have := HLX.out; simp; omega))
  have HAb := Lib.hid ((HA9.out.later hb).chg hC (by have := HLX.out; have := HL.out; simp; omega))
  have HBb := Lib.hid (hC.onA (below_of HB9.out hb) (by have := HLX.out; have := HL.out; simp; omega))
  have HH := Lib.hid (hearK HQb.out ikb1 ⟨1, 5, 1, 7, 1⟩ k_3 k_3e)
  have HWb := Lib.hid hwb
  clear hb hXa hwb hC
  go_wp2_with fail
  rw [← HWb.out]
  refine HH.out.mono ?_
  rintro e wc ⟨rfl, hP, hC⟩
  have HAc := Lib.hid (HAb.out.chg hC (by have := HL.out; simp; omega))
  have HQc := Lib.hid hP
  have HBc := Lib.hid (hC.onA HBb.out (by have := HL.out; simp; omega))
  clear hP hC x0 x1 x2 x3 x4 hfz
  go_wp2_with fail
  have HK := Lib.hid (acceptsW HAc.out (by decide) 2 5 1 7 1)
  rw [k_acc.1] at HK
  refine HK.out.mono ?_
  rintro e wd ⟨rfl, hb⟩
  have HQd := Lib.hid (HQc.out.later hb)
  have HBd := Lib.hid (below_of HBc.out hb)
  clear hb HK
  go_wp2_with fail
  have HK := Lib.hid (acceptsW HQd.out (by decide) 1 7 1 5 1)
  rw [k_acc.2] at HK
  refine HK.out.mono ?_
  rintro e we ⟨rfl, hb⟩
  have HBe := Lib.hid (below_of HBd.out hb)
  clear hb HK
  go_wp2_with fail
  go_ret
  exact ⟨rfl, HBe.out⟩
end Go.Proofs.Ytcedninipbafaaa
