/- Two that hear each other: plainly.
   A session is never come back to: views rise; plainly.
   A map whose keys are views: what it holds; a look at a key that is not there, and one that is laid anew. -/
import Derived.DeepKeys3
import Derived.MapKept
import Derived.Test.YtcedninipbafaaaZ08

set_option linter.unusedSimpArgs false
set_option linter.unusedVariables false
namespace Go.Proofs.Ytcedninipbafaaa
open Go.RowKit

theorem viewLaw : WideMaps.KeyLaw Try.prog 40 := deep_law (m := 3) (by omega) (by kernel_rfl) (by kernel_rfl) (by kernel_rfl)
/-- A view as a key may be. -/
structure KyV (v : Vw) : Prop where
  s0 : 0 ≤ v.st
  s1 : v.st ≤ 2
  m : TgOk v.mb v.mt
  t : TgOk v.tb v.tt
  n0 : 0 ≤ v.n
  n1 : v.n ≤ 16
def vv (v : Vw) : Value := .agg #[.int .i64 v.st, .int .u64 v.mb, .int .u64 v.mt, .int .u64 v.tb, .int .u64 v.tt, .int .i64 v.n]
theorem key_vv {v : Vw} (h : KyV v) : ∃ l, keyOf Try.prog 40 (vv v) = some l := by
  obtain ⟨s0, s1, ⟨m0, m1, m2, m3⟩, ⟨t0, t1, t2, t3⟩, n0, n1⟩ := h
  have hf : (Try.prog.keyType 40 && (vv v).formed Try.prog 40) = true := by kernel_rfl
  have e0 : IntKind.u64.min = 0 := rfl
  have e1 : IntKind.u64.max = 18446744073709551615 := rfl
  have e2 : IntKind.i64.min = -9223372036854775808 := rfl
  have e3 : IntKind.i64.max = 9223372036854775807 := rfl
  have wu : ∀ x : Int, 0 ≤ x → x ≤ 18446744073709551615 → (Lit.int .u64 x).wf = true := by
    intro x h0 h1
    show (decide (IntKind.u64.min ≤ x) && decide (x ≤ IntKind.u64.max)) = true
    rw [e0, e1]; simp; omega
  have wi : ∀ x : Int, 0 ≤ x → x ≤ 16 → (Lit.int .i64 x).wf = true := by
    intro x h0 h1
    show (decide (IntKind.i64.min ≤ x) && decide (x ≤ IntKind.i64.max)) = true
    rw [e2, e3]; simp; omega
  have k0 : ∀ d, Try.prog.keyLits (d + 1) 38 [.int .i64 v.st] = some [.int .i64 v.st] := by
    intro d
    unfold Program.keyLits
    rw [Try.underlying38]
    simp [wi v.st s0 (by omega)]
  have k1 : ∀ d, Try.prog.keyLits (d + 1) 3 [.int .i64 v.n] = some [.int .i64 v.n] := by
    intro d
    unfold Program.keyLits
    rw [Try.underlying3]
    simp [wi v.n n0 n1]
  have ku : ∀ d (x : Int), 0 ≤ x → x ≤ 18446744073709551615 → Try.prog.keyLits (d + 1) 23 [.int .u64 x] = some [.int .u64 x] := by
    intro d x h0 h1
    unfold Program.keyLits
    rw [Try.underlying23]
    simp [wu x h0 h1]
  have c0 : Try.prog.cellsOf 40 = 6 := by kernel_rfl
  have c1 : Try.prog.cellsOf 38 = 1 := by kernel_rfl
  have c2 : Try.prog.cellsOf 3 = 1 := by kernel_rfl
  have c3 : Try.prog.cellsOf 25 = 2 := by kernel_rfl
  have c4 : Try.prog.cellsOf 23 = 1 := by kernel_rfl
  have kt : ∀ d (a b : Int), 0 ≤ a → a ≤ 18446744073709551615 → 0 ≤ b → b ≤ 18446744073709551615 → Try.prog.keyLits (d + 2) 25 [.int .u64 a, .int .u64 b] = some [.int .u64 a, .int .u64 b] := by
    intro d a b a0 a1 b0 b1
    unfold Program.keyLits
    rw [Try.underlying25]
    simp [c3, c4, ku d a a0 a1, ku d b b0 b1]
  obtain ⟨m, hm⟩ : ∃ m, Try.prog.types.size = m + 2 := ⟨_, rfl⟩
  unfold keyOf
  rw [Try.underlying40]
  simp only [hf, if_true, hm]
  unfold Program.keyLits
  rw [Try.underlying40]
  simp [vv, Value.cells, c0, c1, c2, c3, k0, k1, kt m v.mb v.mt m0 m1 m2 m3, kt m v.tb v.tt t0 t1 t2 t3]
theorem vv_inj {u v : Vw} (h : vv u = vv v) : u = v := by
  cases u; cases v
  unfold vv at h
  simp at h
  simp [h]
/-- A map's block holds these. -/
structure MVw (g : Nat) (S : List Vw) (w : World) : Prop where
  ex : ∃ es clock, w.heap[g]? = some (.map es clock) ∧ es.toList.map (fun e => e.key) = S.map vv
  ok : ∀ v ∈ S, KyV v
theorem MVw.lt {g : Nat} {S : List Vw} {w : World} (h : MVw g S w) : g < w.heap.size := by obtain ⟨es, c, hb, _⟩ := h.ex; exact (Array.getElem?_eq_some_iff.1 hb).1
theorem MVw.new (w : World) : MVw w.heap.size [] (w.alloc (.map #[] 0)) := ⟨⟨#[], 0, World.alloc_heap_new w _, rfl⟩, by simp⟩
theorem MVw.chg {g : Nat} {S : List Vw} {w w' : World} (h : MVw g S w) {l : List Nat} (hm : Chg l w w') (hg : g ∉ l) : MVw g S w' := by
  obtain ⟨es, c, hb, e⟩ := h.ex
  exact ⟨⟨es, c, hm.heap hb hg, e⟩, h.ok⟩
theorem MVw.later {g : Nat} {S : List Vw} {w w' : World} (h : MVw g S w) (hb : Below w.heap.size w w') : MVw g S w' := h.chg (Chg.of_below [] hb) (by simp)
theorem chg_mapV (w : World) (g : Nat) (o : Obj) : Chg [g] w { w with heap := w.heap.setIfInBounds g o } :=
  ⟨⟨rfl, rfl, rfl, by simp, fun b hb => by omega⟩, fun b _ hb => by
    have : g ≠ b := fun e => hb (by simp [e])
    show (w.heap.setIfInBounds g o)[b]? = _
    simp [this]⟩
theorem MVw.find {g : Nat} {S : List Vw} {w : World} (h : MVw g S w) {es : Array MapEntry} (e : es.toList.map (fun e => e.key) = S.map vv) {v : Vw} (hv : KyV v) (hn : v ∉ S) (W : World) :
    (Instr.findKey 40 (vv v) es.toList).run Try.prog W = .ok none W := by
  obtain ⟨l, hl⟩ := key_vv hv
  have hall : ∀ x ∈ es.toList, ∃ l, keyOf Try.prog 40 x.key = some l := by
    intro x hx
    have : x.key ∈ S.map vv := by rw [← e]; exact List.mem_map.2 ⟨x, hx, rfl⟩
    obtain ⟨y, hy, hxy⟩ := List.mem_map.1 this
    obtain ⟨l, hl⟩ := key_vv (h.ok y hy)
    exact ⟨l, by rw [← hxy]; exact hl⟩
  rcases viewLaw.find W hl es.toList hall with ⟨h1, h2⟩ | ⟨j, e0, h1, h2, h3⟩
  · exact h1
  · exfalso
    have hm : e0.key ∈ S.map vv := by rw [← e]; exact List.mem_map.2 ⟨e0, List.mem_of_getElem? h2, rfl⟩
    obtain ⟨y, hy, hxy⟩ := List.mem_map.1 hm
    have : y = v := vv_inj (hxy.trans h3)
    exact hn (this ▸ hy)
theorem run_lookV {mt e : TypeId} (hm : Try.prog.underlying mt = some (.map 40 e)) {z : Value} (hz : ∀ w, (zeroValue e).run Try.prog w = .ok z w) {g : Nat} {S : List Vw} {w : World} (h : MVw g S w) {v : Vw} (hv : KyV v) (hn : v ∉ S) :
    (Instr.lookup mt (.map (some g)) (vv v) false).run Try.prog w = .ok z w := by
  obtain ⟨es, clock, hb, e⟩ := h.ex
  obtain ⟨l, hl⟩ := key_vv hv
  have hc := viewLaw.check w es.isEmpty hl
  have h1 := h.find e hv hn w
  simp [Instr.lookup, run_underlying hm, MapKept.run_getObj_map hb, hc, h1, hz w, Result.andThen]
theorem run_updV {mt e : TypeId} (hm : Try.prog.underlying mt = some (.map 40 e)) {g : Nat} {S : List Vw} {w : World} (h : MVw g S w) {v : Vw} (hv : KyV v) (hn : v ∉ S) (x : Value) :
    ∃ w', (Instr.mapUpdate mt (.map (some g)) (vv v) x).run Try.prog w = .ok () w' ∧ MVw g (S ++ [v]) w' ∧ Chg [g] w w' := by
  obtain ⟨es, clock, hb, e⟩ := h.ex
  obtain ⟨l, hl⟩ := key_vv hv
  have hc := viewLaw.check w false hl
  have h1 := h.find e hv hn w
  refine ⟨{ w with heap := w.heap.setIfInBounds g (.map (es.push { key := vv v, val := x, born := clock }) (clock + 1)) }, ?_, ⟨⟨_, _, (MapKept.heap_set hb).1, ?_⟩, ?_⟩, chg_mapV w g _⟩
  · simp [Instr.mapUpdate, run_underlying hm, MapKept.run_getObj_map hb, hc, h1, MapKept.run_setObj_map _ hb, Result.andThen]
  · rw [Array.toList_push, List.map_append, List.map_append, e]; rfl
  · intro u hu
    rcases List.mem_append.1 hu with hu | hu
    · exact h.ok u hu
    · rw [List.mem_singleton.1 hu]; exact hv
end Go.Proofs.Ytcedninipbafaaa

namespace Go.Proofs.Ytcedninipbafaaa
open Go.RowKit

/-- One view behind another. -/
def lt4 (u v : Vw) : Prop := u.mt < v.mt ∨ u.mt = v.mt ∧ (u.tb < v.tb ∨ u.tb = v.tb ∧ (u.tt < v.tt ∨ u.tt = v.tt ∧ u.st < v.st))
theorem lt4.trans {u v x : Vw} (h : lt4 u v) (h2 : lt4 v x) : lt4 u x := by unfold lt4 at *; omega
theorem lt4.irrefl {u : Vw} (h : lt4 u u) : False := by unfold lt4 at h; omega
theorem wrap_u {x : Int} (h : 0 ≤ x) (h2 : x ≤ 1000) : IntKind.u64.wrap (x + 1) = x + 1 := IntWalk.u64_in _ ⟨by omega, by omega⟩
/-- What is so of the adjacency behind so many acts. -/
structure Bd (a : Ad) (i : Nat) : Prop where
  inv : Inv a
  mb : a.v.mb = 5
  m0 : 1 ≤ a.v.mt
  m1 : a.v.mt ≤ i + 1
  t : TgOk a.v.tb a.v.tt
  n0 : 0 ≤ a.v.n
  n1 : a.v.n ≤ 16
theorem Bd.key {a : Ad} {i : Nat} (h : Bd a i) (hi : i ≤ 200) : KyV a.v := by
  have := h.m0; have := h.m1; have hm := h.mb
  exact ⟨by rcases h.inv.st with q | q | q <;> omega, by rcases h.inv.st with q | q | q <;> omega, ⟨by omega, by omega, by omega, by omega⟩, h.t, h.n0, h.n1⟩
/-- A step: the view stands, or rises. -/
structure Stp (v v' : Vw) : Prop where
  mb : v'.mb = v.mb
  m0 : v.mt ≤ v'.mt
  m1 : v'.mt ≤ v.mt + 1
  up : v' = v ∨ lt4 v v'
theorem Stp.rfl {v : Vw} : Stp v v := ⟨by rfl, by omega, by omega, .inl (by rfl)⟩
theorem Stp.an {v : Vw} (h : 0 ≤ v.mt) (h2 : v.mt ≤ 1000) : Stp v (anV v) := by
  have e : (anV v).mt = v.mt + 1 := wrap_u h h2
  exact ⟨by rfl, by omega, by omega, .inr (.inl (by omega))⟩
theorem upV_2 {v : Vw} {h : Hl} (hs : v.st = 1 ∨ v.st = 2) : upV v h = v ∨ v.st = 1 ∧ upV v h = ⟨2, v.mb, v.mt, v.tb, v.tt, v.n⟩ := by
  unfold upV
  split
  · rcases hs with q | q
    · exact .inr ⟨q, by rfl⟩
    · left; cases v; simp only at q; subst q; rfl
  · exact .inl (by rfl)
theorem step_heed {a : Ad} (hI : Inv a) (h0 : 0 ≤ a.v.mt) (h1 : a.v.mt ≤ 1000) (ht : TgOk a.v.tb a.v.tt) (hn0 : 0 ≤ a.v.n) (hn1 : a.v.n ≤ 16) (g : Hl) (hg : TgOk g.mb g.mt) (hm : mayHl g = true) :
    Stp a.v (heedA a g).v ∧ TgOk (heedA a g).v.tb (heedA a g).v.tt ∧ (0 ≤ (heedA a g).v.n ∧ (heedA a g).v.n ≤ 16) ∧
      (0 < a.v.st → 0 < (heedA a g).v.st → (heedA a g).v.n = a.v.n → eldI (heedA a g).v.tb (heedA a g).v.tt a.v.tb a.v.tt = false) := by
  obtain ⟨m1, m2, m3, m4⟩ := mayHl_iff.1 hm
  have noeld : ∀ x y : Int, eldI x y x y = false := fun x y => decide_eq_false (by omega)
  unfold heedA
  by_cases hs : stay a g = true
  · rw [if_pos hs]
    exact ⟨Stp.rfl, ht, ⟨hn0, hn1⟩, fun _ _ _ => noeld _ _⟩
  · rw [if_neg hs]
    simp only
    obtain ⟨u1, u2, u3, u4, u5, u6⟩ := upV_rest (nowV a.v g) g
    have e0 : g.n ≠ a.node := fun e => hs (by unfold stay; simp [e])
    have e1 : g.n = a.v.n → eldI g.mb g.mt a.v.tb a.v.tt = false := fun e => by
      cases q : eldI g.mb g.mt a.v.tb a.v.tt with
      | false => rfl
      | true => exact absurd (by unfold stay; rw [q]; simp [e]) hs
    rw [u3, u4, u5]
    by_cases c1 : a.v.st ≠ 0 ∧ g.n ≠ a.v.n
    · have en : nowV a.v g = setV (anV a.v) g := by unfold nowV; rw [if_pos c1]
      have em : (nowV a.v g).mt = a.v.mt + 1 := by rw [en]; exact wrap_u h0 h1
      refine ⟨⟨by rw [u1, en]; rfl, by rw [u2, em]; omega, by rw [u2, em]; omega, .inr (.inl (by rw [u2, em]; omega))⟩, by rw [en]; exact hg, by rw [en]; exact ⟨by show 0 ≤ g.n; omega, m2⟩, fun _ _ q => ?_⟩
      rw [en] at q
      exact absurd q c1.2
    · by_cases c2 : a.v.st ≠ 0 ∧ g.mb = a.v.tb ∧ g.mt = a.v.tt
      · have en : nowV a.v g = a.v := by unfold nowV; rw [if_neg c1, if_pos c2]
        rw [en]
        have hst : a.v.st = 1 ∨ a.v.st = 2 := by rcases hI.st with q | q | q; exact absurd q c2.1; exact .inl q; exact .inr q
        refine ⟨?_, ht, ⟨hn0, hn1⟩, fun _ _ _ => noeld _ _⟩
        rcases upV_2 (h := g) hst with e | ⟨e2, e⟩
        · rw [e]; exact Stp.rfl
        · rw [e]; exact ⟨by rfl, by simp only; omega, by simp only; omega, .inr (.inr ⟨by rfl, .inr ⟨by rfl, .inr ⟨by rfl, by simp only; omega⟩⟩⟩)⟩
      · have en : nowV a.v g = setV a.v g := by unfold nowV; rw [if_neg c1, if_neg c2]
        rw [en] at u1 u2 u3 u4 u5 ⊢
        have hlt : a.v.tb < g.mb ∨ a.v.tb = g.mb ∧ a.v.tt < g.mt := by
          by_cases z : a.v.st = 0
          · have := hI.down z; have := hg.b0; omega
          · have hn : g.n = a.v.n := by
              by_cases w : g.n = a.v.n
              · exact w
              · exact absurd ⟨z, w⟩ c1
            have := of_decide_eq_false (e1 hn)
            have : ¬ (g.mb = a.v.tb ∧ g.mt = a.v.tt) := fun q => c2 ⟨z, q⟩
            omega
        refine ⟨⟨u1, by rw [u2]; simp [setV], by rw [u2]; simp only [setV]; omega, .inr (.inr ⟨by rw [u2]; rfl, ?_⟩)⟩, hg, ⟨by show 0 ≤ g.n; omega, m2⟩, fun _ _ _ => ?_⟩
        · rw [u3, u4]
          show a.v.tb < g.mb ∨ a.v.tb = g.mb ∧ (a.v.tt < g.mt ∨ _)
          rcases hlt with q | q
          · exact .inl q
          · exact .inr ⟨q.1, .inl q.2⟩
        · show eldI g.mb g.mt a.v.tb a.v.tt = false
          exact decide_eq_false (by omega)
theorem step_act {a : Ad} {i : Nat} (hB : Bd a i) (hi : i ≤ 200) (x : AcA) (hx : x.Ok) (s : Int) :
    Bd (actA a x s) (i + 1) ∧ Stp a.v (actA a x s).v ∧ (x.k = 1 → 0 < a.v.st → 0 < (actA a x s).v.st → (actA a x s).v.n = a.v.n → eldI (actA a x s).v.tb (actA a x s).v.tt a.v.tb a.v.tt = false) := by
  have hI' := hB.inv.act x s
  have hm0 := hB.m0
  have hm1 := hB.m1
  have fin : ∀ a' : Ad, Inv a' → Stp a.v a'.v → TgOk a'.v.tb a'.v.tt → (0 ≤ a'.v.n ∧ a'.v.n ≤ 16) → Bd a' (i + 1) := fun a' h1 h2 h3 h4 =>
    ⟨h1, by rw [h2.mb]; exact hB.mb, by have := h2.m0; omega, by have := h2.m1; omega, h3, h4.1, h4.2⟩
  have zz : TgOk 0 0 := ⟨by omega, by omega, by omega, by omega⟩
  by_cases k1 : x.k = 1
  · have ea : actA a x s = hearA a x.h := if_pos k1
    rw [ea] at hI' ⊢
    by_cases hm : mayHl x.h = true
    · have e2 : hearA a x.h = heedA a x.h := if_pos hm
      rw [e2] at hI' ⊢
      obtain ⟨h1, h2, h3, h4⟩ := step_heed hB.inv (by omega) (by omega) hB.t hB.n0 hB.n1 x.h hx.m hm
      exact ⟨fin _ hI' h1 h2 h3, h1, fun _ => h4⟩
    · have e2 : hearA a x.h = a := if_neg hm
      rw [e2] at hI' ⊢
      exact ⟨fin _ hI' Stp.rfl hB.t ⟨hB.n0, hB.n1⟩, Stp.rfl, fun _ _ _ _ => decide_eq_false (by omega)⟩
  refine ⟨?_, ?_, fun q => absurd q k1⟩
  all_goals by_cases k2 : x.k = 2
  · have ea : actA a x s = tickA a s := by unfold actA; rw [if_neg k1, if_pos k2]
    rw [ea] at hI' ⊢
    unfold tickA at hI' ⊢
    split at hI'
    · rename_i c; rw [if_pos c]; exact fin _ hI' (Stp.an (by omega) (by omega)) zz ⟨by simp [anV], by simp [anV]⟩
    · rename_i c; rw [if_neg c]; exact fin _ hI' Stp.rfl hB.t ⟨hB.n0, hB.n1⟩
  · by_cases k3 : x.k = 3
    · have ea : actA a x s = dropA a := by unfold actA; rw [if_neg k1, if_neg k2, if_pos k3]
      rw [ea] at hI' ⊢
      exact fin _ hI' (Stp.an (by omega) (by omega)) zz ⟨by simp [anV, dropA], by simp [anV, dropA]⟩
    · have ea : actA a x s = a := by unfold actA; rw [if_neg k1, if_neg k2, if_neg k3]
      rw [ea] at hI' ⊢
      exact fin _ hI' Stp.rfl hB.t ⟨hB.n0, hB.n1⟩
  · have ea : actA a x s = tickA a s := by unfold actA; rw [if_neg k1, if_pos k2]
    rw [ea]
    unfold tickA
    split
    · exact Stp.an (by omega) (by omega)
    · exact Stp.rfl
  · by_cases k3 : x.k = 3
    · have ea : actA a x s = dropA a := by unfold actA; rw [if_neg k1, if_neg k2, if_pos k3]
      rw [ea]
      exact Stp.an (by omega) (by omega)
    · have ea : actA a x s = a := by unfold actA; rw [if_neg k1, if_neg k2, if_neg k3]
      rw [ea]
      exact Stp.rfl
end Go.Proofs.Ytcedninipbafaaa

namespace Go.Proofs.Ytcedninipbafaaa
open Go.RowKit

/-- What is so of one of the two behind so many acts: it has not heard of the other one. -/
structure Rch (nd oth mb : Int) (a : Ad) (i : Nat) : Prop where
  inv : Inv a
  node : a.node = nd
  mb : a.v.mb = mb
  m0 : 1 ≤ a.v.mt
  m1 : a.v.mt ≤ i + 1
  n : a.v.n ≠ oth
theorem nowV_m (v : Vw) (h : Hl) (h0 : 0 ≤ v.mt) (h1 : v.mt ≤ 1000) : (nowV v h).mb = v.mb ∧ v.mt ≤ (nowV v h).mt ∧ (nowV v h).mt ≤ v.mt + 1 ∧ ((nowV v h).n = h.n ∨ (nowV v h).n = v.n) := by
  have e : (anV v).mt = v.mt + 1 := wrap_u h0 h1
  unfold nowV
  split
  · exact ⟨rfl, by show v.mt ≤ (anV v).mt; omega, by show (anV v).mt ≤ _; omega, .inl rfl⟩
  · split
    · exact ⟨rfl, by omega, by omega, .inr rfl⟩
    · exact ⟨rfl, by show v.mt ≤ v.mt; omega, by show v.mt ≤ _; omega, .inl rfl⟩
theorem Rch.same {nd oth mb : Int} {a a' : Ad} {i : Nat} (h : Rch nd oth mb a i) (hI : Inv a') (h1 : a'.node = a.node) (h2 : a'.v.mb = a.v.mb) (h3 : a.v.mt ≤ a'.v.mt) (h4 : a'.v.mt ≤ a.v.mt + 1) (h5 : a'.v.n = a.v.n ∨ a'.v.n ≠ oth) : Rch nd oth mb a' (i + 1) := by
  have := h.m0; have := h.m1
  refine ⟨hI, h1.trans h.node, h2.trans h.mb, by omega, by omega, ?_⟩
  rcases h5 with e | e
  · rw [e]; exact h.n
  · exact e
theorem Rch.next {nd oth mb : Int} {a : Ad} {i : Nat} (h : Rch nd oth mb a i) (hi : i ≤ 200) (ho : 1 ≤ oth) : Rch nd oth mb a (i + 1) :=
  h.same h.inv rfl rfl (by omega) (by omega) (.inl rfl)
theorem Rch.act {nd oth mb : Int} {a : Ad} {i : Nat} (h : Rch nd oth mb a i) (hi : i ≤ 200) (ho : 1 ≤ oth) (x : AcA) (hx : x.k = 1 → x.h.n ≠ oth) (s : Int) : Rch nd oth mb (actA a x s) (i + 1) := by
  have hI' := h.inv.act x s
  have hm0 := h.m0
  have hm1 := h.m1
  have ea : (anV a.v).mt = a.v.mt + 1 := wrap_u (by omega) (by omega)
  by_cases k1 : x.k = 1
  · have e : actA a x s = hearA a x.h := if_pos k1
    rw [e] at hI' ⊢
    unfold hearA at hI' ⊢
    split at hI'
    · rename_i hm
      rw [if_pos hm]
      unfold heedA at hI' ⊢
      split at hI'
      · rename_i hs; rw [if_pos hs]; exact h.next hi ho
      · rename_i hs
        rw [if_neg hs]
        obtain ⟨u1, u2, _, _, u5, _⟩ := upV_rest (nowV a.v x.h) x.h
        obtain ⟨v1, v2, v3, v4⟩ := nowV_m a.v x.h (by omega) (by omega)
        refine h.same hI' rfl (by simp only; rw [u1, v1]) (by simp only; rw [u2]; exact v2) (by simp only; rw [u2]; exact v3) ?_
        simp only
        rw [u5]
        rcases v4 with q | q
        · right; rw [q]; exact hx k1
        · left; exact q
    · rename_i hm; rw [if_neg hm]; exact h.next hi ho
  by_cases k2 : x.k = 2
  · have e : actA a x s = tickA a s := by unfold actA; rw [if_neg k1, if_pos k2]
    rw [e] at hI' ⊢
    unfold tickA at hI' ⊢
    split at hI'
    · rename_i q; rw [if_pos q]; exact h.same hI' rfl rfl (by simp only; omega) (by simp only; omega) (.inr (by show (0 : Int) ≠ oth; omega))
    · rename_i q; rw [if_neg q]; exact h.same hI' rfl rfl (by simp only; omega) (by simp only; omega) (.inl rfl)
  by_cases k3 : x.k = 3
  · have e : actA a x s = dropA a := by unfold actA; rw [if_neg k1, if_neg k2, if_pos k3]
    rw [e] at hI' ⊢
    exact h.same hI' rfl rfl (by show a.v.mt ≤ (anV a.v).mt; omega) (by show (anV a.v).mt ≤ _; omega) (.inr (by show (0 : Int) ≠ oth; omega))
  · have e : actA a x s = a := by unfold actA; rw [if_neg k1, if_neg k2, if_neg k3]
    rw [e]
    exact h.next hi ho
/-- What one says. -/
def sayH (a : Ad) : Hl := ⟨a.node, a.v.mb, a.v.mt, a.v.tb, a.v.tt⟩
/-- A hello of one that is not known yet. -/
theorem hear_new {a : Ad} (g : Hl) (hm : mayHl g = true) (h0 : g.n ≠ a.node) (h1 : g.n ≠ a.v.n) : ∃ t : Int, (t = a.v.mt ∨ t = (anV a.v).mt) ∧ (hearA a g).node = a.node ∧ (hearA a g).v = upV ⟨1, a.v.mb, t, g.mb, g.mt, g.n⟩ g := by
  have e : hearA a g = ⟨a.node, a.every, a.dead, a.said, 0, upV (nowV a.v g) g⟩ := by
    unfold hearA heedA
    rw [if_pos hm, if_neg (by unfold stay; simp [h0, h1])]
  rw [e]
  by_cases hs : a.v.st = 0
  · exact ⟨a.v.mt, .inl rfl, rfl, by simp only; unfold nowV; rw [if_neg (fun q => q.1 hs), if_neg (fun q => q.1 hs)]; rfl⟩
  · exact ⟨(anV a.v).mt, .inr rfl, rfl, by simp only; unfold nowV; rw [if_pos ⟨hs, h1⟩]; rfl⟩
/-- A hello of one that is known, not late, that has heard of this one. -/
theorem hear_up {a : Ad} (g : Hl) (hm : mayHl g = true) (h0 : g.n ≠ a.node) (h1 : g.n = a.v.n) (hs : a.v.st = 1 ∨ a.v.st = 2) (he : eldI g.mb g.mt a.v.tb a.v.tt = false) (h2 : g.hb = a.v.mb) (h3 : g.ht = a.v.mt) : (hearA a g).node = a.node ∧ (hearA a g).v = ⟨2, a.v.mb, a.v.mt, g.mb, g.mt, g.n⟩ := by
  have e : hearA a g = ⟨a.node, a.every, a.dead, a.said, 0, upV (nowV a.v g) g⟩ := by
    unfold hearA heedA
    rw [if_pos hm, if_neg (by unfold stay; rw [he]; simp [h0])]
  rw [e]
  refine ⟨rfl, ?_⟩
  simp only
  unfold nowV
  rw [if_neg (fun q => q.2 h1)]
  split
  · rename_i q
    unfold upV
    rw [if_pos (sameTI_iff.2 ⟨h2, h3⟩), q.2.1, q.2.2, h1]
  · unfold upV setV
    rw [if_pos (sameTI_iff.2 ⟨h2, h3⟩)]
/-- The two, so many rounds of hellos on. -/
def Two (k : Nat) (a b : Ad) : Prop :=
  Inv a ∧ Inv b ∧ a.node = 1 ∧ b.node = 2 ∧ ∃ s t : Int, (1 ≤ s ∧ s ≤ 300 + (k : Int)) ∧ (1 ≤ t ∧ t ≤ 300 + (k : Int)) ∧
    match k with
    | 0 => a.v.mb = 5 ∧ a.v.mt = s ∧ a.v.n ≠ 2 ∧ b.v.mb = 7 ∧ b.v.mt = t ∧ b.v.n ≠ 1
    | 1 => (∃ st, (st = 1 ∨ st = 2) ∧ a.v = ⟨st, 5, s, 7, t, 2⟩) ∧ ∃ st u, (st = 1 ∨ st = 2) ∧ u ≤ s ∧ b.v = ⟨st, 7, t, 5, u, 1⟩
    | _ => a.v = ⟨2, 5, s, 7, t, 2⟩ ∧ b.v = ⟨2, 7, t, 5, s, 1⟩
theorem upV_12 {v : Vw} {g : Hl} (h : v.st = 1) : ∃ st, (st = 1 ∨ st = 2) ∧ upV v g = ⟨st, v.mb, v.mt, v.tb, v.tt, v.n⟩ := by
  rcases upV_2 (h := g) (.inl h) with e | ⟨_, e⟩
  · exact ⟨1, .inl rfl, by rw [e]; cases v; simp only at h; subst h; rfl⟩
  · exact ⟨2, .inr rfl, e⟩
theorem may_say {n mb mt hb ht : Int} (h1 : 1 ≤ n) (h2 : n ≤ 16) (h3 : mb ≠ 0) (h4 : mt ≠ 0) : mayHl ⟨n, mb, mt, hb, ht⟩ = true := mayHl_iff.2 ⟨h1, h2, h3, h4⟩
theorem eld_no {x y c d : Int} (h : ¬ (x < c ∨ x = c ∧ y < d)) : eldI x y c d = false := decide_eq_false h
/-- One round. -/
theorem Two.round0 {a b : Ad} (h : Two 0 a b) : Two 1 (hearA a (sayH (hearA b (sayH a)))) (hearA b (sayH a)) := by
  obtain ⟨hI, hJ, n1, n2, s, t, hs, ht, h1, h2, h3, h4, h5, h6⟩ := h
  have hb' : ∃ t' st : Int, 1 ≤ t' ∧ t' ≤ t + 1 ∧ (st = 1 ∨ st = 2) ∧ (hearA b (sayH a)).node = 2 ∧ (hearA b (sayH a)).v = ⟨st, 7, t', 5, s, 1⟩ := by
    obtain ⟨t', q1, q2, q3⟩ := hear_new (a := b) (sayH a) (by unfold sayH; rw [n1, h1, h2]; exact may_say (by omega) (by omega) (by omega) (by omega)) (by show a.node ≠ b.node; omega) (by show a.node ≠ b.v.n; rw [n1]; exact fun q => h6 q.symm)
    obtain ⟨st, q4, q5⟩ := upV_12 (v := ⟨1, b.v.mb, t', (sayH a).mb, (sayH a).mt, (sayH a).n⟩) (g := sayH a) rfl
    have e : (anV b.v).mt = t + 1 := by rw [← h5]; exact wrap_u (by omega) (by omega)
    refine ⟨t', st, by rcases q1 with q | q <;> omega, by rcases q1 with q | q <;> omega, q4, q2.trans n2, ?_⟩
    rw [q3, q5]
    simp only [sayH, h1, h2, h4, n1]
  obtain ⟨t', st, ht1, ht2, hst, hn', hv'⟩ := hb'
  have hJ' := hJ.hear (sayH a)
  obtain ⟨b', hbb⟩ : ∃ b', b' = hearA b (sayH a) := ⟨_, rfl⟩
  rw [← hbb] at hn' hv' hJ' ⊢
  have eb : sayH b' = ⟨2, 7, t', 5, s⟩ := by unfold sayH; rw [hn', hv']
  rw [eb]
  obtain ⟨s', q1, q2, q3⟩ := hear_new (a := a) ⟨2, 7, t', 5, s⟩ (may_say (by omega) (by omega) (by omega) (by omega)) (by show (2 : Int) ≠ a.node; omega) (by show (2 : Int) ≠ a.v.n; exact fun q => h3 q.symm)
  obtain ⟨st2, q4, q5⟩ := upV_12 (v := ⟨1, a.v.mb, s', 7, t', 2⟩) (g := ⟨2, 7, t', 5, s⟩) rfl
  have e : (anV a.v).mt = s + 1 := by rw [← h2]; exact wrap_u (by omega) (by omega)
  have hs1 : s ≤ s' ∧ s' ≤ s + 1 := by rcases q1 with q | q <;> omega
  refine ⟨hI.hear _, hJ', q2.trans n1, hn', s', t', by constructor <;> (try simp only [Nat.cast_ofNat_Int]) <;> omega, by omega, ⟨st2, q4, ?_⟩, st, s, hst, by omega, hv'⟩
  rw [q3, q5]
  simp only [h1]
theorem Two.round1b {a b : Ad} (h : Two 1 a b) : Inv (hearA b (sayH a)) ∧ (hearA b (sayH a)).node = 2 ∧ ∃ s t : Int, (1 ≤ s ∧ s ≤ 301) ∧ (1 ≤ t ∧ t ≤ 301) ∧ (∃ st, (st = 1 ∨ st = 2) ∧ a.v = ⟨st, 5, s, 7, t, 2⟩) ∧ (hearA b (sayH a)).v = ⟨2, 7, t, 5, s, 1⟩ := by
  obtain ⟨hI, hJ, n1, n2, s, t, hs, ht, ⟨st, hst, hv⟩, st2, u, hst2, hu, hw⟩ := h
  have ea : sayH a = ⟨1, 5, s, 7, t⟩ := by unfold sayH; rw [n1, hv]
  have hJ' := hJ.hear (sayH a)
  rw [ea] at hJ' ⊢
  obtain ⟨q1, q2⟩ := hear_up (a := b) ⟨1, 5, s, 7, t⟩ (may_say (by omega) (by omega) (by omega) (by omega)) (by show (1 : Int) ≠ b.node; omega) (by rw [hw]) (by rw [hw]; exact hst2) (by rw [hw]; exact eld_no (by simp only; omega)) (by rw [hw]) (by rw [hw])
  refine ⟨hJ', q1.trans n2, s, t, by omega, by omega, ⟨st, hst, hv⟩, ?_⟩
  rw [q2, hw]
theorem Two.round1 {a b : Ad} (h : Two 1 a b) : Two 2 (hearA a (sayH (hearA b (sayH a)))) (hearA b (sayH a)) := by
  obtain ⟨hJ', n2, s, t, hs, ht, ⟨st, hst, hv⟩, hw⟩ := h.round1b
  obtain ⟨hI, _, n1, _⟩ := h
  obtain ⟨b', hbb⟩ : ∃ b', b' = hearA b (sayH a) := ⟨_, rfl⟩
  rw [← hbb] at hw hJ' n2 ⊢
  have eb : sayH b' = ⟨2, 7, t, 5, s⟩ := by unfold sayH; rw [n2, hw]
  rw [eb]
  obtain ⟨q1, q2⟩ := hear_up (a := a) ⟨2, 7, t, 5, s⟩ (may_say (by omega) (by omega) (by omega) (by omega)) (by show (2 : Int) ≠ a.node; omega) (by rw [hv]) (by rw [hv]; exact hst) (by rw [hv]; exact eld_no (by simp only; omega)) (by rw [hv]) (by rw [hv])
  refine ⟨hI.hear _, hJ', q1.trans n1, n2, s, t, by omega, by omega, ?_, hw⟩
  rw [q2, hv]
theorem Two.last {a b : Ad} (h : Two 2 a b) : Two 2 a (hearA b (sayH a)) := by
  obtain ⟨hI, hJ, n1, n2, s, t, hs, ht, hv, hw⟩ := h
  have ea : sayH a = ⟨1, 5, s, 7, t⟩ := by unfold sayH; rw [n1, hv]
  have hJ' := hJ.hear (sayH a)
  rw [ea] at hJ' ⊢
  obtain ⟨q1, q2⟩ := hear_up (a := b) ⟨1, 5, s, 7, t⟩ (may_say (by omega) (by omega) (by omega) (by omega)) (by show (1 : Int) ≠ b.node; omega) (by rw [hw]) (by rw [hw]; exact .inr rfl) (by rw [hw]; exact eld_no (by simp only; omega)) (by rw [hw]) (by rw [hw])
  refine ⟨hI, hJ', n1, q1.trans n2, s, t, hs, ht, hv, ?_⟩
  rw [q2, hw]
end Go.Proofs.Ytcedninipbafaaa
