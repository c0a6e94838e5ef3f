/- The chapter's rows: the walk of the law's 'known'.
   adj.Accepts, New: the walks.
   The law's do: the walk.
   A tag by value, and a slice of acts, opened.
   A slice that reads as a list of things of k cells each.
   Arguments that are bytes, and lists of bytes, opened. -/
import Derived.ProofKit
import Derived.OpenShut
import Derived.Deep.Matrix
import Derived.Deep.Slices
import Derived.Lib.SmallJoins
import Derived.Test.YtcedninipbafaaaZ01
import Derived.Test.YtcedninipbafaaaZ04
import Derived.Test.YtcedninipbafaaaZ06

set_option linter.unusedSimpArgs false
set_option linter.unusedVariables false
namespace Go.Proofs.Ytcedninipbafaaa
open Go.ChangeShapes Go.WideShapes Go.ChangeAt Go.RowKit

theorem lt_u8 {a : Int} (h : 0 ≤ a ∧ a ≤ 255) : a < 256 := by omega
theorem lt_u16 {a : Int} (h : 0 ≤ a ∧ a ≤ 65535) : a < 65536 := by omega
theorem lt_u32 {a : Int} (h : 0 ≤ a ∧ a ≤ 4294967295) : a < 4294967296 := by omega
theorem lt_u64 {a : Int} (h : 0 ≤ a ∧ a ≤ 18446744073709551615) : a < 18446744073709551616 := by omega

theorem own : ownKnob Try.prog.godebug = none := by kernel_rfl
theorem laidOut : laidOutB Try.prog = true := by kernel_rfl


theorem spot_none {W : World} {a : Addr} {v : Value} (h : W.cell? (a.add 0) = some v) : a.spot = none := by
  obtain ⟨b, o, sp⟩ := a
  cases sp with
  | none => rfl
  | some s =>
    simp [World.cell?, Addr.add] at h
    split at h <;> cases h
theorem bytes_of_ints {W : World} {A : Option Addr} {len cap : Nat} {zs : List Int} (hl : len ≤ cap) (hz : zs.length = cap) (hwz : ∀ n ∈ zs, (Lit.int .u8 n).wf = true) (h0 : A = none → cap = 0)
    (hc : ∀ a, A = some a → ∀ c, c < cap → W.cell? (a.add c) = some (.int .u8 (zs.getD c 0))) : Bytes W (.slice A len cap) ((zs.take len).map fun z => UInt8.ofNat z.toNat) := by
  have hlen : ((zs.take len).map fun z => UInt8.ofNat z.toNat).length = len := by simp; omega
  rcases Nat.eq_zero_or_pos len with hp | hp
  · subst hp
    exact .inl ⟨by simp, A, cap, rfl, h0⟩
  · cases A with
    | none => have := h0 rfl; omega
    | some x =>
      have hcell := hc x rfl
      have hc0 := hcell 0 (by omega)
      have hsp := spot_none hc0
      obtain ⟨b, o, sp⟩ := x
      simp only at hsp
      subst hsp
      refine .inr ⟨b, o, cap, by rw [hlen], ?_, by rw [hlen]; exact hl, ?_⟩
      · have := World.block_lt_of_cell? _ _ hc0
        simpa [Addr.add] using this
      · intro j y hy
        simp only [List.getElem?_map, Option.map_eq_some_iff] at hy
        obtain ⟨z, hz1, rfl⟩ := hy
        have hj : j < len := by
          have := (List.getElem?_eq_some_iff.1 hz1).1
          simp at this; omega
        have hz2 : zs[j]? = some z := by rw [List.getElem?_take, if_pos hj] at hz1; exact hz1
        have hb := bounds_u8 (hwz z (List.mem_of_getElem? hz2))
        have hcj := hcell j (by omega)
        have he : zs.getD j 0 = z := by simp [List.getD, hz2]
        rw [he] at hcj
        have hn : ((UInt8.ofNat z.toNat).toNat : Int) = z := by rw [UInt8.toNat_ofNat']; omega
        rw [hn]
        cases j with
        | zero => simpa [Addr.add] using hcj
        | succ j => simpa [Addr.add] using hcj

end Go.Proofs.Ytcedninipbafaaa

namespace Go.Proofs.Ytcedninipbafaaa
open Go.ChangeShapes Go.WideShapes Go.ChangeAt Go.RowKit Go.Joins Go.Deep

/-- The value reads as these, each of k cells. -/
def Rds {α : Type} (k : Nat) (f : α → List Value) (w : World) (v : Value) (L : List α) : Prop :=
  (L = [] ∧ ∃ a c, v = .slice a 0 c ∧ (a = none → c = 0)) ∨
  ∃ b o c, v = .slice (some ⟨b, o, none⟩) L.length c ∧ b < w.heap.size ∧ L.length ≤ c ∧ ∀ j x, L[j]? = some x → ∀ i u, (f x)[i]? = some u → w.cell? ⟨b, o + j * k + i, none⟩ = some u
section
variable {α : Type} {k : Nat} {f : α → List Value}
theorem Rds.later {w w' : World} {v : Value} {L : List α} (h : Rds k f w v L) (hb : Below w.heap.size w w') : Rds k f w' v L := by
  rcases h with h | ⟨b, o, c, h1, h2, hp, h3⟩
  · exact .inl h
  · exact .inr ⟨b, o, c, h1, Nat.lt_of_lt_of_le h2 hb.size, hp, fun j x hx i u hu => cell_later hb (h3 j x hx i u hu)⟩
theorem Rds.form {w : World} {v : Value} {L : List α} (h : Rds k f w v L) : ∃ a c, v = .slice a L.length c := by
  rcases h with ⟨rfl, a, c, rfl, _⟩ | ⟨b, o, c, rfl, _, _⟩
  · exact ⟨a, c, rfl⟩
  · exact ⟨_, c, rfl⟩
theorem Rds.at {w : World} {a : Option Addr} {n c : Nat} {L : List α} (h : Rds k f w (.slice a n c) L) {i : Nat} {x : α} (hx : L[i]? = some x) :
    ∃ b o, a = some ⟨b, o, none⟩ ∧ b < w.heap.size ∧ ∀ j u, (f x)[j]? = some u → w.cell? ⟨b, o + i * k + j, none⟩ = some u := by
  rcases h with ⟨rfl, _⟩ | ⟨b, o, c', h1, h2, _, h3⟩
  · simp at hx
  · simp only [Value.slice.injEq] at h1
    exact ⟨b, o, h1.1, h2, fun j u hu => h3 i x hx j u hu⟩
theorem open_rds [Inhabited α] {H : Type} {enc : TypeId × Value → H} {W : World} {base : Nat} {v : Value} {d : DataW H} {p : List MemPlace} {t : TypeId} (hu : Try.prog.underlying t = some (.slice (Try.prog.elem t))) (hC : Try.prog.cellsOf (Try.prog.elem t) = k) (hk : 0 < k) (Pr : α → Prop)
    (one : ∀ {n : Nat} {cs : List Value} {y : DataW H × List MemPlace}, DataW.trod enc Try.prog W 0 (fun _ => true) true n (Try.prog.elem t) cs = some y → cs.length = k → ∃ x : α, cs = f x ∧ Pr x)
    (hv : Value.okWide Try.prog W .any base t v) (h : DataW.Trod enc Try.prog W 0 (fun _ => true) true t v d p) :
    ∃ L : List α, Rds k f W v L ∧ L.length ≤ 9223372036854775807 ∧ ∀ x ∈ L, Pr x := by
  obtain ⟨a, len, cap, rfl⟩ := okWide_slice hu hv
  obtain ⟨fuel, hf⟩ := h
  rcases open_slice hu hf with ⟨hcs, _⟩ | ⟨x, l, c, m, n, D, Pl, hcs, _, hl, hm, hmm, _, hx⟩
  · simp [Value.cells] at hcs
    obtain ⟨rfl, rfl, rfl⟩ := hcs
    exact ⟨[], .inl ⟨rfl, _, _, rfl, fun _ => rfl⟩, by simp, by simp⟩
  · simp [Value.cells] at hcs
    obtain ⟨rfl, rfl, rfl⟩ := hcs
    unfold maxLen at hm
    have hm2 : m = cap := by simpa using hmm
    subst hm2
    rw [hC] at hx
    have each : ∀ i, i < m → ∃ u : α, ((f u).length = k ∧ ∀ j z, (f u)[j]? = some z → W.cell? ((x.add (i * k)).add j) = some z) ∧ Pr u := by
      intro i hi
      obtain ⟨cs', h1, h2⟩ := hx i hi
      obtain ⟨_, hlen, hcell⟩ := World.cells?_some h1
      obtain ⟨u, rfl, hu⟩ := one h2 hlen
      refine ⟨u, ⟨hlen, fun j z hz => ?_⟩, hu⟩
      have hj := (List.getElem?_eq_some_iff.1 hz).1
      exact (hcell j (by omega)).trans hz
    obtain ⟨F, hF⟩ := choose_lt each
    have hlen : ((List.range len).map F).length = len := by simp
    refine ⟨(List.range len).map F, ?_, by rw [hlen]; omega, ?_⟩
    · rcases Nat.eq_zero_or_pos len with hp | hp
      · subst hp
        exact .inl ⟨by simp, _, _, rfl, fun h => by cases h⟩
      · obtain ⟨⟨hl0, hc⟩, _⟩ := hF 0 (by omega)
        have hc0 := hc 0 _ (List.getElem?_eq_getElem (by omega))
        rw [Nat.zero_mul] at hc0
        have hsp := spot_none (a := x) (by simpa [Addr.add] using hc0)
        obtain ⟨b, o, sp⟩ := x
        simp only at hsp
        subst hsp
        refine .inr ⟨b, o, m, by rw [hlen], ?_, by rw [hlen]; exact hl, ?_⟩
        · have := World.block_lt_of_cell? _ _ hc0
          simpa [Addr.add] using this
        · intro j u hju i z hz
          simp only [List.getElem?_map, Option.map_eq_some_iff] at hju
          obtain ⟨r, hr1, rfl⟩ := hju
          have hj : j < len := by
            have := (List.getElem?_eq_some_iff.1 hr1).1
            simpa using this
          have hr : r = j := by
            rw [List.getElem?_range hj] at hr1
            exact (Option.some.inj hr1).symm
          subst hr
          have := (hF r (by omega)).1.2 i z hz
          have ad : ∀ b o k, (⟨b, o, none⟩ : Addr).add k = ⟨b, o + k, none⟩ := fun b o k => by cases k <;> simp [Addr.add]
          rw [ad, ad] at this
          exact this
    · intro u hu
      obtain ⟨r, hr, rfl⟩ := List.mem_map.1 hu
      have := List.mem_range.1 hr
      exact (hF r (by omega)).2
end
end Go.Proofs.Ytcedninipbafaaa

namespace Go.Proofs.Ytcedninipbafaaa
open Go.ChangeShapes Go.WideShapes Go.ChangeAt Go.RowKit Go.Joins Go.Deep

/-- An act. -/
structure AcA where
  k : Int
  h : Hl
instance : Inhabited AcA := ⟨⟨0, ⟨0, 0, 0, 0, 0⟩⟩⟩
def AcA.cs (x : AcA) : List Value := [.int .i64 x.k, .int .i64 x.h.n, .int .u64 x.h.mb, .int .u64 x.h.mt, .int .u64 x.h.hb, .int .u64 x.h.ht]
structure TgOk (b t : Int) : Prop where
  b0 : 0 ≤ b
  b1 : b ≤ 18446744073709551615
  t0 : 0 ≤ t
  t1 : t ≤ 18446744073709551615
structure AcA.Ok (x : AcA) : Prop where
  k0 : -9223372036854775808 ≤ x.k
  k1 : x.k ≤ 9223372036854775807
  n0 : -9223372036854775808 ≤ x.h.n
  n1 : x.h.n ≤ 9223372036854775807
  m : TgOk x.h.mb x.h.mt
  h : TgOk x.h.hb x.h.ht
section
variable {H : Type} {enc : TypeId × Value → H} {W : World} {base : Nat} {sp : Nat → Bool} {held : Bool}
theorem tagI_cells {n : Nat} {cs : List Value} {y : DataW H × List MemPlace} (h : DataW.trod enc Try.prog W base sp held n 25 cs = some y) (hl : cs.length = 2) :
    ∃ b t : Int, cs = [.int .u64 b, .int .u64 t] ∧ TgOk b t := by
  have k1 : Try.prog.cellsOf 23 = 1 := by kernel_rfl
  match cs, hl with
  | [c0, c1], _ =>
    obtain ⟨zs, m, _, hz, _, hzl, hgz⟩ := DataW.trod_struct Try.underlying25 h
    match zs, hzl with
    | [z0, z1], _ =>
      have g0 : DataW.trod enc Try.prog W base sp held m 23 [c0] = some z0 := by simpa [k1] using hgz 0 _ rfl
      have g1 : DataW.trod enc Try.prog W base sp held m 23 [c1] = some z1 := by simpa [k1] using hgz 1 _ rfl
      obtain ⟨a0, e0, _, w0⟩ := DataW.trod_int Try.underlying23 g0
      obtain ⟨a1, e1, _, w1⟩ := DataW.trod_int Try.underlying23 g1
      simp only [List.cons.injEq, and_true] at e0 e1
      subst e0 e1
      have b0 := bounds_u64 w0
      have b1 := bounds_u64 w1
      exact ⟨a0, a1, rfl, ⟨b0.1, b0.2, b1.1, b1.2⟩⟩
theorem hel_cells {n : Nat} {cs : List Value} {y : DataW H × List MemPlace} (h : DataW.trod enc Try.prog W base sp held n 35 cs = some y) (hl : cs.length = 5) :
    ∃ a : Hl, cs = [.int .i64 a.n, .int .u64 a.mb, .int .u64 a.mt, .int .u64 a.hb, .int .u64 a.ht] ∧ (-9223372036854775808 ≤ a.n ∧ a.n ≤ 9223372036854775807) ∧ TgOk a.mb a.mt ∧ TgOk a.hb a.ht := by
  have k1 : Try.prog.cellsOf 3 = 1 := by kernel_rfl
  have k2 : Try.prog.cellsOf 25 = 2 := by kernel_rfl
  match cs, hl with
  | [c0, c1, c2, c3, c4], _ =>
    obtain ⟨zs, m, _, hz, _, hzl, hgz⟩ := DataW.trod_struct Try.underlying35 h
    match zs, hzl with
    | [z0, z1, z2], _ =>
      have g0 : DataW.trod enc Try.prog W base sp held m 3 [c0] = some z0 := by simpa [k1] using hgz 0 _ rfl
      have g1 : DataW.trod enc Try.prog W base sp held m 25 [c1, c2] = some z1 := by simpa [k1, k2] using hgz 1 _ rfl
      have g2 : DataW.trod enc Try.prog W base sp held m 25 [c3, c4] = some z2 := by simpa [k1, k2] using hgz 2 _ rfl
      obtain ⟨a0, e0, _, w0⟩ := DataW.trod_int Try.underlying3 g0
      obtain ⟨b1, t1, e1, o1⟩ := tagI_cells g1 rfl
      obtain ⟨b2, t2, e2, o2⟩ := tagI_cells g2 rfl
      simp only [List.cons.injEq, and_true] at e0 e1 e2
      obtain ⟨e1, e1'⟩ := e1
      obtain ⟨e2, e2'⟩ := e2
      subst e0 e1 e1' e2 e2'
      have b0 := bounds_i64 w0
      exact ⟨⟨a0, b1, t1, b2, t2⟩, rfl, ⟨b0.1, b0.2⟩, o1, o2⟩
theorem actA_cells {n : Nat} {cs : List Value} {y : DataW H × List MemPlace} (h : DataW.trod enc Try.prog W base sp held n 37 cs = some y) (hl : cs.length = 6) :
    ∃ a : AcA, cs = a.cs ∧ a.Ok := by
  have k1 : Try.prog.cellsOf 3 = 1 := by kernel_rfl
  have k5 : Try.prog.cellsOf 35 = 5 := by kernel_rfl
  match cs, hl with
  | [c0, c1, c2, c3, c4, c5], _ =>
    obtain ⟨zs, m, _, hz, _, hzl, hgz⟩ := DataW.trod_struct Try.underlying37 h
    match zs, hzl with
    | [z0, z1], _ =>
      have g0 : DataW.trod enc Try.prog W base sp held m 3 [c0] = some z0 := by simpa [k1] using hgz 0 _ rfl
      have g1 : DataW.trod enc Try.prog W base sp held m 35 [c1, c2, c3, c4, c5] = some z1 := by simpa [k1, k5] using hgz 1 _ rfl
      obtain ⟨a0, e0, _, w0⟩ := DataW.trod_int Try.underlying3 g0
      obtain ⟨a, e1, hn, o1, o2⟩ := hel_cells g1 rfl
      simp only [List.cons.injEq, and_true] at e0 e1
      obtain ⟨e1, e2, e3, e4, e5⟩ := e1
      subst e0 e1 e2 e3 e4 e5
      have b0 := bounds_i64 w0
      exact ⟨⟨a0, a⟩, rfl, ⟨b0.1, b0.2, hn.1, hn.2, o1, o2⟩⟩
end
section
variable {H : Type} {enc : TypeId × Value → H} {W : World} {base : Nat} {v : Value} {d : DataW H} {p : List MemPlace}
set_option maxRecDepth 100000 in
theorem open_actsA (hv : Value.okWide Try.prog W .any base 22 v) (h : DataW.Trod enc Try.prog W 0 (fun _ => true) true 22 v d p) :
    ∃ L : List AcA, Rds 6 AcA.cs W v L ∧ L.length ≤ 9223372036854775807 ∧ ∀ x ∈ L, x.Ok :=
  open_rds Try.underlying22 (by kernel_rfl) (by decide) AcA.Ok (fun h hl => actA_cells h hl) hv h
set_option maxRecDepth 100000 in
theorem open_tagA (hv : Value.okWide Try.prog W .any base 25 v) (h : DataW.Trod enc Try.prog W 0 (fun _ => true) true 25 v d p) :
    ∃ b t : Int, v = .agg #[.int .u64 b, .int .u64 t] ∧ TgOk b t := by
  obtain ⟨cs, rfl, hsz⟩ := okWide_struct Try.underlying25 hv
  obtain ⟨l⟩ := cs
  have hC : Try.prog.cellsOf 25 = 2 := by kernel_rfl
  obtain ⟨fuel, hf⟩ := h
  obtain ⟨b, t, e, h1⟩ := tagI_cells (cs := l) (by simpa [Value.cells] using hf) (by simpa using hsz.trans hC)
  subst e
  exact ⟨b, t, rfl, h1⟩
end
end Go.Proofs.Ytcedninipbafaaa

namespace Go.Proofs.Ytcedninipbafaaa
open Go.RowKit
attribute [local go_sem ↓] Go.wp_at_zero Go.wp_at_succ
attribute [local go_sem ↓ high] eqTI neTI eqVI neVI

theorem hearY {p : Nat} {a : Ad} {w : World} (hA : PA p a w) (hI : Inv a) (h : Hl) (hm : mayHl h = true) :
    Calls Try.prog 13 #[.pointer (some ⟨p, 0, none⟩), .agg #[.int .i64 h.n, .int .u64 h.mb, .int .u64 h.mt, .int .u64 h.hb, .int .u64 h.ht]] w fun e w' => (∃ ev, e = .returned (.tuple #[.int .i64 ev, .int .i64 0])) ∧ PA p (hearA a h) w' ∧ Chg [p] w w' := by
  refine (hearW hA hI h).mono ?_
  rintro e w' ⟨rfl, hP, hC⟩
  rw [if_pos hm, if_pos hm]
  exact ⟨⟨_, rfl⟩, hP, hC⟩
theorem hearY0 {p : Nat} {a : Ad} {w : World} (hA : PA p a w) (hI : Inv a) (h : Hl) (hm : mayHl h = false) :
    Calls Try.prog 13 #[.pointer (some ⟨p, 0, none⟩), .agg #[.int .i64 h.n, .int .u64 h.mb, .int .u64 h.mt, .int .u64 h.hb, .int .u64 h.ht]] w fun e w' => e = .returned (.tuple #[.int .i64 0, .int .i64 2]) ∧ PA p a w' ∧ Chg [p] w w' := by
  refine (hearW hA hI h).mono ?_
  rintro e w' ⟨rfl, hP, hC⟩
  rw [if_neg (by rw [hm]; simp), if_neg (by rw [hm]; simp)]
  rw [show hearA a h = a from if_neg (by rw [hm]; simp)] at hP
  exact ⟨rfl, hP, hC⟩
theorem hearA_0 {a : Ad} {h : Hl} (hm : mayHl h = false) : hearA a h = a := if_neg (by rw [hm]; simp)
theorem tickRW {q : Nat} {r : Rf} {w : World} (hA : RA q r w) : Calls Try.prog 22 #[.pointer (some ⟨q, 0, none⟩)] w (TkR q r w) := by
  cases ts : r.said with
  | false =>
    cases t2 : r.v.st == 0 with
    | true => exact tickRAa hA ts t2
    | false =>
      cases t3 : decide (wrap64 (r.sil + 1) < r.dead) with
      | true => exact tickRAb hA ts t2 t3
      | false => exact tickRAc hA ts t2 t3
  | true =>
    cases te : r.ss == r.every with
    | true =>
      cases t2 : r.v.st == 0 with
      | true => exact tickRBa hA ts te t2
      | false =>
        cases t3 : decide (wrap64 (r.sil + 1) < r.dead) with
        | true => exact tickRBb hA ts te t2 t3
        | false => exact tickRBc hA ts te t2 t3
    | false =>
      cases t2 : r.v.st == 0 with
      | true => exact tickRCa hA ts te t2
      | false =>
        cases t3 : decide (wrap64 (r.sil + 1) < r.dead) with
        | true => exact tickRCb hA ts te t2 t3
        | false => exact tickRCc hA ts te t2 t3
/-- What an act leaves: of the program's, of the reference's. -/
def actA (a : Ad) (x : AcA) (s : Int) : Ad := if x.k = 1 then hearA a x.h else if x.k = 2 then tickA a s else if x.k = 3 then dropA a else a
def actR (r : Rf) (x : AcA) (ss : Int) (sd : Bool) : Rf := if x.k = 1 then (if mayHl x.h = true then hearR r x.h else r) else if x.k = 2 then tickR r ss sd else if x.k = 3 then anR r else r
def DoA (p q : Nat) (a : Ad) (r : Rf) (x : AcA) (w : World) (e : Ending) (w' : World) : Prop :=
  (∃ b, e = .returned (.bool b)) ∧ (∃ s ss sd, PA p (actA a x s) w' ∧ RA q (actR r x ss sd) w') ∧ Chg [p, q] w w'
theorem PA.alongR {p q : Nat} {a : Ad} {w w' : World} (h : PA p a w) (hc : Chg [q] w w') (hne : p ≠ q) : PA p a w' := h.chg hc (by simp; omega)
theorem RA.alongA {p q : Nat} {r : Rf} {w w' : World} (h : RA q r w) (hc : Chg [p] w w') (hne : p ≠ q) : RA q r w' := h.chg hc (by simp; omega)
theorem ChgL {p q : Nat} {w w' : World} (h : Chg [p] w w') : Chg [p, q] w w' := h.mono (by simp)
theorem ChgR {p q : Nat} {w w' : World} (h : Chg [q] w w') : Chg [p, q] w w' := h.mono (by simp)
set_option maxHeartbeats 16000000 in
set_option maxRecDepth 100000 in
theorem doW {p q : Nat} {a : Ad} {r : Rf} {w : World} (hA : PA p a w) (hR : RA q r w) (hne : p ≠ q) (hI : Inv a) (hJ : InvR r) (x : AcA) :
    Calls Try.prog 10 #[.pointer (some ⟨p, 0, none⟩), .pointer (some ⟨q, 0, none⟩), .agg #[.int .i64 x.k, .int .i64 x.h.n, .int .u64 x.h.mb, .int .u64 x.h.mt, .int .u64 x.h.hb, .int .u64 x.h.ht]] w (DoA p q a r x w) := by
  obtain ⟨w1, hw1⟩ : ∃ W, W = w.alloc (.cells #[.int .i64 x.k, .int .i64 x.h.n, .int .u64 x.h.mb, .int .u64 x.h.mt, .int .u64 x.h.hb, .int .u64 x.h.ht] 37) := ⟨_, rfl⟩
  have hb : Below w.heap.size w w1 := by rw [hw1]; exact (Below.refl _ _).alloc (Nat.le_refl _) _
  have hX : BlkAt 37 w.heap.size x.cs w1 := by rw [hw1]; exact BlkAt.new w _
  have HA1 := Lib.hid (hA.later hb)
  have HR1 := Lib.hid (hR.later hb)
  have HX1 := Lib.hid hX
  have HC1 := Lib.hid (Chg.of_below [p, q] hb)
  have HNE := Lib.hid hne
  have HI := Lib.hid hI
  have HJ := Lib.hid hJ
  have HXP : Hid (w.heap.size ∉ [p]) := by
    have : w.heap.size ∉ [p] := by have := hA.lt; simp; omega
    exact this
  have HW := Lib.hid hw1
  have hX := HX1.out
  unfold AcA.cs at hX
  have x0 := BlkAt.cell hX (j := 0) rfl; have x1 := BlkAt.cell hX (j := 1) rfl; have x2 := BlkAt.cell hX (j := 2) rfl; have x3 := BlkAt.cell hX (j := 3) rfl; have x4 := BlkAt.cell hX (j := 4) rfl; have x5 := BlkAt.cell hX (j := 5) rfl
  unfold DoA
  clear hA hR hb hne hI hJ hw1 hX
  by_cases k1 : x.k = 1
  · have t1 : (x.k == 1) = true := beq_iff_eq.2 k1
    cases tm : mayHl x.h with
    | false =>
      have HM := Lib.hid (fun W => (by have := mayRW x.h W; rw [tm] at this; exact this : Calls Try.prog 20 #[.agg #[.int .i64 x.h.n, .int .u64 x.h.mb, .int .u64 x.h.mt, .int .u64 x.h.hb, .int .u64 x.h.ht]] W fun e w' => e = .returned (.bool false) ∧ Below W.heap.size W w'))
      have HH := Lib.hid (hearY0 HA1.out HI.out x.h tm)
      have HEA : Hid (∀ s, actA a x s = a) := by
        have : ∀ s, actA a x s = a := fun s => by unfold actA; rw [if_pos k1, hearA_0 tm]
        exact this
      have HER : Hid (∀ ss sd, actR r x ss sd = r) := by
        have : ∀ ss sd, actR r x ss sd = r := fun ss sd => by unfold actR; rw [if_pos k1, if_neg (by rw [tm]; simp)]
        exact this
      clear k1 tm
      go_enter Try.func10, Try.ntmps10
      go_wp2_with fail
      rw [← HW.out]
      refine HH.out.mono ?_
      rintro e w2 ⟨rfl, hP, hC⟩
      have hX2 := hC.blk HX1.out HXP.out
      unfold AcA.cs at hX2
      have HA2 := Lib.hid hP
      have HR2 := Lib.hid (HR1.out.alongA hC HNE.out)
      have HC2 := Lib.hid (HC1.out.trans (ChgL hC))
      clear hP hC x0 x1 x2 x3 x4 x5
      have x0 := BlkAt.cell hX2 (j := 0) rfl; have x1 := BlkAt.cell hX2 (j := 1) rfl; have x2 := BlkAt.cell hX2 (j := 2) rfl; have x3 := BlkAt.cell hX2 (j := 3) rfl; have x4 := BlkAt.cell hX2 (j := 4) rfl; have x5 := BlkAt.cell hX2 (j := 5) rfl
      clear hX2
      go_wp2_with fail
      refine (HM.out _).mono ?_
      rintro e w3 ⟨rfl, hb⟩
      have HA3 := Lib.hid (HA2.out.later hb)
      have HR3 := Lib.hid (HR2.out.later hb)
      have HC3 := Lib.hid (HC2.out.trans (Chg.of_below _ hb))
      clear hb
      go_wp2_with fail
      go_ret
      exact ⟨⟨_, rfl⟩, ⟨0, 0, false, by rw [HEA.out]; exact HA3.out, by rw [HER.out]; exact HR3.out⟩, HC3.out⟩
    | true =>
      have HM := Lib.hid (fun W => (by have := mayRW x.h W; rw [tm] at this; exact this : Calls Try.prog 20 #[.agg #[.int .i64 x.h.n, .int .u64 x.h.mb, .int .u64 x.h.mt, .int .u64 x.h.hb, .int .u64 x.h.ht]] W fun e w' => e = .returned (.bool true) ∧ Below W.heap.size W w'))
      have HH := Lib.hid (hearY HA1.out HI.out x.h tm)
      have HTM := Lib.hid tm
      have HEA : Hid (∀ s, actA a x s = hearA a x.h) := by
        have : ∀ s, actA a x s = hearA a x.h := fun s => if_pos k1
        exact this
      have HER : Hid (∀ ss sd, actR r x ss sd = hearR r x.h) := by
        have : ∀ ss sd, actR r x ss sd = hearR r x.h := fun ss sd => by unfold actR; rw [if_pos k1, if_pos tm]
        exact this
      clear k1 tm
      go_enter Try.func10, Try.ntmps10
      go_wp2_with fail
      rw [← HW.out]
      refine HH.out.mono ?_
      rintro e w2 ⟨⟨ev, rfl⟩, hP, hC⟩
      have hX2 := hC.blk HX1.out HXP.out
      have HX2 := Lib.hid hX2
      unfold AcA.cs at hX2
      have HA2 := Lib.hid hP
      have HR2 := Lib.hid (HR1.out.alongA hC HNE.out)
      have HC2 := Lib.hid (HC1.out.trans (ChgL hC))
      clear hP hC x0 x1 x2 x3 x4 x5
      have x0 := BlkAt.cell hX2 (j := 0) rfl; have x1 := BlkAt.cell hX2 (j := 1) rfl; have x2 := BlkAt.cell hX2 (j := 2) rfl; have x3 := BlkAt.cell hX2 (j := 3) rfl; have x4 := BlkAt.cell hX2 (j := 4) rfl; have x5 := BlkAt.cell hX2 (j := 5) rfl
      clear hX2
      go_wp2_with fail
      refine (HM.out _).mono ?_
      rintro e w3 ⟨rfl, hb⟩
      have HA3 := Lib.hid (HA2.out.later hb)
      have HR3 := Lib.hid (HR2.out.later hb)
      have HC3 := Lib.hid (HC2.out.trans (Chg.of_below _ hb))
      have hX3 := BlkAt.later HX2.out hb
      unfold AcA.cs at hX3
      have HHR := Lib.hid (hearRW HR3.out HJ.out x.h HTM.out)
      clear hb x0 x1 x2 x3 x4 x5
      have x0 := BlkAt.cell hX3 (j := 0) rfl; have x1 := BlkAt.cell hX3 (j := 1) rfl; have x2 := BlkAt.cell hX3 (j := 2) rfl; have x3 := BlkAt.cell hX3 (j := 3) rfl; have x4 := BlkAt.cell hX3 (j := 4) rfl; have x5 := BlkAt.cell hX3 (j := 5) rfl
      clear hX3
      go_wp2_with fail
      refine HHR.out.mono ?_
      rintro e w4 ⟨⟨rv, rfl⟩, hP, hC⟩
      have HA4 := Lib.hid (HA3.out.alongR hC HNE.out)
      have HR4 := Lib.hid hP
      have HC4 := Lib.hid (HC3.out.trans (ChgR hC))
      clear hP hC
      go_wp2_with fail
      go_ret
      exact ⟨⟨_, rfl⟩, ⟨0, 0, false, by rw [HEA.out]; exact HA4.out, by rw [HER.out]; exact HR4.out⟩, HC4.out⟩
  have t1 : (x.k == 1) = false := beq_eq_false_iff_ne.2 k1
  by_cases k2 : x.k = 2
  · have t2 : (x.k == 2) = true := beq_iff_eq.2 k2
    have HT := Lib.hid (tickW HA1.out HI.out.nz)
    unfold TkA at HT
    have HEA : Hid (∀ s, actA a x s = tickA a s) := by
      have : ∀ s, actA a x s = tickA a s := fun s => by unfold actA; rw [if_neg k1, if_pos k2]
      exact this
    have HER : Hid (∀ ss sd, actR r x ss sd = tickR r ss sd) := by
      have : ∀ ss sd, actR r x ss sd = tickR r ss sd := fun ss sd => by unfold actR; rw [if_neg k1, if_pos k2]
      exact this
    clear k1 k2
    go_enter Try.func10, Try.ntmps10
    go_wp2_with fail
    rw [← HW.out]
    refine HT.out.mono ?_
    rintro e w2 ⟨ev, b, s, rfl, hP, hC⟩
    have HA2 := Lib.hid hP
    have HR2 := Lib.hid (HR1.out.alongA hC HNE.out)
    have HC2 := Lib.hid (HC1.out.trans (ChgL hC))
    have HT2 := Lib.hid (tickRW HR2.out)
    unfold TkR at HT2
    clear hP hC x0 x1 x2 x3 x4 x5
    go_wp2_with fail
    refine HT2.out.mono ?_
    rintro e w3 ⟨rv, b2, ss, sd, rfl, hP, hC⟩
    have HA3 := Lib.hid (HA2.out.alongR hC HNE.out)
    have HR3 := Lib.hid hP
    have HC3 := Lib.hid (HC2.out.trans (ChgR hC))
    clear hP hC
    cases te : ev == rv
    all_goals
      go_wp2_with fail
      go_ret
      exact ⟨⟨_, rfl⟩, ⟨s, ss, sd, by rw [HEA.out]; exact HA3.out, by rw [HER.out]; exact HR3.out⟩, HC3.out⟩
  have t2 : (x.k == 2) = false := beq_eq_false_iff_ne.2 k2
  by_cases k3 : x.k = 3
  · have t3 : (x.k == 3) = true := beq_iff_eq.2 k3
    have HT := Lib.hid (dropW HA1.out HI.out.nz)
    have HEA : Hid (∀ s, actA a x s = dropA a) := by
      have : ∀ s, actA a x s = dropA a := fun s => by unfold actA; rw [if_neg k1, if_neg k2, if_pos k3]
      exact this
    have HER : Hid (∀ ss sd, actR r x ss sd = anR r) := by
      have : ∀ ss sd, actR r x ss sd = anR r := fun ss sd => by unfold actR; rw [if_neg k1, if_neg k2, if_pos k3]
      exact this
    clear k1 k2 k3
    go_enter Try.func10, Try.ntmps10
    go_wp2_with fail
    rw [← HW.out]
    refine HT.out.mono ?_
    rintro e w2 ⟨rfl, hP, hC⟩
    have HA2 := Lib.hid hP
    have HR2 := Lib.hid (HR1.out.alongA hC HNE.out)
    have HC2 := Lib.hid (HC1.out.trans (ChgL hC))
    have HT2 := Lib.hid (dropRW HR2.out)
    clear hP hC x0 x1 x2 x3 x4 x5
    go_wp2_with fail
    refine HT2.out.mono ?_
    rintro e w3 ⟨⟨rv, rfl⟩, hP, hC⟩
    have HA3 := Lib.hid (HA2.out.alongR hC HNE.out)
    have HR3 := Lib.hid hP
    have HC3 := Lib.hid (HC2.out.trans (ChgR hC))
    clear hP hC
    go_wp2_with fail
    go_ret
    exact ⟨⟨_, rfl⟩, ⟨0, 0, false, by rw [HEA.out]; exact HA3.out, by rw [HER.out]; exact HR3.out⟩, HC3.out⟩
  · have t3 : (x.k == 3) = false := beq_eq_false_iff_ne.2 k3
    have HEA : Hid (∀ s, actA a x s = a) := by
      have : ∀ s, actA a x s = a := fun s => by unfold actA; rw [if_neg k1, if_neg k2, if_neg k3]
      exact this
    have HER : Hid (∀ ss sd, actR r x ss sd = r) := by
      have : ∀ ss sd, actR r x ss sd = r := fun ss sd => by unfold actR; rw [if_neg k1, if_neg k2, if_neg k3]
      exact this
    clear k1 k2 k3
    go_enter Try.func10, Try.ntmps10
    go_wp2_with fail
    rw [← HW.out]
    go_ret
    exact ⟨⟨_, rfl⟩, ⟨0, 0, false, by rw [HEA.out]; exact HA1.out, by rw [HER.out]; exact HR1.out⟩, HC1.out⟩
end Go.Proofs.Ytcedninipbafaaa

namespace Go.Proofs.Ytcedninipbafaaa
open Go.RowKit
attribute [local go_sem ↓] Go.wp_at_zero Go.wp_at_succ
attribute [local go_sem ↓ high] eqTI neTI eqVI neVI

/-- Is a frame of this node, with these tags, one of the session? -/
def accB (v : Vw) (n ob ot tb tt : Int) : Bool := sameVI v.st v.mb v.mt v.tb v.tt v.n 2 ob ot tb tt n
set_option maxHeartbeats 2000000 in
theorem acceptsW {p : Nat} {a : Ad} {w : World} (h : PA p a w) (hn : a.node ≠ 0) (n ob ot tb tt : Int) : Calls Try.prog 12 #[.pointer (some ⟨p, 0, none⟩), .int .i64 n, .agg #[.int .u64 ob, .int .u64 ot], .agg #[.int .u64 tb, .int .u64 tt]] w fun e w' => e = .returned (.bool (accB a.v n ob ot tb tt)) ∧ Below w.heap.size w w' := by
  obtain ⟨W1, hW1⟩ : ∃ W1, W1 = (w.alloc (.cells #[.int .u64 ob, .int .u64 ot] 25)).alloc (.cells #[.int .u64 tb, .int .u64 tt] 25) := ⟨_, rfl⟩
  have hb : Below w.heap.size w W1 := by rw [hW1]; exact ((Below.refl _ _).alloc (Nat.le_refl _) _).alloc (by simp) _
  have h1 : BlkAt 25 w.heap.size [.int .u64 ob, .int .u64 ot] W1 := by rw [hW1]; exact (BlkAt.new w _).later (ba1 _ _)
  have h2 : BlkAt 25 (w.heap.size + 1) [.int .u64 tb, .int .u64 tt] W1 := by
    rw [hW1]
    have := BlkAt.new (t := 25) (w.alloc (.cells #[.int .u64 ob, .int .u64 ot] 25)) [.int .u64 tb, .int .u64 tt]
    simpa using this
  have H1 := Lib.hid h1
  have H2 := Lib.hid h2
  have HB := Lib.hid hb
  have HV := Lib.hid (fun (W : World) (q : Below W1.heap.size W1 W) => viewW ((h.later hb).later q) hn)
  have HW := Lib.hid hW1
  clear h hn hb h1 h2 hW1
  go_enter Try.func12, Try.ntmps12
  go_wp2_with fail
  rw [← HW.out]
  (refine wp_region_held_drew (S := (fun w' => Below W1.heap.size W1 w')) (by kernel_rfl) ?_ (fun hHeld => ?_); (focus ((try dsimp only); (exact (Below.refl _ _).drew))))
  (try dsimp only at hHeld)
  (refine wpAnyH_take (i := 0) (v := ?_) rfl (by kernel_rfl) (by kernel_rfl) (by kernel_rfl) (fun _ _ _ h => h) (Or.inl ⟨by rfl, ?_⟩) hHeld ?_; rotate_left; (focus (intro w hSw; (try dsimp only at hSw); go_simp; try with_reducible rfl)); (try simp only [Act.put, List.setIfInBounds_toArray, List.set_cons_zero, List.set_cons_succ, List.getElem_toArray, List.getElem_cons_zero]))
  (refine wpAnyH_take (i := 2) (v := ?_) rfl (by kernel_rfl) (by kernel_rfl) (by kernel_rfl) (fun _ _ _ h => h) (Or.inl ⟨by rfl, ?_⟩) hHeld ?_; rotate_left; (focus (intro w hSw; (try dsimp only at hSw); go_simp; (have e0 := BlkAt.cell (BlkAt.later H1.out hSw) (j := 0) rfl; have e1 := BlkAt.cell (BlkAt.later H1.out hSw) (j := 1) rfl; go_simp; try with_reducible rfl))); (try simp only [Act.put, List.setIfInBounds_toArray, List.set_cons_zero, List.set_cons_succ, List.getElem_toArray, List.getElem_cons_zero, List.getElem_cons_succ]))
  (refine wpAnyH_take (i := 3) (v := ?_) rfl (by kernel_rfl) (by kernel_rfl) (by kernel_rfl) (fun _ _ _ h => h) (Or.inl ⟨by rfl, ?_⟩) hHeld ?_; rotate_left; (focus (intro w hSw; (try dsimp only at hSw); go_simp; (have e0 := BlkAt.cell (BlkAt.later H2.out hSw) (j := 0) rfl; have e1 := BlkAt.cell (BlkAt.later H2.out hSw) (j := 1) rfl; go_simp; try with_reducible rfl))); (try simp only [Act.put, List.setIfInBounds_toArray, List.set_cons_zero, List.set_cons_succ, List.getElem_toArray, List.getElem_cons_zero, List.getElem_cons_succ]))
  (refine wpAnyH_take (i := 4) (v := ?_) rfl (by kernel_rfl) (by kernel_rfl) (by kernel_rfl) (fun _ _ _ h => h) (Or.inl ⟨by rfl, ?_⟩) hHeld ?_; rotate_left; (focus (intro w hSw; (try dsimp only at hSw); go_simp; try with_reducible rfl)); (try simp only [Act.put, List.setIfInBounds_toArray, List.set_cons_zero, List.set_cons_succ, List.getElem_toArray, List.getElem_cons_zero, List.getElem_cons_succ])); (refine wpAnyH_take (i := 5) (v := ?_) rfl (by kernel_rfl) (by kernel_rfl) (by kernel_rfl) (fun _ _ _ h => h) (Or.inl ⟨by rfl, ?_⟩) hHeld ?_; rotate_left; (focus (intro w hSw; (try dsimp only at hSw); go_simp; try with_reducible rfl)); (try simp only [Act.put, List.setIfInBounds_toArray, List.set_cons_zero, List.set_cons_succ, List.getElem_toArray, List.getElem_cons_zero, List.getElem_cons_succ]))
  (refine wpAnyH_ready (rs := [1]) (by kernel_rfl) (by simp) ?_; refine AllReadyH.cons rfl (fun K hK => ?_) AllReadyH.nil; go_simp; refine (HV.out _ hHeld).mono ?_; rintro e y5 ⟨rfl, hs⟩; refine hK.out _ _ ?_ (fun hHeldN => ?_); (focus ((try dsimp only); (exact hHeld.trans (hs.mono hHeld.size)))); clear hK K hHeld; have hHeld := hHeldN; clear hHeldN; (try simp only [Act.put, List.setIfInBounds_toArray, List.set_cons_zero, List.set_cons_succ, List.getElem_toArray, List.getElem_cons_zero, List.getElem_cons_succ]))
  (refine wpAnyH_take (i := 6) (v := ?_) rfl (by kernel_rfl) (by kernel_rfl) (by kernel_rfl) (fun _ _ _ h => h) (Or.inl ⟨by rfl, ?_⟩) hHeld ?_; rotate_left; (focus (intro w hSw; (try dsimp only at hSw); go_simp; try with_reducible rfl)); (try simp only [Act.put, List.setIfInBounds_toArray, List.set_cons_zero, List.set_cons_succ, List.getElem_toArray, List.getElem_cons_zero, List.getElem_cons_succ])); (refine wpAnyH_take (i := 7) (v := ?_) rfl (by kernel_rfl) (by kernel_rfl) (by kernel_rfl) (fun _ _ _ h => h) (Or.inl ⟨by rfl, ?_⟩) hHeld ?_; rotate_left; (focus (intro w hSw; (try dsimp only at hSw); go_simp; try with_reducible rfl)); (try simp only [Act.put, List.setIfInBounds_toArray, List.set_cons_zero, List.set_cons_succ, List.getElem_toArray, List.getElem_cons_zero, List.getElem_cons_succ]))
  refine wpAnyH_done (by kernel_rfl) ?_ _
  go_wp2_with fail
  go_ret
  exact ⟨rfl, below_of HB.out hHeld⟩
def newA (n b : Int) : Ad := ⟨n, 3, 9, 2, 0, ⟨0, b, 1, 0, 0, 0⟩⟩
theorem newW (n b : Int) (w : World) (h1 : 1 ≤ n) (h2 : n ≤ 16) (hb : b ≠ 0) : Calls Try.prog 8 #[.int .i64 n, .int .u64 b, .int .i64 3, .int .i64 9] w fun e w' => e = .returned (.tuple #[.pointer (some ⟨w.heap.size, 0, none⟩), .int .i64 0]) ∧ PA w.heap.size (newA n b) w' ∧ Below w.heap.size w w' := by
  have HN := nodeW n w
  rw [show inI 1 n 16 = true from decide_eq_true ⟨h1, h2⟩] at HN
  have HN := Lib.hid HN
  have t : (b == 0) = false := beq_eq_false_iff_ne.2 hb
  clear h1 h2 hb
  go_enter Try.func8, Try.ntmps8
  go_wp2_with fail
  refine HN.out.mono ?_
  rintro e w1 ⟨rfl, rfl⟩
  go_wp2_with fail
  refine (ticksW 3 w (by omega) (by omega)).mono ?_
  rintro e w1 ⟨rfl, rfl⟩
  go_wp2_with fail
  refine (ticksW 9 w (by omega) (by omega)).mono ?_
  rintro e w1 ⟨rfl, rfl⟩
  go_wp2_with fail
  go_ret2
  exact ⟨rfl, BlkAt.new w _, (Below.refl _ _).alloc (Nat.le_refl _) _⟩
end Go.Proofs.Ytcedninipbafaaa

namespace Go.Proofs.Ytcedninipbafaaa
open Go.RowKit
attribute [local go_sem ↓] Go.wp_at_zero Go.wp_at_succ
attribute [local go_sem ↓ high] eqTI neTI eqVI neVI

def ka0 : Ad := ⟨1, 3, 9, 2, 0, 0, 5, 1, 0, 0, 0⟩
def kb0 : Ad := ⟨2, 3, 9, 2, 0, 0, 7, 1, 0, 0, 0⟩
def ka1 : Ad := ⟨1, 3, 9, 2, 0, 2, 5, 1, 7, 1, 2⟩
def kb1 : Ad := ⟨2, 3, 9, 2, 0, 1, 7, 1, 5, 1, 1⟩
def kb2 : Ad := ⟨2, 3, 9, 2, 0, 2, 7, 1, 5, 1, 1⟩
theorem inv_k {a : Ad} (h1 : 1 ≤ a.node) (h2 : a.v.st = 0 ∨ a.v.st = 1 ∨ a.v.st = 2) (h3 : a.v.st = 0 → a.v.tb = 0 ∧ a.v.tt = 0 ∧ a.v.n = 0) (h4 : a.v.st ≠ 0 → a.v.tb ≠ 0 ∧ a.v.n ≠ a.node ∧ 1 ≤ a.v.n) : Inv a := ⟨h1, h2, h3, h4⟩
theorem ika0 : Inv ka0 := ⟨by decide, by decide, by decide, by decide⟩
theorem ikb0 : Inv kb0 := ⟨by decide, by decide, by decide, by decide⟩
theorem ikb1 : Inv kb1 := ⟨by decide, by decide, by decide, by decide⟩
theorem k_1 : hearA kb0 ⟨1, 5, 1, 0, 0⟩ = kb1 := by kernel_rfl
theorem k_2 : hearA ka0 ⟨2, 7, 1, 5, 1⟩ = ka1 := by kernel_rfl
theorem k_3 : hearA kb1 ⟨1, 5, 1, 7, 1⟩ = kb2 := by kernel_rfl
theorem k_1e : (if mayHl ⟨1, 5, 1, 0, 0⟩ = true then cameI kb0.v (hearA kb0 ⟨1, 5, 1, 0, 0⟩).v else 0) = 0 ∧ (if mayHl ⟨1, 5, 1, 0, 0⟩ = true then 0 else 2 : Int) = 0 := ⟨by kernel_rfl, by kernel_rfl⟩
theorem k_2e : (if mayHl ⟨2, 7, 1, 5, 1⟩ = true then cameI ka0.v (hearA ka0 ⟨2, 7, 1, 5, 1⟩).v else 0) = 1 ∧ (if mayHl ⟨2, 7, 1, 5, 1⟩ = true then 0 else 2 : Int) = 0 := ⟨by kernel_rfl, by kernel_rfl⟩
theorem k_3e : (if mayHl ⟨1, 5, 1, 7, 1⟩ = true then cameI kb1.v (hearA kb1 ⟨1, 5, 1, 7, 1⟩).v else 0) = 1 ∧ (if mayHl ⟨1, 5, 1, 7, 1⟩ = true then 0 else 2 : Int) = 0 := ⟨by kernel_rfl, by kernel_rfl⟩
theorem k_acc : accB ka1.v 2 5 1 7 1 = true ∧ accB kb2.v 1 7 1 5 1 = true := ⟨by kernel_rfl, by kernel_rfl⟩
theorem sayK {p : Nat} {a : Ad} {w : World} (h : PA p a w) (hn : a.node ≠ 0) {n ob ot tb tt : Int} (h1 : a.node = n) (h2 : a.v.mb = ob) (h3 : a.v.mt = ot) (h4 : a.v.tb = tb) (h5 : a.v.tt = tt) :
    Calls Try.prog 16 #[.pointer (some ⟨p, 0, none⟩)] w fun e w' => e = .returned (.tuple #[.agg #[.int .i64 n, .int .u64 ob, .int .u64 ot, .int .u64 tb, .int .u64 tt], .int .i64 0]) ∧ Below w.heap.size w w' := by
  subst h1 h2 h3 h4 h5
  exact sayW h hn
theorem viewK {p : Nat} {a : Ad} {w : World} (h : PA p a w) (hn : a.node ≠ 0) {s n ob ot tb tt : Int} (h0 : a.v.st = s) (h1 : a.v.n = n) (h2 : a.v.mb = ob) (h3 : a.v.mt = ot) (h4 : a.v.tb = tb) (h5 : a.v.tt = tt) :
    Calls Try.prog 11 #[.pointer (some ⟨p, 0, none⟩)] w fun e w' => e = .returned (.agg #[.int .i64 s, .int .u64 ob, .int .u64 ot, .int .u64 tb, .int .u64 tt, .int .i64 n]) ∧ Below w.heap.size w w' := by
  subst h0 h1 h2 h3 h4 h5
  exact viewW h hn
theorem field_V (s a b c d n : Int) (W : World) : (Instr.field 40 (.agg #[.int .i64 s, .int .u64 a, .int .u64 b, .int .u64 c, .int .u64 d, .int .i64 n]) 0).run Try.prog W = .ok (.int .i64 s) W := rfl
attribute [local go_sem ↓ high] field_V
/-- Hear, of one that is known. -/
theorem hearK {p : Nat} {a b : Ad} {w : World} (hA : PA p a w) (hI : Inv a) (h : Hl) {ev er : Int} (e1 : hearA a h = b) (e2 : (if mayHl h = true then cameI a.v (hearA a h).v else 0) = ev ∧ (if mayHl h = true then 0 else 2 : Int) = er) :
    Calls Try.prog 13 #[.pointer (some ⟨p, 0, none⟩), .agg #[.int .i64 h.n, .int .u64 h.mb, .int .u64 h.mt, .int .u64 h.hb, .int .u64 h.ht]] w fun e w' => e = .returned (.tuple #[.int .i64 ev, .int .i64 er]) ∧ PA p b w' ∧ Chg [p] w w' := by
  have := hearW hA hI h
  unfold HrA at this
  rw [e2.1, e2.2, e1] at this
  exact this
set_option maxHeartbeats 8000000 in
set_option maxRecDepth 100000 in
theorem knownA (w : World) : Calls Try.prog 7 #[] w fun e w' => e = .returned (.bool true) ∧ Below w.heap.size w w' := by
  go_enter Try.func7, Try.ntmps7
  go_wp2_with fail
  refine (newW 1 5 w (by omega) (by omega) (by omega)).mono ?_
  rintro e w1 ⟨rfl, hP, hb⟩
  have HA1 := Lib.hid (show PA w.heap.size ka0 w1 from hP)
  have HB1 := Lib.hid hb
  clear hP hb
  go_wp2_with fail
  refine (newW 2 7 w1 (by omega) (by omega) (by omega)).mono ?_
  rintro e w2 ⟨rfl, hP, hb⟩
  have HA2 := Lib.hid (HA1.out.later hb)
  have HQ2 := Lib.hid (show PA w1.heap.size kb0 w2 from hP)
  have HB2 := Lib.hid (below_of HB1.out hb)
  have HL : Hid (w.heap.size < w1.heap.size) := by
    have : w.heap.size < w1.heap.size := HA1.out.lt
    exact this
  clear hP hb
  go_wp2_with fail
  refine (sayK HA2.out (by decide) (n := 1) (ob := 5) (ot := 1) (tb := 0) (tt := 0) rfl rfl rfl rfl rfl).mono ?_
  rintro e w3 ⟨rfl, hb⟩
  obtain ⟨w4, hw4⟩ : ∃ W, W = w3.alloc (.cells #[.int .i64 1, .int .u64 5, .int .u64 1, .int .u64 0, .int .u64 0] 35) := ⟨_, rfl⟩
  have hb4 : Below w2.heap.size w2 w4 := by rw [hw4]; exact hb.alloc hb.size _
  have hX : BlkAt 35 w3.heap.size [.int .i64 1, .int .u64 5, .int .u64 1, .int .u64 0, .int .u64 0] w4 := by rw [hw4]; exact BlkAt.new w3 _
  have HA4 := Lib.hid (HA2.out.later hb4)
  have HQ4 := Lib.hid (HQ2.out.later hb4)
  have HB4 := Lib.hid (below_of HB2.out hb4)
  have HX4 := Lib.hid hX
  have HLX : Hid (w1.heap.size < w3.heap.size) := by
    have : w1.heap.size < w3.heap.size := by have := HQ2.out.lt; have := hb.size; omega
    exact this
  have HH := Lib.hid (hearK HQ4.out ikb0 ⟨1, 5, 1, 0, 0⟩ k_1 k_1e)
  have HW := Lib.hid hw4
  rw [hw4] at hX
  have x0 := BlkAt.cell hX (j := 0) rfl; have x1 := BlkAt.cell hX (j := 1) rfl; have x2 := BlkAt.cell hX (j := 2) rfl; have x3 := BlkAt.cell hX (j := 3) rfl; have x4 := BlkAt.cell hX (j := 4) rfl
  clear hb hb4 hw4 hX
  go_wp2_with fail
  rw [← HW.out]
  refine HH.out.mono ?_
  rintro e w5 ⟨rfl, hP, hC⟩
  have HA5 := Lib.hid (HA4.out.chg hC (by have := HL.out; simp; omega))
  have HQ5 := Lib.hid hP
  have HX5 := Lib.hid (hC.blk HX4.out (by have := HLX.out; simp; omega))
  have HB5 := Lib.hid (hC.onA HB4.out (by have := HL.out; simp; omega))
  clear hP hC x0 x1 x2 x3 x4
  go_wp2_with fail
  refine (viewK HQ5.out (by decide) (s := 1) (n := 1) (ob := 7) (ot := 1) (tb := 5) (tt := 1) rfl rfl rfl rfl rfl rfl).mono ?_
  rintro e w6 ⟨rfl, hb⟩
  have HA6 := Lib.hid (HA5.out.later hb)
  have HQ6 := Lib.hid (HQ5.out.later hb)
  have HX6 := Lib.hid (BlkAt.later HX5.out hb)
  have HB6 := Lib.hid (below_of HB5.out hb)
  clear hb
  go_wp2_with fail
  refine (sayK HQ6.out (by decide) (n := 2) (ob := 7) (ot := 1) (tb := 5) (tt := 1) rfl rfl rfl rfl rfl).mono ?_
  rintro e w7 ⟨rfl, hb⟩
  obtain ⟨w8, hw8⟩ : ∃ W, W = w7.alloc (.cells #[.int .i64 2, .int .u64 7, .int .u64 1, .int .u64 5, .int .u64 1] 35) := ⟨_, rfl⟩
  have hb8 : Below w6.heap.size w6 w8 := by rw [hw8]; exact hb.alloc hb.size _
  have hY : BlkAt 35 w7.heap.size [.int .i64 2, .int .u64 7, .int .u64 1, .int .u64 5, .int .u64 1] w8 := by rw [hw8]; exact BlkAt.new w7 _
  have HA8 := Lib.hid (HA6.out.later hb8)
  have HQ8 := Lib.hid (HQ6.out.later hb8)
  have HX8 := Lib.hid (BlkAt.later HX6.out hb8)
  have HB8 := Lib.hid (below_of HB6.out hb8)
  have HH := Lib.hid (hearK HA8.out ika0 ⟨2, 7, 1, 5, 1⟩ k_2 k_2e)
  have HW8 := Lib.hid hw8
  rw [hw8] at hY
  have y0 := BlkAt.cell hY (j := 0) rfl; have y1 := BlkAt.cell hY (j := 1) rfl; have y2 := BlkAt.cell hY (j := 2) rfl; have y3 := BlkAt.cell hY (j := 3) rfl; have y4 := BlkAt.cell hY (j := 4) rfl
  clear hb hb8 hw8 hY
  go_wp2_with fail
  rw [← HW8.out]
  refine HH.out.mono ?_
  rintro e w9 ⟨rfl, hP, hC⟩
  have HA9 := Lib.hid hP
  have HQ9 := Lib.hid (HQ8.out.chg hC (by have := HL.out; simp; omega))
  have HX9 := Lib.hid (hC.blk HX8.out (by have := HLX.out; have := HL.out; simp; omega))
  have HB9 := Lib.hid (hC.onA HB8.out (by simp))
  clear hP hC y0 y1 y2 y3 y4
  go_wp2_with fail
  refine (sayK HA9.out (by decide) (n := 1) (ob := 5) (ot := 1) (tb := 7) (tt := 1) rfl rfl rfl rfl rfl).mono ?_
  rintro e wa ⟨rfl, hb⟩
  have hXa := BlkAt.later HX9.out hb
  have x0 := BlkAt.cell hXa (j := 0) rfl; have x1 := BlkAt.cell hXa (j := 1) rfl; have x2 := BlkAt.cell hXa (j := 2) rfl; have x3 := BlkAt.cell hXa (j := 3) rfl; have x4 := BlkAt.cell hXa (j := 4) rfl
  have hfz : ∀ j, wa.frozen? ⟨w3.heap.size, j, none⟩ = false := fun j => BlkAt.frozen hXa j
  obtain ⟨wb, hwb⟩ : ∃ W, W = ((((wa.setCell ⟨w3.heap.size, 0, none⟩ (.int .i64 1)).setCell ⟨w3.heap.size, 1, none⟩ (.int .u64 5)).setCell ⟨w3.heap.size, 2, none⟩ (.int .u64 1)).setCell ⟨w3.heap.size, 3, none⟩ (.int .u64 7)).setCell ⟨w3.heap.size, 4, none⟩ (.int .u64 1) := ⟨_, rfl⟩
  have hC : Chg [w3.heap.size] wa wb := by rw [hwb]; exact (((((Chg.refl [w3.heap.size] wa).set (by simp) 0 _).set (by simp) 1 _).set (by simp) 2 _).set (by simp) 3 _).set (by simp) 4 _
  have HQb := Lib.hid ((HQ9.out.later hb).chg hC (by have := HLX.out; simp; omega))
  have HAb := Lib.hid ((HA9.out.later hb).chg hC (by have := HLX.out; have := HL.out; simp; omega))
  have HBb := Lib.hid (hC.onA (below_of HB9.out hb) (by have := HLX.out; have := HL.out; simp; omega))
  have HH := Lib.hid (hearK HQb.out ikb1 ⟨1, 5, 1, 7, 1⟩ k_3 k_3e)
  have HWb := Lib.hid hwb
  clear hb hXa hwb hC
  go_wp2_with fail
  rw [← HWb.out]
  refine HH.out.mono ?_
  rintro e wc ⟨rfl, hP, hC⟩
  have HAc := Lib.hid (HAb.out.chg hC (by have := HL.out; simp; omega))
  have HQc := Lib.hid hP
  have HBc := Lib.hid (hC.onA HBb.out (by have := HL.out; simp; omega))
  clear hP hC x0 x1 x2 x3 x4 hfz
  go_wp2_with fail
  have HK := Lib.hid (acceptsW HAc.out (by decide) 2 5 1 7 1)
  rw [k_acc.1] at HK
  refine HK.out.mono ?_
  rintro e wd ⟨rfl, hb⟩
  have HQd := Lib.hid (HQc.out.later hb)
  have HBd := Lib.hid (below_of HBc.out hb)
  clear hb HK
  go_wp2_with fail
  have HK := Lib.hid (acceptsW HQd.out (by decide) 1 7 1 5 1)
  rw [k_acc.2] at HK
  refine HK.out.mono ?_
  rintro e we ⟨rfl, hb⟩
  have HBe := Lib.hid (below_of HBd.out hb)
  clear hb HK
  go_wp2_with fail
  go_ret
  exact ⟨rfl, HBe.out⟩
end Go.Proofs.Ytcedninipbafaaa
