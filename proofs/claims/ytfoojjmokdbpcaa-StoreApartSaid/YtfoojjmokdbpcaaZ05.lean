/- StorePlays: the law's walk.
   One act, by both: a byte spoilt.
   One act, by both: a write.
   One act, by both: the walk of the law's 'do'.
   An act by value, and a slice of acts, opened.
   Bytes among a struct's cells, opened.
   Arguments that are bytes, and lists of bytes, opened. -/
import Derived.ProofKit
import Derived.OpenShut
import Derived.Deep.Matrix
import Derived.Lib.SmallJoins
import Derived.Deep.Slices
import Derived.Test.YtfoojjmokdbpcaaZ01
import Derived.Test.YtfoojjmokdbpcaaZ04

set_option linter.unusedSimpArgs false
set_option linter.unusedVariables false
namespace Go.Proofs.Ytfoojjmokdbpcaa
open Go.ChangeShapes Go.WideShapes Go.ChangeAt Go.RowKit

theorem lt_u8 {a : Int} (h : 0 ≤ a ∧ a ≤ 255) : a < 256 := by omega
theorem lt_u16 {a : Int} (h : 0 ≤ a ∧ a ≤ 65535) : a < 65536 := by omega
theorem lt_u32 {a : Int} (h : 0 ≤ a ∧ a ≤ 4294967295) : a < 4294967296 := by omega
theorem lt_u64 {a : Int} (h : 0 ≤ a ∧ a ≤ 18446744073709551615) : a < 18446744073709551616 := by omega

theorem own : ownKnob Try.prog.godebug = none := by kernel_rfl
theorem laidOut : laidOutB Try.prog = true := by kernel_rfl


theorem spot_none {W : World} {a : Addr} {v : Value} (h : W.cell? (a.add 0) = some v) : a.spot = none := by
  obtain ⟨b, o, sp⟩ := a
  cases sp with
  | none => rfl
  | some s =>
    simp [World.cell?, Addr.add] at h
    split at h <;> cases h
theorem bytes_of_ints {W : World} {A : Option Addr} {len cap : Nat} {zs : List Int} (hl : len ≤ cap) (hz : zs.length = cap) (hwz : ∀ n ∈ zs, (Lit.int .u8 n).wf = true) (h0 : A = none → cap = 0)
    (hc : ∀ a, A = some a → ∀ c, c < cap → W.cell? (a.add c) = some (.int .u8 (zs.getD c 0))) : Bytes W (.slice A len cap) ((zs.take len).map fun z => UInt8.ofNat z.toNat) := by
  have hlen : ((zs.take len).map fun z => UInt8.ofNat z.toNat).length = len := by simp; omega
  rcases Nat.eq_zero_or_pos len with hp | hp
  · subst hp
    exact .inl ⟨by simp, A, cap, rfl, h0⟩
  · cases A with
    | none => have := h0 rfl; omega
    | some x =>
      have hcell := hc x rfl
      have hc0 := hcell 0 (by omega)
      have hsp := spot_none hc0
      obtain ⟨b, o, sp⟩ := x
      simp only at hsp
      subst hsp
      refine .inr ⟨b, o, cap, by rw [hlen], ?_, by rw [hlen]; exact hl, ?_⟩
      · have := World.block_lt_of_cell? _ _ hc0
        simpa [Addr.add] using this
      · intro j y hy
        simp only [List.getElem?_map, Option.map_eq_some_iff] at hy
        obtain ⟨z, hz1, rfl⟩ := hy
        have hj : j < len := by
          have := (List.getElem?_eq_some_iff.1 hz1).1
          simp at this; omega
        have hz2 : zs[j]? = some z := by rw [List.getElem?_take, if_pos hj] at hz1; exact hz1
        have hb := bounds_u8 (hwz z (List.mem_of_getElem? hz2))
        have hcj := hcell j (by omega)
        have he : zs.getD j 0 = z := by simp [List.getD, hz2]
        rw [he] at hcj
        have hn : ((UInt8.ofNat z.toNat).toNat : Int) = z := by rw [UInt8.toNat_ofNat']; omega
        rw [hn]
        cases j with
        | zero => simpa [Addr.add] using hcj
        | succ j => simpa [Addr.add] using hcj

set_option maxRecDepth 100000 in
theorem open_bytes {H : Type} {enc : TypeId × Value → H} {W : World} {base : Nat} {v : Value} {d : DataW H} {p : List MemPlace}
    (hv : Value.okWide Try.prog W .any base 30 v) (h : DataW.Trod enc Try.prog W 0 (fun _ => true) true 30 v d p) : ∃ l : List UInt8, Bytes W v l ∧ l.length ≤ 9223372036854775807 := by
  obtain ⟨a, len, cap, rfl⟩ := okWide_slice Try.underlying30 hv
  obtain ⟨fuel, hf⟩ := h
  rcases open_ints Try.underlying30 Try.underlying5 (by kernel_rfl) hf with ⟨hcs, _⟩ | ⟨x, l, c, zs, hcs, _, hl, hm, hz, _, hcell, hwz⟩
  · simp [Value.cells] at hcs
    obtain ⟨rfl, rfl, rfl⟩ := hcs
    exact ⟨[], Bytes.nil _ _ _, by simp⟩
  · simp [Value.cells] at hcs
    obtain ⟨rfl, rfl, rfl⟩ := hcs
    unfold maxLen at hm
    have hzl : zs.length = cap := by simpa using hz
    exact ⟨_, bytes_of_ints hl hzl hwz (fun h => by cases h) (fun a ha c hc => by cases ha; exact hcell c (by omega)), by simp; omega⟩

set_option maxRecDepth 100000 in
theorem open_lists {H : Type} {enc : TypeId × Value → H} {W : World} {base : Nat} {v : Value} {d : DataW H} {p : List MemPlace}
    (hv : Value.okWide Try.prog W .any base 58 v) (h : DataW.Trod enc Try.prog W 0 (fun _ => true) true 58 v d p) :
    ∃ L : List (List UInt8), Lists W v L ∧ L.length ≤ 9223372036854775807 ∧ ∀ l ∈ L, l.length ≤ 9223372036854775807 := by
  obtain ⟨a, len, cap, rfl⟩ := okWide_slice Try.underlying58 hv
  obtain ⟨fuel, hf⟩ := h
  rcases Deep.open_int_rows Try.underlying58 Try.underlying30 Try.underlying5 (by kernel_rfl) (by kernel_rfl) hf with ⟨hcs, _⟩ | ⟨x, l, c, A, Ln, C, Z, hcs, _, hl, hm, _, hr⟩
  · simp [Value.cells] at hcs
    obtain ⟨rfl, rfl, rfl⟩ := hcs
    exact ⟨[], Lists.nil _ _ _, by simp, by simp⟩
  · simp [Value.cells] at hcs
    obtain ⟨rfl, rfl, rfl⟩ := hcs
    unfold maxLen at hm hr
    have each : ∀ r, r < cap → Bytes W (.slice (A r) (Ln r) (C r)) (((Z r).take (Ln r)).map fun z => UInt8.ofNat z.toNat) := fun r hrr => by
      obtain ⟨_, h1, h2, h3, h4, h5, h6⟩ := hr r hrr
      exact bytes_of_ints h1 h3 h4 h5 (fun a ha c hc => (h6 a ha).2 c hc)
    refine ⟨(List.range len).map fun r => ((Z r).take (Ln r)).map fun z => UInt8.ofNat z.toNat, ?_, by simp; omega, ?_⟩
    · rcases Nat.eq_zero_or_pos len with hp | hp
      · subst hp
        exact .inl ⟨by simp, _, _, rfl, fun h => by cases h⟩
      · have hc0 := (hr 0 (by omega)).1
        have hsp := spot_none hc0
        obtain ⟨b, o, sp⟩ := x
        simp only at hsp
        subst hsp
        refine .inr ⟨b, o, cap, by simp, ?_, by simpa using hl, ?_⟩
        · have := World.block_lt_of_cell? _ _ hc0
          simpa [Addr.add] using this
        · intro j l hjl
          simp only [List.getElem?_map, Option.map_eq_some_iff] at hjl
          obtain ⟨r, hr1, rfl⟩ := hjl
          have hj : j < len := by
            have := (List.getElem?_eq_some_iff.1 hr1).1
            simpa using this
          have hr2 : r = j := by rw [List.getElem?_range hj] at hr1; cases hr1; rfl
          subst hr2
          refine ⟨_, ?_, each r (by omega)⟩
          have := (hr r (by omega)).1
          cases r with
          | zero => simpa [Addr.add] using this
          | succ r => simpa [Addr.add] using this
    · intro l hl2
      simp only [List.mem_map, List.mem_range] at hl2
      obtain ⟨r, hr1, rfl⟩ := hl2
      obtain ⟨_, h1, h2, h3, _⟩ := hr r (by omega)
      simp; omega

set_option maxRecDepth 100000 in
theorem open_introw {H : Type} {enc : TypeId × Value → H} {W : World} {base : Nat} {v : Value} {d : DataW H} {p : List MemPlace}
    (hv : Value.okWide Try.prog W .any base 57 v) (h : DataW.Trod enc Try.prog W 0 (fun _ => true) true 57 v d p) :
    ∃ zs : List Int, Row W v (iv zs) ∧ zs.length ≤ 9223372036854775807 ∧ ∀ z ∈ zs, -9223372036854775808 ≤ z ∧ z ≤ 9223372036854775807 := by
  obtain ⟨a, len, cap, rfl⟩ := okWide_slice Try.underlying57 hv
  obtain ⟨fuel, hf⟩ := h
  rcases open_ints Try.underlying57 Try.underlying3 (by kernel_rfl) hf with ⟨hcs, _⟩ | ⟨x, l, c, zs, hcs, _, hl, hm, hz, _, hcell, hwz⟩
  · simp [Value.cells] at hcs
    obtain ⟨rfl, rfl, rfl⟩ := hcs
    exact ⟨[], .inl ⟨rfl, _, _, rfl, fun _ => rfl⟩, by simp, by simp⟩
  · simp [Value.cells] at hcs
    obtain ⟨rfl, rfl, rfl⟩ := hcs
    unfold maxLen at hm
    have hzl : zs.length = cap := by simpa using hz
    refine ⟨zs.take len, ?_, by simp; omega, fun z hz2 => bounds_i64 (hwz z (List.mem_of_mem_take hz2))⟩
    rcases Nat.eq_zero_or_pos len with hp | hp
    · subst hp
      exact .inl ⟨by simp [iv], _, _, rfl, fun h => by cases h⟩
    · have hc0 := hcell 0 (by omega)
      have hsp := spot_none hc0
      obtain ⟨b, o, sp⟩ := x
      simp only at hsp
      subst hsp
      have hlen : (iv (zs.take len)).length = len := by simp [iv]; omega
      refine .inr ⟨b, o, cap, by rw [hlen], ?_, by rw [hlen]; exact hl, ?_⟩
      · have := World.block_lt_of_cell? _ _ hc0
        simpa [Addr.add] using this
      · intro j y hy
        simp only [iv, List.getElem?_map, Option.map_eq_some_iff] at hy
        obtain ⟨z, hz1, rfl⟩ := hy
        have hj : j < len := by
          have := (List.getElem?_eq_some_iff.1 hz1).1
          simp at this; omega
        have hz2 : zs[j]? = some z := by rw [List.getElem?_take, if_pos hj] at hz1; exact hz1
        have hcj := hcell j (by omega)
        have he : zs.getD j 0 = z := by simp [List.getD, hz2]
        rw [he] at hcj
        cases j with
        | zero => simpa [Addr.add] using hcj
        | succ j => simpa [Addr.add] using hcj

end Go.Proofs.Ytfoojjmokdbpcaa

namespace Go.Proofs.Ytfoojjmokdbpcaa
open Go.ChangeShapes Go.WideShapes Go.ChangeAt Go.RowKit Go.Joins Go.Deep

set_option maxRecDepth 100000 in
theorem open_bytes_c {H : Type} {enc : TypeId × Value → H} {W : World} {fuel : Nat} {v : Value} {x : DataW H × List MemPlace}
    (hf : DataW.trod enc Try.prog W 0 (fun _ => true) true fuel 30 [v] = some x) : ∃ l : List UInt8, Bytes W v l ∧ l.length ≤ 9223372036854775807 := by
  rcases open_ints Try.underlying30 Try.underlying5 (by kernel_rfl) hf with ⟨hcs, _⟩ | ⟨x, l, c, zs, hcs, _, hl, hm, hz, _, hcell, hwz⟩
  · simp only [List.cons.injEq, and_true] at hcs
    subst hcs
    exact ⟨[], Bytes.nil _ _ _, by simp⟩
  · simp only [List.cons.injEq, and_true] at hcs
    subst hcs
    unfold maxLen at hm
    have hzl : zs.length = c := by simpa using hz
    exact ⟨_, bytes_of_ints hl hzl hwz (fun h => by cases h) (fun a ha c hc => by cases ha; exact hcell c (by omega)), by simp; omega⟩
end Go.Proofs.Ytfoojjmokdbpcaa

namespace Go.Proofs.Ytfoojjmokdbpcaa
open Go.ChangeShapes Go.WideShapes Go.ChangeAt Go.RowKit Go.Joins Go.Deep

/-- An act. -/
structure Ac where
  k : Int
  a : Int
  n : Int
  x : UInt8
  u : Bool
  B : List UInt8
instance : Inhabited Ac := ⟨⟨0, 0, 0, 0, false, []⟩⟩
structure Ac.Ok (A : Ac) : Prop where
  k0 : -9223372036854775808 ≤ A.k
  k1 : A.k ≤ 9223372036854775807
  a0 : -9223372036854775808 ≤ A.a
  a1 : A.a ≤ 9223372036854775807
  n0 : -9223372036854775808 ≤ A.n
  n1 : A.n ≤ 9223372036854775807
  b : A.B.length ≤ 9223372036854775807
/-- An act's cells. -/
def acl (A : Ac) (v : Value) : List Value := [.int .i64 A.k, .int .i64 A.a, .int .i64 A.n, .int .u8 (A.x.toNat : Int), .bool A.u, v]

section
variable {H : Type} {enc : TypeId × Value → H} {W : World}
set_option maxRecDepth 100000 in
theorem act_cells {fuel : Nat} {cs : List Value} {y : DataW H × List MemPlace} (h : DataW.trod enc Try.prog W 0 (fun _ => true) true fuel 32 cs = some y) (hl : cs.length = 6) :
    ∃ (A : Ac) (v : Value), cs = acl A v ∧ A.Ok ∧ Bytes W v A.B := by
  have ki : Try.prog.cellsOf 3 = 1 := by kernel_rfl
  have ku : Try.prog.cellsOf 5 = 1 := by kernel_rfl
  have kt : Try.prog.cellsOf 4 = 1 := by kernel_rfl
  have kb : Try.prog.cellsOf 30 = 1 := by kernel_rfl
  match cs, hl with
  | [c0, c1, c2, c3, c4, c5], _ =>
    obtain ⟨xs, n, _, hx, _, hlen, hg⟩ := DataW.trod_struct Try.underlying32 h
    match xs, hlen with
    | [y0, y1, y2, y3, y4, y5], _ =>
      have h0 : DataW.trod enc Try.prog W 0 (fun _ => true) true n 3 [c0] = some y0 := by simpa [ki, ku, kt, kb] using hg 0 _ rfl
      have h1 : DataW.trod enc Try.prog W 0 (fun _ => true) true n 3 [c1] = some y1 := by simpa [ki, ku, kt, kb] using hg 1 _ rfl
      have h2 : DataW.trod enc Try.prog W 0 (fun _ => true) true n 3 [c2] = some y2 := by simpa [ki, ku, kt, kb] using hg 2 _ rfl
      have h3 : DataW.trod enc Try.prog W 0 (fun _ => true) true n 5 [c3] = some y3 := by simpa [ki, ku, kt, kb] using hg 3 _ rfl
      have h4 : DataW.trod enc Try.prog W 0 (fun _ => true) true n 4 [c4] = some y4 := by simpa [ki, ku, kt, kb] using hg 4 _ rfl
      have h5 : DataW.trod enc Try.prog W 0 (fun _ => true) true n 30 [c5] = some y5 := by simpa [ki, ku, kt, kb] using hg 5 _ rfl
      obtain ⟨a0, e0, _, w0⟩ := DataW.trod_int Try.underlying3 h0
      obtain ⟨a1, e1, _, w1⟩ := DataW.trod_int Try.underlying3 h1
      obtain ⟨a2, e2, _, w2⟩ := DataW.trod_int Try.underlying3 h2
      obtain ⟨a3, e3, _, w3⟩ := DataW.trod_int Try.underlying5 h3
      obtain ⟨a4, e4, _⟩ := DataW.trod_bool Try.underlying4 h4
      obtain ⟨B, hB, hBl⟩ := open_bytes_c h5
      simp only [List.cons.injEq, and_true] at e0 e1 e2 e3 e4
      subst e0 e1 e2 e3 e4
      have b0 := bounds_i64 w0
      have b1 := bounds_i64 w1
      have b2 := bounds_i64 w2
      have b3 := bounds_u8 w3
      obtain ⟨x, rfl⟩ := Int.eq_ofNat_of_zero_le b3.1
      have ex : ((UInt8.ofNat x).toNat : Int) = (x : Int) := by rw [UInt8.toNat_ofNat', Nat.mod_eq_of_lt (by omega)]
      refine ⟨⟨a0, a1, a2, UInt8.ofNat x, a4, B⟩, c5, ?_, ⟨b0.1, b0.2, b1.1, b1.2, b2.1, b2.2, hBl⟩, hB⟩
      unfold acl
      simp only [ex]
end
/-- The value reads as these acts. -/
def Acts (w : World) (v : Value) (L : List Ac) : Prop :=
  (L = [] ∧ ∃ a c, v = .slice a 0 c ∧ (a = none → c = 0)) ∨
  ∃ b o c, v = .slice (some ⟨b, o, none⟩) L.length c ∧ b < w.heap.size ∧ L.length ≤ c ∧ ∀ j x, L[j]? = some x → ∃ v, Bytes w v x.B ∧ ∀ i y, (acl x v)[i]? = some y → w.cell? ⟨b, o + j * 6 + i, none⟩ = some y
theorem Acts.later {w w' : World} {v : Value} {L : List Ac} (h : Acts w v L) (hb : Below w.heap.size w w') : Acts w' v L := by
  rcases h with h | ⟨b, o, c, h1, h2, hp, h3⟩
  · exact .inl h
  · refine .inr ⟨b, o, c, h1, Nat.lt_of_lt_of_le h2 hb.size, hp, fun j x hx => ?_⟩
    obtain ⟨v, hv, hc⟩ := h3 j x hx
    exact ⟨v, hv.later hb, fun i y hy => cell_later hb (hc i y hy)⟩
theorem Acts.form {w : World} {v : Value} {L : List Ac} (h : Acts w v L) : ∃ a c, v = .slice a L.length c := by
  rcases h with ⟨rfl, a, c, rfl, _⟩ | ⟨b, o, c, rfl, _, _⟩
  · exact ⟨a, c, rfl⟩
  · exact ⟨_, c, rfl⟩
theorem Acts.at {w : World} {a : Option Addr} {n c : Nat} {L : List Ac} (h : Acts w (.slice a n c) L) {i : Nat} (hi : i < L.length) :
    ∃ b o x d, a = some ⟨b, o, none⟩ ∧ b < w.heap.size ∧ Bytes w (.slice x L[i].B.length d) L[i].B ∧ ∀ j y, (acl L[i] (.slice x L[i].B.length d))[j]? = some y → w.cell? ⟨b, o + i * 6 + j, none⟩ = some y := by
  rcases h with ⟨rfl, _⟩ | ⟨b, o, c', h1, h2, _, h3⟩
  · simp at hi
  · simp only [Value.slice.injEq] at h1
    obtain ⟨v, hv, hc⟩ := h3 i _ (List.getElem?_eq_getElem hi)
    obtain ⟨x, d, rfl⟩ := hv.form
    exact ⟨b, o, x, d, h1.1, h2, hv, hc⟩

set_option maxRecDepth 100000 in
theorem open_acts {H : Type} {enc : TypeId × Value → H} {W : World} {base : Nat} {v : Value} {d : DataW H} {p : List MemPlace}
    (hv : Value.okWide Try.prog W .any base 22 v) (h : DataW.Trod enc Try.prog W 0 (fun _ => true) true 22 v d p) :
    ∃ L : List Ac, Acts W v L ∧ L.length ≤ 9223372036854775807 ∧ ∀ x ∈ L, x.Ok := by
  obtain ⟨a, len, cap, rfl⟩ := okWide_slice Try.underlying22 hv
  obtain ⟨fuel, hf⟩ := h
  have hC : Try.prog.cellsOf 32 = 6 := by kernel_rfl
  rcases open_slice Try.underlying22 hf with ⟨hcs, _⟩ | ⟨x, l, c, m, n, D, Pl, hcs, _, hl, hm, hmm, _, hx⟩
  · simp [Value.cells] at hcs
    obtain ⟨rfl, rfl, rfl⟩ := hcs
    exact ⟨[], .inl ⟨rfl, _, _, rfl, fun _ => rfl⟩, by simp, by simp⟩
  · simp [Value.cells] at hcs
    obtain ⟨rfl, rfl, rfl⟩ := hcs
    unfold maxLen at hm
    have hm2 : m = cap := by simpa using hmm
    subst hm2
    rw [hC] at hx
    have each : ∀ i, i < m → ∃ A : Ac, (∃ v, Bytes W v A.B ∧ ∀ j y, (acl A v)[j]? = some y → W.cell? (x.add (i * 6 + j)) = some y) ∧ A.Ok := by
      intro i hi
      obtain ⟨cs', h1, h2⟩ := hx i hi
      obtain ⟨_, hlen, hcell⟩ := World.cells?_some h1
      obtain ⟨A, v, rfl, hA, hB⟩ := act_cells h2 hlen
      refine ⟨A, ⟨v, hB, fun j y hj => ?_⟩, hA⟩
      have hj2 := (List.getElem?_eq_some_iff.1 hj).1
      have e := hcell j (by simpa [acl] using hj2)
      rw [add_add] at e
      rw [e]; exact hj
    obtain ⟨F, hF⟩ := choose_lt each
    have hlen : ((List.range len).map F).length = len := by simp
    refine ⟨(List.range len).map F, ?_, by rw [hlen]; omega, ?_⟩
    · rcases Nat.eq_zero_or_pos len with hp | hp
      · subst hp
        exact .inl ⟨by simp, _, _, rfl, fun h => by cases h⟩
      · obtain ⟨⟨v, _, hc0⟩, _⟩ := hF 0 (by omega)
        have hc0 := hc0 0 _ rfl
        rw [Nat.zero_mul] at hc0
        have hsp := spot_none hc0
        obtain ⟨b, o, sp⟩ := x
        simp only at hsp
        subst hsp
        refine .inr ⟨b, o, m, by rw [hlen], ?_, by rw [hlen]; exact hl, ?_⟩
        · have := World.block_lt_of_cell? _ _ hc0
          simpa [Addr.add] using this
        · intro j u hju
          simp only [List.getElem?_map, Option.map_eq_some_iff] at hju
          obtain ⟨r, hr1, rfl⟩ := hju
          have hj : j < len := by
            have := (List.getElem?_eq_some_iff.1 hr1).1
            simpa using this
          have hr : r = j := by
            rw [List.getElem?_range hj] at hr1
            exact (Option.some.inj hr1).symm
          subst hr
          obtain ⟨⟨v, hv, hc⟩, _⟩ := hF r (by omega)
          have ad : ∀ k, (⟨b, o, none⟩ : Addr).add k = ⟨b, o + k, none⟩ := fun k => by cases k <;> simp [Addr.add]
          refine ⟨v, hv, fun i y hy => ?_⟩
          have := hc i y hy
          rw [ad, ← Nat.add_assoc] at this
          exact this
    · intro u hu
      obtain ⟨r, hr, rfl⟩ := List.mem_map.1 hu
      have := List.mem_range.1 hr
      exact (hF r (by omega)).2
end Go.Proofs.Ytfoojjmokdbpcaa

namespace Go.Proofs.Ytfoojjmokdbpcaa
open Go.RowKit
attribute [local go_sem ↓] Go.wp_at_zero Go.wp_at_succ

/-- What an act leaves. -/
def DoA (p g cap q b u cb cu n : Nat) (w : World) (e : Ending) (w' : World) : Prop :=
  e = .returned (.bool true) ∧ (∃ s, s.c.length = n ∧ Bo p g cap q b u cb cu s w') ∧ Chg [p, g, q, b, u] w w'
/-- An act's box. -/
def acb (A : Ac) (a : Option Addr) (c : Nat) : Obj := .cells #[.int .i64 A.k, .int .i64 A.a, .int .i64 A.n, .int .u8 (A.x.toNat : Int), .bool A.u, .slice a A.B.length c] 32
def acv (A : Ac) (a : Option Addr) (c : Nat) : Value := .agg #[.int .i64 A.k, .int .i64 A.a, .int .i64 A.n, .int .u8 (A.x.toNat : Int), .bool A.u, .slice a A.B.length c]
set_option maxHeartbeats 4000000 in
set_option maxRecDepth 100000 in
/-- What is no act does nothing. -/
theorem do0 {p g cap q b u cb cu : Nat} {s : St} {w : World} (h : Bo p g cap q b u cb cu s w) (A : Ac) (a : Option Addr) (c : Nat) (h1 : A.k ≠ 1) (h2 : A.k ≠ 2) (h3 : A.k ≠ 3) (h4 : A.k ≠ 4) (h5 : A.k ≠ 5) :
    Calls Try.prog 11 #[.pointer (some ⟨p, 0, none⟩), .pointer (some ⟨q, 0, none⟩), acv A a c] w (DoA p g cap q b u cb cu s.c.length w) := by
  have HH := Lib.hid h
  have e1 : (A.k == 1) = false := beq_eq_false_iff_ne.2 h1
  have e2 : (A.k == 2) = false := beq_eq_false_iff_ne.2 h2
  have e3 : (A.k == 3) = false := beq_eq_false_iff_ne.2 h3
  have e4 : (A.k == 4) = false := beq_eq_false_iff_ne.2 h4
  have e5 : (A.k == 5) = false := beq_eq_false_iff_ne.2 h5
  unfold acv
  have HB : Hid (Below w.heap.size w (w.alloc (acb A a c))) := ba1 _ _
  unfold acb at HB
  clear h h1 h2 h3 h4 h5
  go_enter Try.func11, Try.ntmps11
  go_wp2_with fail
  go_ret
  exact ⟨rfl, ⟨s, rfl, HH.out.later HB.out⟩, Chg.of_below _ HB.out⟩
set_option maxHeartbeats 4000000 in
set_option maxRecDepth 100000 in
theorem do4 {p g cap q b u cb cu : Nat} {s : St} {w : World} (h : Bo p g cap q b u cb cu s w) (A : Ac) (a : Option Addr) (c : Nat) (hk : A.k = 4) :
    Calls Try.prog 11 #[.pointer (some ⟨p, 0, none⟩), .pointer (some ⟨q, 0, none⟩), acv A a c] w (DoA p g cap q b u cb cu s.c.length w) := by
  unfold acv
  obtain ⟨w1, hw1⟩ : ∃ w1, w1 = w.alloc (acb A a c) := ⟨_, rfl⟩
  have hb1 : Below w.heap.size w w1 := by rw [hw1]; exact ba1 _ _
  unfold acb at hw1
  have h1 := h.later hb1
  have HA := Lib.hid h.apart
  have HR1 := Lib.hid (raiseS h1.P)
  have HRR := Lib.hid h1.R
  have HC0 := Lib.hid (Chg.of_below [p, g, q, b, u] hb1)
  have HW1 := Lib.hid hw1
  rw [hk] at HW1 ⊢
  have HAP := Lib.hid h.apart
  clear h h1 hb1 hw1
  go_enter Try.func11, Try.ntmps11
  go_wp2_with fail
  rw [← HW1.out]
  refine HR1.out.mono ?_
  rintro e w2 ⟨⟨v2, rfl⟩, hP, hC⟩
  have HP := Lib.hid hP
  have HC2 := Lib.hid (HC0.out.trans (hC.mono (by simp)))
  have HR2 := Lib.hid (raiseR (HRR.out.chg hC (by have := HA.out; simp; omega) (by have := HA.out; simp; omega) (by have := HA.out; simp; omega)))
  clear hP hC
  go_wp2_with fail
  refine HR2.out.mono ?_
  rintro e w3 ⟨⟨v3, rfl⟩, hR, hC⟩
  have HP3 := Lib.hid (HP.out.chg hC (by have := HA.out; simp; omega) (by have := HA.out; simp; omega))
  have HR3 := Lib.hid hR
  have HC3 := Lib.hid (HC2.out.trans (hC.mono (by simp)))
  clear hR hC
  go_wp2_with fail
  go_ret
  exact ⟨rfl, ⟨raS s, rfl, HP3.out, HR3.out, HAP.out⟩, HC3.out⟩
set_option maxHeartbeats 4000000 in
set_option maxRecDepth 100000 in
theorem do3 {p g cap q b u cb cu : Nat} {s : St} {w : World} (h : Bo p g cap q b u cb cu s w) (A : Ac) (hA : A.Ok) (a : Option Addr) (c : Nat) (hk : A.k = 3) :
    Calls Try.prog 11 #[.pointer (some ⟨p, 0, none⟩), .pointer (some ⟨q, 0, none⟩), acv A a c] w (DoA p g cap q b u cb cu s.c.length w) := by
  unfold acv
  obtain ⟨w1, hw1⟩ : ∃ w1, w1 = w.alloc (acb A a c) := ⟨_, rfl⟩
  have hb1 : Below w.heap.size w w1 := by rw [hw1]; exact ba1 _ _
  have hbx : BlkAt 32 w.heap.size (acl A (.slice a A.B.length c)) w1 := by rw [hw1]; exact BlkAt.new w _
  unfold acb at hw1
  have h1 := h.later hb1
  have HA : Hid ((p ≠ q ∧ p ≠ b ∧ p ≠ u ∧ g ≠ q ∧ g ≠ b ∧ g ≠ u) ∧ p ≠ w.heap.size) := ⟨h.apart, by have := h.P.lt; omega⟩
  have HR1 := Lib.hid (fuseS h1.P A.n A.x A.u (by have := hA.n1; omega))
  have HRR := Lib.hid h1.R
  have HC0 := Lib.hid (Chg.of_below [p, g, q, b, u] hb1)
  have HW1 := Lib.hid hw1
  have HBX := Lib.hid hbx
  have HN1 := Lib.hid hA.n1
  rw [hk] at HW1 ⊢
  have HAP := Lib.hid h.apart
  clear h h1 hb1 hw1 hbx hA
  obtain ⟨y, hy⟩ : ∃ y : Int, y = (A.x.toNat : Int) := ⟨_, rfl⟩
  rw [← hy] at HR1 HW1 ⊢
  have HY := Lib.hid hy
  clear hy
  go_enter Try.func11, Try.ntmps11
  go_wp2_with fail
  rw [← HW1.out]
  refine HR1.out.mono ?_
  rintro e w2 ⟨⟨v2, rfl⟩, hP, hC⟩
  have HP := Lib.hid hP
  have HC2 := Lib.hid (HC0.out.trans (hC.mono (by simp)))
  have HR2 := Lib.hid (fuseR (HRR.out.chg hC (by have := HA.out; simp; omega) (by have := HA.out; simp; omega) (by have := HA.out; simp; omega)) A.n A.x A.u (by have := HN1.out; omega))
  rw [← HY.out] at HR2
  have hbx := hC.blk HBX.out (by have := HA.out; simp; omega)
  have c2 := hbx.cell (j := 2) rfl
  have c3 := hbx.cell (j := 3) rfl
  have c4 := hbx.cell (j := 4) rfl
  rw [← HY.out] at c3
  clear hP hC hbx
  go_wp2_with fail
  refine HR2.out.mono ?_
  rintro e w3 ⟨⟨v3, rfl⟩, hR, hC⟩
  have HP3 := Lib.hid (HP.out.chg hC (by have := HA.out; simp; omega) (by have := HA.out; simp; omega))
  have HR3 := Lib.hid hR
  have HC3 := Lib.hid (HC2.out.trans (hC.mono (by simp)))
  clear hR hC
  go_wp2_with fail
  go_ret
  exact ⟨rfl, ⟨fuS s A.n A.x A.u, rfl, HP3.out, HR3.out, HAP.out⟩, HC3.out⟩
set_option maxHeartbeats 4000000 in
set_option maxRecDepth 100000 in
theorem do2 {p g cap q b u cb cu : Nat} {s : St} {w : World} (h : Bo p g cap q b u cb cu s w) (A : Ac) (hA : A.Ok) (a : Option Addr) (c : Nat) (hk : A.k = 2) :
    Calls Try.prog 11 #[.pointer (some ⟨p, 0, none⟩), .pointer (some ⟨q, 0, none⟩), acv A a c] w (DoA p g cap q b u cb cu s.c.length w) := by
  unfold acv
  obtain ⟨w1, hw1⟩ : ∃ w1, w1 = w.alloc (acb A a c) := ⟨_, rfl⟩
  have hb1 : Below w.heap.size w w1 := by rw [hw1]; exact ba1 _ _
  have hbx : BlkAt 32 w.heap.size (acl A (.slice a A.B.length c)) w1 := by rw [hw1]; exact BlkAt.new w _
  unfold acb at hw1
  have h1 := h.later hb1
  have HR1 := Lib.hid (readS h1.P A.a A.n hA.a1)
  unfold RdA at HR1
  have HRR : Hid (∀ W, Below w1.heap.size w1 W → Calls Try.prog 24 #[.pointer (some ⟨q, 0, none⟩), .int .i64 A.a, .int .i64 A.n] W (RdR s A.a A.n W)) := fun W hW => readR (h1.R.later hW) A.a A.n hA.n0
  have HB1 := Lib.hid hb1
  have HW1 := Lib.hid hw1
  have HBX := Lib.hid hbx
  have HH := Lib.hid h
  rw [hk] at HW1 ⊢
  clear h h1 hb1 hw1 hbx hA
  obtain ⟨E, hE⟩ : ∃ E, E = rdE s A.a A.n := ⟨_, rfl⟩
  obtain ⟨L, hL⟩ : ∃ E, E = rdB s A.a A.n := ⟨_, rfl⟩
  unfold RdR at HRR
  rw [← hE, ← hL] at HR1
  simp only [← hE, ← hL] at HRR
  clear hE hL
  go_enter Try.func11, Try.ntmps11
  go_wp2_with fail
  rw [← HW1.out]
  refine HR1.out.mono ?_
  rintro e w2 ⟨v2, rfl, hby, hb2⟩
  have HB2 := Lib.hid (below_of HB1.out hb2)
  have HY2 := Lib.hid hby
  have HR2 := Lib.hid (HRR.out _ hb2)
  obtain ⟨a2, k2, rfl⟩ := hby.form
  have hbx := HBX.out.later hb2
  have c1 := hbx.cell (j := 1) rfl
  have c2 := hbx.cell (j := 2) rfl
  clear hby hb2 hbx
  obtain ⟨n, hn⟩ : ∃ n, n = L.length := ⟨_, rfl⟩
  rw [← hn] at HY2 ⊢
  have HN := Lib.hid hn
  clear hn
  go_wp2_with fail
  refine HR2.out.mono ?_
  rintro e w3 ⟨v3, rfl, hby, hb3⟩
  have HB3 := Lib.hid (below_of HB2.out hb3)
  obtain ⟨a3, k3, rfl⟩ := hby.form
  have s1 := (HY2.out.later hb3).str (P := Try.prog) (src := 30) (dst := 9) Try.underlying30 Try.underlying5 Try.underlying9
  have s2 := hby.str (P := Try.prog) (src := 30) (dst := 9) Try.underlying30 Try.underlying5 Try.underlying9
  obtain ⟨S, hS⟩ : ∃ S : ByteArray, S = ⟨L.toArray⟩ := ⟨_, rfl⟩
  rw [← hS] at s1 s2
  rw [← HN.out] at s2 ⊢
  clear hby hb3 hS
  go_wp2_with fail
  go_ret
  exact ⟨by simp, ⟨s, rfl, HH.out.later HB3.out⟩, Chg.of_below _ HB3.out⟩
end Go.Proofs.Ytfoojjmokdbpcaa

namespace Go.Proofs.Ytfoojjmokdbpcaa
open Go.RowKit
attribute [local go_sem ↓] Go.wp_at_zero Go.wp_at_succ

set_option maxHeartbeats 4000000 in
set_option maxRecDepth 100000 in
theorem do1 {p g cap q b u cb cu : Nat} {s : St} {w : World} (h : Bo p g cap q b u cb cu s w) (A : Ac) (hA : A.Ok) (a : Option Addr) (c : Nat) (hv : ∀ W, Chg [p, g, q, b, u] w W → Bytes W (.slice a A.B.length c) A.B) (hk : A.k = 1) :
    Calls Try.prog 11 #[.pointer (some ⟨p, 0, none⟩), .pointer (some ⟨q, 0, none⟩), acv A a c] w (DoA p g cap q b u cb cu s.c.length w) := by
  unfold acv
  obtain ⟨w1, hw1⟩ : ∃ w1, w1 = w.alloc (acb A a c) := ⟨_, rfl⟩
  have hb1 : Below w.heap.size w w1 := by rw [hw1]; exact ba1 _ _
  have hbx : BlkAt 32 w.heap.size (acl A (.slice a A.B.length c)) w1 := by rw [hw1]; exact BlkAt.new w _
  unfold acb at hw1
  have HBo := Lib.hid (h.later hb1)
  have hlt := h.P.lt
  have hlr := h.R.lt
  have HN : Hid (w.heap.size ∉ [p, g, q, b, u]) := by show _ ∉ _; simp; omega
  have HAP := Lib.hid h.apart
  have HC1 := Lib.hid (Chg.of_below [p, g, q, b, u] hb1)
  have HV := Lib.hid hv
  have HA := Lib.hid hA
  have HW1 := Lib.hid hw1
  have HBX := Lib.hid hbx
  have HE : Hid (wrE (nrm s) A.a A.B = wrE s A.a A.B ∧ wrS (nrm s) A.a A.B = nrm (wrS s A.a A.B)) := ⟨wrE_nrm _ _ _, wrS_nrm _ _ _⟩
  have HLEN := Lib.hid (wrS_len s A.a A.B)
  rw [hk] at HW1 ⊢
  clear h hb1 hw1 hbx hA hv hlt hlr
  obtain ⟨m, hm⟩ : ∃ m, m = A.B.length := ⟨_, rfl⟩
  rw [← hm] at HV HW1 HBX ⊢
  have HM := Lib.hid hm
  clear hm
  go_enter Try.func11, Try.ntmps11
  go_wp2_with fail
  rw [← HW1.out]
  (refine wp_region_held_drew (S := (fun w' => Chg [p, g, q, b, u] w1 w')) (by kernel_rfl) ?_ (fun hHeld => ?_); (focus ((try dsimp only); (exact (Chg.refl _ _).drew))))
  (try dsimp only at hHeld)
  obtain ⟨w0, hw0⟩ : ∃ W0, W0 = World.drew w1 := ⟨_, rfl⟩
  have HBo0 := Lib.hid (show Bo p g cap q b u cb cu s w0 by rw [hw0]; exact HBo.out.later (Below.refl _ _).drew)
  rw [← hw0]
  rw [← hw0] at hHeld
  clear hw0
  (refine wpAnyH_take (i := 0) (v := ?_) rfl (by kernel_rfl) (by kernel_rfl) (by kernel_rfl) (fun _ _ _ h => h) (Or.inl ⟨by rfl, ?_⟩) hHeld ?_; rotate_left; (focus (intro w hSw; (try dsimp only at hSw); go_simp; try with_reducible rfl)); (try simp only [Act.put, List.setIfInBounds_toArray, List.set_cons_zero, List.set_cons_succ, List.getElem_toArray, List.getElem_cons_zero])); (refine wpAnyH_take (i := 1) (v := ?_) rfl (by kernel_rfl) (by kernel_rfl) (by kernel_rfl) (fun _ _ _ h => h) (Or.inl ⟨by rfl, ?_⟩) hHeld ?_; rotate_left; (focus (intro w hSw; (try dsimp only at hSw); go_simp; try with_reducible rfl)); (try simp only [Act.put, List.setIfInBounds_toArray, List.set_cons_zero, List.set_cons_succ, List.getElem_toArray, List.getElem_cons_zero, List.getElem_cons_succ])); (refine wpAnyH_take (i := 3) (v := ?_) rfl (by kernel_rfl) (by kernel_rfl) (by kernel_rfl) (fun _ _ _ h => h) (Or.inl ⟨by rfl, ?_⟩) hHeld ?_; rotate_left; (focus (intro w hSw; (try dsimp only at hSw); go_simp; try with_reducible rfl)); (try simp only [Act.put, List.setIfInBounds_toArray, List.set_cons_zero, List.set_cons_succ, List.getElem_toArray, List.getElem_cons_zero, List.getElem_cons_succ])); (refine wpAnyH_take (i := 6) (v := ?_) rfl (by kernel_rfl) (by kernel_rfl) (by kernel_rfl) (fun _ _ _ h => h) (Or.inl ⟨by rfl, ?_⟩) hHeld ?_; rotate_left; (focus (intro w hSw; (try dsimp only at hSw); go_simp; try with_reducible rfl)); (try simp only [Act.put, List.setIfInBounds_toArray, List.set_cons_zero, List.set_cons_succ, List.getElem_toArray, List.getElem_cons_zero, List.getElem_cons_succ])); (refine wpAnyH_take (i := 7) (v := ?_) rfl (by kernel_rfl) (by kernel_rfl) (by kernel_rfl) (fun _ _ _ h => h) (Or.inl ⟨by rfl, ?_⟩) hHeld ?_; rotate_left; (focus (intro w hSw; (try dsimp only at hSw); go_simp; try with_reducible rfl)); (try simp only [Act.put, List.setIfInBounds_toArray, List.set_cons_zero, List.set_cons_succ, List.getElem_toArray, List.getElem_cons_zero, List.getElem_cons_succ])); (refine wpAnyH_take (i := 9) (v := ?_) rfl (by kernel_rfl) (by kernel_rfl) (by kernel_rfl) (fun _ _ _ h => h) (Or.inl ⟨by rfl, ?_⟩) hHeld ?_; rotate_left; (focus (intro w hSw; (try dsimp only at hSw); go_simp; try with_reducible rfl)); (try simp only [Act.put, List.setIfInBounds_toArray, List.set_cons_zero, List.set_cons_succ, List.getElem_toArray, List.getElem_cons_zero, List.getElem_cons_succ]))
  (refine wpAnyH_take (i := 2) (v := ?_) rfl (by kernel_rfl) (by kernel_rfl) (by kernel_rfl) (fun _ _ _ h => h) (Or.inl ⟨by rfl, ?_⟩) hHeld ?_; rotate_left; (focus (intro w hSw; (try dsimp only at hSw); go_simp; (have hcc := (hSw.blk HBX.out HN.out).cell (j := 1) rfl; go_simp; try with_reducible rfl))); (try simp only [Act.put, List.setIfInBounds_toArray, List.set_cons_zero, List.set_cons_succ, List.getElem_toArray, List.getElem_cons_zero, List.getElem_cons_succ]))
  (refine wpAnyH_take (i := 4) (v := ?_) rfl (by kernel_rfl) (by kernel_rfl) (by kernel_rfl) (fun _ _ _ h => h) (Or.inl ⟨by rfl, ?_⟩) hHeld ?_; rotate_left; (focus (intro w hSw; (try dsimp only at hSw); go_simp; (have hcc := (hSw.blk HBX.out HN.out).cell (j := 5) rfl; go_simp; try with_reducible rfl))); (try simp only [Act.put, List.setIfInBounds_toArray, List.set_cons_zero, List.set_cons_succ, List.getElem_toArray, List.getElem_cons_zero, List.getElem_cons_succ]))
  (refine wpAnyH_take (i := 8) (v := ?_) rfl (by kernel_rfl) (by kernel_rfl) (by kernel_rfl) (fun _ _ _ h => h) (Or.inl ⟨by rfl, ?_⟩) hHeld ?_; rotate_left; (focus (intro w hSw; (try dsimp only at hSw); go_simp; (have hcc := (hSw.blk HBX.out HN.out).cell (j := 1) rfl; go_simp; try with_reducible rfl))); (try simp only [Act.put, List.setIfInBounds_toArray, List.set_cons_zero, List.set_cons_succ, List.getElem_toArray, List.getElem_cons_zero, List.getElem_cons_succ]))
  (refine wpAnyH_take (i := 10) (v := ?_) rfl (by kernel_rfl) (by kernel_rfl) (by kernel_rfl) (fun _ _ _ h => h) (Or.inl ⟨by rfl, ?_⟩) hHeld ?_; rotate_left; (focus (intro w hSw; (try dsimp only at hSw); go_simp; (have hcc := (hSw.blk HBX.out HN.out).cell (j := 5) rfl; go_simp; try with_reducible rfl))); (try simp only [Act.put, List.setIfInBounds_toArray, List.set_cons_zero, List.set_cons_succ, List.getElem_toArray, List.getElem_cons_zero, List.getElem_cons_succ]))
  refine wpAnyH_at (m := #[true, true, true, true, true, false, true, true, true, true, true, false, false, false]) (by kernel_rfl) ?_
  (refine wpAnyH_ready (rs := [5]) (by kernel_rfl) (by simp) ?_; refine AllReadyH.cons rfl (fun K hK => ?_) AllReadyH.nil; go_simp; refine (writeS HBo0.out.P A.a HA.out.a1 (.slice a m c) A.B (fun W hW => HV.out W (HC1.out.trans (hHeld.trans (hW.mono (by simp)))))).mono ?_; rintro e w2 ⟨rfl, hP, hC⟩; have HP := Lib.hid hP; have HCC := Lib.hid hC; clear hP; refine hK.out _ _ ?_ (fun hHeldN => ?_); (focus ((try dsimp only); (exact hHeld.trans (hC.mono (by simp))))); clear hK K hHeld; have hHeld := hHeldN; clear hHeldN; (try simp only [Act.put, List.setIfInBounds_toArray, List.set_cons_zero, List.set_cons_succ, List.getElem_toArray, List.getElem_cons_zero, List.getElem_cons_succ]))
  have HR := Lib.hid (HBo0.out.R.chg HCC.out (by have := HAP.out; simp; omega) (by have := HAP.out; simp; omega) (by have := HAP.out; simp; omega))
  refine wpAnyH_at (m := #[true, true, true, true, true, true, true, true, true, true, true, false, false, false]) (by kernel_rfl) ?_
  (refine wpAnyH_ready (rs := [11]) (by kernel_rfl) (by simp) ?_; refine AllReadyH.cons rfl (fun K hK => ?_) AllReadyH.nil; go_simp; refine (writeR HR.out A.a (.slice a m c) A.B HA.out.b (fun W hW => HV.out W (HC1.out.trans (hHeld.trans (hW.mono (by simp)))))).mono ?_; rintro e w3 ⟨rfl, hR, hC3⟩; have HR3 := Lib.hid hR; have HCC3 := Lib.hid hC3; clear hR; refine hK.out _ _ ?_ (fun hHeldN => ?_); (focus ((try dsimp only); (exact hHeld.trans (hC3.mono (by simp))))); clear hK K hHeld; have hHeld := hHeldN; clear hHeldN; (try simp only [Act.put, List.setIfInBounds_toArray, List.set_cons_zero, List.set_cons_succ, List.getElem_toArray, List.getElem_cons_zero, List.getElem_cons_succ]))
  rw [HE.out.2] at HR3
  rw [HE.out.1]
  obtain ⟨E, hE⟩ : ∃ E, E = wrE s A.a A.B := ⟨_, rfl⟩
  rw [← hE]
  clear hE
  refine wpAnyH_at (m := #[true, true, true, true, true, true, true, true, true, true, true, true, false, false]) (by kernel_rfl) ?_
  (refine wpAnyH_take (i := 12) (v := ?_) rfl (by kernel_rfl) (by kernel_rfl) (by kernel_rfl) (fun _ _ _ h => h) (Or.inl ⟨by rfl, ?_⟩) hHeld ?_; rotate_left; (focus (intro w hSw; (try dsimp only at hSw); go_simp; try with_reducible rfl)); (try simp only [Act.put, List.setIfInBounds_toArray, List.set_cons_zero, List.set_cons_succ, List.getElem_toArray, List.getElem_cons_zero, List.getElem_cons_succ])); (refine wpAnyH_take (i := 13) (v := ?_) rfl (by kernel_rfl) (by kernel_rfl) (by kernel_rfl) (fun _ _ _ h => h) (Or.inl ⟨by rfl, ?_⟩) hHeld ?_; rotate_left; (focus (intro w hSw; (try dsimp only at hSw); go_simp; try with_reducible rfl)); (try simp only [Act.put, List.setIfInBounds_toArray, List.set_cons_zero, List.set_cons_succ, List.getElem_toArray, List.getElem_cons_zero, List.getElem_cons_succ]))
  refine wpAnyH_done (by kernel_rfl) ?_ _
  have HP3 := Lib.hid (HP.out.chg HCC3.out (by have := HAP.out; simp; omega) (by have := HAP.out; simp; omega))
  have HF := Lib.hid (HC1.out.trans hHeld)
  go_wp2_with fail
  go_ret
  exact ⟨by simp, ⟨wrS s A.a A.B, HLEN.out, HP3.out, HR3.out, HAP.out⟩, HF.out⟩
end Go.Proofs.Ytfoojjmokdbpcaa

namespace Go.Proofs.Ytfoojjmokdbpcaa
open Go.RowKit
attribute [local go_sem ↓] Go.wp_at_zero Go.wp_at_succ

theorem sp_no {s : St} {a : Int} (x : UInt8) (u : Bool) (h : inn s.c.length a 1 = false) : spE s a = 2 ∧ spS s a x u = s := by
  unfold spE spS; rw [h]; simp
theorem sp_yes {s : St} {k : Nat} (x : UInt8) (u : Bool) (h : k < s.c.length) : spE s k = 0 ∧ spS s k x u = { s with c := s.c.set k (x, u) } := by
  have : inn s.c.length k 1 = true := inn_iff.2 ⟨by omega, by omega, by omega⟩
  unfold spE spS; rw [if_pos this, if_pos this]; exact ⟨rfl, rfl⟩
set_option maxHeartbeats 4000000 in
set_option maxRecDepth 100000 in
theorem do5 {p g cap q b u cb cu : Nat} {s : St} {w : World} (h : Bo p g cap q b u cb cu s w) (A : Ac) (hA : A.Ok) (a : Option Addr) (c : Nat) (hk : A.k = 5) :
    Calls Try.prog 11 #[.pointer (some ⟨p, 0, none⟩), .pointer (some ⟨q, 0, none⟩), acv A a c] w (DoA p g cap q b u cb cu s.c.length w) := by
  unfold acv
  obtain ⟨w1, hw1⟩ : ∃ w1, w1 = w.alloc (acb A a c) := ⟨_, rfl⟩
  have hb1 : Below w.heap.size w w1 := by rw [hw1]; exact ba1 _ _
  have hbx : BlkAt 32 w.heap.size (acl A (.slice a A.B.length c)) w1 := by rw [hw1]; exact BlkAt.new w _
  unfold acb at hw1
  have h1 := h.later hb1
  have hlt := h.P.lt
  have hlr := h.R.lt
  have HN : Hid (w.heap.size ∉ [p, g, q, b, u]) := by show _ ∉ _; simp; omega
  have HAP := Lib.hid h.apart
  have HNE := Lib.hid (And.intro h.R.n1 (And.intro h.R.n2 h.R.n3))
  have HC1 := Lib.hid (Chg.of_below [p, g, q, b, u] hb1)
  have HSP := Lib.hid (spoilS h1.P A.a A.x A.u hA.a1)
  have HW1 := Lib.hid hw1
  have HBX := Lib.hid hbx
  have HR1 := Lib.hid h1.R
  have hl : (nrm s).c.length = s.c.length := rfl
  rw [hk] at HW1 ⊢
  obtain ⟨n, hn⟩ : ∃ n, n = s.c.length := ⟨_, rfl⟩
  have n9 : (n : Int) ≤ 4096 := by have := h.P.few; omega
  obtain ⟨y, hy⟩ : ∃ y : Int, y = (A.x.toNat : Int) := ⟨_, rfl⟩
  have HY := Lib.hid hy
  have HNN := Lib.hid hn
  by_cases hi : inn s.c.length A.a 1 = true
  · have hi2 := inn_iff.1 hi
    obtain ⟨k, hka⟩ := Int.eq_ofNat_of_zero_le hi2.1
    have hks : k < s.c.length := by omega
    obtain ⟨e1, e2⟩ := sp_yes A.x A.u hks
    rw [← hka] at e1 e2
    rw [e1, e2] at HSP
    rw [hka] at HSP HW1 ⊢
    rw [← hy] at HSP HW1 ⊢
    have HKA := Lib.hid hka
    have HK := Lib.hid hks
    have q1 : (k : Int) < n := by omega
    have q2 : decide (k < n) = true := decide_eq_true (by omega)
    have q3 : decide (n ≤ k) = false := decide_eq_false (by omega)
    have q4 : decide ((k : Int) < 0) = false := decide_eq_false (by omega)
    obtain ⟨z, hz⟩ : ∃ z, z = s.c[k] := ⟨_, rfl⟩
    have HZ : Hid ((nrm s).c[k]? = some z) := by show s.c[k]? = _; rw [hz]; exact List.getElem?_eq_getElem hks
    clear h h1 hb1 hw1 hbx hA hlt hlr hi hi2 hka hz e1 e2 hn hy
    go_enter Try.func11, Try.ntmps11
    go_wp2_with fail
    rw [← HW1.out]
    refine HSP.out.mono ?_
    rintro e w2 ⟨rfl, hP, hC⟩
    have HP := Lib.hid hP
    have HC2 := Lib.hid (HC1.out.trans (hC.mono (by simp)))
    have hR2 := HR1.out.chg hC (by have := HAP.out; simp; omega) (by have := HAP.out; simp; omega) (by have := HAP.out; simp; omega)
    have HR2 := Lib.hid hR2
    have hbx := hC.blk HBX.out (by have := HN.out; simp at this ⊢; omega)
    have b1 := hbx.cell (j := 1) rfl
    have b3 := hbx.cell (j := 3) rfl
    have b4 := hbx.cell (j := 4) rfl
    have HBX2 := Lib.hid hbx
    obtain ⟨c0, c1, c2, c3, c4, c5⟩ := hR2.cells
    rw [hl, ← HNN.out] at c0 c1
    rw [HKA.out] at b1
    rw [← HY.out] at b3
    clear hP hC hR2 hbx
    go_wp2_with fail
    go_quiet (fail)
    go_wp2_with fail
    obtain ⟨w3, hw3⟩ : ∃ w3, w3 = w2.drewN nq := ⟨_, rfl⟩
    have hb3 : Below w2.heap.size w2 w3 := by rw [hw3]; exact below_dr0 _ _ _
    rw [← hw3]
    obtain ⟨w4, hw4⟩ : ∃ w4, w4 = w3.drew := ⟨_, rfl⟩
    have hb4 : Below w2.heap.size w2 w4 := by rw [hw4]; exact hb3.drew
    have hR4 := HR2.out.later hb4
    have HR4 := Lib.hid hR4
    have HB4 := Lib.hid hb4
    have HW4 := Lib.hid hw4
    have hbx4 := HBX2.out.later hb4
    have HBX4 := Lib.hid hbx4
    have b1 := cell_later hb3 b1
    have b3 := cell_later hb3 b3
    have c0 := cell_later hb3 c0
    obtain ⟨d0, hfb⟩ := hR4.atB HZ.out
    obtain ⟨d1, hfu⟩ := hR4.atU HZ.out
    obtain ⟨⟨z1, z4⟩, z5, z6⟩ := hR4.half k (.int .u8 y) d1
    rw [hl, ← HNN.out] at z1
    have hp2 := hR4.put2 k (A.x, A.u) HK.out
    simp only at hp2
    rw [← HY.out] at hp2
    obtain ⟨w5, hw5⟩ : ∃ w5, w5 = w4.setCell ⟨b, k, none⟩ (.int .u8 y) := ⟨_, rfl⟩
    have hc5 : Chg [b] w4 w5 := by rw [hw5]; exact (Chg.refl _ _).set (by simp) _ _
    have hbx5 := hc5.blk hbx4 (by have := HN.out; simp at this ⊢; omega)
    have e1 := hbx5.cell (j := 1) rfl
    have e4 := hbx5.cell (j := 4) rfl
    rw [HKA.out] at e1
    rw [← hw5] at z1 z4 z5 z6 hp2
    obtain ⟨w6, hw6⟩ : ∃ w6, w6 = w5.drew := ⟨_, rfl⟩
    rw [← hw6] at hp2
    have HW5 := Lib.hid hw5
    have HW6 := Lib.hid hw6
    have HP2 := Lib.hid hp2
    have y5 : w6.cell? ⟨u, k, none⟩ = some (.bool z.2) := by rw [hw6]; exact z5
    have y6 : w6.frozen? ⟨u, k, none⟩ = false := by rw [hw6]; exact z6
    clear hw3 hb3 hw4 hb4 hR4 hbx4 hw5 hc5 hbx5 hw6 hp2 b4 c1 c2 c3 c4 c5
    go_still_tail 9, (by kernel_rfl)
    change wpList _ _ _ _ _ w3.drew
    rw [← HW4.out]
    go_wp2_with fail
    rw [← HW5.out]
    go_still_tail 9, (by kernel_rfl)
    change wpList _ _ _ _ _ w5.drew
    rw [← HW6.out]
    go_wp2_with fail
    go_ret
    have hc : Chg [p, g, q, b, u] w2 _ := (Chg.of_below [p, g, q, b, u] HB4.out).trans (HP2.out.2.mono (l' := [p, g, q, b, u]) (by simp))
    refine ⟨rfl, ⟨{ s with c := s.c.set k (A.x, A.u) }, by simp, ?_, ?_, HAP.out⟩, HC2.out.trans hc⟩
    · exact (HP.out.later HB4.out).chg HP2.out.2 (by have := HAP.out; simp; omega) (by have := HAP.out; simp; omega)
    · exact HP2.out.1
  · rw [Bool.not_eq_true] at hi
    obtain ⟨e1, e2⟩ := sp_no A.x A.u hi
    rw [e1, e2] at HSP
    rw [← hy] at HSP HW1 ⊢
    rw [inn_no] at hi
    by_cases h0 : A.a < 0
    · have q1 : decide (A.a < 0) = true := decide_eq_true h0
      clear h h1 hb1 hw1 hbx hA hlt hlr e1 e2 hy hi h0 hn
      go_enter Try.func11, Try.ntmps11
      go_wp2_with fail
      rw [← HW1.out]
      refine HSP.out.mono ?_
      rintro e w2 ⟨rfl, hP, hC⟩
      have HP := Lib.hid hP
      have HC2 := Lib.hid (HC1.out.trans (hC.mono (by simp)))
      have hR2 := HR1.out.chg hC (by have := HAP.out; simp; omega) (by have := HAP.out; simp; omega) (by have := HAP.out; simp; omega)
      have HR2 := Lib.hid hR2
      have hbx := hC.blk HBX.out (by have := HN.out; simp at this ⊢; omega)
      have b1 := hbx.cell (j := 1) rfl
      obtain ⟨c0, c1, c2, c3, c4, c5⟩ := hR2.cells
      rw [hl, ← HNN.out] at c0 c1
      clear hP hC hR2 hbx c1 c2 c3 c4 c5
      go_wp2_with fail
      go_quiet (fail)
      have hb := below_dr0 w2.heap.size w2 nq
      have HB := Lib.hid hb
      clear hb
      go_wp2_with fail
      go_ret
      exact ⟨rfl, ⟨s, rfl, HP.out.later HB.out, HR2.out.later HB.out, HAP.out⟩, HC2.out.trans (Chg.of_below _ HB.out)⟩
    · have q1 : decide (A.a < 0) = false := decide_eq_false h0
      have q2 : decide ((n : Int) ≤ A.a) = true := decide_eq_true (by omega)
      clear h h1 hb1 hw1 hbx hA hlt hlr e1 e2 hy hi h0 hn
      go_enter Try.func11, Try.ntmps11
      go_wp2_with fail
      rw [← HW1.out]
      refine HSP.out.mono ?_
      rintro e w2 ⟨rfl, hP, hC⟩
      have HP := Lib.hid hP
      have HC2 := Lib.hid (HC1.out.trans (hC.mono (by simp)))
      have hR2 := HR1.out.chg hC (by have := HAP.out; simp; omega) (by have := HAP.out; simp; omega) (by have := HAP.out; simp; omega)
      have HR2 := Lib.hid hR2
      have hbx := hC.blk HBX.out (by have := HN.out; simp at this ⊢; omega)
      have b1 := hbx.cell (j := 1) rfl
      obtain ⟨c0, c1, c2, c3, c4, c5⟩ := hR2.cells
      rw [hl, ← HNN.out] at c0 c1
      clear hP hC hR2 hbx c1 c2 c3 c4 c5
      go_wp2_with fail
      go_quiet (fail)
      have hb := below_dr0 w2.heap.size w2 nq
      have HB := Lib.hid hb
      clear hb
      go_wp2_with fail
      go_ret
      exact ⟨rfl, ⟨s, rfl, HP.out.later HB.out, HR2.out.later HB.out, HAP.out⟩, HC2.out.trans (Chg.of_below _ HB.out)⟩

theorem do_any {p g cap q b u cb cu : Nat} {s : St} {w : World} (h : Bo p g cap q b u cb cu s w) (A : Ac) (hA : A.Ok) (a : Option Addr) (c : Nat) (hv : ∀ W, Chg [p, g, q, b, u] w W → Bytes W (.slice a A.B.length c) A.B) :
    Calls Try.prog 11 #[.pointer (some ⟨p, 0, none⟩), .pointer (some ⟨q, 0, none⟩), acv A a c] w (DoA p g cap q b u cb cu s.c.length w) := by
  by_cases h1 : A.k = 1
  · exact do1 h A hA a c hv h1
  by_cases h2 : A.k = 2
  · exact do2 h A hA a c h2
  by_cases h3 : A.k = 3
  · exact do3 h A hA a c h3
  by_cases h4 : A.k = 4
  · exact do4 h A a c h4
  by_cases h5 : A.k = 5
  · exact do5 h A hA a c h5
  exact do0 h A a c h1 h2 h3 h4 h5
end Go.Proofs.Ytfoojjmokdbpcaa

namespace Go.Proofs.Ytfoojjmokdbpcaa
open Go.RowKit
attribute [local go_sem ↓] Go.wp_at_zero Go.wp_at_succ

/-- Both made. -/
theorem Bo.made {p g q b u n : Nat} {w1 w2 : World} (hP : PSt p g n (nw n) w1) (hR : RSt q b u n n (nw n) w2) (hb : Below w1.heap.size w1 w2) (h1 : w1.heap.size ≤ q) (h2 : w1.heap.size ≤ b) (h3 : w1.heap.size ≤ u) : Bo p g n q b u n n (nw n) w2 := by
  have := hP.lt
  exact ⟨hP.later hb, hR, by omega⟩
theorem Acts.cells {w : World} {b o i d : Nat} {x : Option Addr} {A : Ac} (h : ∀ j y, (acl A (.slice x A.B.length d))[j]? = some y → w.cell? ⟨b, o + i * 6 + j, none⟩ = some y) :
    w.cell? ⟨b, o + i * 6, none⟩ = some (.int .i64 A.k) ∧ w.cell? ⟨b, o + i * 6 + 1, none⟩ = some (.int .i64 A.a) ∧ w.cell? ⟨b, o + i * 6 + 2, none⟩ = some (.int .i64 A.n) ∧ w.cell? ⟨b, o + i * 6 + 3, none⟩ = some (.int .u8 (A.x.toNat : Int)) ∧ w.cell? ⟨b, o + i * 6 + 4, none⟩ = some (.bool A.u) ∧ w.cell? ⟨b, o + i * 6 + 5, none⟩ = some (.slice x A.B.length d) :=
  ⟨h 0 _ rfl, h 1 _ rfl, h 2 _ rfl, h 3 _ rfl, h 4 _ rfl, h 5 _ rfl⟩
set_option maxHeartbeats 8000000 in
set_option maxRecDepth 100000 in
theorem storePlays_go (m : Nat) (a : Option Addr) (c : Nat) (L : List Ac) (w : World) (hL : Acts w (.slice a L.length c) L) (hok : ∀ x ∈ L, x.Ok) (g1 : 1 ≤ m) (g2 : m ≤ 60) (g3 : L.length ≤ 60) :
    Calls Try.prog 3 #[.int .i64 (m : Int), .slice a L.length c] w fun e w' => e = .returned (.bool true) ∧ Below w.heap.size w w' := by
  have HL := Lib.hid hL
  have HOK := Lib.hid hok
  obtain ⟨k, hk⟩ : ∃ k, k = L.length := ⟨_, rfl⟩
  rw [← hk] at HL g3 ⊢
  have HK := Lib.hid hk
  have HG : Hid (1 ≤ m ∧ m ≤ 60) := ⟨g1, g2⟩
  have k1 : decide ((60 : Int) < m) = false := decide_eq_false (by omega)
  have k2 : decide ((60 : Int) < k) = false := decide_eq_false (by omega)
  have k3 : decide ((m : Int) < 1) = false := decide_eq_false (by omega)
  have k4 : decide ((4096 : Int) < m) = false := decide_eq_false (by omega)
  have k9 : (k : Int) ≤ 60 := by omega
  clear hL hok hk g1 g2 g3
  go_enter Try.func3, Try.ntmps3
  go_wp2_with fail
  refine (newW m w HG.out.1 (by have := HG.out; omega)).mono ?_
  rintro e w1 ⟨p, g, rfl, hp, hg, hP, hB⟩
  have HP := Lib.hid hP
  have HB := Lib.hid hB
  have HPG := Lib.hid (And.intro hp hg)
  clear hp hg hP hB
  go_wp2_with fail
  refine (newRef m w1 HG.out.1 (by have := HG.out; omega)).mono ?_
  rintro e w2 ⟨q, b, u, rfl, hq, hb, hu, hR, hB2⟩
  have HBo := Lib.hid (Bo.made HP.out hR hB2 hq hb hu)
  have hsz := HB.out.size
  have HM : Hid (∀ z ∈ [p, g, q, b, u], w.heap.size ≤ z) := by
    intro z hz
    have := HPG.out
    simp at hz
    omega
  have HB2 := Lib.hid (below_of HB.out hB2)
  clear hq hb hu hR hB2 hsz
  go_wp2_with fail
  clear k1 k2 k3 k4
  go_loopw [8] (fun z wr => ∃ (i : Nat) (s : St), i ≤ k ∧ z = .int .i64 i ∧ Hid (s.c.length = m) ∧ Hid (Bo p g m q b u m m s wr) ∧ Hid (Below w.heap.size w wr)) (fun z _ => k - (intOf z).toNat)
  case atStart => exact ⟨0, nw m, Nat.zero_le _, rfl, by show _ = _; simp [nw], HBo.out, HB2.out⟩
  case round =>
    obtain ⟨i, s, hi, rfl, HS, HBo, HB⟩ := hrel
    rcases Nat.lt_or_ge i k with hlt | hge
    · have q0 : (i : Int) < k := by omega
      have hl : i < L.length := by have := HK.out; omega
      obtain ⟨b1, o1, x1, d1, rfl, hb1, hby, hcl⟩ := (show Acts w (.slice a k c) L from HL.out).at hl
      obtain ⟨A, hA⟩ : ∃ A, A = L[i] := ⟨_, rfl⟩
      rw [← hA] at hby hcl
      have HA := Lib.hid (HOK.out A (by rw [hA]; exact List.getElem_mem hl))
      have hcc := Acts.cells hcl
      have c0 := cell_later HB.out hcc.1
      have c1 := cell_later HB.out hcc.2.1
      have c2 := cell_later HB.out hcc.2.2.1
      have c3 := cell_later HB.out hcc.2.2.2.1
      have c4 := cell_later HB.out hcc.2.2.2.2.1
      have c5 := cell_later HB.out hcc.2.2.2.2.2
      by_cases hbl : 100 < A.B.length
      · have q1 : decide ((100 : Int) < A.B.length) = true := decide_eq_true (by omega)
        clear hby hcl hcc hb1 hA hl
        go_wp2_with fail
        refine (knownL _).mono ?_
        rintro e w9 ⟨rfl, hb9⟩
        have HB9 := Lib.hid (below_of HB.out hb9)
        clear hb9
        go_wp2_with fail
        go_ret
        exact ⟨rfl, HB9.out⟩
      · have q1 : decide ((100 : Int) < A.B.length) = false := decide_eq_false (by omega)
        have HDO := Lib.hid (do_any HBo.out A HA.out x1 d1 (fun W hW => hby.later (hW.on HB.out HM.out)))
        unfold acv at HDO
        clear hby hcl hcc hb1 hA hl
        go_wp2_with fail
        refine HDO.out.mono ?_
        rintro e w3 ⟨rfl, ⟨s3, hs3, hB3⟩, hC3⟩
        have HBo3 := Lib.hid hB3
        have HB3 := Lib.hid (hC3.on HB.out HM.out)
        have HS3 : Hid (s3.c.length = m) := hs3.trans HS.out
        clear hs3 hB3 hC3
        go_wp2_with fail
        refine (bytesL HBo3.out).mono ?_
        rintro e w4 ⟨rfl, hb4⟩
        have HBo4 := Lib.hid (HBo3.out.later hb4)
        have HB4 := Lib.hid (below_of HB3.out hb4)
        clear hb4
        go_wp2_with fail
        go_roundw
        case rel => exact ⟨i + 1, s3, by omega, by go_num, HS3, HBo4, HB4⟩
        case measure => simp [intOf]; omega
    · have e : i = k := by omega
      subst e
      have q0 : ¬ (i : Int) < i := by omega
      go_wp2_with fail
      refine (knownL _).mono ?_
      rintro e w9 ⟨rfl, hb9⟩
      have HB9 := Lib.hid (below_of HB.out hb9)
      clear hb9
      go_wp2_with fail
      go_ret
      exact ⟨rfl, HB9.out⟩

set_option maxHeartbeats 8000000 in
set_option maxRecDepth 100000 in
theorem storePlays_walk (n : Int) (v : Value) (L : List Ac) (w : World) (hL : Acts w v L) (hl : L.length ≤ 9223372036854775807) (hok : ∀ x ∈ L, x.Ok) :
    Calls Try.prog 3 #[.int .i64 n, v] w fun e w' => e = .returned (.bool true) ∧ Below w.heap.size w w' := by
  obtain ⟨a, c, rfl⟩ := hL.form
  by_cases hg : 1 ≤ n ∧ n ≤ 60 ∧ L.length ≤ 60
  · obtain ⟨m, rfl⟩ := Int.eq_ofNat_of_zero_le (show 0 ≤ n by omega)
    exact storePlays_go m a c L w hL hok (by omega) (by omega) hg.2.2
  · have HK := Lib.hid (knownL w)
    obtain ⟨k, hk⟩ : ∃ k, k = L.length := ⟨_, rfl⟩
    rw [← hk] at hg hl ⊢
    clear hL hok hk
    by_cases p1 : 60 < n
    · have k1 : decide (60 < n) = true := decide_eq_true p1
      by_cases p2 : n ≤ 4096
      · have k2 : decide (n ≤ 4096) = true := decide_eq_true p2
        clear hg hl p1 p2
        go_enter Try.func3, Try.ntmps3
        go_wp2_with fail
        refine HK.out.mono ?_
        rintro e w1 ⟨rfl, hb⟩
        go_wp2_with fail
        go_ret
        exact ⟨rfl, hb⟩
      · have k2 : decide (n ≤ 4096) = false := decide_eq_false p2
        by_cases p3 : 60 < k
        · have k3 : decide ((60 : Int) < k) = true := decide_eq_true (by omega)
          clear hg hl p1 p2 p3
          go_enter Try.func3, Try.ntmps3
          go_wp2_with fail
          refine HK.out.mono ?_
          rintro e w1 ⟨rfl, hb⟩
          go_wp2_with fail
          go_ret
          exact ⟨rfl, hb⟩
        · have k3 : decide ((60 : Int) < k) = false := decide_eq_false (by omega)
          have k4 : decide (n < 1) = false := decide_eq_false (by omega)
          have k5 : decide (4096 < n) = true := decide_eq_true (by omega)
          have HW := Lib.hid (newNo n w (by omega))
          clear hg hl p1 p2 p3
          go_enter Try.func3, Try.ntmps3
          go_wp2_with fail
          refine HW.out.mono ?_
          rintro e w1 ⟨rfl, rfl⟩
          go_wp2_with fail
          refine HK.out.mono ?_
          rintro e w1 ⟨rfl, hb⟩
          go_wp2_with fail
          go_ret
          exact ⟨rfl, hb⟩
    · have k1 : decide (60 < n) = false := decide_eq_false p1
      by_cases p3 : 60 < k
      · have k3 : decide ((60 : Int) < k) = true := decide_eq_true (by omega)
        clear hg hl p1 p3
        go_enter Try.func3, Try.ntmps3
        go_wp2_with fail
        refine HK.out.mono ?_
        rintro e w1 ⟨rfl, hb⟩
        go_wp2_with fail
        go_ret
        exact ⟨rfl, hb⟩
      · have k3 : decide ((60 : Int) < k) = false := decide_eq_false (by omega)
        have k4 : decide (n < 1) = true := decide_eq_true (by omega)
        have HW := Lib.hid (newNo n w (by omega))
        clear hg hl p1 p3
        go_enter Try.func3, Try.ntmps3
        go_wp2_with fail
        refine HW.out.mono ?_
        rintro e w1 ⟨rfl, rfl⟩
        go_wp2_with fail
        refine HK.out.mono ?_
        rintro e w1 ⟨rfl, hb⟩
        go_wp2_with fail
        go_ret
        exact ⟨rfl, hb⟩
end Go.Proofs.Ytfoojjmokdbpcaa
