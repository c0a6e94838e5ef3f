/- RelWhole: the look at both ends, the invariant.
   RelWhole: the acts, plainly; the invariant.
   Slices of segments, of acts, of ways, opened.
   Bytes among a struct's cells, opened.
   A slice that reads as a list of things of k cells each. -/
import Derived.Deep.Slices
import Derived.Lib.SmallJoins
import Derived.Test.YtghaajmalhcgbaaZ01
import Derived.Test.YtghaajmalhcgbaaZ02
import Derived.Test.YtghaajmalhcgbaaZ08

set_option linter.unusedSimpArgs false
set_option linter.unusedVariables false
namespace Go.Proofs.Ytghaajmalhcgbaa
open Go.ChangeShapes Go.WideShapes Go.ChangeAt Go.RowKit Go.Joins Go.Deep

/-- The value reads as these, each of k cells. -/
def Rds {α : Type} (k : Nat) (f : α → List Value) (w : World) (v : Value) (L : List α) : Prop :=
  (L = [] ∧ ∃ a c, v = .slice a 0 c ∧ (a = none → c = 0)) ∨
  ∃ b o c, v = .slice (some ⟨b, o, none⟩) L.length c ∧ b < w.heap.size ∧ L.length ≤ c ∧ ∀ j x, L[j]? = some x → ∀ i u, (f x)[i]? = some u → w.cell? ⟨b, o + j * k + i, none⟩ = some u
section
variable {α : Type} {k : Nat} {f : α → List Value}
theorem Rds.later {w w' : World} {v : Value} {L : List α} (h : Rds k f w v L) (hb : Below w.heap.size w w') : Rds k f w' v L := by
  rcases h with h | ⟨b, o, c, h1, h2, hp, h3⟩
  · exact .inl h
  · exact .inr ⟨b, o, c, h1, Nat.lt_of_lt_of_le h2 hb.size, hp, fun j x hx i u hu => cell_later hb (h3 j x hx i u hu)⟩
theorem Rds.form {w : World} {v : Value} {L : List α} (h : Rds k f w v L) : ∃ a c, v = .slice a L.length c := by
  rcases h with ⟨rfl, a, c, rfl, _⟩ | ⟨b, o, c, rfl, _, _⟩
  · exact ⟨a, c, rfl⟩
  · exact ⟨_, c, rfl⟩
theorem Rds.at {w : World} {a : Option Addr} {n c : Nat} {L : List α} (h : Rds k f w (.slice a n c) L) {i : Nat} {x : α} (hx : L[i]? = some x) :
    ∃ b o, a = some ⟨b, o, none⟩ ∧ b < w.heap.size ∧ ∀ j u, (f x)[j]? = some u → w.cell? ⟨b, o + i * k + j, none⟩ = some u := by
  rcases h with ⟨rfl, _⟩ | ⟨b, o, c', h1, h2, _, h3⟩
  · simp at hx
  · simp only [Value.slice.injEq] at h1
    exact ⟨b, o, h1.1, h2, fun j u hu => h3 i x hx j u hu⟩
set_option maxRecDepth 100000 in
theorem open_rds [Inhabited α] {H : Type} {enc : TypeId × Value → H} {W : World} {base : Nat} {v : Value} {d : DataW H} {p : List MemPlace} {t : TypeId} (hu : Try.prog.underlying t = some (.slice (Try.prog.elem t))) (hC : Try.prog.cellsOf (Try.prog.elem t) = k) (hk : 0 < k) (Pr : α → Prop)
    (one : ∀ {n : Nat} {cs : List Value} {y : DataW H × List MemPlace}, DataW.trod enc Try.prog W 0 (fun _ => true) true n (Try.prog.elem t) cs = some y → cs.length = k → ∃ x : α, cs = f x ∧ Pr x)
    (hv : Value.okWide Try.prog W .any base t v) (h : DataW.Trod enc Try.prog W 0 (fun _ => true) true t v d p) :
    ∃ L : List α, Rds k f W v L ∧ L.length ≤ 9223372036854775807 ∧ ∀ x ∈ L, Pr x := by
  obtain ⟨a, len, cap, rfl⟩ := okWide_slice hu hv
  obtain ⟨fuel, hf⟩ := h
  rcases open_slice hu hf with ⟨hcs, _⟩ | ⟨x, l, c, m, n, D, Pl, hcs, _, hl, hm, hmm, _, hx⟩
  · simp [Value.cells] at hcs
    obtain ⟨rfl, rfl, rfl⟩ := hcs
    exact ⟨[], .inl ⟨rfl, _, _, rfl, fun _ => rfl⟩, by simp, by simp⟩
  · simp [Value.cells] at hcs
    obtain ⟨rfl, rfl, rfl⟩ := hcs
    unfold maxLen at hm
    have hm2 : m = cap := by simpa using hmm
    subst hm2
    rw [hC] at hx
    have each : ∀ i, i < m → ∃ u : α, ((f u).length = k ∧ ∀ j z, (f u)[j]? = some z → W.cell? ((x.add (i * k)).add j) = some z) ∧ Pr u := by
      intro i hi
      obtain ⟨cs', h1, h2⟩ := hx i hi
      obtain ⟨_, hlen, hcell⟩ := World.cells?_some h1
      obtain ⟨u, rfl, hu⟩ := one h2 hlen
      refine ⟨u, ⟨hlen, fun j z hz => ?_⟩, hu⟩
      have hj := (List.getElem?_eq_some_iff.1 hz).1
      exact (hcell j (by omega)).trans hz
    obtain ⟨F, hF⟩ := choose_lt each
    have hlen : ((List.range len).map F).length = len := by simp
    refine ⟨(List.range len).map F, ?_, by rw [hlen]; omega, ?_⟩
    · rcases Nat.eq_zero_or_pos len with hp | hp
      · subst hp
        exact .inl ⟨by simp, _, _, rfl, fun h => by cases h⟩
      · obtain ⟨⟨hl0, hc⟩, _⟩ := hF 0 (by omega)
        have hc0 := hc 0 _ (List.getElem?_eq_getElem (by omega))
        rw [Nat.zero_mul] at hc0
        have hsp := spot_none (a := x) (by simpa [Addr.add] using hc0)
        obtain ⟨b, o, sp⟩ := x
        simp only at hsp
        subst hsp
        refine .inr ⟨b, o, m, by rw [hlen], ?_, by rw [hlen]; exact hl, ?_⟩
        · have := World.block_lt_of_cell? _ _ hc0
          simpa [Addr.add] using this
        · intro j u hju i z hz
          simp only [List.getElem?_map, Option.map_eq_some_iff] at hju
          obtain ⟨r, hr1, rfl⟩ := hju
          have hj : j < len := by
            have := (List.getElem?_eq_some_iff.1 hr1).1
            simpa using this
          have hr : r = j := by
            rw [List.getElem?_range hj] at hr1
            exact (Option.some.inj hr1).symm
          subst hr
          have := (hF r (by omega)).1.2 i z hz
          have ad : ∀ b o k, (⟨b, o, none⟩ : Addr).add k = ⟨b, o + k, none⟩ := fun b o k => by cases k <;> simp [Addr.add]
          rw [ad, ad] at this
          exact this
    · intro u hu
      obtain ⟨r, hr, rfl⟩ := List.mem_map.1 hu
      have := List.mem_range.1 hr
      exact (hF r (by omega)).2
end
end Go.Proofs.Ytghaajmalhcgbaa

namespace Go.Proofs.Ytghaajmalhcgbaa
open Go.ChangeShapes Go.WideShapes Go.ChangeAt Go.RowKit Go.Joins Go.Deep

set_option maxRecDepth 100000 in
theorem open_bytes_c {H : Type} {enc : TypeId × Value → H} {W : World} {fuel : Nat} {v : Value} {x : DataW H × List MemPlace}
    (hf : DataW.trod enc Try.prog W 0 (fun _ => true) true fuel 90 [v] = some x) : ∃ l : List UInt8, Bytes W v l ∧ l.length ≤ 9223372036854775807 := by
  rcases open_ints Try.underlying90 Try.underlying5 (by kernel_rfl) hf with ⟨hcs, _⟩ | ⟨x, l, c, zs, hcs, _, hl, hm, hz, _, hcell, hwz⟩
  · simp only [List.cons.injEq, and_true] at hcs
    subst hcs
    exact ⟨[], Bytes.nil _ _ _, by simp⟩
  · simp only [List.cons.injEq, and_true] at hcs
    subst hcs
    unfold maxLen at hm
    have hzl : zs.length = c := by simpa using hz
    exact ⟨_, bytes_of_ints hl hzl hwz (fun h => by cases h) (fun a ha c hc => by cases ha; exact hcell c (by omega)), by simp; omega⟩
end Go.Proofs.Ytghaajmalhcgbaa

namespace Go.Proofs.Ytghaajmalhcgbaa
open Go.ChangeShapes Go.WideShapes Go.ChangeAt Go.RowKit Go.Joins Go.Deep

/-- A segment that came in: its numbers, its body and the value that this is. -/
structure Gv where
  q : Nat
  a : Nat
  b : List UInt8
  u : Value
instance : Inhabited Gv := ⟨⟨0, 0, [], undef⟩⟩
def Gv.cs (x : Gv) : List Value := [.int .u64 (x.q : Int), .int .u64 (x.a : Int), x.u]
structure Gv.Ok (W : World) (x : Gv) : Prop where
  q1 : (x.q : Int) ≤ 18446744073709551615
  a1 : (x.a : Int) ≤ 18446744073709551615
  b1 : x.b.length ≤ 9223372036854775807
  by_ : Bytes W x.u x.b
/-- An act. -/
structure Av where
  k : Int
  b : List UInt8
  u : Value
  g : Gv
instance : Inhabited Av := ⟨⟨0, [], undef, default⟩⟩
def Av.cs (x : Av) : List Value := [.int .i64 x.k, x.u, .int .u64 (x.g.q : Int), .int .u64 (x.g.a : Int), x.g.u]
structure Av.Ok (W : World) (x : Av) : Prop where
  k0 : -9223372036854775808 ≤ x.k
  k1 : x.k ≤ 9223372036854775807
  b1 : x.b.length ≤ 9223372036854775807
  by_ : Bytes W x.u x.b
  g : x.g.Ok W
/-- A way. -/
structure Wy where
  k : Int
  n : Int
  back : Bool
instance : Inhabited Wy := ⟨⟨0, 0, false⟩⟩
def Wy.cs (x : Wy) : List Value := [.int .i64 x.k, .int .i64 x.n, .bool x.back]
structure Wy.Ok (x : Wy) : Prop where
  k0 : -9223372036854775808 ≤ x.k
  k1 : x.k ≤ 9223372036854775807
  n0 : -9223372036854775808 ≤ x.n
  n1 : x.n ≤ 9223372036854775807
section
variable {H : Type} {enc : TypeId × Value → H} {W : World}
set_option maxRecDepth 100000 in
theorem seg_cells {n : Nat} {cs : List Value} {y : DataW H × List MemPlace} (h : DataW.trod enc Try.prog W 0 (fun _ => true) true n 94 cs = some y) (hl : cs.length = 3) :
    ∃ a : Gv, cs = a.cs ∧ a.Ok W := by
  have k1 : Try.prog.cellsOf 92 = 1 := by kernel_rfl
  have k2 : Try.prog.cellsOf 90 = 1 := by kernel_rfl
  match cs, hl with
  | [c0, c1, c2], _ =>
    obtain ⟨zs, m, _, hz, _, hzl, hgz⟩ := DataW.trod_struct Try.underlying94 h
    match zs, hzl with
    | [z0, z1, z2], _ =>
      have g0 : DataW.trod enc Try.prog W 0 (fun _ => true) true m 92 [c0] = some z0 := by simpa [k1, k2] using hgz 0 _ rfl
      have g1 : DataW.trod enc Try.prog W 0 (fun _ => true) true m 92 [c1] = some z1 := by simpa [k1, k2] using hgz 1 _ rfl
      have g2 : DataW.trod enc Try.prog W 0 (fun _ => true) true m 90 [c2] = some z2 := by simpa [k1, k2] using hgz 2 _ rfl
      obtain ⟨a0, e0, _, w0⟩ := DataW.trod_int Try.underlying92 g0
      obtain ⟨a1, e1, _, w1⟩ := DataW.trod_int Try.underlying92 g1
      obtain ⟨B, hB, hBl⟩ := open_bytes_c g2
      simp only [List.cons.injEq, and_true] at e0 e1
      subst e0 e1
      have b0 := bounds_u64 w0
      have b1 := bounds_u64 w1
      obtain ⟨x0, rfl⟩ := Int.eq_ofNat_of_zero_le b0.1
      obtain ⟨x1, rfl⟩ := Int.eq_ofNat_of_zero_le b1.1
      exact ⟨⟨x0, x1, B, c2⟩, rfl, ⟨b0.2, b1.2, hBl, hB⟩⟩
set_option maxRecDepth 100000 in
theorem way_cells {n : Nat} {cs : List Value} {y : DataW H × List MemPlace} (h : DataW.trod enc Try.prog W 0 (fun _ => true) true n 99 cs = some y) (hl : cs.length = 3) :
    ∃ a : Wy, cs = a.cs ∧ a.Ok := by
  have k1 : Try.prog.cellsOf 3 = 1 := by kernel_rfl
  have k2 : Try.prog.cellsOf 4 = 1 := by kernel_rfl
  match cs, hl with
  | [c0, c1, c2], _ =>
    obtain ⟨zs, m, _, hz, _, hzl, hgz⟩ := DataW.trod_struct Try.underlying99 h
    match zs, hzl with
    | [z0, z1, z2], _ =>
      have g0 : DataW.trod enc Try.prog W 0 (fun _ => true) true m 3 [c0] = some z0 := by simpa [k1, k2] using hgz 0 _ rfl
      have g1 : DataW.trod enc Try.prog W 0 (fun _ => true) true m 3 [c1] = some z1 := by simpa [k1, k2] using hgz 1 _ rfl
      have g2 : DataW.trod enc Try.prog W 0 (fun _ => true) true m 4 [c2] = some z2 := by simpa [k1, k2] using hgz 2 _ rfl
      obtain ⟨a0, e0, _, w0⟩ := DataW.trod_int Try.underlying3 g0
      obtain ⟨a1, e1, _, w1⟩ := DataW.trod_int Try.underlying3 g1
      obtain ⟨a2, e2, _⟩ := DataW.trod_bool Try.underlying4 g2
      simp only [List.cons.injEq, and_true] at e0 e1 e2
      subst e0 e1 e2
      have b0 := bounds_i64 w0
      have b1 := bounds_i64 w1
      exact ⟨⟨a0, a1, a2⟩, rfl, ⟨b0.1, b0.2, b1.1, b1.2⟩⟩
end
section
variable {H : Type} {enc : TypeId × Value → H} {W : World} {base : Nat} {v : Value} {d : DataW H} {p : List MemPlace}
set_option maxRecDepth 100000 in
theorem open_segs (hv : Value.okWide Try.prog W .any base 88 v) (h : DataW.Trod enc Try.prog W 0 (fun _ => true) true 88 v d p) :
    ∃ L : List Gv, Rds 3 Gv.cs W v L ∧ L.length ≤ 9223372036854775807 ∧ ∀ x ∈ L, x.Ok W :=
  open_rds Try.underlying88 (by kernel_rfl) (by decide) (Gv.Ok W) (fun h hl => seg_cells h hl) hv h
set_option maxRecDepth 100000 in
theorem open_ways (hv : Value.okWide Try.prog W .any base 83 v) (h : DataW.Trod enc Try.prog W 0 (fun _ => true) true 83 v d p) :
    ∃ L : List Wy, Rds 3 Wy.cs W v L ∧ L.length ≤ 9223372036854775807 ∧ ∀ x ∈ L, x.Ok :=
  open_rds Try.underlying83 (by kernel_rfl) (by decide) Wy.Ok (fun h hl => way_cells h hl) hv h
end
end Go.Proofs.Ytghaajmalhcgbaa

namespace Go.Proofs.Ytghaajmalhcgbaa
open Go.RowKit
attribute [local go_sem ↓] Go.wp_at_zero Go.wp_at_succ

structure AcT (σ : Wn) (N b : Nat) : Prop where
  i : WInv σ N
  a : AgW σ
  f : ∀ d, (σ.f d).length ≤ b
theorem WInv.more {σ : Wn} {N M : Nat} (h : WInv σ N) (h1 : N ≤ M) (h2 : M ≤ 1000000) : WInv σ M := ⟨h.d, h.a, fun d => (h.o d).more h1 h2, fun d => Nat.le_trans (h.xl d) h1⟩
theorem AcT.more {σ : Wn} {N M b c : Nat} (h : AcT σ N b) (h1 : N ≤ M) (h2 : M ≤ 1000000) (h3 : b ≤ c) : AcT σ M c := ⟨h.i.more h1 h2, h.a, fun d => Nat.le_trans (h.f d) h3⟩
theorem AgW.out {σ : Wn} (h : AgW σ) (d : Bool) {s : Sm} {F : List Sg} (hs : s.ag = (σ.s d).ag) : AgW (outW σ d s F) := by
  intro b
  rcases key2 b d with rfl | rfl
  · simp only [outW, upB_self]; rw [hs]; exact h b
  · simp only [outW, upB_not]; exact h _
theorem due_ag (s : Sm) : (dueM s).ag = s.ag := by unfold dueM; split <;> rfl
theorem tick_ag (s : Sm) : (tickM s).ag = s.ag := by unfold tickM; split; rfl; split <;> rfl
theorem take_ag (s : Sm) (q a : Nat) : (takeM s q a).ag = s.ag := by
  show (ackM s a).ag = _
  unfold ackM
  split <;> rfl
theorem AcT.out {σ : Wn} {N b c : Nat} (h : AcT σ N b) (d : Bool) {s : Sm} {L F : List Sg} (ht : Tells (σ.s d) s (σ.x d) L) (ok : s.Ok N) (hs : s.ag = (σ.s d).ag) (hF : ∀ g ∈ F, g ∈ σ.f d ∨ g ∈ L) (hl : F.length ≤ c) (hc : b ≤ c) : AcT (outW σ d s F) N c := by
  refine ⟨outW_inv h.i d ht ok hF, h.a.out d hs, fun b' => ?_⟩
  rcases key2 b' d with rfl | rfl
  · simp only [outW, upB_self]; exact hl
  · simp only [outW, upB_not]; exact Nat.le_trans (h.f _) hc
theorem AcT.due {σ : Wn} {N b : Nat} (h : AcT σ N b) (d : Bool) : AcT (outW σ d (dueM (σ.s d)) (σ.f d ++ dueL (σ.s d))) N (b + 8) :=
  h.out d (tells_due (h.i.d d)) (dueM_ok (h.i.o d)) (due_ag _) (fun g hg => by simpa using hg) (by have := h.f d; have := dueL_le (h.i.o d); simp; omega) (by omega)
theorem AcT.tick {σ : Wn} {N b : Nat} (h : AcT σ N b) (d : Bool) : AcT (outW σ d (tickM (σ.s d)) (σ.f d ++ tickL (σ.s d))) N (b + 8) :=
  h.out d (tells_tick (h.i.d d)) (tickM_ok (h.i.o d)) (tick_ag _) (fun g hg => by simpa using hg) (by have := h.f d; have := tickL_le (h.i.o d); simp; omega) (by omega)
theorem AcT.fly {σ : Wn} {N b c : Nat} (h : AcT σ N b) (d : Bool) {F : List Sg} (hF : ∀ g ∈ F, g ∈ σ.f d) (hl : F.length ≤ c) (hc : b ≤ c) : AcT ⟨σ.s, upB σ.f d F, σ.x, σ.y⟩ N c := by
  have e : outW σ d (σ.s d) F = ⟨σ.s, upB σ.f d F, σ.x, σ.y⟩ := by unfold outW; rw [upB_same]
  rw [← e]
  exact h.out d (L := []) ⟨rfl, rfl, rfl, Nat.le_refl _, by simp⟩ (h.i.o d) rfl (fun g hg => .inl (hF g hg)) hl hc
theorem AcT.take {σ : Wn} {N b : Nat} (h : AcT σ N b) (d : Bool) {g : Sg} (hg : Ad (σ.s d) (σ.x d) g) : AcT (takeW σ d g) N b := by
  refine ⟨takeW_inv h.i d hg, fun b' => ?_, h.f⟩
  rcases key2 b' d with rfl | rfl
  · simp only [takeW, upB_not']; exact h.a _
  · simp only [takeW, upB_self]; rw [take_ag]; exact h.a _
theorem AcT.send {σ : Wn} {N b : Nat} (h : AcT σ N b) (hN : N + 1 ≤ 1000000) (d : Bool) (c : UInt8) : AcT (sendW σ d c) (N + 1) b := by
  refine ⟨sendW_inv h.i hN d c, fun b' => ?_, h.f⟩
  rcases key2 b' d with rfl | rfl
  · simp only [sendW, upB_self]; exact h.a b'
  · simp only [sendW, upB_not]; exact h.a _
/-- The place that an act means. -/
theorem act_at (N : Int) (n : Nat) (h : 0 < n) (hn : n ≤ 1000000) : ∃ k : Nat, k < n ∧ (Int.tmod (Int.tmod N n + n) n) = k ∧ 0 ≤ Int.tmod N n + n ∧ Int.tmod N n + n ≤ 2000000 := by
  have h1 : -(n : Int) < Int.tmod N n ∧ Int.tmod N n < n := by
    have h2 := Int.tmod_lt_of_pos N (show (0 : Int) < n by omega)
    have h3 := Int.tmod_lt_of_pos (-N) (show (0 : Int) < n by omega)
    rw [Int.neg_tmod] at h3
    omega
  have h4 := Int.tmod_lt_of_pos (Int.tmod N n + n) (show (0 : Int) < n by omega)
  have h5 := Int.tmod_nonneg (n : Int) (show 0 ≤ Int.tmod N n + n by omega)
  exact ⟨(Int.tmod (Int.tmod N n + n) n).toNat, by omega, by omega, by omega, by omega⟩
def AcR (w : World) (P : Bool → Nat) (eb fb : Nat) (A : Bool → Nat) (nl : Nat) (_ : Option Addr) (_ : Nat) (x : Value) (wr : World) : Prop :=
  ∃ (i : Nat) (G : Bool → Nat) (X : List Nat) (V : Bool → Value) (R : Bool → Bool → Value) (σ : Wn), i ≤ nl ∧ x = .int .i64 i ∧ Hid (WM w P eb fb A G X V R σ wr) ∧ Hid (AcT σ i (20 * i))
noncomputable def acBody : Code := ((((Try.f10.body.map loops).getD [])[0]?).getD .skip)
set_option maxRecDepth 1000000 in
def acI (w : World) (P : Bool → Nat) (eb fb : Nat) (A : Bool → Nat) (nl : Nat) (a0 : Option Addr) (c0 : Nat) (kk1 kk2 kk3 kk4 kk5 kk6 kk18 kk19 kk20 kk21 kk22 kk23 kk24 kk25 kk26 kk27 kk28 kk29 kk30 kk31 kk32 kk33 kk34 kk35 kk36 kk37 kk38 kk39 kk40 kk41 kk42 kk43 kk239 kk240 kk241 kk242 kk243 kk244 kk245 kk246 kk247 kk248 kk249 kk250 kk251 kk252 kk253 kk254 kk255 kk256 kk257 kk258 kk259 kk260 kk261 kk262 kk263 kk264 kk265 kk266 kk267 kk268 kk269 kk270 kk271 kk272 kk273 kk274 kk275 kk276 kk277 kk278 kk279 kk280 kk281 kk282 kk283 kk284 kk285 kk286 kk287 kk288 kk289 kk290 kk291 kk292 kk293 kk294 kk295 kk296 kk297 kk298 kk299 kk300 kk301 kk302 kk303 kk304 : Value) (a : Act) (w' : World) : Prop := ∃ u12 : Value, ∃ u13 : Value, ∃ u14 : Value, ∃ u15 : Value, ∃ u16 : Value, ∃ u17 : Value, ∃ u44 : Value, ∃ u45 : Value, ∃ u46 : Value, ∃ u47 : Value, ∃ u48 : Value, ∃ u49 : Value, ∃ u50 : Value, ∃ u51 : Value, ∃ u52 : Value, ∃ u53 : Value, ∃ u54 : Value, ∃ u55 : Value, ∃ u56 : Value, ∃ u57 : Value, ∃ u58 : Value, ∃ u59 : Value, ∃ u60 : Value, ∃ u61 : Value, ∃ u62 : Value, ∃ u63 : Value, ∃ u64 : Value, ∃ u65 : Value, ∃ u66 : Value, ∃ u67 : Value, ∃ u68 : Value, ∃ u69 : Value, ∃ u70 : Value, ∃ u71 : Value, ∃ u72 : Value, ∃ u73 : Value, ∃ u74 : Value, ∃ u75 : Value, ∃ u76 : Value, ∃ u77 : Value, ∃ u78 : Value, ∃ u79 : Value, ∃ u80 : Value, ∃ u81 : Value, ∃ u82 : Value, ∃ u83 : Value, ∃ u84 : Value, ∃ u85 : Value, ∃ u86 : Value, ∃ u87 : Value, ∃ u88 : Value, ∃ u89 : Value, ∃ u90 : Value, ∃ u91 : Value, ∃ u92 : Value, ∃ u93 : Value, ∃ u94 : Value, ∃ u95 : Value, ∃ u96 : Value, ∃ u97 : Value, ∃ u98 : Value, ∃ u99 : Value, ∃ u100 : Value, ∃ u101 : Value, ∃ u102 : Value, ∃ u103 : Value, ∃ u104 : Value, ∃ u105 : Value, ∃ u106 : Value, ∃ u107 : Value, ∃ u108 : Value, ∃ u109 : Value, ∃ u110 : Value, ∃ u111 : Value, ∃ u112 : Value, ∃ u113 : Value, ∃ u114 : Value, ∃ u115 : Value, ∃ u116 : Value, ∃ u117 : Value, ∃ u118 : Value, ∃ u119 : Value, ∃ u120 : Value, ∃ u121 : Value, ∃ u122 : Value, ∃ u123 : Value, ∃ u124 : Value, ∃ u125 : Value, ∃ u126 : Value, ∃ u127 : Value, ∃ u128 : Value, ∃ u129 : Value, ∃ u130 : Value, ∃ u131 : Value, ∃ u132 : Value, ∃ u133 : Value, ∃ u134 : Value, ∃ u135 : Value, ∃ u136 : Value, ∃ u137 : Value, ∃ u138 : Value, ∃ u139 : Value, ∃ u140 : Value, ∃ u141 : Value, ∃ u142 : Value, ∃ u143 : Value, ∃ u144 : Value, ∃ u145 : Value, ∃ u146 : Value, ∃ u147 : Value, ∃ u148 : Value, ∃ u149 : Value, ∃ u150 : Value, ∃ u151 : Value, ∃ u152 : Value, ∃ u153 : Value, ∃ u154 : Value, ∃ u155 : Value, ∃ u156 : Value, ∃ u157 : Value, ∃ u158 : Value, ∃ u159 : Value, ∃ u160 : Value, ∃ u161 : Value, ∃ u162 : Value, ∃ u163 : Value, ∃ u164 : Value, ∃ u165 : Value, ∃ u166 : Value, ∃ u167 : Value, ∃ u168 : Value, ∃ u169 : Value, ∃ u170 : Value, ∃ u171 : Value, ∃ u172 : Value, ∃ u173 : Value, ∃ u174 : Value, ∃ u175 : Value, ∃ u176 : Value, ∃ u177 : Value, ∃ u178 : Value, ∃ u179 : Value, ∃ u180 : Value, ∃ u181 : Value, ∃ u182 : Value, ∃ u183 : Value, ∃ u184 : Value, ∃ u185 : Value, ∃ u186 : Value, ∃ u187 : Value, ∃ u188 : Value, ∃ u189 : Value, ∃ u190 : Value, ∃ u191 : Value, ∃ u192 : Value, ∃ u193 : Value, ∃ u194 : Value, ∃ u195 : Value, ∃ u196 : Value, ∃ u197 : Value, ∃ u198 : Value, ∃ u199 : Value, ∃ u200 : Value, ∃ u201 : Value, ∃ u202 : Value, ∃ u203 : Value, ∃ u204 : Value, ∃ u205 : Value, ∃ u206 : Value, ∃ u207 : Value, ∃ u208 : Value, ∃ u209 : Value, ∃ u210 : Value, ∃ u211 : Value, ∃ u212 : Value, ∃ u213 : Value, ∃ u214 : Value, ∃ u215 : Value, ∃ u216 : Value, ∃ u217 : Value, ∃ u218 : Value, ∃ u219 : Value, ∃ u220 : Value, ∃ u221 : Value, ∃ u222 : Value, ∃ u223 : Value, ∃ u224 : Value, ∃ u225 : Value, ∃ u226 : Value, ∃ u227 : Value, ∃ u228 : Value, ∃ u229 : Value, ∃ u230 : Value, ∃ u231 : Value, ∃ u232 : Value, ∃ u233 : Value, ∃ u234 : Value, ∃ u235 : Value, ∃ u236 : Value, ∃ u237 : Value, ∃ u238 : Value, AcR w P eb fb A nl a0 c0 u12 w' ∧ a = ⟨#[.slice a0 nl c0, kk1, kk2, kk3, kk4, kk5, kk6, .pointer (some ⟨eb, 0, none⟩), .pointer (some ⟨fb, 0, none⟩), .pointer (some ⟨A false, 0, none⟩), .pointer (some ⟨A true, 0, none⟩), .func (.func 28) #[] #[.pointer (some ⟨eb, 0, none⟩), .pointer (some ⟨A true, 0, none⟩)], u12, u13, u14, u15, u16, u17, kk18, kk19, kk20, kk21, kk22, kk23, kk24, kk25, kk26, kk27, kk28, kk29, kk30, kk31, kk32, kk33, kk34, kk35, kk36, kk37, kk38, kk39, kk40, kk41, kk42, kk43, u44, u45, u46, u47, u48, u49, u50, u51, u52, u53, u54, u55, u56, u57, u58, u59, u60, u61, u62, u63, u64, u65, u66, u67, u68, u69, u70, u71, u72, u73, u74, u75, u76, u77, u78, u79, u80, u81, u82, u83, u84, u85, u86, u87, u88, u89, u90, u91, u92, u93, u94, u95, u96, u97, u98, u99, u100, u101, u102, u103, u104, u105, u106, u107, u108, u109, u110, u111, u112, u113, u114, u115, u116, u117, u118, u119, u120, u121, u122, u123, u124, u125, u126, u127, u128, u129, u130, u131, u132, u133, u134, u135, u136, u137, u138, u139, u140, u141, u142, u143, u144, u145, u146, u147, u148, u149, u150, u151, u152, u153, u154, u155, u156, u157, u158, u159, u160, u161, u162, u163, u164, u165, u166, u167, u168, u169, u170, u171, u172, u173, u174, u175, u176, u177, u178, u179, u180, u181, u182, u183, u184, u185, u186, u187, u188, u189, u190, u191, u192, u193, u194, u195, u196, u197, u198, u199, u200, u201, u202, u203, u204, u205, u206, u207, u208, u209, u210, u211, u212, u213, u214, u215, u216, u217, u218, u219, u220, u221, u222, u223, u224, u225, u226, u227, u228, u229, u230, u231, u232, u233, u234, u235, u236, u237, u238, kk239, kk240, kk241, kk242, kk243, kk244, kk245, kk246, kk247, kk248, kk249, kk250, kk251, kk252, kk253, kk254, kk255, kk256, kk257, kk258, kk259, kk260, kk261, kk262, kk263, kk264, kk265, kk266, kk267, kk268, kk269, kk270, kk271, kk272, kk273, kk274, kk275, kk276, kk277, kk278, kk279, kk280, kk281, kk282, kk283, kk284, kk285, kk286, kk287, kk288, kk289, kk290, kk291, kk292, kk293, kk294, kk295, kk296, kk297, kk298, kk299, kk300, kk301, kk302, kk303, kk304], []⟩
def acMu (n : Nat) (a : Act) (_ : World) : Nat := n - (intOf (a.tmps.getD 12 undef)).toNat
end Go.Proofs.Ytghaajmalhcgbaa

namespace Go.Proofs.Ytghaajmalhcgbaa
open Go.RowKit
attribute [local go_sem ↓] Go.wp_at_zero Go.wp_at_succ

def CkR (V0 : World) (_ : Nat) (_ : Bool → Nat) (x : Value) (wr : World) : Prop := ∃ (k : Nat), k ≤ 2 ∧ x = .int .i64 k ∧ Hid (Below V0.heap.size V0 wr)
noncomputable def ckBody : Code := ((((Try.f10.body.map loops).getD [])[1]?).getD .skip)
set_option maxRecDepth 1000000 in
def ckI (V0 : World) (eb : Nat) (A : Bool → Nat) (kk0 kk1 kk2 kk3 kk4 kk5 kk6 kk8 kk11 kk12 kk13 kk14 kk15 kk16 kk18 kk19 kk20 kk21 kk22 kk23 kk24 kk25 kk26 kk27 kk28 kk29 kk30 kk31 kk32 kk33 kk34 kk35 kk36 kk37 kk38 kk39 kk40 kk41 kk42 kk43 kk44 kk45 kk46 kk47 kk48 kk49 kk50 kk51 kk52 kk53 kk54 kk55 kk56 kk57 kk58 kk59 kk60 kk61 kk62 kk63 kk64 kk65 kk66 kk67 kk68 kk69 kk70 kk71 kk72 kk73 kk74 kk75 kk76 kk77 kk78 kk79 kk80 kk81 kk82 kk83 kk84 kk85 kk86 kk87 kk88 kk89 kk90 kk91 kk92 kk93 kk94 kk95 kk96 kk97 kk98 kk99 kk100 kk101 kk102 kk103 kk104 kk105 kk106 kk107 kk108 kk109 kk110 kk111 kk112 kk113 kk114 kk115 kk116 kk117 kk118 kk119 kk120 kk121 kk122 kk123 kk124 kk125 kk126 kk127 kk128 kk129 kk130 kk131 kk132 kk133 kk134 kk135 kk136 kk137 kk138 kk139 kk140 kk141 kk142 kk143 kk144 kk145 kk146 kk147 kk148 kk149 kk150 kk151 kk152 kk153 kk154 kk155 kk156 kk157 kk158 kk159 kk160 kk161 kk162 kk163 kk164 kk165 kk166 kk167 kk168 kk169 kk170 kk171 kk172 kk173 kk174 kk175 kk176 kk177 kk178 kk179 kk180 kk239 kk240 kk241 kk242 kk243 kk244 kk245 kk246 kk247 kk248 kk249 kk250 kk251 kk252 kk253 kk254 kk255 kk256 kk257 kk258 kk259 kk260 kk261 kk262 kk263 kk264 kk265 kk266 kk267 kk268 kk269 kk270 kk271 kk272 kk273 kk274 kk275 kk276 kk277 kk278 kk279 kk280 kk281 kk282 kk283 kk284 kk285 kk286 kk287 kk288 kk289 kk290 kk291 kk292 kk293 kk294 kk295 kk296 kk297 kk298 kk299 kk300 kk301 kk302 kk303 kk304 : Value) (a : Act) (w' : World) : Prop := ∃ u17 : Value, ∃ u181 : Value, ∃ u182 : Value, ∃ u183 : Value, ∃ u184 : Value, ∃ u185 : Value, ∃ u186 : Value, ∃ u187 : Value, ∃ u188 : Value, ∃ u189 : Value, ∃ u190 : Value, ∃ u191 : Value, ∃ u192 : Value, ∃ u193 : Value, ∃ u194 : Value, ∃ u195 : Value, ∃ u196 : Value, ∃ u197 : Value, ∃ u198 : Value, ∃ u199 : Value, ∃ u200 : Value, ∃ u201 : Value, ∃ u202 : Value, ∃ u203 : Value, ∃ u204 : Value, ∃ u205 : Value, ∃ u206 : Value, ∃ u207 : Value, ∃ u208 : Value, ∃ u209 : Value, ∃ u210 : Value, ∃ u211 : Value, ∃ u212 : Value, ∃ u213 : Value, ∃ u214 : Value, ∃ u215 : Value, ∃ u216 : Value, ∃ u217 : Value, ∃ u218 : Value, ∃ u219 : Value, ∃ u220 : Value, ∃ u221 : Value, ∃ u222 : Value, ∃ u223 : Value, ∃ u224 : Value, ∃ u225 : Value, ∃ u226 : Value, ∃ u227 : Value, ∃ u228 : Value, ∃ u229 : Value, ∃ u230 : Value, ∃ u231 : Value, ∃ u232 : Value, ∃ u233 : Value, ∃ u234 : Value, ∃ u235 : Value, ∃ u236 : Value, ∃ u237 : Value, ∃ u238 : Value, CkR V0 eb A u17 w' ∧ a = ⟨#[kk0, kk1, kk2, kk3, kk4, kk5, kk6, .pointer (some ⟨eb, 0, none⟩), kk8, .pointer (some ⟨A false, 0, none⟩), .pointer (some ⟨A true, 0, none⟩), kk11, kk12, kk13, kk14, kk15, kk16, u17, kk18, kk19, kk20, kk21, kk22, kk23, kk24, kk25, kk26, kk27, kk28, kk29, kk30, kk31, kk32, kk33, kk34, kk35, kk36, kk37, kk38, kk39, kk40, kk41, kk42, kk43, kk44, kk45, kk46, kk47, kk48, kk49, kk50, kk51, kk52, kk53, kk54, kk55, kk56, kk57, kk58, kk59, kk60, kk61, kk62, kk63, kk64, kk65, kk66, kk67, kk68, kk69, kk70, kk71, kk72, kk73, kk74, kk75, kk76, kk77, kk78, kk79, kk80, kk81, kk82, kk83, kk84, kk85, kk86, kk87, kk88, kk89, kk90, kk91, kk92, kk93, kk94, kk95, kk96, kk97, kk98, kk99, kk100, kk101, kk102, kk103, kk104, kk105, kk106, kk107, kk108, kk109, kk110, kk111, kk112, kk113, kk114, kk115, kk116, kk117, kk118, kk119, kk120, kk121, kk122, kk123, kk124, kk125, kk126, kk127, kk128, kk129, kk130, kk131, kk132, kk133, kk134, kk135, kk136, kk137, kk138, kk139, kk140, kk141, kk142, kk143, kk144, kk145, kk146, kk147, kk148, kk149, kk150, kk151, kk152, kk153, kk154, kk155, kk156, kk157, kk158, kk159, kk160, kk161, kk162, kk163, kk164, kk165, kk166, kk167, kk168, kk169, kk170, kk171, kk172, kk173, kk174, kk175, kk176, kk177, kk178, kk179, kk180, u181, u182, u183, u184, u185, u186, u187, u188, u189, u190, u191, u192, u193, u194, u195, u196, u197, u198, u199, u200, u201, u202, u203, u204, u205, u206, u207, u208, u209, u210, u211, u212, u213, u214, u215, u216, u217, u218, u219, u220, u221, u222, u223, u224, u225, u226, u227, u228, u229, u230, u231, u232, u233, u234, u235, u236, u237, u238, kk239, kk240, kk241, kk242, kk243, kk244, kk245, kk246, kk247, kk248, kk249, kk250, kk251, kk252, kk253, kk254, kk255, kk256, kk257, kk258, kk259, kk260, kk261, kk262, kk263, kk264, kk265, kk266, kk267, kk268, kk269, kk270, kk271, kk272, kk273, kk274, kk275, kk276, kk277, kk278, kk279, kk280, kk281, kk282, kk283, kk284, kk285, kk286, kk287, kk288, kk289, kk290, kk291, kk292, kk293, kk294, kk295, kk296, kk297, kk298, kk299, kk300, kk301, kk302, kk303, kk304], []⟩
def ckMu (n : Nat) (a : Act) (_ : World) : Nat := n - (intOf (a.tmps.getD 17 undef)).toNat
end Go.Proofs.Ytghaajmalhcgbaa
