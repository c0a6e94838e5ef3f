/- Parts whose bytes may be written: what stays behind a store. -/
import Derived.Test.YtlgdmfbpkmokaaaDoorCu
namespace Go.Proofs.YtlgdmfbpkmokaaaDoor
open Go.RowKit

/-- Each byte of each part may be written, in blocks from B on. -/
def Mod (B : Nat) (w : World) (a : Option Addr) (P : List (List UInt8)) : Prop :=
  ∀ i (hi : i < P.length), ∃ bx ox x d, a = some ⟨bx, ox, none⟩ ∧ w.cell? ⟨bx, ox + i, none⟩ = some (.slice x P[i].length d) ∧
    ∀ k, k < P[i].length → ∃ g o, x = some ⟨g, o, none⟩ ∧ B ≤ g ∧ w.frozen? ⟨g, o + k, none⟩ = false ∧ ∃ z : Nat, z < 256 ∧ w.cell? ⟨g, o + k, none⟩ = some (.int .u8 (z : Int))
theorem Mod.drewN {B : Nat} {w : World} {a : Option Addr} {P : List (List UInt8)} (h : Mod B w a P) (n : Nat) : Mod B (w.drewN n) a P := h
theorem Mod.drew {B : Nat} {w : World} {a : Option Addr} {P : List (List UInt8)} (h : Mod B w a P) : Mod B w.drew a P := h
theorem Mod.set {B : Nat} {w : World} {a : Option Addr} {P : List (List UInt8)} (h : Mod B w a P) {p : Addr} {z0 : Nat} (hp : w.cell? p = some (.int .u8 (z0 : Int))) (y : Int) (hy : 0 ≤ y) (hy2 : y < 256) : Mod B (w.setCell p (.int .u8 y)) a P := by
  intro i hi
  obtain ⟨bx, ox, x, d, ha, hc, hk⟩ := h i hi
  refine ⟨bx, ox, x, d, ha, ?_, fun k hk2 => ?_⟩
  · rw [World.cell?_setCell_other _ _ _ _ (fun e => by rw [e, hc] at hp; cases hp)]; exact hc
  · obtain ⟨g, o, e1, e2, e3, z, hz, e4⟩ := hk k hk2
    refine ⟨g, o, e1, e2, by rw [World.frozen?_setCell]; exact e3, ?_⟩
    by_cases he : p = ⟨g, o + k, none⟩
    · subst he
      refine ⟨y.toNat, by omega, ?_⟩
      rw [World.cell?_setCell_same _ _ _ e4, Int.toNat_of_nonneg hy]
    · exact ⟨z, hz, by rw [World.cell?_setCell_other _ _ _ _ he]; exact e4⟩
theorem CutAns.mod {w0 w' : World} {a : Option Addr} {n c : Nat} {P : List (List UInt8)} (h : CutAns w0 (.slice a n c) P w') : Mod w0.heap.size w' a P := by
  obtain ⟨⟨g, wc, hg0, hw0, ⟨xs, ho, hx⟩, hb, hf⟩, _⟩ := h
  have hl : xs.length = P.length := by simpa using ho.1
  intro i hi
  have hi' : i < xs.length := by omega
  obtain ⟨b, o, e1, _, hcell⟩ := (Row.of_own ho).at (List.getElem?_eq_getElem hi')
  obtain ⟨hp1, hp2⟩ := hx i _ _ (List.getElem?_eq_getElem hi') (List.getElem?_eq_getElem hi)
  obtain ⟨x, d, e2⟩ := hp1.form
  refine ⟨b, o, x, d, e1, by rw [hcell, e2], fun k hk => ?_⟩
  have hne : P[i] ≠ [] := by intro e; rw [e] at hk; simp at hk
  obtain ⟨o', c', e3⟩ := hp2 hne
  rw [e2] at e3 hp1
  simp only [Value.slice.injEq] at e3
  obtain ⟨rfl, _, rfl⟩ := e3
  have hflat : P.flatten ≠ [] := by
    intro e
    have := List.flatten_eq_nil_iff.1 e P[i] (List.getElem_mem hi)
    exact hne this
  obtain ⟨_, hfr⟩ := hf hflat
  obtain ⟨b2, o2, e4, _, hc2⟩ := (hp1.later hb).at hk
  simp only [Option.some.injEq, Addr.mk.injEq, and_true] at e4
  obtain ⟨rfl, rfl⟩ := e4
  exact ⟨g, o', rfl, hg0, hfr _, _, P[i][k].toNat_lt, hc2⟩
theorem CutAns.lists {w0 w' : World} {v : Value} {P : List (List UInt8)} (h : CutAns w0 v P w') : Lists w' v P := by
  obtain ⟨⟨g, wc, _, _, ho, hb, _⟩, _⟩ := h
  exact ho.lists hb
theorem Mod.later {B : Nat} {w w' : World} {a : Option Addr} {P : List (List UInt8)} (h : Mod B w a P) (hb : Below w.heap.size w w') : Mod B w' a P := by
  intro i hi
  obtain ⟨bx, ox, x, d, ha, hc, hk⟩ := h i hi
  refine ⟨bx, ox, x, d, ha, cell_later hb hc, fun k hk2 => ?_⟩
  obtain ⟨g, o, e1, e2, e3, z, hz, e4⟩ := hk k hk2
  have hlt := World.block_lt_of_cell? _ _ e4
  exact ⟨g, o, e1, e2, (hb.frozen (p := ⟨g, o + k, none⟩) hlt).trans e3, z, hz, cell_later hb e4⟩
end Go.Proofs.YtlgdmfbpkmokaaaDoor
