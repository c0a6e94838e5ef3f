/- The walks of the reference's Words, Total, Check.
   A row of one-cell elements in memory: a slice value that reads as a list of values.
   The walk of icmp.Of where the bytes are a message's.
   A copy into a block, in a region that draws its order: the rest of memory stays.
   A region that draws its order, cut at what is done: one lemma for each set of done operations.
   The walk of icmp.Of where the bytes are refused.
   A struct's block in memory, of any type that is no byte. -/
import Derived.Deep.RegionHeld3
import Derived.Deep.AppendLies
import Derived.Laws.CopyOwn
import Derived.Test.YtnhkkpcepppgoaaZ01
import Derived.Test.YtnhkkpcepppgoaaZ02
import Derived.Test.YtnhkkpcepppgoaaZ03

set_option linter.unusedSimpArgs false
set_option linter.unusedVariables false
namespace Go.Proofs.Ytnhkkpcepppgoaa
open Go.RowKit

/-- A block whose cells are these. -/
def BlkAt (t : TypeId) (g : Nat) (cs : List Value) (w : World) : Prop := w.heap[g]? = some (.cells cs.toArray t (0, 0))
section
variable {t : TypeId}
theorem BlkAt.lt {g : Nat} {cs : List Value} {w : World} (h : BlkAt t g cs w) : g < w.heap.size := (Array.getElem?_eq_some_iff.1 h).1
theorem BlkAt.later {g : Nat} {cs : List Value} {w w' : World} (h : BlkAt t g cs w) (hb : Below w.heap.size w w') : BlkAt t g cs w' := (hb.block g h.lt).trans h
theorem BlkAt.new (w : World) (cs : List Value) : BlkAt t w.heap.size cs (w.alloc (.cells cs.toArray t)) := World.alloc_heap_new w _
theorem BlkAt.cell {g : Nat} {cs : List Value} {w : World} (h : BlkAt t g cs w) {j : Nat} {x : Value} (hx : cs[j]? = some x) : w.cell? ⟨g, j, none⟩ = some x := by
  rw [cell_of_row w g j cs.toArray _ (0, 0) h]; simpa using hx
theorem BlkAt.frozen {g : Nat} {cs : List Value} {w : World} (h : BlkAt t g cs w) (j : Nat) : w.frozen? ⟨g, j, none⟩ = false := by
  unfold World.frozen?; simp [show w.heap[g]? = _ from h]
theorem BlkAt.set {g : Nat} {cs : List Value} {w : World} (h : BlkAt t g cs w) (j : Nat) (x : Value) : BlkAt t g (cs.set j x) (w.setCell ⟨g, j, none⟩ x) := by
  have hl := h.lt
  have hk : w.heap[g] = .cells cs.toArray t (0, 0) := (Array.getElem?_eq_some_iff.1 h).2
  show (w.heap.modify g _)[g]? = _
  rw [Array.getElem?_eq_getElem (by rw [Array.size_modify]; exact hl), Array.getElem_modify_self, hk]
  simp
theorem BlkAt.other {g b : Nat} {cs : List Value} {w : World} (h : BlkAt t g cs w) (hne : g ≠ b) (j : Nat) (x : Value) : BlkAt t g cs (w.setCell ⟨b, j, none⟩ x) := by
  show (w.setCell ⟨b, j, none⟩ x).heap[g]? = _
  rw [Below.heap_setCell _ _ _ _ (by simpa using hne)]; exact h
theorem BlkAt.range {g : Nat} {cs : List Value} {w : World} (h : BlkAt t g cs w) : w.rangeAt g 0 cs := fun j v hv => by rw [Nat.zero_add]; exact h.cell hv
theorem BlkAt.ne_own {g : Nat} {cs : List Value} {w : World} (h : BlkAt t g cs w) (ht : t ≠ 5) {B : Nat} {v : Value} {l : List UInt8} (ho : OwnB w B v l) {b : Nat} (hv : v.ownBlock = some b) : b ≠ g := by
  intro e
  obtain ⟨cur, hc⟩ := own_block ho hv
  subst e
  have h2 : w.heap[b]? = _ := h
  rw [hc] at h2
  simp only [Option.some.injEq, Obj.cells.injEq] at h2
  exact ht h2.2.1.symm
theorem BlkAt.own {g : Nat} {cs : List Value} {w : World} (h : BlkAt t g cs w) (ht : t ≠ 5) (j : Nat) (x : Value) {B : Nat} {v : Value} {l : List UInt8} (ho : OwnB w B v l) : OwnB (w.setCell ⟨g, j, none⟩ x) B v l := by
  refine World.ownsRow.kept ho (grownBy_setCell_at w g j x) ?_
  cases hv : v.ownBlock with
  | none => exact .inl rfl
  | some b => exact .inr fun e => BlkAt.ne_own h ht ho hv (Option.some.inj e)
/-- The same, with the block above a world. -/
def BlkG (t : TypeId) (w0 : World) (g : Nat) (cs : List Value) (w : World) : Prop := BlkAt t g cs w ∧ w0.heap.size ≤ g
theorem BlkG.later {w0 : World} {g : Nat} {cs : List Value} {w w' : World} (h : BlkG t w0 g cs w) (hb : Below w.heap.size w w') : BlkG t w0 g cs w' := ⟨h.1.later hb, h.2⟩
/-- Seven stores into such a block. -/
theorem BlkAt.set7 {g : Nat} {w : World} {c0 c1 c2 c3 c4 c5 c6 : Value} (ht : t ≠ 5) (h : BlkAt t g [c0, c1, c2, c3, c4, c5, c6] w) (x0 x1 x2 x3 x4 x5 x6 : Value) :
    BlkAt t g [x0, x1, x2, x3, x4, x5, x6] (((((((w.setCell ⟨g, 0, none⟩ x0).setCell ⟨g, 1, none⟩ x1).setCell ⟨g, 2, none⟩ x2).setCell ⟨g, 3, none⟩ x3).setCell ⟨g, 4, none⟩ x4).setCell ⟨g, 5, none⟩ x5).setCell ⟨g, 6, none⟩ x6) ∧ (∀ B v l, OwnB w B v l → OwnB (((((((w.setCell ⟨g, 0, none⟩ x0).setCell ⟨g, 1, none⟩ x1).setCell ⟨g, 2, none⟩ x2).setCell ⟨g, 3, none⟩ x3).setCell ⟨g, 4, none⟩ x4).setCell ⟨g, 5, none⟩ x5).setCell ⟨g, 6, none⟩ x6) B v l) ∧ (∀ B, B ≤ g → Below B w (((((((w.setCell ⟨g, 0, none⟩ x0).setCell ⟨g, 1, none⟩ x1).setCell ⟨g, 2, none⟩ x2).setCell ⟨g, 3, none⟩ x3).setCell ⟨g, 4, none⟩ x4).setCell ⟨g, 5, none⟩ x5).setCell ⟨g, 6, none⟩ x6)) := by
  have h1 := BlkAt.set h 0 x0
  have h2 := BlkAt.set h1 1 x1
  have h3 := BlkAt.set h2 2 x2
  have h4 := BlkAt.set h3 3 x3
  have h5 := BlkAt.set h4 4 x4
  have h6 := BlkAt.set h5 5 x5
  have h7 := BlkAt.set h6 6 x6
  exact ⟨h7, fun B v l ho => (BlkAt.own h6 ht 6 x6 (BlkAt.own h5 ht 5 x5 (BlkAt.own h4 ht 4 x4 (BlkAt.own h3 ht 3 x3 (BlkAt.own h2 ht 2 x2 (BlkAt.own h1 ht 1 x1 (BlkAt.own h ht 0 x0 ho))))))), fun B hB => ((((((((Below.refl _ _).setCell (p := ⟨g, 0, none⟩) hB x0).setCell (p := ⟨g, 1, none⟩) hB x1).setCell (p := ⟨g, 2, none⟩) hB x2).setCell (p := ⟨g, 3, none⟩) hB x3).setCell (p := ⟨g, 4, none⟩) hB x4).setCell (p := ⟨g, 5, none⟩) hB x5).setCell (p := ⟨g, 6, none⟩) hB x6)⟩
end
end Go.Proofs.Ytnhkkpcepppgoaa

namespace Go.Proofs.Ytnhkkpcepppgoaa
open Go.RowKit
attribute [local go_sem ↓] Go.wp_at_zero Go.wp_at_succ

def mzc : List Value := [.int .u8 0, .int .u8 0, .int .u8 0, .int .u8 0, .int .u8 0, .int .u8 0, .slice none 0 0]
theorem ic_ne : 46 ≠ 5 := by decide
/-- Are bytes a message's? -/
def okM (l : List UInt8) : Bool := decide (8 ≤ l.length) && (Sm.tot l == 65535)
def MZ : Value := .agg #[.int .u8 0, .int .u8 0, .int .u8 0, .int .u8 0, .int .u8 0, .int .u8 0, .slice none 0 0]

set_option maxHeartbeats 4000000 in
set_option maxRecDepth 100000 in
theorem of_no (a : Option Addr) (c : Nat) (l : List UInt8) (wm : World) (hv : Bytes wm (.slice a l.length c) l) (hl : l.length ≤ 10000) (h : okM l = false) :
    Calls Try.prog 27 #[.slice a l.length c] wm fun e w' => e = .returned (.tuple #[MZ, .int .i64 4]) ∧ Below wm.heap.size wm w' := by
  obtain ⟨n, hn⟩ : ∃ n, n = l.length := ⟨_, rfl⟩
  have hA : Below wm.heap.size wm (wm.alloc (.cells #[.int .u8 0, .int .u8 0, .int .u8 0, .int .u8 0, .int .u8 0, .int .u8 0, .slice none 0 0] 46)) := (Below.refl _ _).alloc (Nat.le_refl _) _
  have hr0 : BlkAt 46 wm.heap.size mzc (wm.alloc (.cells #[.int .u8 0, .int .u8 0, .int .u8 0, .int .u8 0, .int .u8 0, .int .u8 0, .slice none 0 0] 46)) := BlkAt.new wm mzc
  have hgd := goodW_any _ _ l (hv.later hA) hl
  have HGD := Lib.hid hgd
  have HA := Lib.hid hA
  have HR0 := Lib.hid hr0
  have HN := Lib.hid hn
  have HH := Lib.hid h
  rw [← hn]
  rw [← hn] at HGD
  clear hgd hA hr0 hv
  have fin : ∀ w1, Below (wm.alloc (.cells #[.int .u8 0, .int .u8 0, .int .u8 0, .int .u8 0, .int .u8 0, .int .u8 0, .slice none 0 0] 46)).heap.size (wm.alloc (.cells #[.int .u8 0, .int .u8 0, .int .u8 0, .int .u8 0, .int .u8 0, .int .u8 0, .slice none 0 0] 46)) w1 → Hid (BlkAt 46 wm.heap.size mzc w1) ∧ Hid (Below wm.heap.size wm w1) := fun w1 hb => ⟨HR0.out.later hb, HA.out.trans (hb.mono HA.out.size)⟩
  by_cases h8 : n < 8
  · have k1 : (n : Int) < 8 := by omega
    obtain ⟨R1, B1⟩ := fin _ (Below.refl _ _)
    clear fin h hl hn
    go_enter Try.func27, Try.ntmps27
    go_wp2_with fail
    exact bodyPost_ret (v := .tuple #[MZ, .int .i64 4]) (by simp [results, Try.results27, go_sem, MZ]) rfl ⟨rfl, B1.out⟩
  · have k1 : (8 : Int) ≤ n := by omega
    have ht : (Sm.tot l == 65535) = false := by
      unfold okM at h; rw [decide_eq_true (by omega)] at h; simpa using h
    rw [ht] at HGD
    clear h hl hn ht
    go_enter Try.func27, Try.ntmps27
    go_wp2_with fail
    refine HGD.out.mono ?_
    rintro e w1 ⟨rfl, hb1⟩
    obtain ⟨R1, B1⟩ := fin _ hb1
    clear fin hb1
    have hc : ∀ j x, mzc[j]? = some x → w1.cell? ⟨wm.heap.size, j, none⟩ = some x := fun j x hx => R1.out.cell hx
    have hfz : ∀ j, w1.frozen? ⟨wm.heap.size, j, none⟩ = false := fun j => R1.out.frozen j
    have k0 := hc 0 _ rfl
    have k1 := hc 1 _ rfl
    have k2 := hc 2 _ rfl
    have k3 := hc 3 _ rfl
    have k4 := hc 4 _ rfl
    have k5 := hc 5 _ rfl
    have k6 := hc 6 _ rfl
    obtain ⟨s1, s2, s3⟩ := BlkAt.set7 ic_ne (show BlkAt 46 wm.heap.size [.int .u8 0, .int .u8 0, .int .u8 0, .int .u8 0, .int .u8 0, .int .u8 0, .slice none 0 0] w1 from R1.out) (.int .u8 0) (.int .u8 0) (.int .u8 0) (.int .u8 0) (.int .u8 0) (.int .u8 0) (.slice none 0 0)
    have Q1 := Lib.hid s1
    have Q4 := Lib.hid (B1.out.trans (s3 _ (Nat.le_refl _)))
    clear hc s1 s2 s3
    go_wp2_with fail
    have d0 := BlkAt.cell Q1.out (j := 0) rfl
    have d1 := BlkAt.cell Q1.out (j := 1) rfl
    have d2 := BlkAt.cell Q1.out (j := 2) rfl
    have d3 := BlkAt.cell Q1.out (j := 3) rfl
    have d4 := BlkAt.cell Q1.out (j := 4) rfl
    have d5 := BlkAt.cell Q1.out (j := 5) rfl
    have d6 := BlkAt.cell Q1.out (j := 6) rfl
    exact bodyPost_ret (v := .tuple #[MZ, .int .i64 4]) (by simp [results, Try.results27, go_sem, d0, d1, d2, d3, d4, d5, d6, MZ]) rfl ⟨rfl, Q4.out⟩
end Go.Proofs.Ytnhkkpcepppgoaa

namespace Go.Proofs.Ytnhkkpcepppgoaa
open Go.RowKit
theorem wpAnyH_cut {P : Program} {md : Region.Mode} {ops : Array Oper} {Q : Exit → Act → World → Prop} {S : World → Prop} {fuel : Nat} {listed : Array Bool} {a : Act} {w : World}
    (m : Array Bool) (fm : Nat) (I : Act → World → Prop)
    (tail : ∀ (l : Array Bool) (A : Act) (w1 : World), l = m → I A w1 → S w1 → wpAnyH P md ops Q S fm l A w1)
    (main : (∀ (l : Array Bool) (A : Act) (w1 : World), l = m → I A w1 → S w1 → wpAnyH P md ops Q S fm l A w1) → wpAnyH P md ops Q S fuel listed a w) : wpAnyH P md ops Q S fuel listed a w := main tail
/-- A region, cut behind it: what its walk leaves is said once. -/
theorem wp_region_fin {P : Program} {Q : Exit → Act → World → Prop} {S : World → Prop} {id : Nat} {ops : Array Oper} {a : Act} {w : World} (I : Act → World → Prop) (hm : P.follows .mixedOrders = true) (hS : S w.drew) (h1 : ∀ A w3, I A w3 → Q .normal A w3)
    (h : (∀ A w3, I A w3 → Q .normal A w3) → S w.drew → wpAnyH P .any ops Q S ops.size (Array.replicate ops.size false) a w.drew) : (Code.region id ops true).wp P Q a w :=
  wp_region_held_drew hm hS (h h1)
end Go.Proofs.Ytnhkkpcepppgoaa

namespace Go.Proofs.Ytnhkkpcepppgoaa
open Go.RowKit
theorem step_copy_blk {P : Program} {ops : Array Oper} {o : Oper} {a : Act} {w : World} {K : Act → World → Prop} {Q : Exit → Act → World → Prop} {E : Prop} (hgd : o.guard = none) (d s : Operand) (dT sT : TypeId)
    (ho : o.op = .call { callee := .builtin .copy, args := #[d, s], argTypes := #[dT, sT] }) (elem : TypeId) (hu : P.underlying dT = some (.slice elem)) (hsz : (P.info? elem).map (·.size) = some 1)
    (g off dLen dCap : Nat) (ad : Addr) (sLen sCap : Nat) (hd : a.eval d = .slice (some ⟨g, off, none⟩) dLen dCap) (hs : a.eval s = .slice (some ad) sLen sCap)
    (cur : List Value) (t : TypeId) (hg : w.heap[g]? = some (.cells cur.toArray t (0, 0))) (cs : List Value) (hn : cs.length = Nat.min sLen dLen)
    (hsrc : ∀ j v, cs[j]? = some v → w.cell? (ad.add j) = some v) (hfit : off + cs.length ≤ cur.length) (h1 : ∀ v ∈ cs, v.oneCell' = true)
    (h : ∀ w', Hid (w'.heap[g]? = some (.cells (splice cur off cs).toArray t (0, 0))) → Hid (∀ k, k ≠ g → w'.heap[k]? = w.heap[k]?) → Hid (∀ B, B ≤ g → Below B w w') → K (a.put o.dst (goInt cs.length)) w') :
    if Region.wanted o (yielded ops a.tmps) = true then Oper.wp P o a w K Q else E := by
  have hw : Region.wanted o (yielded ops a.tmps) = true := by simp [Region.wanted, hgd]
  rw [if_pos hw]
  have hrun := run_copy_row (P := P) w dT sT o.type elem g off dLen dCap ad sLen sCap cur.toArray t cs hu hsz hg hn hsrc (by simpa using hfit) h1
  unfold Oper.wp
  simp [execOp, ho, resolve, invoke, builtin, hd, hs, hrun, Result.andThen]
  exact h _ (show _ = _ from setRow_heap w g _ _ _ _ hg) (fun k hk => setRow_other w g k _ hk) (fun B hB => below_setRow (Below.refl B w) hB _)
/-- What is owned elsewhere stays. -/
theorem OwnB.kept {w w' : World} {B g : Nat} {v : Value} {l : List UInt8} (h : OwnB w B v l) (hk : ∀ k, k ≠ g → w'.heap[k]? = w.heap[k]?) (hn : ∀ b, v.ownBlock = some b → b ≠ g) : OwnB w' B v l := by
  obtain ⟨hl, h0 | ⟨g', cap', cur', e, hb, hgg, r⟩⟩ := h
  · exact ⟨hl, .inl h0⟩
  · refine ⟨hl, .inr ⟨g', cap', cur', e, hb, (hk g' (hn g' (by rw [e]; rfl))).trans hgg, r⟩⟩
end Go.Proofs.Ytnhkkpcepppgoaa

namespace Go.Proofs.Ytnhkkpcepppgoaa
open Go.RowKit
attribute [local go_sem ↓] Go.wp_at_zero Go.wp_at_succ

set_option maxHeartbeats 8000000 in
set_option maxRecDepth 100000 in
theorem of_yes (a : Option Addr) (c : Nat) (l : List UInt8) (wm : World) (hv : Bytes wm (.slice a l.length c) l) (hl : l.length ≤ 10000) (h : okM l = true) :
    Calls Try.prog 27 #[.slice a l.length c] wm fun e w' => ∃ u, e = .returned (.tuple #[.agg #[.int .u8 (Sm.at0 l 0 : Nat), .int .u8 (Sm.at0 l 1 : Nat), .int .u8 (Sm.at0 l 4 : Nat), .int .u8 (Sm.at0 l 5 : Nat), .int .u8 (Sm.at0 l 6 : Nat), .int .u8 (Sm.at0 l 7 : Nat), u], .int .i64 0]) ∧ OwnB w' wm.heap.size u (l.drop 8) ∧ Below wm.heap.size wm w' := by
  obtain ⟨h8, ht⟩ : 8 ≤ l.length ∧ (Sm.tot l == 65535) = true := by
    unfold okM at h; simpa using h
  obtain ⟨b, o, rfl, hbl⟩ : ∃ b o, a = some ⟨b, o, none⟩ ∧ b < wm.heap.size := by
    rcases hv with ⟨rfl, _⟩ | ⟨b, o, c', e, hb, _⟩
    · simp at h8
    · simp only [Value.slice.injEq] at e; exact ⟨b, o, e.1, hb⟩
  obtain ⟨n, hn⟩ : ∃ n, n = l.length := ⟨_, rfl⟩
  have hA : Below wm.heap.size wm (wm.alloc (.cells #[.int .u8 0, .int .u8 0, .int .u8 0, .int .u8 0, .int .u8 0, .int .u8 0, .slice none 0 0] 46)) := (Below.refl _ _).alloc (Nat.le_refl _) _
  have hr0 : BlkAt 46 wm.heap.size mzc (wm.alloc (.cells #[.int .u8 0, .int .u8 0, .int .u8 0, .int .u8 0, .int .u8 0, .int .u8 0, .slice none 0 0] 46)) := BlkAt.new wm mzc
  have hgd := goodW_any _ _ l (hv.later hA) hl
  rw [ht] at hgd
  obtain ⟨a8, hs8, hb8⟩ := hv.cut_l 8 8 rfl h8
  obtain ⟨a4, hs4, hb4⟩ := hv.cut_l 4 4 rfl (by omega)
  obtain ⟨b4, o4, rfl, hb4l⟩ : ∃ b o, a4 = some ⟨b, o, none⟩ ∧ b < wm.heap.size := by
    rcases hb4 with ⟨h0, _⟩ | ⟨b, o, c', e, hb, _⟩
    · have := congrArg List.length h0; simp at this; omega
    · simp only [Value.slice.injEq] at e; exact ⟨b, o, e.1, hb⟩
  have hsrc : ∀ j v, [Value.int .u8 (Sm.at0 l 4 : Nat), .int .u8 (Sm.at0 l 5 : Nat), .int .u8 (Sm.at0 l 6 : Nat), .int .u8 (Sm.at0 l 7 : Nat)][j]? = some v → wm.cell? ((⟨b4, o4, none⟩ : Addr).add j) = some v := by
    intro j v hj
    refine hb4.news j v ?_
    have hd : ∀ k, 4 + k < l.length → (bv (l.drop 4))[k]? = some (.int .u8 (Sm.at0 l (4 + k) : Nat)) := by
      intro k hk
      rw [at0_get hk]
      simp [bv, hk]
    match j, hj with
    | 0, hj => rw [← hj]; exact hd 0 (by omega)
    | 1, hj => rw [← hj]; exact hd 1 (by omega)
    | 2, hj => rw [← hj]; exact hd 2 (by omega)
    | 3, hj => rw [← hj]; exact hd 3 (by omega)
  have hcell : ∀ k, k < l.length → wm.cell? ⟨b, o + k, none⟩ = some (.int .u8 (Sm.at0 l k : Nat)) := by
    intro k hk
    rcases hv with ⟨rfl, _⟩ | ⟨b', o', c', e, _, _, hx⟩
    · simp at h8
    · simp only [Value.slice.injEq, Option.some.injEq, Addr.mk.injEq] at e
      obtain ⟨⟨rfl, rfl, _⟩, _⟩ := e
      rw [hx k l[k] (by simp [hk]), at0_get hk]
  have HGD := Lib.hid hgd
  have HA := Lib.hid hA
  have HR0 := Lib.hid hr0
  have HCL := Lib.hid hcell
  have HB8m := Lib.hid hb8
  have HSRC := Lib.hid hsrc
  have HLN : Hid (8 ≤ l.length ∧ l.length ≤ 10000 ∧ n = l.length) := ⟨h8, hl, hn⟩
  have HL8 : Hid ((l.drop 8).length ≤ 140737488355328) := by show _ ≤ _; simp; omega
  have k1 : (8 : Int) ≤ n := by omega
  have k2 : n ≤ c := by have := hv.cap; omega
  have k3 : 0 < n := by omega
  have k4 : 1 < n := by omega
  have k5 : (0 : Int) < n := by omega
  have k6 : (1 : Int) < n := by omega
  rw [← hn]
  rw [← hn] at HGD HB8m hs8 hs4
  clear hgd hA hr0 hv hcell hb8 hb4 h hn h8 hl ht hsrc
  obtain ⟨e0, he0⟩ : ∃ e, e = Sm.at0 l 0 := ⟨_, rfl⟩
  obtain ⟨e1, he1⟩ : ∃ e, e = Sm.at0 l 1 := ⟨_, rfl⟩
  obtain ⟨f4, hf4⟩ : ∃ e, e = Sm.at0 l 4 := ⟨_, rfl⟩
  obtain ⟨f5, hf5⟩ : ∃ e, e = Sm.at0 l 5 := ⟨_, rfl⟩
  obtain ⟨f6, hf6⟩ : ∃ e, e = Sm.at0 l 6 := ⟨_, rfl⟩
  obtain ⟨f7, hf7⟩ : ∃ e, e = Sm.at0 l 7 := ⟨_, rfl⟩
  rw [← hf4, ← hf5, ← hf6, ← hf7] at HSRC
  have HE : Hid (e0 = Sm.at0 l 0 ∧ e1 = Sm.at0 l 1 ∧ f4 = Sm.at0 l 4 ∧ f5 = Sm.at0 l 5 ∧ f6 = Sm.at0 l 6 ∧ f7 = Sm.at0 l 7) := ⟨he0, he1, hf4, hf5, hf6, hf7⟩
  clear he0 he1 hf4 hf5 hf6 hf7
  go_enter Try.func27, Try.ntmps27
  go_wp2_with fail
  refine HGD.out.mono ?_
  rintro e w ⟨rfl, hb1⟩
  have HBM := Lib.hid (HA.out.trans (hb1.mono HA.out.size))
  have HRM : Hid (BlkAt 46 wm.heap.size mzc w) := HR0.out.later hb1
  have HB8 : Hid (Bytes w (.slice a8 (n - 8) (c - 8)) (l.drop 8)) := (show Bytes wm _ _ from HB8m.out).later HBM.out
  have C0 : Hid (w.cell? ⟨b, o, none⟩ = some (.int .u8 (e0 : Nat))) := by rw [HE.out.1]; exact cell_later' HBM.out hbl (HCL.out 0 (by have := HLN.out; omega))
  have C1 : Hid (w.cell? ⟨b, o + 1, none⟩ = some (.int .u8 (e1 : Nat))) := by rw [HE.out.2.1]; exact cell_later' HBM.out hbl (HCL.out 1 (by have := HLN.out; omega))
  clear hb1 HGD HR0
  go_wp2_with fail
  refine wp_region_fin (S := fun w' => Below w.heap.size w w') (fun A w3 => ∃ (x5 : Value) (x6 : Value) (x7 : Value) (x8 : Value) (x9 : Value) (x10 : Value) (x11 : Value) (x12 : Value) (v15 : Value) (v18 : Value) (a22 : Option Addr) (n22 : Nat) (c22 : Nat) (g4 : Nat), A = ⟨#[.slice (some ⟨b, o, none⟩) n c, undef, .pointer (some ⟨wm.heap.size, 0, none⟩), .int .i64 0, .pointer (some ⟨g4, 0, none⟩), x5, x6, x7, x8, x9, x10, x11, x12, undef, .slice (some ⟨b, o, none⟩) n c, v15, .int .u8 (e0 : Nat), .slice (some ⟨b, o, none⟩) n c, v18, .int .u8 (e1 : Nat), .slice (some ⟨b, o, none⟩) n c, .slice a8 (n - 8) (c - 8), .slice a22 n22 c22, .agg #[.int .u8 (e0 : Nat), .int .u8 (e1 : Nat), .int .u8 0, .int .u8 0, .int .u8 0, .int .u8 0, .slice a22 n22 c22], undef, undef, undef, undef, undef, undef], []⟩ ∧ Hid (BlkAt 46 g4 [.int .u8 (e0 : Nat), .int .u8 (e1 : Nat), .int .u8 0, .int .u8 0, .int .u8 0, .int .u8 0, .slice a22 n22 c22] w3) ∧ Hid (OwnB w3 wm.heap.size (.slice a22 n22 c22) (l.drop 8)) ∧ Hid (Below w.heap.size w w3) ∧ Hid (w.heap.size ≤ g4)) (by kernel_rfl) (Below.refl _ _).drew ?fin (fun hfin hHeld => ?_)
  case fin =>
    rintro A w3 ⟨x5, x6, x7, x8, x9, x10, x11, x12, v15, v18, a22, n22, c22, g4, rfl, G1, G2, G3, HG4⟩
    clear HB8 C0 C1
    have HR3 : Hid (BlkAt 46 wm.heap.size mzc w3) := HRM.out.later G3.out
    have HBM3 := Lib.hid (HBM.out.trans (G3.out.mono HBM.out.size))
    have HNE : Hid (g4 ≠ wm.heap.size) := by have h1 := HRM.out.lt; have h2 := HG4.out; show g4 ≠ _; omega
    have k7 : 4 ≤ n - 4 := by omega
    go_wp2_with fail
    (refine wp_region_held_drew (S := (fun w' => Below w.heap.size w w')) (by kernel_rfl) ?_ (fun hHeld => ?_); (focus ((try dsimp only); (exact G3.out.drew))))
    (try dsimp only at hHeld)
    obtain ⟨w4, hw4⟩ : ∃ w4, w4 = World.drew w3 := ⟨_, rfl⟩
    have G1' : Hid (BlkAt 46 g4 [.int .u8 (e0 : Nat), .int .u8 (e1 : Nat), .int .u8 0, .int .u8 0, .int .u8 0, .int .u8 0, .slice a22 n22 c22] w4) := by rw [hw4]; exact G1.out
    have G2' : Hid (OwnB w4 wm.heap.size (.slice a22 n22 c22) (l.drop 8)) := by rw [hw4]; exact G2.out
    have HR4 : Hid (BlkAt 46 wm.heap.size mzc w4) := by rw [hw4]; exact HR3.out
    rw [← hw4]
    rw [← hw4] at hHeld
    clear hw4
    (refine wpAnyH_take (i := 0) (v := ?_) rfl (by kernel_rfl) (by kernel_rfl) (by kernel_rfl) (fun _ _ _ h => h) (Or.inl ⟨by rfl, ?_⟩) hHeld ?_; rotate_left; (focus (intro w hSw; (try dsimp only at hSw); go_simp; try with_reducible rfl)); (try simp only [Act.put, List.setIfInBounds_toArray, List.set_cons_zero, List.set_cons_succ, List.getElem_toArray, List.getElem_cons_zero])); (refine wpAnyH_take (i := 2) (v := ?_) rfl (by kernel_rfl) (by kernel_rfl) (by kernel_rfl) (fun _ _ _ h => h) (Or.inl ⟨by rfl, ?_⟩) hHeld ?_; rotate_left; (focus (intro w hSw; (try dsimp only at hSw); go_simp; try with_reducible rfl)); (try simp only [Act.put, List.setIfInBounds_toArray, List.set_cons_zero, List.set_cons_succ, List.getElem_toArray, List.getElem_cons_zero, List.getElem_cons_succ])); (refine wpAnyH_take (i := 1) (v := ?_) rfl (by kernel_rfl) (by kernel_rfl) (by kernel_rfl) (fun _ _ _ h => h) (Or.inl ⟨by rfl, ?_⟩) hHeld ?_; rotate_left; (focus (intro w hSw; (try dsimp only at hSw); go_simp; try with_reducible rfl)); (try simp only [Act.put, List.setIfInBounds_toArray, List.set_cons_zero, List.set_cons_succ, List.getElem_toArray, List.getElem_cons_zero, List.getElem_cons_succ])); (refine wpAnyH_take (i := 3) (v := ?_) rfl (by kernel_rfl) (by kernel_rfl) (by kernel_rfl) (fun _ _ _ h => h) (Or.inl ⟨by rfl, ?_⟩) hHeld ?_; rotate_left; (focus (intro w hSw; (try dsimp only at hSw); go_simp; try with_reducible rfl)); (try simp only [Act.put, List.setIfInBounds_toArray, List.set_cons_zero, List.set_cons_succ, List.getElem_toArray, List.getElem_cons_zero, List.getElem_cons_succ]))
    have had : ∀ j, (⟨b4, o4, none⟩ : Addr).add j = ⟨b4, o4 + j, none⟩ := fun j => by unfold Addr.add; split <;> simp_all
    have hsr : ∀ j v, [Value.int .u8 (f4 : Nat), .int .u8 (f5 : Nat), .int .u8 (f6 : Nat), .int .u8 (f7 : Nat)][j]? = some v → w4.cell? ((⟨b4, o4, none⟩ : Addr).add j) = some v := fun j v hj => ((HBM.out.trans (hHeld.mono HBM.out.size)).cell (by rw [had]; exact hb4l)).trans (HSRC.out j v hj)
    (refine wpAnyH_ready (rs := [4]) (by kernel_rfl) (by simp) ?_; refine AllReadyH.cons rfl (fun K hK => ?_) AllReadyH.nil; refine step_copy_blk rfl (.tmp 25) (.tmp 27) 22 22 rfl 5 Try.underlying22 (by kernel_rfl) g4 2 _ _ ⟨b4, o4, none⟩ _ _ rfl rfl [.int .u8 (e0 : Nat), .int .u8 (e1 : Nat), .int .u8 0, .int .u8 0, .int .u8 0, .int .u8 0, .slice a22 n22 c22] 46 G1'.out [.int .u8 (f4 : Nat), .int .u8 (f5 : Nat), .int .u8 (f6 : Nat), .int .u8 (f7 : Nat)] (by exact (Nat.min_eq_right k7).symm) hsr (by simp) (by simp [Value.oneCell']) ?_; intro w5 hg5 hk5 hb5; refine hK.out _ _ ?_ (fun hHeldN => ?_); (focus ((try dsimp only); (exact hHeld.trans (hb5.out _ HG4.out)))); clear hK K hHeld; have hHeld := hHeldN; clear hHeldN; (try simp only [Act.put, List.setIfInBounds_toArray, List.set_cons_zero, List.set_cons_succ, List.getElem_toArray, List.getElem_cons_zero, List.getElem_cons_succ]))
    refine wpAnyH_done (by kernel_rfl) ?_ _
    have Q1 : Hid (BlkAt 46 g4 [.int .u8 (e0 : Nat), .int .u8 (e1 : Nat), .int .u8 (f4 : Nat), .int .u8 (f5 : Nat), .int .u8 (f6 : Nat), .int .u8 (f7 : Nat), .slice a22 n22 c22] w5) := hg5
    have hq2 : OwnB w5 wm.heap.size (.slice a22 n22 c22) (l.drop 8) := OwnB.kept G2'.out hk5.out (fun b hb => BlkAt.ne_own G1'.out ic_ne G2'.out hb)
    have hq3 : BlkAt 46 wm.heap.size mzc w5 := (hk5.out _ (Ne.symm HNE.out)).trans HR4.out
    have hfz : ∀ j, w5.frozen? ⟨wm.heap.size, j, none⟩ = false := fun j => hq3.frozen j
    have c0 := Q1.out.cell (j := 0) rfl
    have c1 := Q1.out.cell (j := 1) rfl
    have c2 := Q1.out.cell (j := 2) rfl
    have c3 := Q1.out.cell (j := 3) rfl
    have c4 := Q1.out.cell (j := 4) rfl
    have c5 := Q1.out.cell (j := 5) rfl
    have c6 := Q1.out.cell (j := 6) rfl
    have k0 := hq3.cell (j := 0) rfl
    have k1 := hq3.cell (j := 1) rfl
    have k2 := hq3.cell (j := 2) rfl
    have k3 := hq3.cell (j := 3) rfl
    have k4 := hq3.cell (j := 4) rfl
    have k5 := hq3.cell (j := 5) rfl
    have k6 := hq3.cell (j := 6) rfl
    obtain ⟨s1, s2, s3⟩ := BlkAt.set7 ic_ne (show BlkAt 46 wm.heap.size [.int .u8 0, .int .u8 0, .int .u8 0, .int .u8 0, .int .u8 0, .int .u8 0, .slice none 0 0] w5 from hq3) (.int .u8 (e0 : Nat)) (.int .u8 (e1 : Nat)) (.int .u8 (f4 : Nat)) (.int .u8 (f5 : Nat)) (.int .u8 (f6 : Nat)) (.int .u8 (f7 : Nat)) (.slice a22 n22 c22)
    have S1 := Lib.hid s1
    have S2 := Lib.hid (s2 _ _ _ hq2)
    have S3 := Lib.hid ((HBM.out.trans (hHeld.mono HBM.out.size)).trans (s3 _ (Nat.le_refl _)))
    clear hq2 hq3 s1 s2 s3 hHeld hg5 hk5 hb5 hsr had
    go_wp2_with fail
    have d0 := BlkAt.cell S1.out (j := 0) rfl
    have d1 := BlkAt.cell S1.out (j := 1) rfl
    have d2 := BlkAt.cell S1.out (j := 2) rfl
    have d3 := BlkAt.cell S1.out (j := 3) rfl
    have d4 := BlkAt.cell S1.out (j := 4) rfl
    have d5 := BlkAt.cell S1.out (j := 5) rfl
    have d6 := BlkAt.cell S1.out (j := 6) rfl
    have HX := Lib.hid HE
    rw [← HE.out.1, ← HE.out.2.1, ← HE.out.2.2.1, ← HE.out.2.2.2.1, ← HE.out.2.2.2.2.1, ← HE.out.2.2.2.2.2]
    exact bodyPost_ret (v := .tuple #[.agg #[.int .u8 (e0 : Nat), .int .u8 (e1 : Nat), .int .u8 (f4 : Nat), .int .u8 (f5 : Nat), .int .u8 (f6 : Nat), .int .u8 (f7 : Nat), .slice a22 n22 c22], .int .i64 0]) (by simp [results, Try.results27, go_sem, d0, d1, d2, d3, d4, d5, d6]) rfl ⟨_, rfl, S2.out, S3.out⟩
  · obtain ⟨w0, hw0⟩ : ∃ w0, w0 = World.drew w := ⟨_, rfl⟩
    rw [← hw0]
    (try dsimp only at hHeld)
    rw [← hw0] at hHeld
    clear hw0
    change wpAnyH _ _ _ _ _ 12 _ _ _
    refine wpAnyH_cut #[true, true, true, true, true, true, true, true, true, true, true, false] 1 (fun A w1 => ∃ (x5 : Value) (x6 : Value) (x7 : Value) (x8 : Value) (x9 : Value) (x10 : Value) (x11 : Value) (x12 : Value) (v15 : Value) (v18 : Value) (a22 : Option Addr) (n22 : Nat) (c22 : Nat) (g4 : Nat), A = ⟨#[.slice (some ⟨b, o, none⟩) n c, undef, .pointer (some ⟨wm.heap.size, 0, none⟩), .int .i64 0, .pointer (some ⟨g4, 0, none⟩), x5, x6, x7, x8, x9, x10, x11, x12, undef, .slice (some ⟨b, o, none⟩) n c, v15, .int .u8 (e0 : Nat), .slice (some ⟨b, o, none⟩) n c, v18, .int .u8 (e1 : Nat), .slice (some ⟨b, o, none⟩) n c, .slice a8 (n - 8) (c - 8), .slice a22 n22 c22, .agg #[.int .u8 (e0 : Nat), .int .u8 (e1 : Nat), .int .u8 0, .int .u8 0, .int .u8 0, .int .u8 0, .slice a22 n22 c22], undef, undef, undef, undef, undef, undef], []⟩ ∧ Hid (OwnB w1 wm.heap.size (.slice a22 n22 c22) (l.drop 8)) ∧ Hid (BlkG 46 w g4 mzc w1)) ?_ (fun m0 => ?_)
    · rintro l A w1 rfl ⟨x5, x6, x7, x8, x9, x10, x11, x12, v15, v18, a22, n22, c22, g4, rfl, F22, F4⟩ hHeld
      refine wpAnyH_ready (rs := [11]) (by kernel_rfl) (by simp) ?_
      refine AllReadyH.cons rfl (fun K hK => ?_) AllReadyH.nil
      have hcz : ∀ j x, mzc[j]? = some x → w1.cell? ⟨g4, j, none⟩ = some x := fun j x hx => BlkAt.cell F4.out.1 hx
      have hfz : ∀ j, w1.frozen? ⟨g4, j, none⟩ = false := fun j => BlkAt.frozen F4.out.1 j
      have c0 := hcz 0 _ rfl
      have c1 := hcz 1 _ rfl
      have c2 := hcz 2 _ rfl
      have c3 := hcz 3 _ rfl
      have c4 := hcz 4 _ rfl
      have c5 := hcz 5 _ rfl
      have c6 := hcz 6 _ rfl
      clear hcz
      obtain ⟨s1, s2, s3⟩ := BlkAt.set7 ic_ne (show BlkAt 46 g4 [.int .u8 0, .int .u8 0, .int .u8 0, .int .u8 0, .int .u8 0, .int .u8 0, .slice none 0 0] w1 from F4.out.1) (.int .u8 (e0 : Nat)) (.int .u8 (e1 : Nat)) (.int .u8 0) (.int .u8 0) (.int .u8 0) (.int .u8 0) (.slice a22 n22 c22)
      have G1 := Lib.hid s1
      have G2 := Lib.hid (s2 _ _ _ F22.out)
      have G3 := Lib.hid (hHeld.trans (s3 _ F4.out.2))
      clear s1 s2 s3
      go_simp
      refine hK.out _ _ G3.out (fun hHeldN => ?_)
      refine wpAnyH_done (by kernel_rfl) ?_ _
      exact hfin _ _ ⟨_, _, _, _, _, _, _, _, _, _, _, _, _, _, rfl, G1, G2, G3, Lib.hid F4.out.2⟩
    refine wpAnyH_cut #[true, true, true, true, true, true, true, true, true, true, false, false] 2 (fun A w1 => ∃ (x5 : Value) (x6 : Value) (x7 : Value) (x8 : Value) (x9 : Value) (x10 : Value) (x11 : Value) (x12 : Value) (v15 : Value) (v18 : Value) (a22 : Option Addr) (n22 : Nat) (c22 : Nat), A = ⟨#[.slice (some ⟨b, o, none⟩) n c, undef, .pointer (some ⟨wm.heap.size, 0, none⟩), .int .i64 0, undef, x5, x6, x7, x8, x9, x10, x11, x12, undef, .slice (some ⟨b, o, none⟩) n c, v15, .int .u8 (e0 : Nat), .slice (some ⟨b, o, none⟩) n c, v18, .int .u8 (e1 : Nat), .slice (some ⟨b, o, none⟩) n c, .slice a8 (n - 8) (c - 8), .slice a22 n22 c22, .agg #[.int .u8 (e0 : Nat), .int .u8 (e1 : Nat), .int .u8 0, .int .u8 0, .int .u8 0, .int .u8 0, .slice a22 n22 c22], undef, undef, undef, undef, undef, undef], []⟩ ∧ Hid (OwnB w1 wm.heap.size (.slice a22 n22 c22) (l.drop 8))) ?_ (fun m1 => ?_)
    · rintro l A w1 rfl ⟨x5, x6, x7, x8, x9, x10, x11, x12, v15, v18, a22, n22, c22, rfl, F22⟩ hHeld
      refine wpAnyH_ready (rs := [10]) (by kernel_rfl) (by simp) ?_
      refine AllReadyH.cons rfl (fun K hK => ?_) AllReadyH.nil
      go_simp
      have hs : Below (World.heap w1).size w1 (w1.alloc (.cells #[.int .u8 0, .int .u8 0, .int .u8 0, .int .u8 0, .int .u8 0, .int .u8 0, .slice none 0 0] 46)) := (Below.refl _ _).alloc (Nat.le_refl _) _
      have hF : Hid (BlkG 46 w (World.heap w1).size mzc (w1.alloc (.cells #[.int .u8 0, .int .u8 0, .int .u8 0, .int .u8 0, .int .u8 0, .int .u8 0, .slice none 0 0] 46))) := ⟨BlkAt.new w1 mzc, hHeld.size⟩
      refine hK.out _ _ (hHeld.trans (hs.mono hHeld.size)) (fun hHeldN => ?_)
      exact m0 _ _ _ (by kernel_rfl) ⟨_, _, _, _, _, _, _, _, _, _, _, _, _, _, rfl, Lib.hid (F22.out.later hs), hF⟩ hHeldN
    refine wpAnyH_cut #[true, true, true, true, true, true, true, true, false, false, true, false] 3 (fun A w1 => ∃ (x5 : Value) (x6 : Value) (x7 : Value) (x8 : Value) (x9 : Value) (x10 : Value) (x11 : Value) (x12 : Value) (v15 : Value) (v18 : Value) (g4 : Nat), A = ⟨#[.slice (some ⟨b, o, none⟩) n c, undef, .pointer (some ⟨wm.heap.size, 0, none⟩), .int .i64 0, .pointer (some ⟨g4, 0, none⟩), x5, x6, x7, x8, x9, x10, x11, x12, undef, .slice (some ⟨b, o, none⟩) n c, v15, .int .u8 (e0 : Nat), .slice (some ⟨b, o, none⟩) n c, v18, .int .u8 (e1 : Nat), .slice (some ⟨b, o, none⟩) n c, .slice a8 (n - 8) (c - 8), undef, undef, undef, undef, undef, undef, undef, undef], []⟩ ∧ Hid (BlkG 46 w g4 mzc w1)) ?_ (fun m2 => ?_)
    · rintro l A w1 rfl ⟨x5, x6, x7, x8, x9, x10, x11, x12, v15, v18, g4, rfl, F4⟩ hHeld
      refine wpAnyH_ready (rs := [8]) (by kernel_rfl) (by simp) ?_
      refine AllReadyH.cons rfl (fun K hK => ?_) AllReadyH.nil
      go_simp
      refine (clone_any _ (l.drop 8) _ ((show Bytes w _ (l.drop 8) from HB8.out).later hHeld) HL8.out).mono ?_
      rintro e w_n ⟨vv, rfl, ho, hs⟩
      obtain ⟨a22, c22, rfl⟩ := ho.form
      obtain ⟨n22, hn22⟩ : ∃ k, k = (l.drop 8).length := ⟨_, rfl⟩
      rw [← hn22] at ho ⊢
      have hF : Hid (OwnB w_n wm.heap.size (.slice a22 n22 c22) (l.drop 8)) := OwnB.weak (show OwnB w_n _ _ (l.drop 8) from ho) (Nat.le_trans HBM.out.size hHeld.size)
      clear ho hn22
      simp only []
      refine hK.out _ _ (hHeld.trans (hs.mono hHeld.size)) (fun hHeldN => ?_)
      try simp only [Act.put, List.setIfInBounds_toArray, List.set_cons_zero, List.set_cons_succ, List.getElem_toArray, List.getElem_cons_zero, List.getElem_cons_succ]
      (have hHeldO := hHeld; clear hHeld; have hHeld := hHeldN)
      (refine wpAnyH_take (i := 9) (v := ?_) rfl (by kernel_rfl) (by kernel_rfl) (by kernel_rfl) (fun _ _ _ h => h) (Or.inl ⟨by rfl, ?_⟩) hHeld ?_; rotate_left; (focus (intro w hSw; (try dsimp only at hSw); go_simp; try with_reducible rfl)); (try simp only [Act.put, List.setIfInBounds_toArray, List.set_cons_zero, List.set_cons_succ, List.getElem_toArray, List.getElem_cons_zero, List.getElem_cons_succ]))
      exact m0 _ _ _ (by kernel_rfl) ⟨_, _, _, _, _, _, _, _, _, _, _, _, _, _, rfl, hF, Lib.hid (F4.out.later hs)⟩ hHeldN
    (refine wpAnyH_take (i := 0) (v := ?_) rfl (by kernel_rfl) (by kernel_rfl) (by kernel_rfl) (fun _ _ _ h => h) (Or.inl ⟨by rfl, ?_⟩) hHeld ?_; rotate_left; (focus (intro w hSw; (try dsimp only at hSw); go_simp; try with_reducible rfl)); (try simp only [Act.put, List.setIfInBounds_toArray, List.set_cons_zero, List.set_cons_succ, List.getElem_toArray, List.getElem_cons_zero])); (refine wpAnyH_take (i := 3) (v := ?_) rfl (by kernel_rfl) (by kernel_rfl) (by kernel_rfl) (fun _ _ _ h => h) (Or.inl ⟨by rfl, ?_⟩) hHeld ?_; rotate_left; (focus (intro w hSw; (try dsimp only at hSw); go_simp; try with_reducible rfl)); (try simp only [Act.put, List.setIfInBounds_toArray, List.set_cons_zero, List.set_cons_succ, List.getElem_toArray, List.getElem_cons_zero, List.getElem_cons_succ])); (refine wpAnyH_take (i := 6) (v := ?_) rfl (by kernel_rfl) (by kernel_rfl) (by kernel_rfl) (fun _ _ _ h => h) (Or.inl ⟨by rfl, ?_⟩) hHeld ?_; rotate_left; (focus (intro w hSw; (try dsimp only at hSw); go_simp; try with_reducible rfl)); (try simp only [Act.put, List.setIfInBounds_toArray, List.set_cons_zero, List.set_cons_succ, List.getElem_toArray, List.getElem_cons_zero, List.getElem_cons_succ])); (refine wpAnyH_take (i := 1) (v := ?_) rfl (by kernel_rfl) (by kernel_rfl) (by kernel_rfl) (fun _ _ _ h => h) (Or.inl ⟨by rfl, ?_⟩) hHeld ?_; rotate_left; (focus (intro w hSw; (try dsimp only at hSw); go_simp; try with_reducible rfl)); (try simp only [Act.put, List.setIfInBounds_toArray, List.set_cons_zero, List.set_cons_succ, List.getElem_toArray, List.getElem_cons_zero, List.getElem_cons_succ])); (refine wpAnyH_take (i := 4) (v := ?_) rfl (by kernel_rfl) (by kernel_rfl) (by kernel_rfl) (fun _ _ _ h => h) (Or.inl ⟨by rfl, ?_⟩) hHeld ?_; rotate_left; (focus (intro w hSw; (try dsimp only at hSw); go_simp; try with_reducible rfl)); (try simp only [Act.put, List.setIfInBounds_toArray, List.set_cons_zero, List.set_cons_succ, List.getElem_toArray, List.getElem_cons_zero, List.getElem_cons_succ])); (refine wpAnyH_take (i := 7) (v := ?_) rfl (by kernel_rfl) (by kernel_rfl) (by kernel_rfl) (fun _ _ _ h => h) (Or.inl ⟨by rfl, ?_⟩) hHeld ?_; rotate_left; (focus (intro w hSw; (try dsimp only at hSw); go_simp; try with_reducible rfl)); (try simp only [Act.put, List.setIfInBounds_toArray, List.set_cons_zero, List.set_cons_succ, List.getElem_toArray, List.getElem_cons_zero, List.getElem_cons_succ]))
    (refine wpAnyH_take (i := 2) (v := ?_) rfl (by kernel_rfl) (by kernel_rfl) (by kernel_rfl) (fun _ _ _ h => h) (Or.inl ⟨by rfl, ?_⟩) hHeld ?_; rotate_left; (focus (intro w hSw; (try dsimp only at hSw); go_simp; (have hcc := cell_later hSw C0.out; go_simp; try with_reducible rfl))); (try simp only [Act.put, List.setIfInBounds_toArray, List.set_cons_zero, List.set_cons_succ, List.getElem_toArray, List.getElem_cons_zero, List.getElem_cons_succ]))
    (refine wpAnyH_take (i := 5) (v := ?_) rfl (by kernel_rfl) (by kernel_rfl) (by kernel_rfl) (fun _ _ _ h => h) (Or.inl ⟨by rfl, ?_⟩) hHeld ?_; rotate_left; (focus (intro w hSw; (try dsimp only at hSw); go_simp; (have hcc := cell_later hSw C1.out; go_simp; try with_reducible rfl))); (try simp only [Act.put, List.setIfInBounds_toArray, List.set_cons_zero, List.set_cons_succ, List.getElem_toArray, List.getElem_cons_zero, List.getElem_cons_succ]))
    refine wpAnyH_ready (rs := [8, 10]) (by kernel_rfl) (by simp) ?_
    refine AllReadyH.cons rfl (fun K hK => ?_) (AllReadyH.cons rfl (fun K hK => ?_) AllReadyH.nil)
    · go_simp
      refine (clone_any _ (l.drop 8) _ ((show Bytes w _ (l.drop 8) from HB8.out).later hHeld) HL8.out).mono ?_
      rintro e w_n ⟨vv, rfl, ho, hs⟩
      obtain ⟨a22, c22, rfl⟩ := ho.form
      obtain ⟨n22, hn22⟩ : ∃ k, k = (l.drop 8).length := ⟨_, rfl⟩
      rw [← hn22] at ho ⊢
      have hF : Hid (OwnB w_n wm.heap.size (.slice a22 n22 c22) (l.drop 8)) := OwnB.weak (show OwnB w_n _ _ (l.drop 8) from ho) (Nat.le_trans HBM.out.size hHeld.size)
      clear ho hn22
      simp only []
      refine hK.out _ _ (hHeld.trans (hs.mono hHeld.size)) (fun hHeldN => ?_)
      try simp only [Act.put, List.setIfInBounds_toArray, List.set_cons_zero, List.set_cons_succ, List.getElem_toArray, List.getElem_cons_zero, List.getElem_cons_succ]
      (have hHeldO := hHeld; clear hHeld; have hHeld := hHeldN)
      (refine wpAnyH_take (i := 9) (v := ?_) rfl (by kernel_rfl) (by kernel_rfl) (by kernel_rfl) (fun _ _ _ h => h) (Or.inl ⟨by rfl, ?_⟩) hHeld ?_; rotate_left; (focus (intro w hSw; (try dsimp only at hSw); go_simp; try with_reducible rfl)); (try simp only [Act.put, List.setIfInBounds_toArray, List.set_cons_zero, List.set_cons_succ, List.getElem_toArray, List.getElem_cons_zero, List.getElem_cons_succ]))
      exact m1 _ _ _ (by kernel_rfl) ⟨_, _, _, _, _, _, _, _, _, _, _, _, _, rfl, hF⟩ hHeldN
    · go_simp
      have hs : Below (World.heap w0).size w0 (w0.alloc (.cells #[.int .u8 0, .int .u8 0, .int .u8 0, .int .u8 0, .int .u8 0, .int .u8 0, .slice none 0 0] 46)) := (Below.refl _ _).alloc (Nat.le_refl _) _
      have hF : Hid (BlkG 46 w (World.heap w0).size mzc (w0.alloc (.cells #[.int .u8 0, .int .u8 0, .int .u8 0, .int .u8 0, .int .u8 0, .int .u8 0, .slice none 0 0] 46))) := ⟨BlkAt.new w0 mzc, hHeld.size⟩
      refine hK.out _ _ (hHeld.trans (hs.mono hHeld.size)) (fun hHeldN => ?_)
      exact m2 _ _ _ (by kernel_rfl) ⟨_, _, _, _, _, _, _, _, _, _, _, rfl, hF⟩ hHeldN
end Go.Proofs.Ytnhkkpcepppgoaa

namespace Go.Proofs.Ytnhkkpcepppgoaa
open Go.RowKit

def Row (w : World) (v : Value) (xs : List Value) : Prop :=
  (xs = [] ∧ ∃ a c, v = .slice a 0 c ∧ (a = none → c = 0)) ∨
  ∃ b o c, v = .slice (some ⟨b, o, none⟩) xs.length c ∧ b < w.heap.size ∧ xs.length ≤ c ∧ ∀ j x, xs[j]? = some x → w.cell? ⟨b, o + j, none⟩ = some x
theorem Row.later {w w' : World} {v : Value} {l : List Value} (h : Row w v l) (hb : Below w.heap.size w w') : Row w' v l := by
  rcases h with h | ⟨b, o, c, h1, h2, hp, h3⟩
  · exact .inl h
  · exact .inr ⟨b, o, c, h1, Nat.lt_of_lt_of_le h2 hb.size, hp, fun j x hx => cell_later hb (h3 j x hx)⟩
theorem Row.form {w : World} {v : Value} {l : List Value} (h : Row w v l) : ∃ a c, v = .slice a l.length c := by
  rcases h with ⟨rfl, a, c, rfl, _⟩ | ⟨b, o, c, rfl, _, _⟩
  · exact ⟨a, c, rfl⟩
  · exact ⟨_, c, rfl⟩
theorem Row.at {w : World} {a : Option Addr} {n c : Nat} {l : List Value} (h : Row w (.slice a n c) l) {i : Nat} {x : Value} (hi : l[i]? = some x) :
    ∃ b o, a = some ⟨b, o, none⟩ ∧ b < w.heap.size ∧ w.cell? ⟨b, o + i, none⟩ = some x := by
  rcases h with ⟨rfl, _⟩ | ⟨b, o, c', h1, h2, _, h3⟩
  · simp at hi
  · simp only [Value.slice.injEq] at h1
    exact ⟨b, o, h1.1, h2, h3 i _ hi⟩
theorem Row.of_own {w : World} {base : Nat} {e : TypeId} {v : Value} {n : Nat} {l : List Value} (h : w.ownsRow base e 1 v n l) : Row w v l := by
  obtain ⟨hl, h0 | ⟨g, cap, cur, rfl, hb, hg, hn, hm, hc, ht⟩⟩ := h
  · obtain ⟨rfl, rfl⟩ := h0
    simp at hl
    subst hl
    exact .inl ⟨rfl, _, _, rfl, fun _ => rfl⟩
  · have hln : l.length = n := by simpa using hl
    subst hln
    refine .inr ⟨g, 0, cap, rfl, ?_, hn, fun j x hx => ?_⟩
    · rcases Nat.lt_or_ge g w.heap.size with h1 | h1
      · exact h1
      · rw [Array.getElem?_eq_none h1] at hg; cases hg
    · rw [Nat.zero_add, cell_of_row w g j cur e (0, 0) hg]
      have hj : j < l.length := (List.getElem?_eq_some_iff.1 hx).1
      have : l[j]? = some x := hx
      rw [← ht, List.getElem?_take, if_pos (by omega)] at this
      simpa using this
theorem Row.of_bytes {w : World} {v : Value} {l : List UInt8} (h : Bytes w v l) : Row w v (bv l) := by
  rcases h with ⟨rfl, a, c, rfl, h1⟩ | ⟨b, o, c, rfl, h2, hp, h3⟩
  · exact .inl ⟨rfl, a, c, rfl, h1⟩
  · refine .inr ⟨b, o, c, by simp [bv], h2, by simpa [bv] using hp, fun j x hx => ?_⟩
    simp only [bv, List.getElem?_map, Option.map_eq_some_iff] at hx
    obtain ⟨y, hy, rfl⟩ := hx
    exact h3 j y hy
theorem ownsRow_later {w w' : World} {B : Nat} {e : TypeId} {s n : Nat} {v : Value} {xs : List Value} (h : w.ownsRow B e s v n xs) (hb : Below w.heap.size w w') : w'.ownsRow B e s v n xs := by
  obtain ⟨hl, h0 | ⟨g, cap, cur, rfl, hb1, hg, hn, hm, hc, ht⟩⟩ := h
  · exact ⟨hl, .inl h0⟩
  · refine ⟨hl, .inr ⟨g, cap, cur, rfl, hb1, ?_, hn, hm, hc, ht⟩⟩
    rw [hb.block g ?_]
    · exact hg
    · rcases Nat.lt_or_ge g w.heap.size with h1 | h1
      · exact h1
      · rw [Array.getElem?_eq_none h1] at hg; cases hg
def iv (l : List Int) : List Value := l.map fun z => .int .i64 z
theorem iv_at {zs : List Int} {k : Nat} (h : k < zs.length) : (iv zs)[k]? = some (.int .i64 zs[k]) := by simp [iv, h]
end Go.Proofs.Ytnhkkpcepppgoaa

namespace Go.Proofs.Ytnhkkpcepppgoaa
open Go.RowKit
attribute [local go_sem ↓] Go.wp_at_zero Go.wp_at_succ

/-- The words as values. -/
def wv (l : List UInt8) (k : Nat) : List Value := (List.range k).map fun i => .int .u16 (Sm.word l i : Nat)
theorem wv_succ (l : List UInt8) (k : Nat) : wv l (k + 1) = wv l k ++ [.int .u16 (Sm.word l k : Nat)] := by
  unfold wv; rw [List.range_succ]; simp
theorem wv_length (l : List UInt8) (k : Nat) : (wv l k).length = k := by simp [wv]

set_option maxHeartbeats 2000000 in
set_option maxRecDepth 100000 in
theorem wordsR_some (b : Option Addr) (c : Nat) (l : List UInt8) (w : World) (hv : Bytes w (.slice b l.length c) l) (hl : l.length ≤ 10000) :
    Calls Try.prog 81 #[.slice b l.length c] w fun e w' => ∃ v, e = .returned v ∧ w'.ownsRow w.heap.size 24 1 v ((l.length + 1) / 2) (wv l ((l.length + 1) / 2)) ∧ Below w.heap.size w w' := by
  have hi5 : (Try.prog.info? 24).map (fun i => (i.zero, i.size, i.bytes)) = some (some (.int .u16 0), 1, 2) := by kernel_rfl
  obtain ⟨i0, hi, hx⟩ := Option.map_eq_some_iff.1 hi5
  simp only [Prod.mk.injEq] at hx
  obtain ⟨hz0, hz1, hz2⟩ := hx
  have HV := Lib.hid hv
  clear hi5 hv
  go_enter Try.func81, Try.ntmps81
  go_wp2_with fail
  go_loopw [3, 4] (fun v i wr => ∃ k : Nat, k ≤ (l.length + 1) / 2 ∧ i = .int .i64 ((2 * k : Nat) : Int) ∧ Hid (wr.ownsRow w.heap.size 24 1 v k (wv l k)) ∧ Hid (Below w.heap.size w wr)) (fun _ i _ => l.length + 1 - (intOf i).toNat)
  case atStart => exact ⟨0, Nat.zero_le _, rfl, World.ownsRow_nil w _ _ _, Below.refl _ _⟩
  case round =>
    obtain ⟨k, hk, rfl, HW, HB⟩ := hrel
    by_cases hlt : 2 * k < l.length
    · obtain ⟨bx, ox, rfl, hbx, hex⟩ := HV.out.at hlt
      have hcell := cell_later' HB.out hbx hex
      obtain ⟨x, hx⟩ : ∃ x : Nat, x = l[2 * k].toNat := ⟨_, rfl⟩
      have hxn : x < 256 := by rw [hx]; exact l[2 * k].toNat_lt
      rw [← hx] at hcell
      have Hx := Lib.hid hx
      have g1 : (2 * (k : Int)) < l.length := by omega
      have hcell2 : wr.cell? ⟨bx, ox + 2 * k, none⟩ = some (.int .u8 (x : Int)) := hcell
      have b1 : bx < wr.heap.size := Nat.lt_of_lt_of_le hbx HB.out.size
      clear hx hex hcell
      by_cases hlt2 : 2 * k + 1 < l.length
      · obtain ⟨bx', ox', e1, _, hex2⟩ := HV.out.at hlt2
        simp only [Option.some.injEq, Addr.mk.injEq, and_true] at e1
        obtain ⟨rfl, rfl⟩ := e1
        have hcell3 := cell_later' HB.out hbx hex2
        obtain ⟨y, hy⟩ : ∃ y : Nat, y = l[2 * k + 1].toNat := ⟨_, rfl⟩
        have hyn : y < 256 := by rw [hy]; exact l[2 * k + 1].toNat_lt
        rw [← hy] at hcell3
        have Hy := Lib.hid hy
        have g2 : (2 * (k : Int)) + 1 < l.length := by omega
        clear hy hex2
        go_wp2_with (at_builtin; refine wpList_append_own _ rfl _ _ 108 rfl w.heap.size 24 i0 (.int .u16 0) 1 2 Try.underlying108 hi hz0 hz1 hz2 rfl (by decide) _ _ _ rfl (HW.out.alloc _) ⟨wr.heap.size, 0, none⟩ 1 1 [.int .u16 (256 * (x : Int) + (y : Int))] rfl rfl (news_one wr _ _) (one_int _ _) (by unfold maxLen; omega) (by omega) (by simp; exact Nat.le_succ_of_le HB.out.size) ?_)
        intro v' w1 hown' hgrow _
        have hwd : Sm.word l k = 256 * x + y := by
          rw [Hx.out, Hy.out]
          unfold Sm.word Sm.at0
          rw [List.getElem?_eq_getElem hlt, List.getElem?_eq_getElem hlt2]; rfl
        have hown2 : Hid (w1.ownsRow w.heap.size 24 1 v' (k + 1) (wv l (k + 1))) := by
          show World.ownsRow _ _ _ _ _ _ _
          rw [wv_succ, hwd]; exact hown'
        have hB2 : Hid (Below w.heap.size w w1) := (HB.out.alloc HB.out.size _).grown hgrow (by simp; exact Nat.le_succ_of_le HB.out.size) (fun j hj => own_base HW.out hj)
        clear hown' hgrow hwd
        go_wp2_with fail
        go_roundw
        case rel => exact ⟨k + 1, by omega, by go_num, hown2, hB2⟩
        case measure => simp [intOf]; omega
      · have g2 : (l.length : Int) ≤ 2 * (k : Int) + 1 := by omega
        go_wp2_with (at_builtin; refine wpList_append_own _ rfl _ _ 108 rfl w.heap.size 24 i0 (.int .u16 0) 1 2 Try.underlying108 hi hz0 hz1 hz2 rfl (by decide) _ _ _ rfl (HW.out.alloc _) ⟨wr.heap.size, 0, none⟩ 1 1 [.int .u16 (256 * (x : Int))] rfl rfl (news_one wr _ _) (one_int _ _) (by unfold maxLen; omega) (by omega) (by simp; exact Nat.le_succ_of_le HB.out.size) ?_)
        intro v' w1 hown' hgrow _
        have hwd : Sm.word l k = 256 * x := by
          rw [Hx.out]
          unfold Sm.word Sm.at0
          rw [List.getElem?_eq_getElem hlt, List.getElem?_eq_none (by omega)]; rfl
        have hown2 : Hid (w1.ownsRow w.heap.size 24 1 v' (k + 1) (wv l (k + 1))) := by
          show World.ownsRow _ _ _ _ _ _ _
          rw [wv_succ, hwd]; exact hown'
        have hB2 : Hid (Below w.heap.size w w1) := (HB.out.alloc HB.out.size _).grown hgrow (by simp; exact Nat.le_succ_of_le HB.out.size) (fun j hj => own_base HW.out hj)
        clear hown' hgrow hwd
        go_wp2_with fail
        go_roundw
        case rel => exact ⟨k + 1, by omega, by go_num, hown2, hB2⟩
        case measure => simp [intOf]; omega
    · have g1 : (l.length : Int) ≤ 2 * (k : Int) := by omega
      have e : k = (l.length + 1) / 2 := by omega
      have E := Lib.hid e
      clear e
      go_wp2_with fail
      go_ret
      exact ⟨_, rfl, by rw [← E.out]; exact HW.out, HB.out⟩

theorem totalR_some (b : Option Addr) (c : Nat) (l : List UInt8) (w : World) (hv : Bytes w (.slice b l.length c) l) (hl : l.length ≤ 10000) :
    Calls Try.prog 56 #[.slice b l.length c] w fun e w' => e = .returned (.int .u16 (Sm.tot l : Nat)) ∧ Below w.heap.size w w' := by
  have HV := Lib.hid hv
  clear hv
  go_enter Try.func56, Try.ntmps56
  go_wp2_with fail
  refine (wordsR_some b c l w HV.out hl).mono ?_
  rintro e w1 ⟨v, rfl, hown, hb⟩
  have hrow := Row.of_own hown
  obtain ⟨a1, c1, rfl⟩ := hrow.form
  rw [wv_length] at hrow ⊢
  have HR := Lib.hid hrow
  have HB := Lib.hid hb
  clear hown hrow hb
  obtain ⟨n, hn⟩ : ∃ n, n = (l.length + 1) / 2 := ⟨_, rfl⟩
  rw [← hn] at HR ⊢
  have hn2 : n ≤ 10000 := by omega
  have Hn := Lib.hid hn
  clear hn
  go_wp2_with fail
  go_loop [4, 5] (fun t i => ∃ k : Nat, k ≤ n ∧ i = .int .i64 k ∧ t = .int .u16 (Sm.canon (Sm.upto l k) : Nat)) (fun _ i => n - (intOf i).toNat)
  case atStart => exact ⟨0, Nat.zero_le _, rfl, rfl⟩
  case round =>
    obtain ⟨k, hk, rfl, rfl⟩ := hrel
    rcases Nat.lt_or_ge k n with hlt | hge
    · obtain ⟨bl, bo, rfl, hbl, hc⟩ := HR.out.at (i := k) (x := .int .u16 (Sm.word l k : Nat)) (by simp [wv, hlt])
      have g1 : (k : Int) < n := by omega
      have d1 := Sm.canon_lt (Sm.upto l k)
      have d2 := Sm.word_lt l k
      go_wp2_with fail
      refine (addR_int _ _ _ (by omega) (by omega) (by omega) (by omega) (Sm.canon (Sm.upto l (k + 1)) : Nat) (by rw [Int.toNat_natCast, Int.toNat_natCast, Sm.step])).mono ?_
      rintro e w3 ⟨rfl, rfl⟩
      go_wp2_with fail
      go_round
      case rel => exact ⟨k + 1, by omega, by go_num, rfl⟩
      case measure => simp [intOf]; omega
    · have e : k = n := by omega
      subst e
      go_wp2_with fail
      go_ret
      exact ⟨ret_i (by rw [Hn.out]; rfl), HB.out⟩
theorem totalR_any (v : Value) (l : List UInt8) (w : World) (hv : Bytes w v l) (hl : l.length ≤ 10000) :
    Calls Try.prog 56 #[v] w fun e w' => e = .returned (.int .u16 (Sm.tot l : Nat)) ∧ Below w.heap.size w w' := by
  obtain ⟨b, c, rfl⟩ := hv.form
  exact totalR_some b c l w hv hl
theorem checkR_any (v : Value) (l : List UInt8) (w : World) (hv : Bytes w v l) (hl : l.length ≤ 10000) :
    Calls Try.prog 66 #[v] w fun e w' => e = .returned (.int .u16 (65535 - Sm.tot l : Nat)) ∧ Below w.heap.size w w' := by
  have hb := Sm.tot_lt l
  have HV := Lib.hid hv
  clear hv
  go_enter Try.func66, Try.ntmps66
  go_wp2_with fail
  refine (totalR_any v l w HV.out hl).mono ?_
  rintro e w1 ⟨rfl, hb1⟩
  go_wp2_with fail
  go_ret
  exact ⟨ret_i (by omega), hb1⟩
end Go.Proofs.Ytnhkkpcepppgoaa
