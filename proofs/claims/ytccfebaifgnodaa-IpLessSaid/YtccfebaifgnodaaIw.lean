/- The walk of ip's closure that writes a number. -/
import Derived.Test.YtccfebaifgnodaaIh
import Derived.Laws.CopyOwn
namespace Go.Proofs.Ytccfebaifgnodaa
open Go.RowKit
attribute [local go_sem ↓] Go.wp_at_zero Go.wp_at_succ

/-- Bytes with others laid over them from a place on. -/
def spl (l : List UInt8) (i : Nat) (x : List UInt8) : List UInt8 := l.take i ++ (x ++ l.drop (i + x.length))
theorem spl_length {l : List UInt8} {i : Nat} {x : List UInt8} (h : i + x.length ≤ l.length) : (spl l i x).length = l.length := by unfold spl; simp; omega
theorem splice_bv {cur : List Value} {l x : List UInt8} {i : Nat} (h : cur.take l.length = bv l) (hi : i + x.length ≤ l.length) (hc : l.length ≤ cur.length) : (splice cur i (bv x)).take (spl l i x).length = bv (spl l i x) := by
  rw [spl_length hi]
  unfold splice spl
  have hb : (bv x).length = x.length := by simp [bv]
  rw [bv_append, bv_append, hb]
  have e1 : cur.take i = bv (l.take i) := by
    have := congrArg (List.take i) h
    rw [List.take_take, Nat.min_eq_left (by omega)] at this
    rw [this]; simp only [bv, ← List.map_take]
  have e2 : (cur.drop (i + x.length)).take (l.length - (i + x.length)) = bv (l.drop (i + x.length)) := by
    have := congrArg (List.drop (i + x.length)) h
    rw [List.drop_take] at this
    rw [this]; simp [bv, List.map_drop]
  have l1 : (bv (l.take i)).length = i := by simp [bv]; omega
  rw [e1, List.take_append, l1, List.take_of_length_le (l := bv (l.take i)) (by omega), List.take_append, hb, List.take_of_length_le (l := bv x) (by omega), ← e2]
  congr 3
  omega
theorem OwnB.splice {w w' : World} {base g cap : Nat} {l x : List UInt8} {i : Nat} {cur : Array Value} (h : OwnB w base (.slice (some ⟨g, 0, none⟩) l.length cap) l) (hg : w.heap[g]? = some (.cells cur 5 (0, 0)))
    (hw : w'.heap[g]? = some (.cells (Go.splice cur.toList i (bv x)).toArray 5 (0, 0))) (hi : i + x.length ≤ l.length) : OwnB w' base (.slice (some ⟨g, 0, none⟩) (spl l i x).length cap) (spl l i x) := by
  obtain ⟨hl, h0 | ⟨g', cap', cur', e, hb, hgg, hn, hm, hc, ht⟩⟩ := h
  · cases h0.1
  · simp only [Value.slice.injEq, Option.some.injEq, Addr.mk.injEq, and_true] at e
    obtain ⟨rfl, _, rfl⟩ := e
    rw [hg] at hgg
    simp only [Option.some.injEq, Obj.cells.injEq, and_true] at hgg
    subst hgg
    have hcl : cur.toList.length = cap := by simpa using hc
    refine ⟨by simp [bv], .inr ⟨g, cap, _, rfl, hb, hw, ?_, hm, ?_, ?_⟩⟩
    · rw [spl_length hi]; exact hn
    · rw [List.size_toArray, length_splice _ _ _ (by simp [bv]; omega)]; omega
    · rw [Nat.mul_one] at ht ⊢
      exact splice_bv ht hi (by omega)
theorem OwnB.row {w : World} {base : Nat} {v : Value} {l : List UInt8} (h : OwnB w base v l) (hl : 0 < l.length) : ∃ g cap cur, v = .slice (some ⟨g, 0, none⟩) l.length cap ∧ base ≤ g ∧ w.heap[g]? = some (.cells cur 5 (0, 0)) ∧ l.length ≤ cap ∧ cur.size = cap := by
  obtain ⟨_, h0 | ⟨g, cap, cur, rfl, hb, hg, hn, hm, hc, ht⟩⟩ := h
  · omega
  · exact ⟨g, cap, cur, rfl, hb, hg, hn, by simpa using hc⟩
/-- b[i:] of what lies at a block's front. -/
theorem cut_front (g n c i : Nat) (hi : i ≤ n) (hc : i < c) (w : World) : (Instr.slice 22 (.slice (some ⟨g, 0, none⟩) n c) (some (.int .i64 (i : Int))) none none).run Try.prog w = .ok (.slice (some ⟨g, i, none⟩) (n - i) (c - i)) w := by
  rw [run_slice_l w _ _ _ _ cells1 _ _ (by omega) (by omega), size1]
  show Result.ok (Go.sliced _ _ _ _ 1) w = _
  unfold Go.sliced
  rw [if_neg (by omega)]
  simp [Addr.add]
  omega

/-- A copy over a block known whole: the rest of memory stays. -/
theorem wpList_copy_put {w : World} {ops : Array Oper} {rest : List Oper} {o : Oper} {a : Act} {Q : Exit → Act → World → Prop} (hgd : o.guard = none) (d s : Operand)
    (ho : o.op = .call { callee := .builtin .copy, args := #[d, s], argTypes := #[22, 22] })
    (g off dLen dCap : Nat) (ad : Addr) (sLen sCap : Nat) (hd : a.eval d = .slice (some ⟨g, off, none⟩) dLen dCap) (hs : a.eval s = .slice (some ad) sLen sCap)
    (cur : Array Value) (hg : w.heap[g]? = some (.cells cur 5 (0, 0))) (cs : List Value) (hn : cs.length = Nat.min sLen dLen)
    (hsrc : ∀ j v, cs[j]? = some v → w.cell? (ad.add j) = some v) (hfit : off + cs.length ≤ cur.size) (h1 : ∀ v ∈ cs, v.oneCell' = true)
    (h : ∀ w', Hid (w'.heap[g]? = some (.cells (Go.splice cur.toList off cs).toArray 5 (0, 0))) → Hid (∀ k, k ≠ g → w'.heap[k]? = w.heap[k]?) → Hid (∀ B, B ≤ g → Below B w w') → wpList Try.prog ops Q rest (a.put o.dst (goInt cs.length)) w') :
    wpList Try.prog ops Q (o :: rest) a w :=
  wpList_copy_own hgd d s 22 22 ho 5 Try.underlying22 (by kernel_rfl) g off dLen dCap ad sLen sCap hd hs cur 5 hg cs hn hsrc hfit h1
    (h _ (show _ = _ from setRow_heap w g _ _ _ _ hg) (fun k hk => setRow_other w g k _ hk) (fun B hB => below_setRow (Below.refl B w) hB _))
/-- What a store of a number into bytes leaves. -/
def PutR (w : World) (base g cap : Nat) (l' : List UInt8) (n : Nat) (e : Ending) (w' : World) : Prop :=
  (∃ v, e = .returned v) ∧ OwnB w' base (.slice (some ⟨g, 0, none⟩) n cap) l' ∧ Below base w w' ∧ ∀ b, b < w.heap.size → b ≠ g → w'.heap[b]? = w.heap[b]?

set_option maxHeartbeats 4000000 in
set_option maxRecDepth 100000 in
theorem putC_any (at_ size n B g cap base : Nat) (l : List UInt8) (w : World) (hc : w.cell? ⟨B, 0, none⟩ = some (.slice (some ⟨g, 0, none⟩) l.length cap)) (ho : OwnB w base (.slice (some ⟨g, 0, none⟩) l.length cap) l)
    (h1 : 1 ≤ size) (h8 : size ≤ 8) (hn : n < 256 ^ size) (hat : at_ + size ≤ l.length) (hl : l.length ≤ 1000000) (hbase : base ≤ w.heap.size) (hBg : B ≠ g) :
    Calls Try.prog 60 #[.int .i64 (at_ : Int), .int .i64 (size : Int), .int .u64 (n : Nat), .pointer (some ⟨B, 0, none⟩)] w (PutR w base g cap (spl l at_ (putL n size)) l.length) := by
  obtain ⟨g', cap', cur, e1, hbg, hg, hnc, hcs⟩ := ho.row (by omega)
  simp only [Value.slice.injEq, Option.some.injEq, Addr.mk.injEq, and_true] at e1
  obtain ⟨rfl, _, rfl⟩ := e1
  have hgl : g < w.heap.size := by
    rcases Nat.lt_or_ge g w.heap.size with h | h
    · exact h
    · rw [Array.getElem?_eq_none h] at hg; cases hg
  have HP := Lib.hid (putW_yes n size w h1 h8 hn)
  have hcut := cut_front g l.length cap at_ (by omega) (by omega)
  have hxl : (putL n size).length = size := putL_length n size
  obtain ⟨X, hX⟩ : ∃ X, X = bv (putL n size) := ⟨_, rfl⟩
  have hXl : X.length = size := by rw [hX]; simp [bv, hxl]
  have hX1 : ∀ v ∈ X, v.oneCell' = true := by rw [hX]; exact bv_one _
  have H1 : Hid (0 < size) := by show 0 < size; omega
  have HX := Lib.hid hX
  have HXL := Lib.hid hXl
  have HX1 := Lib.hid hX1
  have HG := Lib.hid hg
  have HO := Lib.hid ho
  have HH := Lib.hid (And.intro hat (And.intro hl (And.intro hbase (And.intro hbg (And.intro hnc (And.intro hcs (And.intro hgl hxl)))))))
  have k1 : (at_ : Int) ≤ l.length := by omega
  clear hX hXl hX1 hxl ho hg hn h1 h8 hat hl hbase hbg hnc hcs hgl
  go_enter Try.func60, Try.ntmps60
  go_wp2_with fail
  refine HP.out.mono ?_
  rintro e w1 ⟨v1, rfl, hby, hb1⟩
  obtain ⟨a1, c1, rfl⟩ := hby.form
  obtain ⟨N1, hN1⟩ : ∃ k, k = (putL n size).length := ⟨_, rfl⟩
  have hby2 := hby
  rw [← hN1] at hby ⊢
  have hc1 := cell_later hb1 hc
  have hc' := hcut w1
  have HB1 := Lib.hid hb1
  have HBY := Lib.hid hby2
  have HN1 := Lib.hid hN1
  have hb1b : Below base w w1 := hb1.mono HH.out.2.2.1
  have HB1b := Lib.hid hb1b
  have hg1 : w1.heap[g]? = some (.cells cur 5 (0, 0)) := (hb1.block g HH.out.2.2.2.2.2.2.1).trans HG.out
  have HG1 := Lib.hid hg1
  clear hcut hb1 hb1b hby hby2 hN1 hc hg1
  obtain ⟨b1, o1, rfl, _⟩ := (show Bytes w1 (.slice a1 (putL n size).length c1) (putL n size) from HBY.out).at (i := 0) (by rw [HH.out.2.2.2.2.2.2.2]; exact H1.out)
  go_wp2_with (with_reducible refine wpList_copy_put rfl (.tmp 17) (.tmp 18) rfl g at_ (l.length - at_) (cap - at_) ⟨b1, o1, none⟩ N1 c1 rfl rfl cur HG1.out X ?_ ?_ ?_ HX1.out ?_)
  · rw [HXL.out, HN1.out, HH.out.2.2.2.2.2.2.2]
    have := HH.out.1
    exact (Nat.min_eq_left (by omega)).symm
  · rw [HX.out]; exact Bytes.news HBY.out
  · rw [HXL.out]; have := HH.out; omega
  · intro w2 hr hk hbl
    go_wp2_with fail
    go_end0
    refine ⟨⟨_, rfl⟩, ?_, HB1b.out.trans (hbl.out _ HH.out.2.2.2.1), fun b hb hne => (hk.out b hne).trans (HB1.out.block b hb)⟩
    have hx : at_ + (putL n size).length ≤ l.length := by rw [HH.out.2.2.2.2.2.2.2]; exact HH.out.1
    have ho1 : OwnB w1 base (.slice (some ⟨g, 0, none⟩) l.length cap) l := OwnB.later HO.out HB1.out
    have h2 := OwnB.splice (w' := w2) ho1 HG1.out (by rw [← HX.out]; exact hr.out) hx
    rw [spl_length hx] at h2
    exact h2
end Go.Proofs.Ytccfebaifgnodaa
