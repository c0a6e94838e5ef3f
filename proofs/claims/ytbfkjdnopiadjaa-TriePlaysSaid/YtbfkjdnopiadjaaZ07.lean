/- trie's Insert and Delete: the walks.
   trie's lay: the walk (in a round: onlyN). -/
import Derived.Test.YtbfkjdnopiadjaaZ06

set_option linter.unusedSimpArgs false
set_option linter.unusedVariables false
namespace Go.Proofs.Ytbfkjdnopiadjaa
open Go.RowKit Go.Shelf
attribute [local go_sem] Oper.semAt_some
open Tp (Pf Ok mn bit com Tr withN isN pth put1)

theorem Stay.of_grown {W W' : World} {row : Option Nat} (hg : W.grownBy W' row) (hr : ∀ r, row = some r → ∃ o : Obj, W.heap[r]? = some o ∧ o.isCells = false) : Stay W W' := fun b cs hb => by
  refine (hg.block b hb.lt (fun e => ?_)).trans hb
  obtain ⟨o, ho, hc⟩ := hr b e.symm
  rw [show W.heap[b]? = _ from hb] at ho
  cases ho; cases hc
theorem BlkAt.of_grown {t : TypeId} {b : Nat} {cs : List Value} {W W' : World} {row : Option Nat} (h : BlkAt t b cs W) (hg : W.grownBy W' row) (hr : ∀ r, row = some r → ∃ o : Obj, W.heap[r]? = some o ∧ o.isCells = false) : BlkAt t b cs W' := by
  refine (hg.block b h.lt (fun e => ?_)).trans h
  obtain ⟨o, ho, hc⟩ := hr b e.symm
  rw [show W.heap[b]? = _ from h] at ho
  cases ho; cases hc
/-- What a round of lay keeps: all below a place but one block. -/
def Kpo (N1 N : Nat) (A B : World) : Prop := ∀ k, k < N1 → k ≠ N → B.heap[k]? = A.heap[k]?
theorem Kpo.cell {N1 N : Nat} {A B : World} (h : Kpo N1 N A B) {b : Nat} (h1 : b < N1) (h2 : b ≠ N) (j : Nat) : B.cell? ⟨b, j, none⟩ = A.cell? ⟨b, j, none⟩ := World.cell?_of_block (h b h1 h2)
/-- What is laid of nodes backwards. -/
def foldP (p : Pf) (S : Tr) (ys : List (Value × Tr)) : Tr := ys.foldl (fun n x => put1 p n x.2) S
theorem foldP_snoc (p : Pf) (S : Tr) (ys : List (Value × Tr)) (x : Value × Tr) : foldP p S (ys ++ [x]) = put1 p (foldP p S ys) x.2 := by simp [foldP]
theorem foldP_all (p : Pf) (S : Tr) (L : List Value) : ∀ (ts : List Tr), L.length = ts.length → foldP p S (L.zip ts).reverse = Tp.lay p ts S := by
  unfold foldP
  intro ts h
  rw [List.foldl_reverse]
  induction ts generalizing L with
  | nil => cases L <;> simp [Tp.lay]
  | cons t ts ih =>
    cases L with
    | nil => simp at h
    | cons v L =>
      simp only [List.zip_cons_cons, List.foldr_cons, Tp.lay]
      rw [ih L (by simpa using h)]
theorem TrsAt.mem {w : World} {L : List Value} {ts : List Tr} (h : TrsAt w L ts) {x : Value × Tr} (hx : x ∈ L.zip ts) : TrAt w x.1 x.2 ∧ x.2 ∈ ts := by
  obtain ⟨i, hi⟩ := List.mem_iff_getElem?.1 hx
  rw [List.getElem?_zip_eq_some] at hi
  exact ⟨h.at i x.1 x.2 hi.1 hi.2, List.mem_of_getElem? hi.2⟩
theorem TrsAt.ptrs {w : World} : ∀ {L : List Value} {ts : List Tr}, TrsAt w L ts → ∀ u ∈ L, ∃ x, u = .pointer x
  | v :: _, _ :: _, ⟨h1, h2⟩, u, hu => by
    rcases List.mem_cons.1 hu with rfl | hu
    · exact h1.ptr
    · exact TrsAt.ptrs h2 u hu
  | [], [], _, u, hu => by simp at hu

theorem OwnN.at {w : World} {B : Nat} {a : Option Addr} {n c : Nat} {L : List Value} (h : OwnN w B (.slice a n c) L) {j : Nat} {u : Value} (hj : L[j]? = some u) : ∃ g, a = some ⟨g, 0, none⟩ ∧ g < w.heap.size ∧ w.cell? ⟨g, j, none⟩ = some u := by
  have hh := h
  obtain ⟨_, ⟨e, h0⟩ | ⟨g, cap, cur, e, hb, hg, hr⟩⟩ := h
  · have : L = [] := List.length_eq_zero_iff.1 h0
    subst this; simp at hj
  · have e2 := e
    simp only [Value.slice.injEq] at e
    obtain ⟨rfl, _, _⟩ := e
    refine ⟨g, rfl, (Array.getElem?_eq_some_iff.1 hg).1, ?_⟩
    have := World.ownsRow.cells hh (g := g) rfl j u hj
    rw [show (⟨g, 0, none⟩ : Addr).add j = ⟨g, j, none⟩ by cases j <;> simp [Addr.add]] at this
    exact this
theorem Kpt.of {w W : World} {Bs : Nat} {a : Option Addr} {c m : Nat} {L : List Value} (hm : m = L.length) (hown : OwnN w 0 (.slice a L.length c) L) (hb : Below w.heap.size w W) (hB : W.cell? ⟨Bs, 0, none⟩ = some (.slice a m c)) : Kpt Bs (.slice a L.length c) L W := by
  refine ⟨by rw [hB, hm], fun j u hj => ?_⟩
  obtain ⟨g, rfl, hg, hc⟩ := hown.at hj
  exact ⟨g, c, rfl, cell_later hb hc⟩
theorem Kpt.kp {w : World} {N1 N Bs : Nat} {a : Option Addr} {c : Nat} {L : List Value} (hown : OwnN w 0 (.slice a L.length c) L) (h1 : w.heap.size ≤ N1) (h2 : w.heap.size ≤ N) (h3 : Bs < N1) (h4 : Bs ≠ N) {A B : World} (hk : Kpo N1 N A B) (h : Kpt Bs (.slice a L.length c) L A) : Kpt Bs (.slice a L.length c) L B := by
  refine ⟨(hk.cell h3 h4 0).trans h.box, fun j u hj => ?_⟩
  obtain ⟨g, c', hv, hc⟩ := h.row j u hj
  obtain ⟨g2, hv2, hg, _⟩ := hown.at hj
  simp only [Value.slice.injEq] at hv
  obtain ⟨rfl, _, rfl⟩ := hv
  simp only [Option.some.injEq, Addr.mk.injEq, and_true] at hv2
  subst hv2
  exact ⟨g, c, rfl, (hk.cell (by omega) (by omega) j).trans hc⟩

set_option maxRecDepth 100000 in
set_option maxHeartbeats 4000000 in
theorem lay_in (n : Nat) (hn3 : 3 ≤ n) {t : Nat} {lim : Int} {cnt : Nat} {rv : Value} {w : World} (hb : BlkAt 66 t (tc rv lim cnt) w) {a : Option Addr} {c : Nat} {L : List Value} {ts : List Tr} (hown : OwnN w 0 (.slice a L.length c) L) (hts : TrsAt w L ts)
    (hnode : ∀ t ∈ ts, ∃ q o l r, t = .node q o l r ∧ Ok q ∧ 0 ≤ q.2 ∧ q.2 ≤ 31) {na : Option Addr} {S : Tr} (hS : TrAt w (.pointer na) S) (p : Pf) (hL : L.length ≤ 1000000) :
    CallsIn Fence.wide n Try.prog 45 #[.pointer (some ⟨t, 0, none⟩), .slice a L.length c, .agg #[.int .u32 p.1, .int .i64 p.2], .pointer na] w fun e w' => (∃ u, e = .returned u) ∧ (∃ v, BlkAt 66 t (tc v lim cnt) w' ∧ TrAt w' v (Tp.lay p ts S)) ∧ Chg [t] w w' := by
  have h1 : 1 ≤ n := by omega
  have htl := hb.lt
  have hlen := hts.len
  refine callsIn_of_wp_marks Try.func45 rfl trivial ?_ rfl
  simp only [Try.ntmps45, List.size_toArray, List.length_cons, List.length_nil, Nat.reduceAdd, Nat.reduceSub, Array.replicate_succ, Array.replicate_zero, List.push_toArray, List.append_toArray, List.nil_append, List.cons_append]
  obtain ⟨m, hm⟩ : ∃ m, m = L.length := ⟨_, rfl⟩
  have HM := Lib.hid hm
  have HOW := Lib.hid hown
  have HTS := Lib.hid hts
  have HND := Lib.hid hnode
  have HSS := Lib.hid hS
  have HBT := Lib.hid hb
  rw [← hm] at hL ⊢
  clear hm hown hts hnode hS hb
  gi_wp2_with fail
  refine ⟨trivial, (callsIn_wide.2 (backT a m c _)).mono ?_⟩
  rintro e w' ⟨rfl, rfl⟩
  gi_wp2_with fail
  have hP := ((BlkAt.new w (t := 37) [.int .u32 p.1, .int .i64 p.2]).later (ba1 _ (.cells #[.pointer na] 64))).later (ba1 _ (.cells #[.slice a m c] 78))
  have hN := (BlkAt.new (w.alloc (.cells #[.int .u32 p.1, .int .i64 p.2] 37)) (t := 64) [.pointer na]).later (ba1 _ (.cells #[.slice a m c] 78))
  have hB := BlkAt.new ((w.alloc (.cells #[.int .u32 p.1, .int .i64 p.2] 37)).alloc (.cells #[.pointer na] 64)) (t := 78) [.slice a m c]
  have hBel := below_of (below_of (ba1 w (.cells #[.int .u32 p.1, .int .i64 p.2] 37)) (ba1 _ (.cells #[.pointer na] 64))) (ba1 _ (.cells #[.slice a m c] 78))
  obtain ⟨W, hW⟩ : ∃ W, W = ((w.alloc (.cells #[.int .u32 p.1, .int .i64 p.2] 37)).alloc (.cells #[.pointer na] 64)).alloc (.cells #[.slice a m c] 78) := ⟨_, rfl⟩
  have hsz : W.heap.size = w.heap.size + 3 := by rw [hW]; simp
  simp only [List.size_toArray, World.size_alloc] at hP hN hB
  rw [show [Value.int .u32 p.1, Value.int .i64 p.2].toArray = #[.int .u32 p.1, .int .i64 p.2] from rfl] at hP
  rw [show [Value.pointer na].toArray = #[.pointer na] from rfl] at hN
  rw [show [Value.slice a m c].toArray = #[.slice a m c] from rfl] at hB
  rw [← hW] at hP hN hB hBel ⊢
  clear hW
  have HBel := Lib.hid hBel
  have HSZ := Lib.hid hsz
  have hstop : SeqStopsK Fence.wide (n - 1) Try.prog 60 #[.pointer (some ⟨w.heap.size + 1 + 1, 0, none⟩)] (fun x : Bkd L ts => #[.int .i64 (x.1.1 : Int), x.1.2.1]) (Kpo W.heap.size (w.heap.size + 1)) (fun ys => ys.map (fun x => x.1.2) = (L.zip ts).reverse) (fun pre => pre.map (fun x => x.1.2) <+: (L.zip ts).reverse) L.length W :=
    fun l J Jx W2 hW2 _ _ hY h0 => back1_in (n - 1) (by omega) l (w.heap.size + 1 + 1) a c L ts hlen HTS.out.ptrs (by rw [← HM.out]; exact hL) (Kpo W.heap.size (w.heap.size + 1)) J Jx (fun A B hk h => h.kp HOW.out (by omega) (by omega) (by omega) (by omega) hk) hY W2
      (Kpt.of HM.out HOW.out (hBel.trans (hW2.mono hBel.size)) ((hW2.cell (p := ⟨w.heap.size + 1 + 1, 0, none⟩) (by simp; omega)).trans (hB.cell (j := 0) rfl))) h0
  refine wpIn_rangeFunc_ownG rfl h1 (gf := 60) (lb := #[.pointer (some ⟨w.heap.size + 1 + 1, 0, none⟩)]) rfl trivial (enters_of Try.func60 (by kernel_rfl) rfl)
    hstop (fun h k i h1 h2 => (k i h1 h2).trans (h i h1 h2)) (fun W2 l o o' hl ho _ _ i h1 h2 => World.putObj_heap_other (by omega)) (Below.refl _ _) (fun _ => rfl)
    (fun pre W2 => (∃ ua, BlkAt 64 (w.heap.size + 1) [.pointer ua] W2 ∧ TrAt W2 (.pointer ua) (foldP p S (pre.map (fun x => x.1.2)))) ∧ BlkAt 37 w.heap.size [.int .u32 p.1, .int .i64 p.2] W2 ∧ Below w.heap.size w W2 ∧ W.heap.size ≤ W2.heap.size)
    (fun _ _ _ => False)
    (fun s A B row hs hg hr => ⟨by
        obtain ⟨⟨ua, h1, h2⟩, _⟩ := hs
        exact ⟨ua, h1.of_grown hg (fun r e => (hr r e).2), h2.stay (Stay.of_grown hg (fun r e => (hr r e).2))⟩, hs.2.1.of_grown hg (fun r e => (hr r e).2), hs.2.2.1.grown hg hs.2.2.1.size (fun k e => by have := (hr k e).1; omega), Nat.le_trans hs.2.2.2 hg.size⟩)
    (fun c s A B row hs _ _ => hs.elim)
    ⟨⟨na, hN, HSS.out.later hBel⟩, hP, hBel, Nat.le_refl _⟩
    (fun x => { tmps := #[.pointer (some ⟨t, 0, none⟩), .slice a m c, .agg #[.int .u32 p.1, .int .i64 p.2], .pointer na, undef, undef, .pointer (some ⟨w.heap.size, 0, none⟩), .pointer (some ⟨w.heap.size + 1, 0, none⟩), undef, x.1.2.1, undef, .slice a m c, .func (.func 60) #[] #[.pointer (some ⟨w.heap.size + 1 + 1, 0, none⟩)], .int .i64 (x.1.1 : Int), x.1.2.1, undef, undef, undef, undef, undef, undef, undef, undef, undef, undef, undef, undef, undef, undef, undef, undef, undef, undef], defers := [] }) ?assign ?body ?done ?stop
  case assign =>
    intro l x W2 K hK
    gi_wp2
    exact hK
  case body =>
    rintro l pre x W2 ⟨⟨ua, hbn, htr⟩, hbp, hB2, hge⟩ hlt
    obtain ⟨⟨i, vx, tx⟩, hx⟩ := x
    simp only at hx ⊢
    obtain ⟨hxt, hxm⟩ := HTS.out.mem (List.mem_of_getElem? hx)
    simp only at hxt hxm
    obtain ⟨q, o, lt, rt, rfl, hqo, q0, q31⟩ := HND.out _ hxm
    obtain ⟨b, vl, vr, rfl, hnb, hl, hr⟩ := hxt
    have hmap : (pre ++ [(⟨(i, .pointer (some ⟨b, 0, none⟩), .node q o lt rt), hx⟩ : Bkd L ts)]).map (fun x => x.1.2) = pre.map (fun x => x.1.2) ++ [(.pointer (some ⟨b, 0, none⟩), .node q o lt rt)] := by rw [List.map_append]; rfl
    have hfold := foldP_snoc p S (pre.map (fun x => x.1.2)) (.pointer (some ⟨b, 0, none⟩), .node q o lt rt)
    rw [← hmap] at hfold
    have HF := Lib.hid hfold
    obtain ⟨F0, hF0⟩ : ∃ F0, F0 = foldP p S (pre.map (fun x => x.1.2)) := ⟨_, rfl⟩
    rw [← hF0] at htr HF
    simp only at HF
    have hnb2 := hnb.later hB2
    have HL2 := Lib.hid (hl.later hB2)
    have HR2 := Lib.hid (hr.later hB2)
    obtain ⟨al, rfl⟩ := hl.ptr
    obtain ⟨ar, rfl⟩ := hr.ptr
    obtain ⟨c0, c1, c2, c3, c4, c5⟩ := nd_cells hnb2
    have HNB2 := Lib.hid hnb2
    have HTR := Lib.hid htr
    have HBN := Lib.hid hbn
    have HBP := Lib.hid hbp
    have HB2 := Lib.hid hB2
    clear hfold hF0 hmap hnb hnb2 hl hr hbn hbp hB2 htr hxm hstop hP hN hB hBel hlt
    gi_wp2_with fail
    have hU := BlkAt.new W2 (t := 92) (nc q o (.pointer al) (.pointer ar))
    have h23 := ba1 W2 (.cells (nc q o (.pointer al) (.pointer ar)).toArray 92)
    obtain ⟨W3, hW3⟩ : ∃ W3, W3 = W2.alloc (.cells #[.int .u32 q.1, .int .i64 q.2, .int .i64 (o.getD 0), .bool o.isSome, .pointer al, .pointer ar] 92) := ⟨_, rfl⟩
    have eW : W2.alloc (.cells (nc q o (.pointer al) (.pointer ar)).toArray 92) = W3 := hW3.symm
    rw [eW] at hU h23
    rw [← hW3]
    clear hW3 eW c0 c1 c2 c3 c4 c5
    rcases Tp.bit_or p.1 q.2 with hbit | hbit
    · have HBi := Lib.hid hbit
      refine wpIn_region_round (S := fun w' => Below W2.heap.size W2 w') (by kernel_rfl) (by kernel_rfl) h23.drew (fun hHeld => ?_)
      (refine wpAnyH_take (i := 0) (v := ?_) rfl (by kernel_rfl) (by kernel_rfl) (by kernel_rfl) (fun _ _ _ h => False.elim h) (Or.inl ⟨by rfl, ?_⟩) hHeld ?_; rotate_left; (focus (intro w hSw; (try dsimp only at hSw); go_simp; (obtain ⟨x0, x1⟩ := px_cells (HBP.out.later hSw); go_simp; try with_reducible rfl))); (try simp only [Act.put, List.setIfInBounds_toArray, List.set_cons_zero, List.set_cons_succ, List.getElem_toArray, List.getElem_cons_zero]))
      (refine wpAnyH_take (i := 1) (v := ?_) rfl (by kernel_rfl) (by kernel_rfl) (by kernel_rfl) (fun _ _ _ h => False.elim h) (Or.inl ⟨by rfl, ?_⟩) hHeld ?_; rotate_left; (focus (intro w hSw; (try dsimp only at hSw); go_simp; try with_reducible rfl)); (try simp only [Act.put, List.setIfInBounds_toArray, List.set_cons_zero, List.set_cons_succ, List.getElem_toArray, List.getElem_cons_zero, List.getElem_cons_succ])); (refine wpAnyH_take (i := 2) (v := ?_) rfl (by kernel_rfl) (by kernel_rfl) (by kernel_rfl) (fun _ _ _ h => False.elim h) (Or.inl ⟨by rfl, ?_⟩) hHeld ?_; rotate_left; (focus (intro w hSw; (try dsimp only at hSw); go_simp; try with_reducible rfl)); (try simp only [Act.put, List.setIfInBounds_toArray, List.set_cons_zero, List.set_cons_succ, List.getElem_toArray, List.getElem_cons_zero, List.getElem_cons_succ])); (refine wpAnyH_take (i := 3) (v := ?_) rfl (by kernel_rfl) (by kernel_rfl) (by kernel_rfl) (fun _ _ _ h => False.elim h) (Or.inl ⟨by rfl, ?_⟩) hHeld ?_; rotate_left; (focus (intro w hSw; (try dsimp only at hSw); go_simp; try with_reducible rfl)); (try simp only [Act.put, List.setIfInBounds_toArray, List.set_cons_zero, List.set_cons_succ, List.getElem_toArray, List.getElem_cons_zero, List.getElem_cons_succ])); (refine wpAnyH_take (i := 4) (v := ?_) rfl (by kernel_rfl) (by kernel_rfl) (by kernel_rfl) (fun _ _ _ h => False.elim h) (Or.inl ⟨by rfl, ?_⟩) hHeld ?_; rotate_left; (focus (intro w hSw; (try dsimp only at hSw); go_simp; try with_reducible rfl)); (try simp only [Act.put, List.setIfInBounds_toArray, List.set_cons_zero, List.set_cons_succ, List.getElem_toArray, List.getElem_cons_zero, List.getElem_cons_succ]))
      (refine wpAnyH_take (i := 5) (v := ?_) rfl (by kernel_rfl) (by kernel_rfl) (by kernel_rfl) (fun _ _ _ h => False.elim h) (Or.inl ⟨by rfl, ?_⟩) hHeld ?_; rotate_left; (focus (intro w hSw; (try dsimp only at hSw); go_simp; (obtain ⟨x0, x1, _⟩ := nd_cells (HNB2.out.later hSw); go_simp; try with_reducible rfl))); (try simp only [Act.put, List.setIfInBounds_toArray, List.set_cons_zero, List.set_cons_succ, List.getElem_toArray, List.getElem_cons_zero, List.getElem_cons_succ]))
      (refine wpAnyH_take (i := 7) (v := ?_) rfl (by kernel_rfl) (by kernel_rfl) (by kernel_rfl) (fun _ _ _ h => False.elim h) (Or.inl ⟨by rfl, ?_⟩) hHeld ?_; rotate_left; (focus (intro w hSw; (try dsimp only at hSw); go_simp; (have x0 := (HBN.out.later hSw).cell (j := 0) rfl; go_simp; try with_reducible rfl))); (try simp only [Act.put, List.setIfInBounds_toArray, List.set_cons_zero, List.set_cons_succ, List.getElem_toArray, List.getElem_cons_zero, List.getElem_cons_succ]))
      (refine wpAnyH_take (i := 8) (v := ?_) rfl (by kernel_rfl) (by kernel_rfl) (by kernel_rfl) (fun _ _ _ h => False.elim h) (Or.inl ⟨by rfl, ?_⟩) hHeld ?_; rotate_left; (focus (intro w hSw; (try dsimp only at hSw); go_simp; try with_reducible rfl)); (try simp only [Act.put, List.setIfInBounds_toArray, List.set_cons_zero, List.set_cons_succ, List.getElem_toArray, List.getElem_cons_zero, List.getElem_cons_succ]))
      (refine wpAnyH_ready (rs := [6]) (by kernel_rfl) (by simp) ?_; refine AllReadyH.cons rfl (fun K hK => ?_) AllReadyH.nil; go_simp; refine (sideI q0 q31 HBi.out _).mono ?_; rintro e w5 ⟨rfl, hs⟩; simp only []; refine hK.out _ _ ?_ (fun hHeldN => ?_); (focus ((try dsimp only); (exact hHeld.trans (hs.mono hHeld.size)))); clear hK K hHeld; have hHeld := hHeldN; clear hHeldN; (try simp only [Act.put, List.setIfInBounds_toArray, List.set_cons_zero, List.set_cons_succ, List.getElem_toArray, List.getElem_cons_zero, List.getElem_cons_succ]))
      (refine wpAnyH_take (i := 9) (v := ?_) rfl (by kernel_rfl) (by kernel_rfl) (by kernel_rfl) (fun _ _ _ h => False.elim h) (Or.inl ⟨by rfl, ?_⟩) hHeld ?_; rotate_left; (focus (intro w hSw; (try dsimp only at hSw); go_simp; try with_reducible rfl)); (try simp only [Act.put, List.setIfInBounds_toArray, List.set_cons_zero, List.set_cons_succ, List.getElem_toArray, List.getElem_cons_zero, List.getElem_cons_succ]))
      have hU5 := BlkAt.later (w' := w5) (show BlkAt 92 W2.heap.size (nc q o (.pointer al) (.pointer ar)) W3.drew from hU) hs
      have x4 : w5.cell? ⟨W2.heap.size, 4, none⟩ = some (.pointer al) := hU5.cell (j := 4) rfl
      have y4 := hU5.frozen 4
      have hb5 := hHeld
      (refine wpAnyH_ready (rs := [10]) (by kernel_rfl) (by simp) ?_; refine AllReadyH.cons rfl (fun K hK => ?_) AllReadyH.nil; go_simp; skip; refine hK.out _ _ ?_ (fun hHeldN => ?_); (focus ((try dsimp only); (exact hb5.setCell (p := ⟨W2.heap.size, 4, none⟩) (Nat.le_refl _) _))); clear hK K hHeld; have hHeld := hHeldN; clear hHeldN; (try simp only [Act.put, List.setIfInBounds_toArray, List.set_cons_zero, List.set_cons_succ, List.getElem_toArray, List.getElem_cons_zero, List.getElem_cons_succ]))
      refine wpAnyH_done (by kernel_rfl) ?_ _
      have hU6 := nd_set4 (x := .pointer ua) hU5
      have hB6 := hb5.setCell (p := ⟨W2.heap.size, 4, none⟩) (Nat.le_refl _) (.pointer ua)
      obtain ⟨W6, hW6⟩ : ∃ W6, W6 = w5.setCell ⟨W2.heap.size, 4, none⟩ (.pointer ua) := ⟨_, rfl⟩
      rw [← hW6] at hU6 hB6 ⊢
      clear hW6 hU5 x4 y4 hb5 hs hHeld hU h23
      simp only [onlyN]
      gi_wp2_with fail
      refine ⟨trivial, (fun h => by cases h), CallsIn.inRound l (callsIn_wide.2 ((neededT hU6 (HTR.out.later hB6) (HR2.out.later hB6)).mono ?_))⟩
      rintro e w7 ⟨v7, rfl, ht7, rfl⟩
      obtain ⟨a7, rfl⟩ := ht7.ptr
      have hbn6 := HBN.out.later hB6
      have x0 : W6.cell? ⟨w.heap.size + 1, 0, none⟩ = some (.pointer ua) := hbn6.cell (j := 0) rfl
      have y0 := hbn6.frozen 0
      have HB6 := Lib.hid hB6
      have HT7 := Lib.hid ht7
      have HBN6 := Lib.hid hbn6
      clear hB6 hU6 ht7 hbn6
      gi_wp2_with fail
      have hst : Stay W6 (W6.setCell ⟨w.heap.size + 1, 0, none⟩ (.pointer a7)) := Stay.of_chg ((Chg.refl [w.heap.size + 1] _).set (by simp) 0 _) (by
        intro b hb cs
        rw [List.mem_singleton.1 hb]
        exact HBN6.out.no (by decide))
      have hsz6 := HB6.out.size
      refine ⟨?_, ?_, ⟨a7, HBN6.out.set 0 (.pointer a7), ?_⟩, ?_, ?_, ?_⟩
      · exact (KeepsOthers.trans ⟨hsz6, fun k o hk _ => (HB6.out.block k (Array.getElem?_eq_some_iff.1 hk).1).trans hk⟩ (KeepsOthers.setCell _ _ _)).from _
      · intro k hk1 hk2
        rw [Below.heap_setCell _ _ _ _ (by simpa using hk2)]
        exact HB6.out.block k (by omega)
      · rw [HF.out]
        simp only [put1]
        rw [if_pos HBi.out]
        exact HT7.out.stay hst
      · exact (HBP.out.later HB6.out).other (by omega) 0 _
      · exact (HB2.out.trans (HB6.out.mono HB2.out.size)).setCell (p := ⟨w.heap.size + 1, 0, none⟩) (by simp) _
      · simp; omega
    · have HBi := Lib.hid hbit
      refine wpIn_region_round (S := fun w' => Below W2.heap.size W2 w') (by kernel_rfl) (by kernel_rfl) h23.drew (fun hHeld => ?_)
      (refine wpAnyH_take (i := 0) (v := ?_) rfl (by kernel_rfl) (by kernel_rfl) (by kernel_rfl) (fun _ _ _ h => False.elim h) (Or.inl ⟨by rfl, ?_⟩) hHeld ?_; rotate_left; (focus (intro w hSw; (try dsimp only at hSw); go_simp; (obtain ⟨x0, x1⟩ := px_cells (HBP.out.later hSw); go_simp; try with_reducible rfl))); (try simp only [Act.put, List.setIfInBounds_toArray, List.set_cons_zero, List.set_cons_succ, List.getElem_toArray, List.getElem_cons_zero]))
      (refine wpAnyH_take (i := 1) (v := ?_) rfl (by kernel_rfl) (by kernel_rfl) (by kernel_rfl) (fun _ _ _ h => False.elim h) (Or.inl ⟨by rfl, ?_⟩) hHeld ?_; rotate_left; (focus (intro w hSw; (try dsimp only at hSw); go_simp; try with_reducible rfl)); (try simp only [Act.put, List.setIfInBounds_toArray, List.set_cons_zero, List.set_cons_succ, List.getElem_toArray, List.getElem_cons_zero, List.getElem_cons_succ])); (refine wpAnyH_take (i := 2) (v := ?_) rfl (by kernel_rfl) (by kernel_rfl) (by kernel_rfl) (fun _ _ _ h => False.elim h) (Or.inl ⟨by rfl, ?_⟩) hHeld ?_; rotate_left; (focus (intro w hSw; (try dsimp only at hSw); go_simp; try with_reducible rfl)); (try simp only [Act.put, List.setIfInBounds_toArray, List.set_cons_zero, List.set_cons_succ, List.getElem_toArray, List.getElem_cons_zero, List.getElem_cons_succ])); (refine wpAnyH_take (i := 3) (v := ?_) rfl (by kernel_rfl) (by kernel_rfl) (by kernel_rfl) (fun _ _ _ h => False.elim h) (Or.inl ⟨by rfl, ?_⟩) hHeld ?_; rotate_left; (focus (intro w hSw; (try dsimp only at hSw); go_simp; try with_reducible rfl)); (try simp only [Act.put, List.setIfInBounds_toArray, List.set_cons_zero, List.set_cons_succ, List.getElem_toArray, List.getElem_cons_zero, List.getElem_cons_succ])); (refine wpAnyH_take (i := 4) (v := ?_) rfl (by kernel_rfl) (by kernel_rfl) (by kernel_rfl) (fun _ _ _ h => False.elim h) (Or.inl ⟨by rfl, ?_⟩) hHeld ?_; rotate_left; (focus (intro w hSw; (try dsimp only at hSw); go_simp; try with_reducible rfl)); (try simp only [Act.put, List.setIfInBounds_toArray, List.set_cons_zero, List.set_cons_succ, List.getElem_toArray, List.getElem_cons_zero, List.getElem_cons_succ]))
      (refine wpAnyH_take (i := 5) (v := ?_) rfl (by kernel_rfl) (by kernel_rfl) (by kernel_rfl) (fun _ _ _ h => False.elim h) (Or.inl ⟨by rfl, ?_⟩) hHeld ?_; rotate_left; (focus (intro w hSw; (try dsimp only at hSw); go_simp; (obtain ⟨x0, x1, _⟩ := nd_cells (HNB2.out.later hSw); go_simp; try with_reducible rfl))); (try simp only [Act.put, List.setIfInBounds_toArray, List.set_cons_zero, List.set_cons_succ, List.getElem_toArray, List.getElem_cons_zero, List.getElem_cons_succ]))
      (refine wpAnyH_take (i := 7) (v := ?_) rfl (by kernel_rfl) (by kernel_rfl) (by kernel_rfl) (fun _ _ _ h => False.elim h) (Or.inl ⟨by rfl, ?_⟩) hHeld ?_; rotate_left; (focus (intro w hSw; (try dsimp only at hSw); go_simp; (have x0 := (HBN.out.later hSw).cell (j := 0) rfl; go_simp; try with_reducible rfl))); (try simp only [Act.put, List.setIfInBounds_toArray, List.set_cons_zero, List.set_cons_succ, List.getElem_toArray, List.getElem_cons_zero, List.getElem_cons_succ]))
      (refine wpAnyH_take (i := 8) (v := ?_) rfl (by kernel_rfl) (by kernel_rfl) (by kernel_rfl) (fun _ _ _ h => False.elim h) (Or.inl ⟨by rfl, ?_⟩) hHeld ?_; rotate_left; (focus (intro w hSw; (try dsimp only at hSw); go_simp; try with_reducible rfl)); (try simp only [Act.put, List.setIfInBounds_toArray, List.set_cons_zero, List.set_cons_succ, List.getElem_toArray, List.getElem_cons_zero, List.getElem_cons_succ]))
      (refine wpAnyH_ready (rs := [6]) (by kernel_rfl) (by simp) ?_; refine AllReadyH.cons rfl (fun K hK => ?_) AllReadyH.nil; go_simp; refine (sideI q0 q31 HBi.out _).mono ?_; rintro e w5 ⟨rfl, hs⟩; simp only []; refine hK.out _ _ ?_ (fun hHeldN => ?_); (focus ((try dsimp only); (exact hHeld.trans (hs.mono hHeld.size)))); clear hK K hHeld; have hHeld := hHeldN; clear hHeldN; (try simp only [Act.put, List.setIfInBounds_toArray, List.set_cons_zero, List.set_cons_succ, List.getElem_toArray, List.getElem_cons_zero, List.getElem_cons_succ]))
      (refine wpAnyH_take (i := 9) (v := ?_) rfl (by kernel_rfl) (by kernel_rfl) (by kernel_rfl) (fun _ _ _ h => False.elim h) (Or.inl ⟨by rfl, ?_⟩) hHeld ?_; rotate_left; (focus (intro w hSw; (try dsimp only at hSw); go_simp; try with_reducible rfl)); (try simp only [Act.put, List.setIfInBounds_toArray, List.set_cons_zero, List.set_cons_succ, List.getElem_toArray, List.getElem_cons_zero, List.getElem_cons_succ]))
      have hU5 := BlkAt.later (w' := w5) (show BlkAt 92 W2.heap.size (nc q o (.pointer al) (.pointer ar)) W3.drew from hU) hs
      have x4 : w5.cell? ⟨W2.heap.size, 5, none⟩ = some (.pointer ar) := hU5.cell (j := 5) rfl
      have y4 := hU5.frozen 5
      have hb5 := hHeld
      (refine wpAnyH_ready (rs := [10]) (by kernel_rfl) (by simp) ?_; refine AllReadyH.cons rfl (fun K hK => ?_) AllReadyH.nil; go_simp; skip; refine hK.out _ _ ?_ (fun hHeldN => ?_); (focus ((try dsimp only); (exact hb5.setCell (p := ⟨W2.heap.size, 5, none⟩) (Nat.le_refl _) _))); clear hK K hHeld; have hHeld := hHeldN; clear hHeldN; (try simp only [Act.put, List.setIfInBounds_toArray, List.set_cons_zero, List.set_cons_succ, List.getElem_toArray, List.getElem_cons_zero, List.getElem_cons_succ]))
      refine wpAnyH_done (by kernel_rfl) ?_ _
      have hU6 := nd_set5 (x := .pointer ua) hU5
      have hB6 := hb5.setCell (p := ⟨W2.heap.size, 5, none⟩) (Nat.le_refl _) (.pointer ua)
      obtain ⟨W6, hW6⟩ : ∃ W6, W6 = w5.setCell ⟨W2.heap.size, 5, none⟩ (.pointer ua) := ⟨_, rfl⟩
      rw [← hW6] at hU6 hB6 ⊢
      clear hW6 hU5 x4 y4 hb5 hs hHeld hU h23
      simp only [onlyN]
      gi_wp2_with fail
      refine ⟨trivial, (fun h => by cases h), CallsIn.inRound l (callsIn_wide.2 ((neededT hU6 (HL2.out.later hB6) (HTR.out.later hB6)).mono ?_))⟩
      rintro e w7 ⟨v7, rfl, ht7, rfl⟩
      obtain ⟨a7, rfl⟩ := ht7.ptr
      have hbn6 := HBN.out.later hB6
      have x0 : W6.cell? ⟨w.heap.size + 1, 0, none⟩ = some (.pointer ua) := hbn6.cell (j := 0) rfl
      have y0 := hbn6.frozen 0
      have HB6 := Lib.hid hB6
      have HT7 := Lib.hid ht7
      have HBN6 := Lib.hid hbn6
      clear hB6 hU6 ht7 hbn6
      gi_wp2_with fail
      have hst : Stay W6 (W6.setCell ⟨w.heap.size + 1, 0, none⟩ (.pointer a7)) := Stay.of_chg ((Chg.refl [w.heap.size + 1] _).set (by simp) 0 _) (by
        intro b hb cs
        rw [List.mem_singleton.1 hb]
        exact HBN6.out.no (by decide))
      have hsz6 := HB6.out.size
      refine ⟨?_, ?_, ⟨a7, HBN6.out.set 0 (.pointer a7), ?_⟩, ?_, ?_, ?_⟩
      · exact (KeepsOthers.trans ⟨hsz6, fun k o hk _ => (HB6.out.block k (Array.getElem?_eq_some_iff.1 hk).1).trans hk⟩ (KeepsOthers.setCell _ _ _)).from _
      · intro k hk1 hk2
        rw [Below.heap_setCell _ _ _ _ (by simpa using hk2)]
        exact HB6.out.block k (by omega)
      · rw [HF.out]
        simp only [put1]
        rw [if_neg (by rw [HBi.out]; decide)]
        exact HT7.out.stay hst
      · exact (HBP.out.later HB6.out).other (by omega) 0 _
      · exact (HB2.out.trans (HB6.out.mono HB2.out.size)).setCell (p := ⟨w.heap.size + 1, 0, none⟩) (by simp) _
      · simp; omega
  case done =>
    rintro D ys W2 hD hys ⟨⟨ua, hbn, htr⟩, hbp, hB2, hge⟩ hK
    rw [hys, foldP_all p S L ts hlen] at htr
    have hbt := HBT.out.later hB2
    obtain ⟨c0, _, _, _⟩ := tr_cells hbt
    have f0 := hbt.frozen 0
    have x0 : W2.cell? ⟨w.heap.size + 1, 0, none⟩ = some (.pointer ua) := hbn.cell (j := 0) rfl
    have HTR := Lib.hid htr
    have HBT2 := Lib.hid hbt
    have HB2 := Lib.hid hB2
    have HK := Lib.hid hK
    clear htr hbt hB2 hbn hbp hys hstop hP hN hB hBel hK
    gi_wp2_with fail
    have hK' := (KeepsOthers.setCell W2 ⟨t, 0, none⟩ (.pointer ua)).same D _ HK.out rfl
    have hc1 : Chg [t] W2 (W2.setCell ⟨t, 0, none⟩ (.pointer ua)) := (Chg.refl [t] _).set (by simp) 0 _
    have hst : Stay W2 (W2.setCell ⟨t, 0, none⟩ (.pointer ua)) := Stay.of_chg hc1 (by
      intro b hb cs
      rw [List.mem_singleton.1 hb]
      exact HBT2.out.no (by decide))
    have hg := grownBy_putObj' (W2.setCell ⟨t, 0, none⟩ (.pointer ua)) D (.deferred none)
    have hr : ∀ r, some D = some r → ∃ o : Obj, (W2.setCell ⟨t, 0, none⟩ (.pointer ua)).heap[r]? = some o ∧ o.isCells = false := fun r e => by cases e; exact ⟨_, hK', rfl⟩
    refine ⟨by simp, .inl ⟨_, _, rfl, run_takeDeferred hK', ?_⟩⟩
    refine ⟨.tuple #[], results_none rfl _ _ _, ⟨_, rfl⟩, ⟨.pointer ua, BlkAt.of_grown (HBT2.out.set 0 (.pointer ua)) hg hr, (HTR.out.stay hst).stay (Stay.of_grown hg hr)⟩, ?_⟩
    have hb2 := (Below.refl 0 (W2.setCell ⟨t, 0, none⟩ (.pointer ua))).grown hg (Nat.zero_le _) (fun k _ => Nat.zero_le _)
    refine ⟨((HB2.out.mono (Nat.zero_le _)).trans hc1.low).trans hb2, fun k hk hkt => ?_⟩
    rw [World.putObj_heap_other (by omega), Below.heap_setCell _ _ _ _ (by simpa using hkt)]
    exact HB2.out.block k hk
  case stop =>
    rintro D c pre W2 _ _ h _
    exact h.elim
theorem layT {t : Nat} {lim : Int} {cnt : Nat} {rv : Value} {w : World} (hb : BlkAt 66 t (tc rv lim cnt) w) {v : Value} {L : List Value} {ts : List Tr} (hown : OwnN w 0 v L) (hts : TrsAt w L ts)
    (hnode : ∀ t ∈ ts, ∃ q o l r, t = .node q o l r ∧ Ok q ∧ 0 ≤ q.2 ∧ q.2 ≤ 31) {nv : Value} {S : Tr} (hS : TrAt w nv S) (p : Pf) (hL : L.length ≤ 1000000) :
    Calls Try.prog 45 #[.pointer (some ⟨t, 0, none⟩), v, .agg #[.int .u32 p.1, .int .i64 p.2], nv] w fun e w' => (∃ u, e = .returned u) ∧ (∃ v, BlkAt 66 t (tc v lim cnt) w' ∧ TrAt w' v (Tp.lay p ts S)) ∧ Chg [t] w w' := by
  obtain ⟨a, c, rfl⟩ := hown.form
  obtain ⟨na, rfl⟩ := hS.ptr
  exact callsIn_wide.1 (lay_in 3 (by omega) hb hown hts hnode hS p hL)
end Go.Proofs.Ytbfkjdnopiadjaa

namespace Go.Proofs.Ytbfkjdnopiadjaa
open Go.RowKit
attribute [local go_sem ↓] Go.wp_at_zero Go.wp_at_succ
attribute [local go_sem ↓ high] eqP neP
open Tp (Pf Ok mn bit com Tr withN isN pth isAt ins del bare)

/-- What Insert answers, and leaves. -/
def insC (lim : Int) (p : Pf) (L : List Tp.En) : Int := if Wp.mayB p.1 p.2 = true then (if isAt L p = true ∨ (L.length : Int) < lim then 0 else 5) else 2
def insT (lim : Int) (p : Pf) (v : Int) (T : Tr) : Tr := if Wp.mayB p.1 p.2 = true ∧ (isAt T.el p = true ∨ (T.el.length : Int) < lim) then ins p v T else T
/-- What Delete answers, and leaves. -/
def delC (p : Pf) (L : List Tp.En) : Int := if Wp.mayB p.1 p.2 = true then (if isAt L p = true then 0 else 6) else 2
def delT (p : Pf) (T : Tr) : Tr := if Wp.mayB p.1 p.2 = true then del p T else T
/-- A prefix as it is handed in. -/
structure Ad (p : Pf) : Prop where
  a0 : 0 ≤ p.1
  a1 : p.1 < 4294967296
theorem Ad.ok {p : Pf} (h : Ad p) (hm : Wp.mayB p.1 p.2 = true) : Ok p := ⟨h.a0, h.a1, hm⟩
theorem withA {p : Pf} (hp : Ok p) {v : Int} {S : Tr} (hi : S.Inv) {nv : Value} {w : World} (ht : TrAt w nv S) :
    Calls Try.prog 47 #[nv, .agg #[.int .u32 p.1, .int .i64 p.2], .int .i64 v] w fun e w' => ∃ u, e = .returned u ∧ TrAt w' u (withN p v S) ∧ Below w.heap.size w w' := by
  cases S with
  | nil => obtain rfl := ht; exact withNil v w
  | node q o l r =>
    obtain ⟨b, vl, vr, rfl, hb, hl, hr⟩ := ht
    exact withT hp hi.1 hb hl hr
theorem withoutA {p : Pf} {S : Tr} (hn : isN p S = true) {nv : Value} {w : World} (ht : TrAt w nv S) :
    Calls Try.prog 46 #[nv] w fun e w' => ∃ u, e = .returned u ∧ TrAt w' u (bare S) ∧ Below w.heap.size w w' := by
  cases S with
  | nil => simp [isN] at hn
  | node q o l r =>
    obtain ⟨b, vl, vr, rfl, hb, hl, hr⟩ := ht
    exact withoutT hb hl hr
theorem isN_at {p : Pf} (hp : Ok p) {T : Tr} (hi : T.Inv) : isN p (pth p T).2 = isAt T.el p := by
  rw [Tp.isN_find hp T hi, Tp.find_el hp T hi, Tp.isAt_look hi.up]
theorem TSt.stay {t : Nat} {lim : Int} {T : Tr} {w w' : World} (h : TSt t lim T w) (hc : Chg [t] w w') : Stay w w' := by
  obtain ⟨v, hb, _⟩ := h.blk
  exact Stay.of_chg hc (fun b hbm cs => by rw [List.mem_singleton.1 hbm]; exact hb.no (by decide))

theorem OwnN.chg {w w' : World} {B t : Nat} {v : Value} {L cs : List Value} (h : OwnN w B v L) (hc : Chg [t] w w') (ht : BlkAt 66 t cs w) : OwnN w' B v L := by
  refine hc.owns h (fun g hg => ?_)
  rw [List.mem_singleton]
  rintro rfl
  obtain ⟨_, ⟨rfl, _⟩ | ⟨g2, cap, cur, rfl, _, h2, _⟩⟩ := h
  · cases hg
  · simp only [Value.ownBlock, Option.some.injEq] at hg
    subst hg
    rw [show w.heap[g2]? = _ from ht] at h2
    simp only [Option.some.injEq, Obj.cells.injEq] at h2
    exact absurd h2.2.1 (by decide)

set_option maxRecDepth 100000 in
set_option maxHeartbeats 4000000 in
theorem insertT {t : Nat} {lim : Int} {T : Tr} {w : World} (h : TSt t lim T w) {p : Pf} (hp : Ad p) (v : Int) (hs : T.size ≤ 1000000) :
    Calls Try.prog 22 #[.pointer (some ⟨t, 0, none⟩), .agg #[.int .u32 p.1, .int .i64 p.2], .int .i64 v] w fun e w' => e = .returned (.int .i64 (insC lim p T.el)) ∧ TSt t lim (insT lim p v T) w' ∧ Chg [t] w w' := by
  have HA := Lib.hid (ba1 w (.cells #[.int .u32 p.1, .int .i64 p.2] 37))
  have HX := Lib.hid (BlkAt.new w (t := 37) [.int .u32 p.1, .int .i64 p.2])
  have HR := Lib.hid (readyT (h.later HA.out) p.1 p.2)
  have HT := Lib.hid h
  unfold maE at HR
  by_cases hm : Wp.mayB p.1 p.2 = true
  · rw [if_pos hm] at HR
    have hok := hp.ok hm
    have HOK := Lib.hid hok
    have HI : Hid (insC lim p T.el = (if isAt T.el p = true ∨ (T.el.length : Int) < lim then 0 else 5) ∧ insT lim p v T = if isAt T.el p = true ∨ (T.el.length : Int) < lim then ins p v T else T) := by
      have : insC lim p T.el = (if isAt T.el p = true ∨ (T.el.length : Int) < lim then 0 else 5) ∧ insT lim p v T = if isAt T.el p = true ∨ (T.el.length : Int) < lim then ins p v T else T := by
        unfold insC insT
        rw [if_pos hm]
        refine ⟨rfl, ?_⟩
        by_cases h2 : isAt T.el p = true ∨ (T.el.length : Int) < lim
        · rw [if_pos h2, if_pos ⟨hm, h2⟩]
        · rw [if_neg h2, if_neg (fun h3 => h2 h3.2)]
      exact this
    have HPl := Lib.hid (fun (W : World) (hb : Below w.heap.size w W) => placeT (h.later hb) hok hs)
    have HS := Lib.hid hs
    clear h hp hs hm hok
    go_enter Try.func22, Try.ntmps22
    go_wp2_with fail
    refine HR.out.mono ?_
    rintro e w1 ⟨rfl, hb1⟩
    obtain ⟨x0, x1⟩ := px_cells (HX.out.later hb1)
    have HX1 := Lib.hid (HX.out.later hb1)
    have HB1 := Lib.hid (below_of HA.out hb1)
    clear hb1
    go_wp2_with fail
    refine (HPl.out _ HB1.out).mono ?_
    rintro e w2 ⟨va, nv, L, rfl, hown, hts, hnt, hb2⟩
    obtain ⟨aa, ac, rfl⟩ := hown.form
    obtain ⟨na, rfl⟩ := hnt.ptr
    obtain ⟨y0, y1⟩ := px_cells (HX1.out.later hb2)
    have HX2 := Lib.hid (HX1.out.later hb2)
    have HB2 := Lib.hid (below_of HB1.out hb2)
    have HIs := Lib.hid (isT hnt p)
    rw [isN_at HOK.out HT.out.inv] at HIs
    have HLL : Hid (L.length ≤ 1000000) := by
      have h1 := hts.len
      have h2 := Tp.pth_len p T
      have h3 := HS.out
      have : L.length ≤ 1000000 := by omega
      exact this
    have HCy := Lib.hid (Chg.of_below [t] HB2.out)
    have HTw := Lib.hid (HT.out.later HB2.out)
    have HNE : Hid (w.heap.size ≠ t) := by
      have := HT.out.lt
      have : w.heap.size ≠ t := by omega
      exact this
    have HOW := Lib.hid hown
    have HTS := Lib.hid hts
    have HNT := Lib.hid hnt
    clear hown hts hnt hb2
    obtain ⟨m, hm⟩ : ∃ m, m = L.length := ⟨_, rfl⟩
    rw [← hm]
    rw [← hm] at HOW
    clear hm
    go_wp2_with fail
    refine HIs.out.mono ?_
    rintro e w3 ⟨rfl, hb3⟩
    have HX8 := Lib.hid (HX2.out.later hb3)
    have HT3 := Lib.hid (HTw.out.later hb3)
    have HOW8 := Lib.hid (HOW.out.later hb3)
    have HTS8 := Lib.hid (HTS.out.stay (Stay.of_below hb3))
    have HNT8 := Lib.hid (HNT.out.later hb3)
    have HC3 := Lib.hid (HCy.out.trans (Chg.of_below [t] hb3))
    obtain ⟨rv, hbt, _⟩ := HT3.out.blk
    obtain ⟨c0, c1, c2, c3⟩ := tr_cells hbt
    have ft := hbt.frozen 2
    have HBT3 := Lib.hid hbt
    clear hb3 hbt x0 x1 y0 y1 HX2 HOW HTS HNT HX1 HTw
    obtain ⟨isv, hisv⟩ : ∃ b, b = isAt T.el p := ⟨_, rfl⟩
    rw [← hisv]
    have HAt0 := Lib.hid hisv
    clear hisv
    cases isv with
    | true =>
    have HAt : Hid (isAt T.el p = true) := HAt0.out.symm
    have HBT8 := HBT3
    have HC8 := HC3
    have HCnt : Hid ((ins p v T).el.length = T.el.length) := by
      have : (ins p v T).el.length = T.el.length := by rw [Tp.ins_el HOK.out v T HT.out.inv, Tp.insE_len, if_pos HAt.out]
      exact this
    have HCle : Hid ((T.el.length : Int) ≤ lim) := HT.out.le
    clear c0 c1 c2 c3 ft
    go_wp2_with fail
    (refine wp_region_held_drew (S := (fun w' => w'.cell? ⟨w.heap.size, 0, none⟩ = some (.int .u32 p.1) ∧ w'.cell? ⟨w.heap.size, 1, none⟩ = some (.int .i64 p.2))) (by kernel_rfl) ?_ (fun hHeld => ?_); (focus ((try dsimp only); (exact px_cells HX8.out))))
    (refine wpAnyH_take (i := 0) (v := ?_) rfl (by kernel_rfl) (by kernel_rfl) (by kernel_rfl) (fun _ _ _ h => h) (Or.inl ⟨by rfl, ?_⟩) hHeld ?_; rotate_left; (focus (intro w hSw; (try dsimp only at hSw); go_simp; try with_reducible rfl)); (try simp only [Act.put, List.setIfInBounds_toArray, List.set_cons_zero, List.set_cons_succ, List.getElem_toArray, List.getElem_cons_zero])); (refine wpAnyH_take (i := 1) (v := ?_) rfl (by kernel_rfl) (by kernel_rfl) (by kernel_rfl) (fun _ _ _ h => h) (Or.inl ⟨by rfl, ?_⟩) hHeld ?_; rotate_left; (focus (intro w hSw; (try dsimp only at hSw); go_simp; try with_reducible rfl)); (try simp only [Act.put, List.setIfInBounds_toArray, List.set_cons_zero, List.set_cons_succ, List.getElem_toArray, List.getElem_cons_zero, List.getElem_cons_succ])); (refine wpAnyH_take (i := 2) (v := ?_) rfl (by kernel_rfl) (by kernel_rfl) (by kernel_rfl) (fun _ _ _ h => h) (Or.inl ⟨by rfl, ?_⟩) hHeld ?_; rotate_left; (focus (intro w hSw; (try dsimp only at hSw); go_simp; try with_reducible rfl)); (try simp only [Act.put, List.setIfInBounds_toArray, List.set_cons_zero, List.set_cons_succ, List.getElem_toArray, List.getElem_cons_zero, List.getElem_cons_succ])); (refine wpAnyH_take (i := 3) (v := ?_) rfl (by kernel_rfl) (by kernel_rfl) (by kernel_rfl) (fun _ _ _ h => h) (Or.inl ⟨by rfl, ?_⟩) hHeld ?_; rotate_left; (focus (intro w hSw; (try dsimp only at hSw); go_simp; try with_reducible rfl)); (try simp only [Act.put, List.setIfInBounds_toArray, List.set_cons_zero, List.set_cons_succ, List.getElem_toArray, List.getElem_cons_zero, List.getElem_cons_succ])); (refine wpAnyH_take (i := 4) (v := ?_) rfl (by kernel_rfl) (by kernel_rfl) (by kernel_rfl) (fun _ _ _ h => h) (Or.inl ⟨by rfl, ?_⟩) hHeld ?_; rotate_left; (focus (intro w hSw; (try dsimp only at hSw); go_simp; try with_reducible rfl)); (try simp only [Act.put, List.setIfInBounds_toArray, List.set_cons_zero, List.set_cons_succ, List.getElem_toArray, List.getElem_cons_zero, List.getElem_cons_succ])); (refine wpAnyH_take (i := 5) (v := ?_) rfl (by kernel_rfl) (by kernel_rfl) (by kernel_rfl) (fun _ _ _ h => h) (Or.inl ⟨by rfl, ?_⟩) hHeld ?_; rotate_left; (focus (intro w hSw; (try dsimp only at hSw); go_simp; try with_reducible rfl)); (try simp only [Act.put, List.setIfInBounds_toArray, List.set_cons_zero, List.set_cons_succ, List.getElem_toArray, List.getElem_cons_zero, List.getElem_cons_succ]))
    (refine wpAnyH_ready (rs := [6]) (by kernel_rfl) (by simp) ?_; refine AllReadyH.cons rfl (fun K hK => ?_) AllReadyH.nil; go_simp; refine (withA HOK.out (Tp.pth_inv HOK.out T HT.out.inv).1 (v := v) (HNT8.out.later (Below.refl _ _).drew)).mono ?_; rintro e w9 ⟨u, rfl, hu, hs⟩; simp only []; obtain ⟨au, rfl⟩ := hu.ptr; refine hK.out _ _ ?_ (fun hHeldN => ?_); (focus ((try dsimp only); (exact ⟨cell_later hs hHeld.1, cell_later hs hHeld.2⟩))); clear hK K hHeld; have hHeld := hHeldN; clear hHeldN; (try simp only [Act.put, List.setIfInBounds_toArray, List.set_cons_zero, List.set_cons_succ, List.getElem_toArray, List.getElem_cons_zero, List.getElem_cons_succ]))
    have hs9 : Below w3.heap.size w3 w9 := (Below.refl _ _).drew.trans hs
    (refine wpAnyH_ready (rs := [7]) (by kernel_rfl) (by simp) ?_; refine AllReadyH.cons rfl (fun K hK => ?_) AllReadyH.nil; go_simp; refine (layT (HBT8.out.later hs9) ((HOW8.out.later hs9).down (Nat.zero_le _)) (HTS8.out.stay (Stay.of_below hs9)) (Tp.pth_inv HOK.out T HT.out.inv).2 hu p HLL.out).mono ?_; rintro e w10 ⟨⟨u, rfl⟩, ⟨vr, hbt, htr⟩, hc10⟩; simp only []; refine hK.out _ _ ?_ (fun hHeldN => ?_); (focus ((try dsimp only); (exact px_cells (hc10.blk (HX8.out.later hs9) (by simp; exact HNE.out))))); clear hK K hHeld; have hHeld := hHeldN; clear hHeldN; (try simp only [Act.put, List.setIfInBounds_toArray, List.set_cons_zero, List.set_cons_succ, List.getElem_toArray, List.getElem_cons_zero, List.getElem_cons_succ]))
    refine wpAnyH_done (by kernel_rfl) ?_ _
    have HC10 := Lib.hid ((HC8.out.trans (Chg.of_below [t] hs9)).trans hc10)
    have HE10 := Lib.hid (And.intro hbt htr)
    clear hHeld hs hs9 hbt htr hc10 hu
    go_wp2_with fail
    go_ret
    refine ⟨by rw [HI.out.1, if_pos (.inl HAt.out)]; rfl, ?_, HC10.out⟩
    rw [HI.out.2, if_pos (.inl HAt.out)]
    have hnew : ins p v T = Tp.lay p (pth p T).1 (withN p v (pth p T).2) := Tp.ins_lay HOK.out v T HT.out.inv
    refine ⟨⟨vr, ?_, by rw [hnew]; exact HE10.out.2⟩, ?_, ?_, HT.out.hi⟩
    · rw [show (ins p v T).el.length = T.el.length from HCnt.out]; exact HE10.out.1
    · exact Tp.ins_inv HOK.out v T HT.out.inv
    · rw [show (ins p v T).el.length = T.el.length from HCnt.out]; exact HCle.out
    | false =>
    have HNot : Hid (¬ isAt T.el p = true) := by
      have h := HAt0.out
      have : ¬ isAt T.el p = true := by rw [← h]; decide
      exact this
    go_wp2_with fail
    go_quiet (fail)
    by_cases hf : (T.el.length : Int) = lim
    · have k1 : ((T.el.length : Int) == lim) = true := by simpa using hf
      have HE : Hid (¬ (isAt T.el p = true ∨ (T.el.length : Int) < lim)) := by
        have : ¬ (isAt T.el p = true ∨ (T.el.length : Int) < lim) := fun h => h.elim HNot.out (by omega)
        exact this
      clear hf
      go_wp2_with fail
      go_ret
      refine ⟨by rw [HI.out.1, if_neg HE.out]; rfl, ?_, HC3.out.trans (Chg.of_below [t] (below_dr0 _ _ _))⟩
      rw [HI.out.2, if_neg HE.out]
      exact HT3.out.later (below_dr0 _ _ _)
    · have k1 : ((T.el.length : Int) == lim) = false := by simpa using hf
      have HLt : Hid ((T.el.length : Int) < lim) := by
        have := HT.out.le
        have : (T.el.length : Int) < lim := by omega
        exact this
      have k2 : wrap64 ((T.el.length : Int) + 1) = (T.el.length : Int) + 1 := IntWalk.wrap64_in _ ⟨by omega, by have := HT.out.le; have := HT.out.hi; have := HLt.out; omega⟩
      clear hf
      go_wp2_with fail
      have hbt8 : BlkAt 66 t (tc rv lim (T.el.length + 1)) ((w3.drewN nq).setCell ⟨t, 2, none⟩ (.int .i64 ((T.el.length : Int) + 1))) := BlkAt.set (w := w3.drewN nq) HBT3.out 2 _
      have hc8 : Chg [t] w3 ((w3.drewN nq).setCell ⟨t, 2, none⟩ (.int .i64 ((T.el.length : Int) + 1))) := (Chg.of_below [t] (below_dr0 _ w3 nq)).set (by simp) _ _
      have hst8 := HT3.out.stay hc8
      have hx8 := (HX8.out.later (below_dr0 _ w3 nq)).other HNE.out 2 (.int .i64 ((T.el.length : Int) + 1))
      obtain ⟨W8, hW8⟩ : ∃ W8, W8 = (w3.drewN nq).setCell ⟨t, 2, none⟩ (.int .i64 ((T.el.length : Int) + 1)) := ⟨_, rfl⟩
      rw [← hW8] at hbt8 hc8 hst8 hx8 ⊢
      have HBT8 := Lib.hid hbt8
      have HC8 := Lib.hid (HC3.out.trans hc8)
      have hOW := Lib.hid (HOW8.out.chg hc8 HBT3.out)
      have hTS := Lib.hid (HTS8.out.stay hst8)
      have hNT := Lib.hid (HNT8.out.stay hst8)
      clear HX8 HOW8 HTS8 HNT8
      have HX8 := Lib.hid hx8
      have HOW8 := hOW
      have HTS8 := hTS
      have HNT8 := hNT
      have HCnt : Hid ((ins p v T).el.length = T.el.length + 1) := by
        have : (ins p v T).el.length = T.el.length + 1 := by rw [Tp.ins_el HOK.out v T HT.out.inv, Tp.insE_len, if_neg HNot.out]
        exact this
      have HCle : Hid (((T.el.length + 1 : Nat) : Int) ≤ lim) := by
        have := HLt.out
        have : ((T.el.length + 1 : Nat) : Int) ≤ lim := by omega
        exact this
      clear hW8 hbt8 hc8 hst8 hx8 hOW hTS hNT c0 c1 c2 c3 ft k1 k2 HBT3 HT3
      (refine wp_region_held_drew (S := (fun w' => w'.cell? ⟨w.heap.size, 0, none⟩ = some (.int .u32 p.1) ∧ w'.cell? ⟨w.heap.size, 1, none⟩ = some (.int .i64 p.2))) (by kernel_rfl) ?_ (fun hHeld => ?_); (focus ((try dsimp only); (exact px_cells HX8.out))))
      (refine wpAnyH_take (i := 0) (v := ?_) rfl (by kernel_rfl) (by kernel_rfl) (by kernel_rfl) (fun _ _ _ h => h) (Or.inl ⟨by rfl, ?_⟩) hHeld ?_; rotate_left; (focus (intro w hSw; (try dsimp only at hSw); go_simp; try with_reducible rfl)); (try simp only [Act.put, List.setIfInBounds_toArray, List.set_cons_zero, List.set_cons_succ, List.getElem_toArray, List.getElem_cons_zero])); (refine wpAnyH_take (i := 1) (v := ?_) rfl (by kernel_rfl) (by kernel_rfl) (by kernel_rfl) (fun _ _ _ h => h) (Or.inl ⟨by rfl, ?_⟩) hHeld ?_; rotate_left; (focus (intro w hSw; (try dsimp only at hSw); go_simp; try with_reducible rfl)); (try simp only [Act.put, List.setIfInBounds_toArray, List.set_cons_zero, List.set_cons_succ, List.getElem_toArray, List.getElem_cons_zero, List.getElem_cons_succ])); (refine wpAnyH_take (i := 2) (v := ?_) rfl (by kernel_rfl) (by kernel_rfl) (by kernel_rfl) (fun _ _ _ h => h) (Or.inl ⟨by rfl, ?_⟩) hHeld ?_; rotate_left; (focus (intro w hSw; (try dsimp only at hSw); go_simp; try with_reducible rfl)); (try simp only [Act.put, List.setIfInBounds_toArray, List.set_cons_zero, List.set_cons_succ, List.getElem_toArray, List.getElem_cons_zero, List.getElem_cons_succ])); (refine wpAnyH_take (i := 3) (v := ?_) rfl (by kernel_rfl) (by kernel_rfl) (by kernel_rfl) (fun _ _ _ h => h) (Or.inl ⟨by rfl, ?_⟩) hHeld ?_; rotate_left; (focus (intro w hSw; (try dsimp only at hSw); go_simp; try with_reducible rfl)); (try simp only [Act.put, List.setIfInBounds_toArray, List.set_cons_zero, List.set_cons_succ, List.getElem_toArray, List.getElem_cons_zero, List.getElem_cons_succ])); (refine wpAnyH_take (i := 4) (v := ?_) rfl (by kernel_rfl) (by kernel_rfl) (by kernel_rfl) (fun _ _ _ h => h) (Or.inl ⟨by rfl, ?_⟩) hHeld ?_; rotate_left; (focus (intro w hSw; (try dsimp only at hSw); go_simp; try with_reducible rfl)); (try simp only [Act.put, List.setIfInBounds_toArray, List.set_cons_zero, List.set_cons_succ, List.getElem_toArray, List.getElem_cons_zero, List.getElem_cons_succ])); (refine wpAnyH_take (i := 5) (v := ?_) rfl (by kernel_rfl) (by kernel_rfl) (by kernel_rfl) (fun _ _ _ h => h) (Or.inl ⟨by rfl, ?_⟩) hHeld ?_; rotate_left; (focus (intro w hSw; (try dsimp only at hSw); go_simp; try with_reducible rfl)); (try simp only [Act.put, List.setIfInBounds_toArray, List.set_cons_zero, List.set_cons_succ, List.getElem_toArray, List.getElem_cons_zero, List.getElem_cons_succ]))
      (refine wpAnyH_ready (rs := [6]) (by kernel_rfl) (by simp) ?_; refine AllReadyH.cons rfl (fun K hK => ?_) AllReadyH.nil; go_simp; refine (withA HOK.out (Tp.pth_inv HOK.out T HT.out.inv).1 (v := v) (HNT8.out.later (Below.refl _ _).drew)).mono ?_; rintro e w9 ⟨u, rfl, hu, hs⟩; simp only []; obtain ⟨au, rfl⟩ := hu.ptr; refine hK.out _ _ ?_ (fun hHeldN => ?_); (focus ((try dsimp only); (exact ⟨cell_later hs hHeld.1, cell_later hs hHeld.2⟩))); clear hK K hHeld; have hHeld := hHeldN; clear hHeldN; (try simp only [Act.put, List.setIfInBounds_toArray, List.set_cons_zero, List.set_cons_succ, List.getElem_toArray, List.getElem_cons_zero, List.getElem_cons_succ]))
      have hs9 : Below W8.heap.size W8 w9 := (Below.refl _ _).drew.trans hs
      (refine wpAnyH_ready (rs := [7]) (by kernel_rfl) (by simp) ?_; refine AllReadyH.cons rfl (fun K hK => ?_) AllReadyH.nil; go_simp; refine (layT (HBT8.out.later hs9) ((HOW8.out.later hs9).down (Nat.zero_le _)) (HTS8.out.stay (Stay.of_below hs9)) (Tp.pth_inv HOK.out T HT.out.inv).2 hu p HLL.out).mono ?_; rintro e w10 ⟨⟨u, rfl⟩, ⟨vr, hbt, htr⟩, hc10⟩; simp only []; refine hK.out _ _ ?_ (fun hHeldN => ?_); (focus ((try dsimp only); (exact px_cells (hc10.blk (HX8.out.later hs9) (by simp; exact HNE.out))))); clear hK K hHeld; have hHeld := hHeldN; clear hHeldN; (try simp only [Act.put, List.setIfInBounds_toArray, List.set_cons_zero, List.set_cons_succ, List.getElem_toArray, List.getElem_cons_zero, List.getElem_cons_succ]))
      refine wpAnyH_done (by kernel_rfl) ?_ _
      have HC10 := Lib.hid ((HC8.out.trans (Chg.of_below [t] hs9)).trans hc10)
      have HE10 := Lib.hid (And.intro hbt htr)
      clear hHeld hs hs9 hbt htr hc10 hu
      go_wp2_with fail
      go_ret
      refine ⟨by rw [HI.out.1, if_pos (.inr HLt.out)]; rfl, ?_, HC10.out⟩
      rw [HI.out.2, if_pos (.inr HLt.out)]
      have hnew : ins p v T = Tp.lay p (pth p T).1 (withN p v (pth p T).2) := Tp.ins_lay HOK.out v T HT.out.inv
      refine ⟨⟨vr, ?_, by rw [hnew]; exact HE10.out.2⟩, ?_, ?_, HT.out.hi⟩
      · rw [show (ins p v T).el.length = (T.el.length + 1) from HCnt.out]; exact HE10.out.1
      · exact Tp.ins_inv HOK.out v T HT.out.inv
      · rw [show (ins p v T).el.length = (T.el.length + 1) from HCnt.out]; exact HCle.out
  · rw [if_neg hm] at HR
    have HI : Hid (insC lim p T.el = 2 ∧ insT lim p v T = T) := by
      have : insC lim p T.el = 2 ∧ insT lim p v T = T := by
        unfold insC insT
        exact ⟨if_neg hm, if_neg (fun h => hm h.1)⟩
      exact this
    clear h hp hs hm
    go_enter Try.func22, Try.ntmps22
    go_wp2_with fail
    refine HR.out.mono ?_
    rintro e w1 ⟨rfl, hb1⟩
    go_wp2_with fail
    go_ret
    refine ⟨by rw [HI.out.1]; rfl, ?_, Chg.of_below [t] (below_of HA.out hb1)⟩
    rw [HI.out.2]
    exact HT.out.later (below_of HA.out hb1)
set_option maxRecDepth 100000 in
set_option maxHeartbeats 4000000 in
theorem deleteT {t : Nat} {lim : Int} {T : Tr} {w : World} (h : TSt t lim T w) {p : Pf} (hp : Ad p) (hs : T.size ≤ 1000000) :
    Calls Try.prog 21 #[.pointer (some ⟨t, 0, none⟩), .agg #[.int .u32 p.1, .int .i64 p.2]] w fun e w' => e = .returned (.int .i64 (delC p T.el)) ∧ TSt t lim (delT p T) w' ∧ Chg [t] w w' := by
  have HA := Lib.hid (ba1 w (.cells #[.int .u32 p.1, .int .i64 p.2] 37))
  have HX := Lib.hid (BlkAt.new w (t := 37) [.int .u32 p.1, .int .i64 p.2])
  have HR := Lib.hid (readyT (h.later HA.out) p.1 p.2)
  have HT := Lib.hid h
  unfold maE at HR
  by_cases hm : Wp.mayB p.1 p.2 = true
  · rw [if_pos hm] at HR
    have hok := hp.ok hm
    have HOK := Lib.hid hok
    have HI : Hid (delC p T.el = (if isAt T.el p = true then 0 else 6) ∧ delT p T = del p T) := by
      have : delC p T.el = (if isAt T.el p = true then 0 else 6) ∧ delT p T = del p T := by
        unfold delC delT
        exact ⟨if_pos hm, if_pos hm⟩
      exact this
    have HPl := Lib.hid (fun (W : World) (hb : Below w.heap.size w W) => placeT (h.later hb) hok hs)
    have HS := Lib.hid hs
    clear h hp hs hm hok
    go_enter Try.func21, Try.ntmps21
    go_wp2_with fail
    refine HR.out.mono ?_
    rintro e w1 ⟨rfl, hb1⟩
    obtain ⟨x0, x1⟩ := px_cells (HX.out.later hb1)
    have HX1 := Lib.hid (HX.out.later hb1)
    have HB1 := Lib.hid (below_of HA.out hb1)
    clear hb1
    go_wp2_with fail
    refine (HPl.out _ HB1.out).mono ?_
    rintro e w2 ⟨va, nv, L, rfl, hown, hts, hnt, hb2⟩
    obtain ⟨aa, ac, rfl⟩ := hown.form
    obtain ⟨na, rfl⟩ := hnt.ptr
    obtain ⟨y0, y1⟩ := px_cells (HX1.out.later hb2)
    have HX2 := Lib.hid (HX1.out.later hb2)
    have HB2 := Lib.hid (below_of HB1.out hb2)
    have HIs := Lib.hid (isT hnt p)
    rw [isN_at HOK.out HT.out.inv] at HIs
    have HLL : Hid (L.length ≤ 1000000) := by
      have h1 := hts.len
      have h2 := Tp.pth_len p T
      have h3 := HS.out
      have : L.length ≤ 1000000 := by omega
      exact this
    have HCy := Lib.hid (Chg.of_below [t] HB2.out)
    have HTw := Lib.hid (HT.out.later HB2.out)
    have HNE : Hid (w.heap.size ≠ t) := by
      have := HT.out.lt
      have : w.heap.size ≠ t := by omega
      exact this
    have HOW := Lib.hid hown
    have HTS := Lib.hid hts
    have HNT := Lib.hid hnt
    clear hown hts hnt hb2
    obtain ⟨m, hm⟩ : ∃ m, m = L.length := ⟨_, rfl⟩
    rw [← hm]
    rw [← hm] at HOW
    clear hm
    go_wp2_with fail
    refine HIs.out.mono ?_
    rintro e w3 ⟨rfl, hb3⟩
    have HX8 := Lib.hid (HX2.out.later hb3)
    have HT3 := Lib.hid (HTw.out.later hb3)
    have HOW8 := Lib.hid (HOW.out.later hb3)
    have HTS8 := Lib.hid (HTS.out.stay (Stay.of_below hb3))
    have HNT8 := Lib.hid (HNT.out.later hb3)
    have HC3 := Lib.hid (HCy.out.trans (Chg.of_below [t] hb3))
    obtain ⟨rv, hbt, _⟩ := HT3.out.blk
    obtain ⟨c0, c1, c2, c3⟩ := tr_cells hbt
    have ft := hbt.frozen 2
    have HBT3 := Lib.hid hbt
    clear hb3 hbt x0 x1 y0 y1 HX2 HOW HTS HNT HX1 HTw
    obtain ⟨isv, hisv⟩ : ∃ b, b = isAt T.el p := ⟨_, rfl⟩
    rw [← hisv]
    have HAt0 := Lib.hid hisv
    clear hisv
    cases isv with
    | false =>
    have HNot : Hid (¬ isAt T.el p = true) := by
      have h := HAt0.out
      have : ¬ isAt T.el p = true := by rw [← h]; decide
      exact this
    have HD : Hid (del p T = T ∨ True) := .inr trivial
    go_wp2_with fail
    go_ret
    refine ⟨by rw [HI.out.1, if_neg HNot.out]; rfl, ?_, HC3.out⟩
    rw [HI.out.2, Tp.del_same HOK.out HT.out.inv HNot.out]
    exact HT3.out
    | true =>
    have HAt : Hid (isAt T.el p = true) := HAt0.out.symm
    have HISN : Hid (isN p (pth p T).2 = true) := by
      have : isN p (pth p T).2 = true := by rw [isN_at HOK.out HT.out.inv]; exact HAt.out
      exact this
    have HPos : Hid (1 ≤ T.el.length) := by
      have h := HAt.out
      have : 1 ≤ T.el.length := by
        rcases Nat.eq_zero_or_pos T.el.length with h0 | h0
        · rw [List.length_eq_zero_iff.1 h0] at h; simp [isAt] at h
        · exact h0
      exact this
    have k2 : wrap64 ((T.el.length : Int) - 1) = ((T.el.length - 1 : Nat) : Int) := by
      rw [IntWalk.wrap64_in _ ⟨by omega, by have := HT.out.le; have := HT.out.hi; omega⟩]
      have := HPos.out; omega
    go_wp2_with fail
    rw [k2]
    have hbt8 : BlkAt 66 t (tc rv lim (T.el.length - 1)) (w3.setCell ⟨t, 2, none⟩ (.int .i64 ((T.el.length - 1 : Nat) : Int))) := HBT3.out.set 2 _
    have hc8 : Chg [t] w3 (w3.setCell ⟨t, 2, none⟩ (.int .i64 ((T.el.length - 1 : Nat) : Int))) := (Chg.refl [t] w3).set (by simp) _ _
    have hst8 := HT3.out.stay hc8
    have hx8 := HX8.out.other HNE.out 2 (.int .i64 ((T.el.length - 1 : Nat) : Int))
    obtain ⟨W8, hW8⟩ : ∃ W8, W8 = w3.setCell ⟨t, 2, none⟩ (.int .i64 ((T.el.length - 1 : Nat) : Int)) := ⟨_, rfl⟩
    rw [← hW8] at hbt8 hc8 hst8 hx8 ⊢
    have HBT8 := Lib.hid hbt8
    have HC8 := Lib.hid (HC3.out.trans hc8)
    have hOW := Lib.hid (HOW8.out.chg hc8 HBT3.out)
    have hTS := Lib.hid (HTS8.out.stay hst8)
    have hNT := Lib.hid (HNT8.out.stay hst8)
    clear HX8 HOW8 HTS8 HNT8
    have HX8 := Lib.hid hx8
    have HOW8 := hOW
    have HTS8 := hTS
    have HNT8 := hNT
    have HCnt : Hid ((del p T).el.length = T.el.length - 1) := by
      have : (del p T).el.length = T.el.length - 1 := by rw [Tp.del_el HOK.out T HT.out.inv, Tp.delE_len HT.out.inv.up, if_pos HAt.out]
      exact this
    have HCle : Hid (((T.el.length - 1 : Nat) : Int) ≤ lim) := by
      have := HT.out.le
      have : ((T.el.length - 1 : Nat) : Int) ≤ lim := by omega
      exact this
    clear hW8 hbt8 hc8 hst8 hx8 hOW hTS hNT c0 c1 c2 c3 ft k2 HBT3 HT3
    (refine wp_region_held_drew (S := (fun w' => w'.cell? ⟨w.heap.size, 0, none⟩ = some (.int .u32 p.1) ∧ w'.cell? ⟨w.heap.size, 1, none⟩ = some (.int .i64 p.2))) (by kernel_rfl) ?_ (fun hHeld => ?_); (focus ((try dsimp only); (exact px_cells HX8.out))))
    (refine wpAnyH_take (i := 0) (v := ?_) rfl (by kernel_rfl) (by kernel_rfl) (by kernel_rfl) (fun _ _ _ h => h) (Or.inl ⟨by rfl, ?_⟩) hHeld ?_; rotate_left; (focus (intro w hSw; (try dsimp only at hSw); go_simp; try with_reducible rfl)); (try simp only [Act.put, List.setIfInBounds_toArray, List.set_cons_zero, List.set_cons_succ, List.getElem_toArray, List.getElem_cons_zero])); (refine wpAnyH_take (i := 1) (v := ?_) rfl (by kernel_rfl) (by kernel_rfl) (by kernel_rfl) (fun _ _ _ h => h) (Or.inl ⟨by rfl, ?_⟩) hHeld ?_; rotate_left; (focus (intro w hSw; (try dsimp only at hSw); go_simp; try with_reducible rfl)); (try simp only [Act.put, List.setIfInBounds_toArray, List.set_cons_zero, List.set_cons_succ, List.getElem_toArray, List.getElem_cons_zero, List.getElem_cons_succ])); (refine wpAnyH_take (i := 2) (v := ?_) rfl (by kernel_rfl) (by kernel_rfl) (by kernel_rfl) (fun _ _ _ h => h) (Or.inl ⟨by rfl, ?_⟩) hHeld ?_; rotate_left; (focus (intro w hSw; (try dsimp only at hSw); go_simp; try with_reducible rfl)); (try simp only [Act.put, List.setIfInBounds_toArray, List.set_cons_zero, List.set_cons_succ, List.getElem_toArray, List.getElem_cons_zero, List.getElem_cons_succ])); (refine wpAnyH_take (i := 3) (v := ?_) rfl (by kernel_rfl) (by kernel_rfl) (by kernel_rfl) (fun _ _ _ h => h) (Or.inl ⟨by rfl, ?_⟩) hHeld ?_; rotate_left; (focus (intro w hSw; (try dsimp only at hSw); go_simp; try with_reducible rfl)); (try simp only [Act.put, List.setIfInBounds_toArray, List.set_cons_zero, List.set_cons_succ, List.getElem_toArray, List.getElem_cons_zero, List.getElem_cons_succ]))
    (refine wpAnyH_ready (rs := [4]) (by kernel_rfl) (by simp) ?_; refine AllReadyH.cons rfl (fun K hK => ?_) AllReadyH.nil; go_simp; refine (withoutA HISN.out (HNT8.out.later (Below.refl _ _).drew)).mono ?_; rintro e w9 ⟨u, rfl, hu, hs⟩; simp only []; obtain ⟨au, rfl⟩ := hu.ptr; refine hK.out _ _ ?_ (fun hHeldN => ?_); (focus ((try dsimp only); (exact ⟨cell_later hs hHeld.1, cell_later hs hHeld.2⟩))); clear hK K hHeld; have hHeld := hHeldN; clear hHeldN; (try simp only [Act.put, List.setIfInBounds_toArray, List.set_cons_zero, List.set_cons_succ, List.getElem_toArray, List.getElem_cons_zero, List.getElem_cons_succ]))
    have hs9 : Below W8.heap.size W8 w9 := (Below.refl _ _).drew.trans hs
    (refine wpAnyH_ready (rs := [5]) (by kernel_rfl) (by simp) ?_; refine AllReadyH.cons rfl (fun K hK => ?_) AllReadyH.nil; go_simp; refine (layT (HBT8.out.later hs9) ((HOW8.out.later hs9).down (Nat.zero_le _)) (HTS8.out.stay (Stay.of_below hs9)) (Tp.pth_inv HOK.out T HT.out.inv).2 hu p HLL.out).mono ?_; rintro e w10 ⟨⟨u, rfl⟩, ⟨vr, hbt, htr⟩, hc10⟩; simp only []; refine hK.out _ _ ?_ (fun hHeldN => ?_); (focus ((try dsimp only); (exact px_cells (hc10.blk (HX8.out.later hs9) (by simp; exact HNE.out))))); clear hK K hHeld; have hHeld := hHeldN; clear hHeldN; (try simp only [Act.put, List.setIfInBounds_toArray, List.set_cons_zero, List.set_cons_succ, List.getElem_toArray, List.getElem_cons_zero, List.getElem_cons_succ]))
    refine wpAnyH_done (by kernel_rfl) ?_ _
    have HC10 := Lib.hid ((HC8.out.trans (Chg.of_below [t] hs9)).trans hc10)
    have HE10 := Lib.hid (And.intro hbt htr)
    clear hHeld hs hs9 hbt htr hc10 hu
    go_wp2_with fail
    go_ret
    refine ⟨by rw [HI.out.1, if_pos HAt.out]; rfl, ?_, HC10.out⟩
    rw [HI.out.2]
    have hnew : del p T = Tp.lay p (pth p T).1 (bare (pth p T).2) := Tp.del_lay HOK.out T HT.out.inv HISN.out
    refine ⟨⟨vr, ?_, by rw [hnew]; exact HE10.out.2⟩, ?_, ?_, HT.out.hi⟩
    · rw [show (del p T).el.length = (T.el.length - 1) from HCnt.out]; exact HE10.out.1
    · exact Tp.del_inv p T HT.out.inv
    · rw [show (del p T).el.length = (T.el.length - 1) from HCnt.out]; exact HCle.out
  · rw [if_neg hm] at HR
    have HI : Hid (delC p T.el = 2 ∧ delT p T = T) := by
      have : delC p T.el = 2 ∧ delT p T = T := by
        unfold delC delT
        exact ⟨if_neg hm, if_neg hm⟩
      exact this
    clear h hp hs hm
    go_enter Try.func21, Try.ntmps21
    go_wp2_with fail
    refine HR.out.mono ?_
    rintro e w1 ⟨rfl, hb1⟩
    go_wp2_with fail
    go_ret
    refine ⟨by rw [HI.out.1]; rfl, ?_, Chg.of_below [t] (below_of HA.out hb1)⟩
    rw [HI.out.2]
    exact HT.out.later (below_of HA.out hb1)
end Go.Proofs.Ytbfkjdnopiadjaa
