/- A region that draws its order, in a round of a range over a function: by its plain walk. No function of the program in it.
   slices.Backward over nodes: the walk of what goes over them.
   trie's place: the walk. -/
import Derived.OwnWalk
import Derived.Laws.AppendOwnNone
import Derived.Laws.OwnMore
import Derived.Deep.LoopGhost
import Derived.RangeFuncNested
import Derived.RangeFuncBound
import Derived.RangeFuncCalls
import Derived.RangeFuncLeaves
import Derived.Shelf.Abstract
import Derived.Shelf.RegionOpen
import Derived.OwnWalkIn
import Derived.TacticsInMore
import Derived.LoopNIn
import Derived.LoopIn
import Derived.Test.YtbfkjdnopiadjaaZ02
import Derived.Test.YtbfkjdnopiadjaaZ05

set_option linter.unusedSimpArgs false
set_option linter.unusedVariables false
namespace Go.Proofs.Ytbfkjdnopiadjaa
open Go.RowKit
attribute [local go_sem ↓] Go.wp_at_zero Go.wp_at_succ
attribute [local go_sem ↓ high] eqP neP
open Tp (Pf Ok mn bit com Tr withN isN pth)

/-- Trees, in memory. -/
def TrsAt (w : World) : List Value → List Tr → Prop
  | [], [] => True
  | v :: L, t :: ts => TrAt w v t ∧ TrsAt w L ts
  | _, _ => False
theorem TrsAt.stay {w w' : World} (h : Stay w w') : ∀ {L : List Value} {ts : List Tr}, TrsAt w L ts → TrsAt w' L ts
  | [], [], _ => trivial
  | _ :: _, _ :: _, ⟨h1, h2⟩ => ⟨h1.stay h, TrsAt.stay h h2⟩
theorem TrsAt.snoc {w : World} {v : Value} {t : Tr} (hv : TrAt w v t) : ∀ {L : List Value} {ts : List Tr}, TrsAt w L ts → TrsAt w (L ++ [v]) (ts ++ [t])
  | [], [], _ => ⟨hv, trivial⟩
  | _ :: _, _ :: _, ⟨h1, h2⟩ => ⟨h1, TrsAt.snoc hv h2⟩
theorem TrsAt.len {w : World} : ∀ {L : List Value} {ts : List Tr}, TrsAt w L ts → L.length = ts.length
  | [], [], _ => rfl
  | _ :: _, _ :: _, ⟨_, h2⟩ => by simp [TrsAt.len h2]
theorem TrsAt.at {w : World} : ∀ {L : List Value} {ts : List Tr}, TrsAt w L ts → ∀ (i : Nat) (v : Value) (t : Tr), L[i]? = some v → ts[i]? = some t → TrAt w v t
  | v :: _, t :: _, ⟨h1, _⟩, 0, _, _, hv, ht => by simp at hv ht; subst hv; subst ht; exact h1
  | _ :: _, _ :: _, ⟨_, h2⟩, i + 1, _, _, hv, ht => TrsAt.at h2 i _ _ (by simpa using hv) (by simpa using ht)
/-- The value owns these addresses of nodes. -/
def OwnN (w : World) (B : Nat) (v : Value) (L : List Value) : Prop := w.ownsRow B 64 1 v L.length L
theorem OwnN.later {w w' : World} {B : Nat} {v : Value} {L : List Value} (h : OwnN w B v L) (hb : Below w.heap.size w w') : OwnN w' B v L := by
  obtain ⟨hl, h0 | ⟨g, cap, cur, rfl, hb1, hg, hr⟩⟩ := h
  · exact ⟨hl, .inl h0⟩
  · exact ⟨hl, .inr ⟨g, cap, cur, rfl, hb1, (hb.block g (Array.getElem?_eq_some_iff.1 hg).1).trans hg, hr⟩⟩
theorem OwnN.form {w : World} {B : Nat} {v : Value} {L : List Value} (h : OwnN w B v L) : ∃ a c, v = .slice a L.length c := by
  obtain ⟨_, ⟨rfl, h0⟩ | ⟨g, cap, cur, rfl, _⟩⟩ := h
  · rw [h0]; exact ⟨_, _, rfl⟩
  · exact ⟨_, _, rfl⟩
theorem OwnN.down {w : World} {B B' : Nat} {v : Value} {L : List Value} (h : OwnN w B v L) (hB : B' ≤ B) : OwnN w B' v L := by
  obtain ⟨hl, h0 | ⟨g, cap, cur, e, hb, h2⟩⟩ := h
  · exact ⟨hl, .inl h0⟩
  · exact ⟨hl, .inr ⟨g, cap, cur, e, Nat.le_trans hB hb, h2⟩⟩
theorem infoN : ∃ i0, Try.prog.info? 64 = some i0 ∧ i0.zero = some (.pointer none) ∧ i0.size = 1 ∧ i0.bytes = 8 := by
  have hi5 : (Try.prog.info? 64).map (fun i => (i.zero, i.size, i.bytes)) = some (some (.pointer none), 1, 8) := by kernel_rfl
  obtain ⟨i0, hi, hx⟩ := Option.map_eq_some_iff.1 hi5
  simp only [Prod.mk.injEq] at hx
  exact ⟨i0, hi, hx.1, hx.2.1, hx.2.2⟩
/-- append of whatever comes, by what its run leaves. -/
theorem wpList_appT {w : World} {ops : Array Oper} {rest : List Oper} {o : Oper} {a : Act} {Q : Exit → Act → World → Prop} (hgd : o.guard = none) (s x : Operand) (t t' : TypeId)
    (ho : o.op = .call { callee := .builtin .append, args := #[s, x], argTypes := #[t, t'] }) (v u : Value) (R : Value → World → Prop) (hs : a.eval s = v) (hx : a.eval x = u)
    (hr : ∀ ty, ∃ v' w', (Builtin.append_ #[t, t'] ty #[v, u]).run Try.prog w = .ok v' w' ∧ R v' w') (h : ∀ v' w', R v' w' → wpList Try.prog ops Q rest (a.put o.dst v') w') : wpList Try.prog ops Q (o :: rest) a w :=
  wpList_plain hgd fun K hK => by
    obtain ⟨v', w', hr, h2⟩ := hr o.type
    unfold Oper.wp execOp
    simp only [ho, resolve, invoke, builtin, Sem.run_bind, Sem.run_pure, Result.andThen_ok, List.map_toArray, List.map_cons, List.map_nil, hs, hx, hr]
    exact hK _ _ (h v' w' h2)
theorem run_appN (w : World) (B : Nat) (v : Value) (L : List Value) (u : Value) (ad : Option Addr) (hu : u = .pointer ad) (g : Nat) (h : OwnN w B v L) (hc0 : w.cell? ⟨g, 0, none⟩ = some u)
    (hn : L.length ≤ 2000000) (hB : B ≤ w.heap.size) (ty : TypeId) :
    ∃ v' w', (Builtin.append_ #[78, 78] ty #[v, .slice (some ⟨g, 0, none⟩) 1 1]).run Try.prog w = .ok v' w' ∧ (OwnN w' B v' (L ++ [u]) ∧ Below B w w') := by
  obtain ⟨i0, hi, hz0, hz1, hz2⟩ := infoN
  obtain ⟨v', w', h1, h2, h3, _⟩ := run_append_own (P := Try.prog) (w := w) B 78 ty 64 i0 _ 1 8 Try.underlying78 hi hz0 hz1 hz2 rfl (by decide) v L.length _ h ⟨g, 0, none⟩ 1 1 [u] rfl
    (fun j x hx => by
      match j, hx with
      | 0, hx => simp at hx; subst hx; simpa [Addr.add] using hc0)
    (by intro x hx; simp at hx; subst hx; subst hu; rfl) (by unfold maxLen; omega) (by omega) hB
  refine ⟨v', w', h1, ?_, (Below.refl B w).grown h3 hB (fun j hj => (World.ownsRow.lt h j hj).1)⟩
  show World.ownsRow _ _ _ _ _ _ _
  rw [List.length_append]; exact h2

set_option maxHeartbeats 4000000 in
set_option maxRecDepth 100000 in
theorem placeT {t : Nat} {lim : Int} {T : Tr} {w : World} (h : TSt t lim T w) {p : Pf} (hp : Ok p) (hs : T.size ≤ 1000000) :
    Calls Try.prog 43 #[.pointer (some ⟨t, 0, none⟩), .agg #[.int .u32 p.1, .int .i64 p.2]] w fun e w' => ∃ v n L, e = .returned (.tuple #[v, n]) ∧ OwnN w' w.heap.size v L ∧ TrsAt w' L (pth p T).1 ∧ TrAt w' n (pth p T).2 ∧ Below w.heap.size w w' := by
  obtain ⟨rv, hb, ht⟩ := h.blk
  have hbl := hb.lt
  obtain ⟨c0, _, _, _⟩ := tr_cells hb
  have HT := Lib.hid ht
  obtain ⟨ra, rfl⟩ := ht.ptr
  have hinv := Lib.hid h.inv
  have HS := Lib.hid hs
  clear hb ht h hs
  go_enter Try.func43, Try.ntmps43
  have hbx := BlkAt.new w (t := 37) [.int .u32 p.1, .int .i64 p.2]
  have hB1 := ba1 w (.cells #[.int .u32 p.1, .int .i64 p.2] 37)
  go_wp2_with fail
  go_step3
  go_wp2_with fail
  obtain ⟨W, hW⟩ : ∃ W, W = w.alloc (.cells #[.int .u32 p.1, .int .i64 p.2] 37) := ⟨_, rfl⟩
  have eW : w.alloc (.cells [Value.int .u32 p.1, .int .i64 p.2].toArray 37) = W := hW.symm
  rw [eW] at hbx
  rw [← hW] at hB1 ⊢
  clear hW eW c0 hbl
  have HB := Lib.hid hB1
  have HX := Lib.hid hbx
  have HTW := Lib.hid (HT.out.later hB1)
  clear hB1 hbx
  go_step3
  go_wp2_with fail
  go_loopg [4, 5] (T.size + 1) (fun k x n wr => ∃ (L : List Value) (ts : List Tr) (S : Tr) (a : Option Addr), n = .pointer a ∧ k = S.size + 1 ∧ Hid (OwnN wr W.heap.size x L) ∧ Hid (TrsAt W L ts) ∧ Hid (TrAt W n S) ∧ Hid (S.Inv) ∧ Hid (pth p T = (ts ++ (pth p S).1, (pth p S).2)) ∧ Hid (Below W.heap.size W wr) ∧ L.length + S.size ≤ T.size)
  case atStart => exact ⟨[], [], T, ra, rfl, rfl, World.ownsRow_nil _ _ _ _, trivial, HTW.out, hinv.out, rfl, Below.refl _ _, by simp⟩
  case round =>
    obtain ⟨L, ts, S, a, rfl, rfl, HO, HTs, HS', HI, HP, HBr, HLn⟩ := hrel
    have HBw : Hid (Below w.heap.size w wr) := below_of HB.out HBr.out
    cases S with
    | nil =>
      have ha : a = none := by
        have : Value.pointer a = .pointer none := HS'.out
        injection this
      subst ha
      have HPn : Hid ((pth p T).1 = ts ∧ (pth p T).2 = .nil) := by
        have := HP.out
        rw [this]
        exact ⟨List.append_nil _, rfl⟩
      go_wp2_with fail
      rw [Exit.noGoto_ret]
      go_ret2
      exact ⟨_, _, L, rfl, HO.out.down HB.out.size, by rw [HPn.out.1]; exact HTs.out.stay (Stay.of_below HBr.out), by rw [HPn.out.2]; rfl, HBw.out⟩
    | node q o l r =>
      obtain ⟨b, vl, vr, ha, hnb, hl, hr⟩ := HS'.out
      injection ha with ha
      subst ha
      have hq := HI.out.1
      have HM := Lib.hid (fun (W' : World) => meetT hp hq W')
      have HNB := Lib.hid hnb
      have HLR := Lib.hid (And.intro hl hr)
      have HQ := Lib.hid hq
      have HPth : Hid (pth p (.node q o l r) = if com p q = p then ([], .node q o l r) else if com p q = q then (if bit p.1 q.2 = 0 then (.node q o l r :: (pth p l).1, (pth p l).2) else (.node q o l r :: (pth p r).1, (pth p r).2)) else ([], .node q o l r)) := (rfl : pth p (.node q o l r) = _)
      have HBel : Hid (com p q ≠ p → com p q = q → 0 ≤ q.2 ∧ q.2 ≤ 31) := by
        have : com p q ≠ p → com p q = q → 0 ≤ q.2 ∧ q.2 ≤ 31 := fun h1 h2 =>
          ⟨hq.n0, (Tp.Bel.of hq hp (Tp.wi_of_com hp hq h2) (fun e => h1 (h2.trans e))).n31⟩
        exact this
      obtain ⟨c, hc⟩ : ∃ c, c = com p q := ⟨_, rfl⟩
      rw [← hc] at HM HPth HBel
      clear hc hnb hl hr hq
      obtain ⟨m, hm⟩ : ∃ m, m = L.length := ⟨_, rfl⟩
      obtain ⟨A, cp, hu4⟩ := HO.out.form
      rw [← hm] at hu4
      subst hu4
      have HMM := Lib.hid hm
      clear hm
      go_wp2_with fail
      (refine wp_region_held_drew (S := (fun w' => Below W.heap.size W w')) (by kernel_rfl) ?_ (fun hHeld => ?_); (focus ((try dsimp only); (exact HBr.out.drew))))
      (refine wpAnyH_take (i := 0) (v := ?_) rfl (by kernel_rfl) (by kernel_rfl) (by kernel_rfl) (fun _ _ _ h => h) (Or.inl ⟨by rfl, ?_⟩) hHeld ?_; rotate_left; (focus (intro w hSw; (try dsimp only at hSw); go_simp; (obtain ⟨x0, x1⟩ := px_cells (HX.out.later hSw); go_simp; try with_reducible rfl))); (try simp only [Act.put, List.setIfInBounds_toArray, List.set_cons_zero, List.set_cons_succ, List.getElem_toArray, List.getElem_cons_zero]))
      (refine wpAnyH_take (i := 1) (v := ?_) rfl (by kernel_rfl) (by kernel_rfl) (by kernel_rfl) (fun _ _ _ h => h) (Or.inl ⟨by rfl, ?_⟩) hHeld ?_; rotate_left; (focus (intro w hSw; (try dsimp only at hSw); go_simp; try with_reducible rfl)); (try simp only [Act.put, List.setIfInBounds_toArray, List.set_cons_zero, List.set_cons_succ, List.getElem_toArray, List.getElem_cons_zero, List.getElem_cons_succ])); (refine wpAnyH_take (i := 2) (v := ?_) rfl (by kernel_rfl) (by kernel_rfl) (by kernel_rfl) (fun _ _ _ h => h) (Or.inl ⟨by rfl, ?_⟩) hHeld ?_; rotate_left; (focus (intro w hSw; (try dsimp only at hSw); go_simp; try with_reducible rfl)); (try simp only [Act.put, List.setIfInBounds_toArray, List.set_cons_zero, List.set_cons_succ, List.getElem_toArray, List.getElem_cons_zero, List.getElem_cons_succ])); (refine wpAnyH_take (i := 3) (v := ?_) rfl (by kernel_rfl) (by kernel_rfl) (by kernel_rfl) (fun _ _ _ h => h) (Or.inl ⟨by rfl, ?_⟩) hHeld ?_; rotate_left; (focus (intro w hSw; (try dsimp only at hSw); go_simp; try with_reducible rfl)); (try simp only [Act.put, List.setIfInBounds_toArray, List.set_cons_zero, List.set_cons_succ, List.getElem_toArray, List.getElem_cons_zero, List.getElem_cons_succ]))
      (refine wpAnyH_take (i := 4) (v := ?_) rfl (by kernel_rfl) (by kernel_rfl) (by kernel_rfl) (fun _ _ _ h => h) (Or.inl ⟨by rfl, ?_⟩) hHeld ?_; rotate_left; (focus (intro w hSw; (try dsimp only at hSw); go_simp; (obtain ⟨x0, x1, _⟩ := nd_cells (HNB.out.later hSw); go_simp; try with_reducible rfl))); (try simp only [Act.put, List.setIfInBounds_toArray, List.set_cons_zero, List.set_cons_succ, List.getElem_toArray, List.getElem_cons_zero, List.getElem_cons_succ]))
      (refine wpAnyH_ready (rs := [5]) (by kernel_rfl) (by simp) ?_; refine AllReadyH.cons rfl (fun K hK => ?_) AllReadyH.nil; go_simp; refine (HM.out _).mono ?_; rintro e w5 ⟨rfl, hs⟩; simp only [pv]; refine hK.out _ _ ?_ (fun hHeldN => ?_); (focus ((try dsimp only); (exact hHeld.trans (hs.mono hHeld.size)))); clear hK K hHeld; have hHeld := hHeldN; clear hHeldN; (try simp only [Act.put, List.setIfInBounds_toArray, List.set_cons_zero, List.set_cons_succ, List.getElem_toArray, List.getElem_cons_zero, List.getElem_cons_succ]))
      refine wpAnyH_done (by kernel_rfl) ?_ _
      have HB5 := Lib.hid hHeld
      have hs5 : Below wr.heap.size wr w5 := (Below.refl _ _).drew.trans hs
      have HOw := Lib.hid (HO.out.later hs5)
      have HTs5 := Lib.hid (HTs.out.stay (Stay.of_below hHeld))
      have HBw5 := Lib.hid (below_of HB.out hHeld)
      obtain ⟨z0, z1⟩ := px_cells (HX.out.later hHeld)
      obtain ⟨q0, q1, q2, q3, q4, q5⟩ := nd_cells (HNB.out.later hHeld)
      clear hs hs5 hHeld HO HBw
      by_cases e1 : c = p
      · have k1 := sameP_yes e1
        have HPn : Hid ((pth p T).1 = ts ∧ (pth p T).2 = .node q o l r) := by
          have := HP.out
          rw [HPth.out, if_pos e1] at this
          rw [this]
          exact ⟨List.append_nil _, rfl⟩
        clear e1
        go_wp2_with fail
        rw [Exit.noGoto_ret]
        go_ret2
        exact ⟨_, _, L, rfl, HOw.out.down HB.out.size, by rw [HPn.out.1]; exact HTs5.out, by rw [HPn.out.2]; exact TrAt.later HS'.out HB5.out, HBw5.out⟩
      · by_cases e2 : c = q
        · have k1 := sameP_no e1
          have k2 := sameP_yes e2
          have HPq : Hid (pth p T = (ts ++ (if bit p.1 q.2 = 0 then (.node q o l r :: (pth p l).1, (pth p l).2) else (.node q o l r :: (pth p r).1, (pth p r).2)).1, (if bit p.1 q.2 = 0 then (.node q o l r :: (pth p l).1, (pth p l).2) else (.node q o l r :: (pth p r).1, (pth p r).2)).2)) := by
            have := HP.out
            rw [HPth.out, if_neg e1, if_pos e2] at this
            exact this
          have hbel := HBel.out e1 e2
          have HBe := Lib.hid hbel
          clear e1 e2 hbel
          rcases Tp.bit_or p.1 q.2 with hbit | hbit
          · have HBi := Lib.hid hbit
            have HPn : Hid (pth p T = ((ts ++ [.node q o l r]) ++ (pth p l).1, (pth p l).2)) := by
              have := HPq.out
              rw [if_pos hbit] at this
              rw [this, List.append_assoc]; rfl
            obtain ⟨a2, ha2⟩ := HLR.out.1.ptr
            have HCh : Hid (TrAt W (.pointer a2) l) := by
              have := HLR.out.1
              rw [ha2] at this
              exact this
            rw [ha2] at q4
            have HCe := Lib.hid ha2
            have HApp : Hid (∀ ty, ∃ v' w', (Builtin.append_ #[78, 78] ty #[.slice A m cp, .slice (some ⟨w5.heap.size, 0, none⟩) 1 1]).run Try.prog (w5.alloc (.cells #[.pointer (some ⟨b, 0, none⟩)] 64)) = .ok v' w' ∧ (OwnN w' W.heap.size v' (L ++ [.pointer (some ⟨b, 0, none⟩)]) ∧ Below W.heap.size (w5.alloc (.cells #[.pointer (some ⟨b, 0, none⟩)] 64)) w')) :=
              run_appN _ W.heap.size _ L (.pointer (some ⟨b, 0, none⟩)) _ rfl _ (HOw.out.later (ba1 _ _)) ((BlkAt.new w5 (t := 64) [.pointer (some ⟨b, 0, none⟩)]).cell (j := 0) rfl) (by have := HS.out; omega) (by have := HB5.out.size; simp; omega)
            clear hbit HPq HLR ha2 q2 q3
            go_wp2_with (at_builtin; refine wpList_appT rfl (.tmp 27) (.tmp 29) _ _ rfl (.slice A m cp) (.slice (some ⟨w5.heap.size, 0, none⟩) 1 1) (fun v' w' => OwnN w' W.heap.size v' (L ++ [Value.pointer (some ⟨b, 0, none⟩)]) ∧ Below W.heap.size (w5.alloc (.cells #[.pointer (some ⟨b, 0, none⟩)] 64)) w') rfl rfl HApp.out ?_; intro v' w6 hc)
            have hb6 : Below W.heap.size W w6 := (HB5.out.alloc HB5.out.size _).trans hc.2
            have HB6 := Lib.hid hb6
            obtain ⟨A2, c2, hv'⟩ := hc.1.form
            obtain ⟨m2, hm2⟩ : ∃ m2, m2 = (L ++ [Value.pointer (some ⟨b, 0, none⟩)]).length := ⟨_, rfl⟩
            rw [← hm2] at hv'
            subst hv'
            have HO6 := Lib.hid hc.1
            clear hm2 hc hb6 k1 k2 q0 q1 q4 q5 z0 z1
            go_wp2_with fail
            (refine wp_region_held_drew (S := (fun w' => Below W.heap.size W w')) (by kernel_rfl) ?_ (fun hHeld => ?_); (focus ((try dsimp only); (exact HB6.out.drew))))
            (refine wpAnyH_take (i := 0) (v := ?_) rfl (by kernel_rfl) (by kernel_rfl) (by kernel_rfl) (fun _ _ _ h => h) (Or.inl ⟨by rfl, ?_⟩) hHeld ?_; rotate_left; (focus (intro w hSw; (try dsimp only at hSw); go_simp; try with_reducible rfl)); (try simp only [Act.put, List.setIfInBounds_toArray, List.set_cons_zero, List.set_cons_succ, List.getElem_toArray, List.getElem_cons_zero]))
            (refine wpAnyH_take (i := 1) (v := ?_) rfl (by kernel_rfl) (by kernel_rfl) (by kernel_rfl) (fun _ _ _ h => h) (Or.inl ⟨by rfl, ?_⟩) hHeld ?_; rotate_left; (focus (intro w hSw; (try dsimp only at hSw); go_simp; (obtain ⟨x0, x1⟩ := px_cells (HX.out.later hSw); go_simp; try with_reducible rfl))); (try simp only [Act.put, List.setIfInBounds_toArray, List.set_cons_zero, List.set_cons_succ, List.getElem_toArray, List.getElem_cons_zero, List.getElem_cons_succ]))
            (refine wpAnyH_take (i := 2) (v := ?_) rfl (by kernel_rfl) (by kernel_rfl) (by kernel_rfl) (fun _ _ _ h => h) (Or.inl ⟨by rfl, ?_⟩) hHeld ?_; rotate_left; (focus (intro w hSw; (try dsimp only at hSw); go_simp; try with_reducible rfl)); (try simp only [Act.put, List.setIfInBounds_toArray, List.set_cons_zero, List.set_cons_succ, List.getElem_toArray, List.getElem_cons_zero, List.getElem_cons_succ])); (refine wpAnyH_take (i := 3) (v := ?_) rfl (by kernel_rfl) (by kernel_rfl) (by kernel_rfl) (fun _ _ _ h => h) (Or.inl ⟨by rfl, ?_⟩) hHeld ?_; rotate_left; (focus (intro w hSw; (try dsimp only at hSw); go_simp; try with_reducible rfl)); (try simp only [Act.put, List.setIfInBounds_toArray, List.set_cons_zero, List.set_cons_succ, List.getElem_toArray, List.getElem_cons_zero, List.getElem_cons_succ])); (refine wpAnyH_take (i := 4) (v := ?_) rfl (by kernel_rfl) (by kernel_rfl) (by kernel_rfl) (fun _ _ _ h => h) (Or.inl ⟨by rfl, ?_⟩) hHeld ?_; rotate_left; (focus (intro w hSw; (try dsimp only at hSw); go_simp; try with_reducible rfl)); (try simp only [Act.put, List.setIfInBounds_toArray, List.set_cons_zero, List.set_cons_succ, List.getElem_toArray, List.getElem_cons_zero, List.getElem_cons_succ])); (refine wpAnyH_take (i := 5) (v := ?_) rfl (by kernel_rfl) (by kernel_rfl) (by kernel_rfl) (fun _ _ _ h => h) (Or.inl ⟨by rfl, ?_⟩) hHeld ?_; rotate_left; (focus (intro w hSw; (try dsimp only at hSw); go_simp; try with_reducible rfl)); (try simp only [Act.put, List.setIfInBounds_toArray, List.set_cons_zero, List.set_cons_succ, List.getElem_toArray, List.getElem_cons_zero, List.getElem_cons_succ]))
            (refine wpAnyH_take (i := 6) (v := ?_) rfl (by kernel_rfl) (by kernel_rfl) (by kernel_rfl) (fun _ _ _ h => h) (Or.inl ⟨by rfl, ?_⟩) hHeld ?_; rotate_left; (focus (intro w hSw; (try dsimp only at hSw); go_simp; (obtain ⟨x0, x1, _⟩ := nd_cells (HNB.out.later hSw); go_simp; try with_reducible rfl))); (try simp only [Act.put, List.setIfInBounds_toArray, List.set_cons_zero, List.set_cons_succ, List.getElem_toArray, List.getElem_cons_zero, List.getElem_cons_succ]))
            (refine wpAnyH_take (i := 8) (v := ?_) rfl (by kernel_rfl) (by kernel_rfl) (by kernel_rfl) (fun _ _ _ h => h) (Or.inl ⟨by rfl, ?_⟩) hHeld ?_; rotate_left; (focus (intro w hSw; (try dsimp only at hSw); go_simp; try with_reducible rfl)); (try simp only [Act.put, List.setIfInBounds_toArray, List.set_cons_zero, List.set_cons_succ, List.getElem_toArray, List.getElem_cons_zero, List.getElem_cons_succ])); (refine wpAnyH_take (i := 9) (v := ?_) rfl (by kernel_rfl) (by kernel_rfl) (by kernel_rfl) (fun _ _ _ h => h) (Or.inl ⟨by rfl, ?_⟩) hHeld ?_; rotate_left; (focus (intro w hSw; (try dsimp only at hSw); go_simp; try with_reducible rfl)); (try simp only [Act.put, List.setIfInBounds_toArray, List.set_cons_zero, List.set_cons_succ, List.getElem_toArray, List.getElem_cons_zero, List.getElem_cons_succ]))
            (refine wpAnyH_ready (rs := [7]) (by kernel_rfl) (by simp) ?_; refine AllReadyH.cons rfl (fun K hK => ?_) AllReadyH.nil; go_simp; refine (sideI HBe.out.1 HBe.out.2 HBi.out _).mono ?_; rintro e w7 ⟨rfl, hs⟩; simp only []; refine hK.out _ _ ?_ (fun hHeldN => ?_); (focus ((try dsimp only); (exact hHeld.trans (hs.mono hHeld.size)))); clear hK K hHeld; have hHeld := hHeldN; clear hHeldN; (try simp only [Act.put, List.setIfInBounds_toArray, List.set_cons_zero, List.set_cons_succ, List.getElem_toArray, List.getElem_cons_zero, List.getElem_cons_succ]))
            (refine wpAnyH_take (i := 10) (v := ?_) rfl (by kernel_rfl) (by kernel_rfl) (by kernel_rfl) (fun _ _ _ h => h) (Or.inl ⟨by rfl, ?_⟩) hHeld ?_; rotate_left; (focus (intro w hSw; (try dsimp only at hSw); go_simp; try with_reducible rfl)); (try simp only [Act.put, List.setIfInBounds_toArray, List.set_cons_zero, List.set_cons_succ, List.getElem_toArray, List.getElem_cons_zero, List.getElem_cons_succ]))
            (refine wpAnyH_take (i := 11) (v := ?_) rfl (by kernel_rfl) (by kernel_rfl) (by kernel_rfl) (fun _ _ _ h => h) (Or.inl ⟨by rfl, ?_⟩) hHeld ?_; rotate_left; (focus (intro w hSw; (try dsimp only at hSw); go_simp; (obtain ⟨_, _, _, _, x4, x5⟩ := nd_cells (HNB.out.later hSw); rw [HCe.out] at x4; go_simp; try with_reducible rfl))); (try simp only [Act.put, List.setIfInBounds_toArray, List.set_cons_zero, List.set_cons_succ, List.getElem_toArray, List.getElem_cons_zero, List.getElem_cons_succ]))
            (refine wpAnyH_take (i := 12) (v := ?_) rfl (by kernel_rfl) (by kernel_rfl) (by kernel_rfl) (fun _ _ _ h => h) (Or.inl ⟨by rfl, ?_⟩) hHeld ?_; rotate_left; (focus (intro w hSw; (try dsimp only at hSw); go_simp; try with_reducible rfl)); (try simp only [Act.put, List.setIfInBounds_toArray, List.set_cons_zero, List.set_cons_succ, List.getElem_toArray, List.getElem_cons_zero, List.getElem_cons_succ]))
            refine wpAnyH_done (by kernel_rfl) ?_ _
            have HO7 := Lib.hid (HO6.out.later ((Below.refl _ _).drew.trans hs))
            have HB7 := Lib.hid hHeld
            clear hs hHeld
            go_wp2_with fail
            go_roundg (l.size + 1)
            case measure => simp only [Tr.size]; omega
            case rel => exact ⟨L ++ [Value.pointer (some ⟨b, 0, none⟩)], ts ++ [Tr.node q o l r], l, a2, rfl, rfl, HO7.out, HTs.out.snoc HS'.out, HCh.out, HI.out.2.2.2.2.1, HPn.out, HB7.out, by simp only [List.length_append, List.length_cons, List.length_nil]; simp only [Tr.size] at HLn; omega⟩
          · have HBi := Lib.hid hbit
            have HPn : Hid (pth p T = ((ts ++ [.node q o l r]) ++ (pth p r).1, (pth p r).2)) := by
              have := HPq.out
              rw [if_neg (by rw [hbit]; decide)] at this
              rw [this, List.append_assoc]; rfl
            obtain ⟨a2, ha2⟩ := HLR.out.2.ptr
            have HCh : Hid (TrAt W (.pointer a2) r) := by
              have := HLR.out.2
              rw [ha2] at this
              exact this
            rw [ha2] at q5
            have HCe := Lib.hid ha2
            have HApp : Hid (∀ ty, ∃ v' w', (Builtin.append_ #[78, 78] ty #[.slice A m cp, .slice (some ⟨w5.heap.size, 0, none⟩) 1 1]).run Try.prog (w5.alloc (.cells #[.pointer (some ⟨b, 0, none⟩)] 64)) = .ok v' w' ∧ (OwnN w' W.heap.size v' (L ++ [.pointer (some ⟨b, 0, none⟩)]) ∧ Below W.heap.size (w5.alloc (.cells #[.pointer (some ⟨b, 0, none⟩)] 64)) w')) :=
              run_appN _ W.heap.size _ L (.pointer (some ⟨b, 0, none⟩)) _ rfl _ (HOw.out.later (ba1 _ _)) ((BlkAt.new w5 (t := 64) [.pointer (some ⟨b, 0, none⟩)]).cell (j := 0) rfl) (by have := HS.out; omega) (by have := HB5.out.size; simp; omega)
            clear hbit HPq HLR ha2 q2 q3
            go_wp2_with (at_builtin; refine wpList_appT rfl (.tmp 27) (.tmp 29) _ _ rfl (.slice A m cp) (.slice (some ⟨w5.heap.size, 0, none⟩) 1 1) (fun v' w' => OwnN w' W.heap.size v' (L ++ [Value.pointer (some ⟨b, 0, none⟩)]) ∧ Below W.heap.size (w5.alloc (.cells #[.pointer (some ⟨b, 0, none⟩)] 64)) w') rfl rfl HApp.out ?_; intro v' w6 hc)
            have hb6 : Below W.heap.size W w6 := (HB5.out.alloc HB5.out.size _).trans hc.2
            have HB6 := Lib.hid hb6
            obtain ⟨A2, c2, hv'⟩ := hc.1.form
            obtain ⟨m2, hm2⟩ : ∃ m2, m2 = (L ++ [Value.pointer (some ⟨b, 0, none⟩)]).length := ⟨_, rfl⟩
            rw [← hm2] at hv'
            subst hv'
            have HO6 := Lib.hid hc.1
            clear hm2 hc hb6 k1 k2 q0 q1 q4 q5 z0 z1
            go_wp2_with fail
            (refine wp_region_held_drew (S := (fun w' => Below W.heap.size W w')) (by kernel_rfl) ?_ (fun hHeld => ?_); (focus ((try dsimp only); (exact HB6.out.drew))))
            (refine wpAnyH_take (i := 0) (v := ?_) rfl (by kernel_rfl) (by kernel_rfl) (by kernel_rfl) (fun _ _ _ h => h) (Or.inl ⟨by rfl, ?_⟩) hHeld ?_; rotate_left; (focus (intro w hSw; (try dsimp only at hSw); go_simp; try with_reducible rfl)); (try simp only [Act.put, List.setIfInBounds_toArray, List.set_cons_zero, List.set_cons_succ, List.getElem_toArray, List.getElem_cons_zero]))
            (refine wpAnyH_take (i := 1) (v := ?_) rfl (by kernel_rfl) (by kernel_rfl) (by kernel_rfl) (fun _ _ _ h => h) (Or.inl ⟨by rfl, ?_⟩) hHeld ?_; rotate_left; (focus (intro w hSw; (try dsimp only at hSw); go_simp; (obtain ⟨x0, x1⟩ := px_cells (HX.out.later hSw); go_simp; try with_reducible rfl))); (try simp only [Act.put, List.setIfInBounds_toArray, List.set_cons_zero, List.set_cons_succ, List.getElem_toArray, List.getElem_cons_zero, List.getElem_cons_succ]))
            (refine wpAnyH_take (i := 2) (v := ?_) rfl (by kernel_rfl) (by kernel_rfl) (by kernel_rfl) (fun _ _ _ h => h) (Or.inl ⟨by rfl, ?_⟩) hHeld ?_; rotate_left; (focus (intro w hSw; (try dsimp only at hSw); go_simp; try with_reducible rfl)); (try simp only [Act.put, List.setIfInBounds_toArray, List.set_cons_zero, List.set_cons_succ, List.getElem_toArray, List.getElem_cons_zero, List.getElem_cons_succ])); (refine wpAnyH_take (i := 3) (v := ?_) rfl (by kernel_rfl) (by kernel_rfl) (by kernel_rfl) (fun _ _ _ h => h) (Or.inl ⟨by rfl, ?_⟩) hHeld ?_; rotate_left; (focus (intro w hSw; (try dsimp only at hSw); go_simp; try with_reducible rfl)); (try simp only [Act.put, List.setIfInBounds_toArray, List.set_cons_zero, List.set_cons_succ, List.getElem_toArray, List.getElem_cons_zero, List.getElem_cons_succ])); (refine wpAnyH_take (i := 4) (v := ?_) rfl (by kernel_rfl) (by kernel_rfl) (by kernel_rfl) (fun _ _ _ h => h) (Or.inl ⟨by rfl, ?_⟩) hHeld ?_; rotate_left; (focus (intro w hSw; (try dsimp only at hSw); go_simp; try with_reducible rfl)); (try simp only [Act.put, List.setIfInBounds_toArray, List.set_cons_zero, List.set_cons_succ, List.getElem_toArray, List.getElem_cons_zero, List.getElem_cons_succ])); (refine wpAnyH_take (i := 5) (v := ?_) rfl (by kernel_rfl) (by kernel_rfl) (by kernel_rfl) (fun _ _ _ h => h) (Or.inl ⟨by rfl, ?_⟩) hHeld ?_; rotate_left; (focus (intro w hSw; (try dsimp only at hSw); go_simp; try with_reducible rfl)); (try simp only [Act.put, List.setIfInBounds_toArray, List.set_cons_zero, List.set_cons_succ, List.getElem_toArray, List.getElem_cons_zero, List.getElem_cons_succ]))
            (refine wpAnyH_take (i := 6) (v := ?_) rfl (by kernel_rfl) (by kernel_rfl) (by kernel_rfl) (fun _ _ _ h => h) (Or.inl ⟨by rfl, ?_⟩) hHeld ?_; rotate_left; (focus (intro w hSw; (try dsimp only at hSw); go_simp; (obtain ⟨x0, x1, _⟩ := nd_cells (HNB.out.later hSw); go_simp; try with_reducible rfl))); (try simp only [Act.put, List.setIfInBounds_toArray, List.set_cons_zero, List.set_cons_succ, List.getElem_toArray, List.getElem_cons_zero, List.getElem_cons_succ]))
            (refine wpAnyH_take (i := 8) (v := ?_) rfl (by kernel_rfl) (by kernel_rfl) (by kernel_rfl) (fun _ _ _ h => h) (Or.inl ⟨by rfl, ?_⟩) hHeld ?_; rotate_left; (focus (intro w hSw; (try dsimp only at hSw); go_simp; try with_reducible rfl)); (try simp only [Act.put, List.setIfInBounds_toArray, List.set_cons_zero, List.set_cons_succ, List.getElem_toArray, List.getElem_cons_zero, List.getElem_cons_succ])); (refine wpAnyH_take (i := 9) (v := ?_) rfl (by kernel_rfl) (by kernel_rfl) (by kernel_rfl) (fun _ _ _ h => h) (Or.inl ⟨by rfl, ?_⟩) hHeld ?_; rotate_left; (focus (intro w hSw; (try dsimp only at hSw); go_simp; try with_reducible rfl)); (try simp only [Act.put, List.setIfInBounds_toArray, List.set_cons_zero, List.set_cons_succ, List.getElem_toArray, List.getElem_cons_zero, List.getElem_cons_succ]))
            (refine wpAnyH_ready (rs := [7]) (by kernel_rfl) (by simp) ?_; refine AllReadyH.cons rfl (fun K hK => ?_) AllReadyH.nil; go_simp; refine (sideI HBe.out.1 HBe.out.2 HBi.out _).mono ?_; rintro e w7 ⟨rfl, hs⟩; simp only []; refine hK.out _ _ ?_ (fun hHeldN => ?_); (focus ((try dsimp only); (exact hHeld.trans (hs.mono hHeld.size)))); clear hK K hHeld; have hHeld := hHeldN; clear hHeldN; (try simp only [Act.put, List.setIfInBounds_toArray, List.set_cons_zero, List.set_cons_succ, List.getElem_toArray, List.getElem_cons_zero, List.getElem_cons_succ]))
            (refine wpAnyH_take (i := 10) (v := ?_) rfl (by kernel_rfl) (by kernel_rfl) (by kernel_rfl) (fun _ _ _ h => h) (Or.inl ⟨by rfl, ?_⟩) hHeld ?_; rotate_left; (focus (intro w hSw; (try dsimp only at hSw); go_simp; try with_reducible rfl)); (try simp only [Act.put, List.setIfInBounds_toArray, List.set_cons_zero, List.set_cons_succ, List.getElem_toArray, List.getElem_cons_zero, List.getElem_cons_succ]))
            (refine wpAnyH_take (i := 11) (v := ?_) rfl (by kernel_rfl) (by kernel_rfl) (by kernel_rfl) (fun _ _ _ h => h) (Or.inl ⟨by rfl, ?_⟩) hHeld ?_; rotate_left; (focus (intro w hSw; (try dsimp only at hSw); go_simp; (obtain ⟨_, _, _, _, x4, x5⟩ := nd_cells (HNB.out.later hSw); rw [HCe.out] at x5; go_simp; try with_reducible rfl))); (try simp only [Act.put, List.setIfInBounds_toArray, List.set_cons_zero, List.set_cons_succ, List.getElem_toArray, List.getElem_cons_zero, List.getElem_cons_succ]))
            (refine wpAnyH_take (i := 12) (v := ?_) rfl (by kernel_rfl) (by kernel_rfl) (by kernel_rfl) (fun _ _ _ h => h) (Or.inl ⟨by rfl, ?_⟩) hHeld ?_; rotate_left; (focus (intro w hSw; (try dsimp only at hSw); go_simp; try with_reducible rfl)); (try simp only [Act.put, List.setIfInBounds_toArray, List.set_cons_zero, List.set_cons_succ, List.getElem_toArray, List.getElem_cons_zero, List.getElem_cons_succ]))
            refine wpAnyH_done (by kernel_rfl) ?_ _
            have HO7 := Lib.hid (HO6.out.later ((Below.refl _ _).drew.trans hs))
            have HB7 := Lib.hid hHeld
            clear hs hHeld
            go_wp2_with fail
            go_roundg (r.size + 1)
            case measure => simp only [Tr.size]; omega
            case rel => exact ⟨L ++ [Value.pointer (some ⟨b, 0, none⟩)], ts ++ [Tr.node q o l r], r, a2, rfl, rfl, HO7.out, HTs.out.snoc HS'.out, HCh.out, HI.out.2.2.2.2.2, HPn.out, HB7.out, by simp only [List.length_append, List.length_cons, List.length_nil]; simp only [Tr.size] at HLn; omega⟩
        · have k1 := sameP_no e1
          have k2 := sameP_no e2
          have HPn : Hid ((pth p T).1 = ts ∧ (pth p T).2 = .node q o l r) := by
            have := HP.out
            rw [HPth.out, if_neg e1, if_neg e2] at this
            rw [this]
            exact ⟨List.append_nil _, rfl⟩
          clear e1 e2
          go_wp2_with fail
          rw [Exit.noGoto_ret]
          go_ret2
          exact ⟨_, _, L, rfl, HOw.out.down HB.out.size, by rw [HPn.out.1]; exact HTs5.out, by rw [HPn.out.2]; exact TrAt.later HS'.out HB5.out, HBw5.out⟩
end Go.Proofs.Ytbfkjdnopiadjaa

namespace Go.Proofs.Ytbfkjdnopiadjaa
open Go.RowKit Go.Shelf
attribute [local go_sem] Oper.semAt_some
open Tp (Pf Ok mn bit com Tr withN isN pth)

theorem wpIn_scope_wideT {n : Nat} {P : Program} {c : Code} {Q : Exit → Act → World → Prop} {a : Act} {w : World} (h : c.wpIn Fence.wide n P (Exit.noGoto Q) a w) : (Code.scope c).wpIn Fence.wide n P Q a w :=
  wpIn_wide.2 (wp_scope_straight (wpIn_wide.1 h))
/-- One of them: its place, its address, its tree. -/
abbrev Bkd (L : List Value) (ts : List Tr) : Type := { x : Nat × Value × Tr // (L.zip ts)[x.1]? = some x.2 }
/-- What a round must keep: the box that holds the addresses, and these. -/
structure Kpt (Bs : Nat) (v : Value) (L : List Value) (W : World) : Prop where
  box : W.cell? ⟨Bs, 0, none⟩ = some v
  row : ∀ j u, L[j]? = some u → ∃ g c, v = .slice (some ⟨g, 0, none⟩) L.length c ∧ W.cell? ⟨g, j, none⟩ = some u

theorem backT (a : Option Addr) (n c : Nat) (w : World) :
    Calls Try.prog 57 #[.slice a n c] w fun e w' => e = .returned (.func (.func 60) #[] #[.pointer (some ⟨w.heap.size, 0, none⟩)]) ∧ w' = w.alloc (.cells #[.slice a n c] 78) := by
  go_enter Try.func57, Try.ntmps57
  go_wp2_with fail
  go_ret
  exact ⟨rfl, rfl⟩

set_option maxRecDepth 100000 in
set_option maxHeartbeats 2000000 in
theorem back1_in (n : Nat) (hn : 1 ≤ n) (l Bs : Nat) (a : Option Addr) (c : Nat) (L : List Value) (ts : List Tr) (hlen : L.length = ts.length) (hp : ∀ u ∈ L, ∃ x, u = .pointer x) (hL : L.length ≤ 1000000) (Kp : World → World → Prop) (J Jx : List (Bkd L ts) → World → Prop)
    (hK : ∀ A B, Kp A B → Kpt Bs (.slice a L.length c) L A → Kpt Bs (.slice a L.length c) L B)
    (hY : ∀ pre x W, J pre W → pre.length < L.length → YieldAt Fence.wide (n - 1) Try.prog l #[.int .i64 (x.1.1 : Int), x.1.2.1] W fun e W' =>
      (e = .returned (.bool true) ∧ J (pre ++ [x]) W' ∧ Kp W W') ∨ (e = .returned (.bool false) ∧ Jx (pre ++ [x]) W'))
    (W : World) (hW : Kpt Bs (.slice a L.length c) L W) (h0 : J [] W) :
    CallsIn Fence.wide n Try.prog 60 #[.func (.yield l) #[] #[], .pointer (some ⟨Bs, 0, none⟩)] W fun e W' => (∃ v, e = .returned v) ∧
      ((∃ ys, ys.map (fun x => x.1.2) = (L.zip ts).reverse ∧ J ys W') ∨ (∃ pre, pre.map (fun x => x.1.2) <+: (L.zip ts).reverse ∧ Jx pre W')) := by
  refine callsIn_of_wp Try.func60 rfl trivial ?_ rfl
  simp only [Try.ntmps60, List.size_toArray, List.length_cons, List.length_nil, Nat.reduceAdd, Nat.reduceSub, Array.replicate_succ, Array.replicate_zero, List.push_toArray, List.append_toArray, List.nil_append, List.cons_append]
  have HW := Lib.hid hW
  have HY := Lib.hid hY
  have HK := Lib.hid hK
  have HP := Lib.hid hp
  have HLen := Lib.hid hlen
  have hbx := hW.box
  obtain ⟨m, hm⟩ : ∃ m, m = L.length := ⟨_, rfl⟩
  have HM := Lib.hid hm
  rw [← hm] at hbx hL
  clear hW hY hK hp hlen hm
  gi_wp2_with fail
  gi_loopw [3] (fun r wr => ∃ (k : Nat) (pre : List (Bkd L ts)), r = .int .i64 ((k : Int) - 1) ∧ k ≤ m ∧ Hid (pre.map (fun x => x.1.2) = ((L.zip ts).drop k).reverse) ∧ Hid (J pre wr) ∧ Hid (Kpt Bs (.slice a L.length c) L wr)) (fun r _ => (intOf r + 1).toNat)
  case atStart =>
    refine ⟨m, [], rfl, Nat.le_refl _, ?_, h0, HW.out⟩
    have : ([] : List (Bkd L ts)).map (fun x => x.1.2) = ((L.zip ts).drop m).reverse := by
      rw [List.drop_eq_nil_of_le (by rw [List.length_zip, ← HLen.out, HM.out]; omega)]; rfl
    exact this
  case round =>
    obtain ⟨k, pre, rfl, hk, HS, HJ, HKp⟩ := hrel
    have hbx := HKp.out.box
    rw [← HM.out] at hbx
    cases k with
    | zero =>
      have HE : Hid (pre.map (fun x => x.1.2) = (L.zip ts).reverse) := by have := HS.out; rw [List.drop_zero] at this; exact this
      clear HS hk hbx
      gi_wp2_with fail
      go_end0
      exact ⟨⟨_, rfl⟩, .inl ⟨pre, HE.out, HJ.out⟩⟩
    | succ k =>
      have e1 : ((k + 1 : Nat) : Int) - 1 = (k : Int) := by omega
      have hkL : k < L.length := by rw [← HM.out]; omega
      have hkz : k < (L.zip ts).length := by rw [List.length_zip, ← HLen.out]; omega
      obtain ⟨g, cc, hv, hcell⟩ := HKp.out.row k L[k] (List.getElem?_eq_getElem hkL)
      simp only [Value.slice.injEq] at hv
      obtain ⟨rfl, _, rfl⟩ := hv
      obtain ⟨x, hx⟩ : ∃ x : Bkd L ts, x.1 = (k, (L.zip ts)[k]) := ⟨⟨(k, (L.zip ts)[k]), List.getElem?_eq_getElem hkz⟩, rfl⟩
      have hx1 : x.1.1 = k := by rw [hx]
      have hx2 : x.1.2 = (L.zip ts)[k] := by rw [hx]
      have hx3 : x.1.2.1 = L[k] := by rw [hx2, List.getElem_zip]
      have hlen : pre.length < L.length := by
        have := congrArg List.length HS.out
        rw [List.length_map, List.length_reverse, List.length_drop] at this
        rw [List.length_zip, ← HLen.out] at this
        omega
      have HE : Hid ((pre ++ [x]).map (fun x => x.1.2) = ((L.zip ts).drop k).reverse) := by
        have : (pre ++ [x]).map (fun x => x.1.2) = ((L.zip ts).drop k).reverse := by
          rw [List.map_append, HS.out, List.drop_eq_getElem_cons hkz, List.reverse_cons, ← hx2]; rfl
        exact this
      obtain ⟨fn, tmps, assign, body, hy, hR⟩ := HY.out pre x wr HJ.out hlen
      rw [hx1, hx3] at hy
      obtain ⟨y, hy0⟩ := HP.out L[k] (List.getElem_mem hkL)
      rw [hy0] at hy hcell
      have g1 : (k : Int) < (m : Int) := by omega
      have HR := Lib.hid hR
      have HE2 : Hid ((pre ++ [x]).map (fun x => x.1.2) <+: (L.zip ts).reverse) := by
        have : (pre ++ [x]).map (fun x => x.1.2) <+: (L.zip ts).reverse := by
          rw [HE.out]
          refine ⟨((L.zip ts).take k).reverse, ?_⟩
          rw [← List.reverse_append, List.take_append_drop]
        exact this
      rw [e1]
      clear HS hx hx1 hx2 hx3 hlen hy0 hR e1 hkL hkz
      gi_wp2_with fail
      refine HR.out.mono ?_
      rintro e W3 (⟨rfl, hJ3, hk3⟩ | ⟨rfl, hJx3⟩)
      · have HJ3 := Lib.hid hJ3
        have HK3 := Lib.hid (HK.out _ _ hk3 HKp.out)
        clear hJ3 hk3
        gi_wp2_with fail
        go_roundw
        case rel => exact ⟨k, pre ++ [x], rfl, by omega, HE, HJ3, HK3⟩
        case measure => simp [intOf]
      · have HJ3 := Lib.hid hJx3
        clear hJx3
        gi_wp2_with fail
        refine bodyPost_ret (results_none rfl _ _ _) rfl ?_
        exact ⟨⟨_, rfl⟩, .inr ⟨pre ++ [x], HE2.out, HJ3.out⟩⟩
end Go.Proofs.Ytbfkjdnopiadjaa

namespace Go.Proofs.Ytbfkjdnopiadjaa
open Go.RowKit

def onlyN (Q : Exit → Act → World → Prop) : Exit → Act → World → Prop
  | .normal, a, w => Q .normal a w
  | _, _, _ => False
section
variable {l n : Nat} {P : Program} {Q : Exit → Act → World → Prop}
theorem upon_round {o : Oper} {a : Act} {K K' : Act → World → Prop} (hK : ∀ a w, K a w → K' a w) : ∀ r : Result Next, o.upon P a K (onlyN Q) r → o.uponIn (Fence.wide.inRound l) n P a K' Q r
  | .ok (.value _) _, h => hK _ _ h
  | .ok .skip _, h => hK _ _ h
  | .ok (.defer _) _, h => hK _ _ h
  | .ok (.enter f args) w', h => ⟨fun h => by simp [Fence.wide] at h, CallsIn.inRound l (callsIn_wide.2 (Calls.mono (show Calls P f args w' _ from h) (fun e w'' hr => by
      cases e with
      | returned v => exact hK _ _ hr
      | panicked c => exact hr.elim
      | outgrown => obtain ⟨_, _, h⟩ := hr; exact h.elim)))⟩
  | .ok (.row row args) w', h => ⟨fun h => by simp [Fence.wide] at h, fun c cs _ => by
      obtain ⟨v, w'', hr, hs⟩ := (show Rows P row args w' _ from h) c cs
      exact ⟨v, w'', hK _ _ hr, stepsIn_wide.2 hs⟩⟩
  | .halt (.panic _) _, h => h.elim
  | .ok (.round ..) _, h => h.elim
theorem opIn_round {o : Oper} {a : Act} {w : World} {K K' : Act → World → Prop} (hK : ∀ a w, K a w → K' a w) (hd : ∀ c, o.op ≠ .defer c) (h : o.wp P a w K (onlyN Q)) : o.wpIn (Fence.wide.inRound l) n P a w K' Q :=
  ⟨fun _ _ => trivial, by rw [Oper.semAt_plain _ _ _ hd]; exact upon_round hK _ h⟩

def noDefer (ops : Array Oper) : Bool := ops.all fun o => match o.op with | .defer _ => false | _ => true
theorem noDefer_spec {ops : Array Oper} (h : noDefer ops = true) (i : Nat) (o : Oper) (ho : ops[i]? = some o) : ∀ c, o.op ≠ .defer c := by
  intro c hc
  have h2 := Array.all_eq_true.1 h i (Array.getElem?_eq_some_iff.1 ho).1
  rw [(Array.getElem?_eq_some_iff.1 ho).2, hc] at h2
  cases h2
theorem anyIn_round {md : Region.Mode} {ops : Array Oper} (hd : noDefer ops = true) : ∀ (fuel : Nat) (listed : Array Bool) (a : Act) (w : World), wpAny P md ops (onlyN Q) fuel listed a w → wpAnyIn (Fence.wide.inRound l) n P md ops Q fuel listed a w
  | 0, _, _, _, h => ⟨h.1, h.2⟩
  | fuel + 1, listed, a, w, h => ⟨fun he => h.1 he, fun i hi => by
      have h2 := h.2 i hi
      have ih := anyIn_round (md := md) hd fuel (listed.setIfInBounds i true)
      unfold wpOp at h2
      unfold wpOpIn
      cases ho : ops[i]? with
      | none => rw [ho] at h2; exact ih _ _ h2
      | some o =>
        rw [ho] at h2
        simp only at h2 ⊢
        by_cases hw : Region.wanted o (yielded ops a.tmps) = true
        · rw [if_pos hw] at h2 ⊢
          rcases h2 with h2 | ⟨_, _, _, h2⟩
          · exact opIn_round ih (noDefer_spec hd i o ho) h2
          · exact h2.elim
        · rw [if_neg hw] at h2 ⊢
          exact ⟨fun _ _ => trivial, ih _ _ h2⟩⟩
/-- The region in a round, by its walk with a condition held. -/
theorem wpIn_region_round {S : World → Prop} {id : Nat} {ops : Array Oper} {a : Act} {w : World} (hm : P.follows .mixedOrders = true) (hd : noDefer ops = true) (hS : S w.drew)
    (h : S w.drew → wpAnyH P .any ops (onlyN Q) S ops.size (Array.replicate ops.size false) a w.drew) : (Code.region id ops true).wpIn (Fence.wide.inRound l) n P Q a w :=
  wpIn_region_any hm (anyIn_round hd _ _ _ _ (wpAny_of_held _ _ _ _ (h hS)))
theorem wpIn_region_fin {S I : World → Prop} {id : Nat} {ops : Array Oper} {a : Act} {w : World} (hm : P.follows .mixedOrders = true) (hd : noDefer ops = true) (hS : S w.drew) (h1 : ∀ A w3, I w3 → Q .normal A w3)
    (h : (∀ A w3, I w3 → onlyN Q .normal A w3) → S w.drew → wpAnyH P .any ops (onlyN Q) S ops.size (Array.replicate ops.size false) a w.drew) : (Code.region id ops true).wpIn (Fence.wide.inRound l) n P Q a w :=
  wpIn_region_round hm hd hS (h fun A w3 hi => h1 A w3 hi)
end
end Go.Proofs.Ytbfkjdnopiadjaa
