/- trie's Match: the walk (in a round: onlyN).
   A range over a function whose left sides lie in memory: the loop, where the assignment turns what the last round left.
   trie's over, All, Covers: what goes over a trie, as a contract.
   trie's walk over a tree: what it gives a range. -/
import Derived.RangeFuncNested
import Derived.RangeFuncCalls
import Derived.Test.YtbfkjdnopiadjaaZ02
import Derived.Test.YtbfkjdnopiadjaaZ06
import Derived.Test.YtbfkjdnopiadjaaZ07

set_option linter.unusedSimpArgs false
set_option linter.unusedVariables false
namespace Go.Proofs.Ytbfkjdnopiadjaa
open Go.RowKit Go.Shelf
attribute [local go_sem] Oper.semAt_some
open Tp (Pf Ok mn bit com Tr En one)

/-- What goes over a tree, where all above is good. -/
def tw (G : Pf → Bool) : Tr → List En
  | .nil => []
  | .node q o l r => if G q = true then one q o ++ (tw G l ++ tw G r) else []
/-- What a round keeps: all nodes, and all addresses in boxes. -/
structure Keep (A B : World) : Prop where
  size : A.heap.size ≤ B.heap.size
  nd : Stay A B
  ad : ∀ b cs, BlkAt 35 b cs A → BlkAt 35 b cs B
theorem Keep.refl (w : World) : Keep w w := ⟨Nat.le_refl _, Stay.refl _, fun _ _ h => h⟩
theorem Keep.trans {A B C : World} (h : Keep A B) (k : Keep B C) : Keep A C := ⟨Nat.le_trans h.size k.size, h.nd.trans k.nd, fun b cs hb => k.ad b cs (h.ad b cs hb)⟩
theorem Keep.of_below {A B : World} (h : Below A.heap.size A B) : Keep A B := ⟨h.size, Stay.of_below h, fun _ _ hb => hb.later h⟩
theorem Keep.of_grown {A B : World} {row : Option Nat} (hg : A.grownBy B row) (hr : ∀ r, row = some r → ∃ o : Obj, A.heap[r]? = some o ∧ o.isCells = false) : Keep A B := ⟨hg.size, Stay.of_grown hg hr, fun _ _ hb => hb.of_grown hg hr⟩
theorem Keep.putObj {w : World} (W : World) (l : Nat) (o o' : Obj) (_ : w.heap.size ≤ l) (h : W.heap[l]? = some o) (hc : o.isCells = false) (_ : o.isWalk = false) : Keep W (W.putObj l o') := Keep.of_grown (grownBy_putObj' W l o') (fun r e => by cases e; exact ⟨_, h, hc⟩)
theorem Keep.set {W : World} {t : TypeId} {b : Nat} {cs : List Value} (h : BlkAt t b cs W) (h1 : t ≠ 92) (h2 : t ≠ 35) (j : Nat) (x : Value) : Keep W (W.setCell ⟨b, j, none⟩ x) :=
  ⟨by simp, fun k ks hk => hk.other (fun e => by subst e; exact hk.no h1.symm h) j x, fun k ks hk => hk.other (fun e => by subst e; exact hk.no h2.symm h) j x⟩
/-- A function that says which prefixes are good. -/
def GoodV (w : World) (gv : Value) (G : Pf → Bool) : Prop :=
  (gv = .func (.func 38) #[] #[] ∧ G = fun _ => true) ∨
  ∃ B a, gv = .func (.func 39) #[] #[.pointer (some ⟨B, 0, none⟩)] ∧ BlkAt 35 B [.int .u32 a] w ∧ (0 ≤ a ∧ a < 4294967296) ∧ G = fun q => decide (Wp.fst a q.2 = q.1)
theorem GoodV.keep {A B : World} {gv : Value} {G : Pf → Bool} (h : GoodV A gv G) (k : Keep A B) : GoodV B gv G := by
  rcases h with h | ⟨C, a, h1, h2, h3⟩
  · exact .inl h
  · exact .inr ⟨C, a, h1, k.ad _ _ h2, h3⟩
theorem allG (p : Pf) (w : World) : Calls Try.prog 38 #[.agg #[.int .u32 p.1, .int .i64 p.2]] w fun e w' => e = .returned (.bool true) ∧ Below w.heap.size w w' := by
  go_enter Try.func38, Try.ntmps38
  go_wp2_with fail
  go_ret
  exact ⟨rfl, ba1 _ _⟩
theorem covG {p : Pf} (hp : Ok p) {B : Nat} {a : Int} {w : World} (hb : BlkAt 35 B [.int .u32 a] w) (h0 : 0 ≤ a) (h1 : a < 4294967296) :
    Calls Try.prog 39 #[.agg #[.int .u32 p.1, .int .i64 p.2], .pointer (some ⟨B, 0, none⟩)] w fun e w' => e = .returned (.bool (decide (Wp.fst a p.2 = p.1))) ∧ Below w.heap.size w w' := by
  have c0 := hb.cell (j := 0) rfl
  have hlt := hb.lt
  have HA := Lib.hid (ba1 w (.cells #[.int .u32 p.1, .int .i64 p.2] 37))
  have HH := Lib.hid (fun W => hasT hp a W h0 h1)
  clear hb hp
  obtain ⟨x, hx⟩ : ∃ x, x = decide (Wp.fst a p.2 = p.1) := ⟨_, rfl⟩
  rw [← hx] at HH ⊢
  clear hx
  go_enter Try.func39, Try.ntmps39
  go_wp2_with fail
  refine (HH.out _).mono ?_
  rintro e w1 ⟨rfl, hb1⟩
  go_wp2_with fail
  go_ret
  exact ⟨rfl, below_of HA.out hb1⟩
theorem YieldAt.wideT {m : Nat} (m' : Nat) {P : Program} {l : Nat} {args : Array Value} {W : World} {R : Ending → World → Prop} (h : YieldAt Fence.wide m P l args W R) : YieldAt Fence.wide m' P l args W R := by
  obtain ⟨fn, tmps, assign, body, hy, h1, h2⟩ := h
  exact ⟨fn, tmps, assign, body, hy, h1, fun c cs _ => h2 c cs (room_wide _)⟩
/-- One of them. -/
abbrev Ent (L : List En) : Type := { x : En // x ∈ L }
def encE {L : List En} (x : Ent L) : Array Value := #[.agg #[.int .u32 x.1.1.1, .int .i64 x.1.1.2], .int .i64 x.1.2]
/-- What a walk gives. -/
def WalkA (L : List En) (J Jx : List (Ent L) → World → Prop) (M : List En) (pre : List (Ent L)) (W : World) (e : Ending) (W' : World) : Prop :=
  (e = .returned (.bool true) ∧ ∃ ys : List (Ent L), ys.map Subtype.val = M ∧ J (pre ++ ys) W' ∧ Keep W W') ∨
  (e = .returned (.bool false) ∧ ∃ ys : List (Ent L), ys.map Subtype.val <+: M ∧ Jx (pre ++ ys) W')

set_option maxRecDepth 100000 in
set_option maxHeartbeats 4000000 in
theorem walk_in (l N B0 : Nat) (L : List En) (G : Pf → Bool) (gv : Value) (J Jx : List (Ent L) → World → Prop)
    (hJ : ∀ pre A B, J pre A → B0 ≤ A.heap.size → Below A.heap.size A B → J pre B)
    (hY : ∀ m pre x W, J pre W → pre.length < N → YieldAt Fence.wide m Try.prog l (encE x) W fun e W' =>
      (e = .returned (.bool true) ∧ J (pre ++ [x]) W' ∧ Keep W W') ∨ (e = .returned (.bool false) ∧ Jx (pre ++ [x]) W')) (T : Tr) :
    ∀ (n : Nat) (v : Value) (pre : List (Ent L)) (W : World), TrAt W v T → T.Inv → GoodV W gv G → B0 ≤ W.heap.size → (∀ x ∈ tw G T, x ∈ L) → J pre W → pre.length + (tw G T).length ≤ N →
      CallsIn Fence.wide n Try.prog 53 #[v, gv, .func (.yield l) #[] #[]] W (WalkA L J Jx (tw G T) pre W) := by
  induction T with
  | nil =>
    intro n v pre W ht _ _ _ _ h0 _
    obtain rfl := ht
    refine callsIn_of_wp Try.func53 rfl trivial ?_ rfl
    simp only [Try.ntmps53, List.size_toArray, List.length_cons, List.length_nil, Nat.reduceAdd, Nat.reduceSub, Array.replicate_succ, Array.replicate_zero, List.push_toArray, List.append_toArray, List.nil_append, List.cons_append]
    have H0 := Lib.hid h0
    clear h0 hJ hY
    gi_wp2_with fail
    refine ⟨fun _ h => (by cases h), ?_⟩
    gi_wp2_with fail
    go_ret
    exact .inl ⟨rfl, [], rfl, by rw [List.append_nil]; exact H0.out, Keep.refl _⟩
  | node q o lt rt ihl ihr =>
    intro n v pre W ht hi hg hB0 hsub h0 hN
    obtain ⟨b, vl, vr, rfl, hb, hl, hr⟩ := ht
    have hq := hi.1
    have HB := Lib.hid hb
    have HL := Lib.hid hl
    have HR := Lib.hid hr
    have H0 := Lib.hid h0
    have HI := Lib.hid hi
    have HG := Lib.hid hg
    have HJ := Lib.hid hJ
    have HY := Lib.hid hY
    have HTW : Hid (tw G (.node q o lt rt) = if G q = true then one q o ++ (tw G lt ++ tw G rt) else []) := (rfl : tw G (.node q o lt rt) = _)
    have hgood : ∃ gf lb, gv = .func (.func gf) #[] lb ∧ (∀ args w, (callFunc gf args).run Try.prog w = .ok (.enter gf args) w) ∧ Calls Try.prog gf (#[.agg #[.int .u32 q.1, .int .i64 q.2]] ++ lb) W fun e w' => e = .returned (.bool (G q)) ∧ Below W.heap.size W w' := by
      rcases hg with ⟨rfl, hG⟩ | ⟨B, a, rfl, hbx, ⟨a0, a1⟩, hG⟩
      · exact ⟨_, _, rfl, enters_of Try.func38 (by kernel_rfl) rfl, by rw [hG]; exact allG q W⟩
      · exact ⟨_, _, rfl, enters_of Try.func39 (by kernel_rfl) rfl, by rw [hG]; exact covG hq hbx a0 a1⟩
    have hlhr := And.intro hl hr
    have HLR := Lib.hid hlhr
    obtain ⟨x, hx⟩ : ∃ x, x = G q := ⟨_, rfl⟩
    rw [← hx] at hgood HTW
    clear hb hl hr h0 hi hJ hY hlhr hx hq
    obtain ⟨gf, lb, rfl, heg, hgd⟩ := hgood
    have HGd := Lib.hid hgd
    clear hgd hg
    obtain ⟨c0, c1, c2, c3, c4, c5⟩ := nd_cells HB.out
    refine callsIn_of_wp Try.func53 rfl trivial ?_ rfl
    simp only [Try.ntmps53, List.size_toArray, List.length_cons, List.length_nil, Nat.reduceAdd, Nat.reduceSub, Array.replicate_succ, Array.replicate_zero, List.push_toArray, List.append_toArray, List.nil_append, List.cons_append]
    gi_wp2_with fail
    refine ⟨trivial, (fun h => by cases h), (callsIn_wide.2 HGd.out).mono ?_⟩
    rintro e W1 ⟨rfl, hb1⟩
    have HB1 := Lib.hid hb1
    have HJ1 := Lib.hid (HJ.out _ _ _ H0.out hB0 hb1)
    clear c0 c1 c2 c3 c4 c5
    cases x with
    | false =>
      clear hb1
      gi_wp2_with fail
      go_ret
      exact .inl ⟨rfl, [], by rw [HTW.out]; rfl, by rw [List.append_nil]; exact HJ1.out, Keep.of_below HB1.out⟩
    | true =>
      have HTT : Hid (tw G (.node q o lt rt) = one q o ++ (tw G lt ++ tw G rt)) := by
        have : tw G (.node q o lt rt) = one q o ++ (tw G lt ++ tw G rt) := HTW.out
        exact this
      clear HTW
      obtain ⟨c0, c1, c2, c3, c4, c5⟩ := nd_cells (HB.out.later hb1)
      clear hb1
      cases o with
      | none =>
        simp only [Option.isSome, Option.getD] at c2 c3
        have HSL : Hid (∀ x ∈ tw G lt, x ∈ L) := by
          have : ∀ x ∈ tw G lt, x ∈ L := fun x hx => hsub x (by rw [HTT.out]; simp [hx])
          exact this
        have HSR : Hid (∀ x ∈ tw G rt, x ∈ L) := by
          have : ∀ x ∈ tw G rt, x ∈ L := fun x hx => hsub x (by rw [HTT.out]; simp [hx])
          exact this
        have HNL : Hid ((pre ++ ([] : List (Ent L))).length + (tw G lt).length ≤ N) := by
          have h := hN
          rw [HTT.out] at h
          have : (pre ++ ([] : List (Ent L))).length + (tw G lt).length ≤ N := by simp [one] at h ⊢; omega
          exact this
        have HNR : Hid ((pre ++ ([] : List (Ent L))).length + (tw G lt).length + (tw G rt).length ≤ N) := by
          have h := hN
          rw [HTT.out] at h
          have : (pre ++ ([] : List (Ent L))).length + (tw G lt).length + (tw G rt).length ≤ N := by simp [one] at h ⊢; omega
          exact this
        clear hN hsub
        gi_wp2_with fail
        refine wpIn_wide.2 ?_
        go_quiet (fail)
        have hk15 : Keep W (W1.drewN nq) := Keep.of_below (HB1.out.trans ((below_dr0 _ W1 nq).mono HB1.out.size))
        have hj15 : J (pre ++ ([] : List (Ent L))) (W1.drewN nq) := by rw [List.append_nil]; exact HJ.out _ _ _ HJ1.out (Nat.le_trans hB0 HB1.out.size) (below_dr0 _ _ _)
        have HK5 := Lib.hid hk15
        have HJ5 := Lib.hid hj15
        clear hk15 hj15
        have IL := Lib.hid (ihl (n - 1) vl (pre ++ ([] : List (Ent L))) (W1.drewN nq) (HL.out.stay HK5.out.nd) HI.out.2.2.2.2.1 (HG.out.keep HK5.out) (Nat.le_trans hB0 HK5.out.size) HSL.out HJ5.out HNL.out)
        have IR := Lib.hid (fun ys W6 (hlen : List.length ys = (tw G lt).length) (hk : Keep W W6) hj => ihr (n - 1) vr (pre ++ ([] : List (Ent L)) ++ ys) W6 (HR.out.stay hk.nd) HI.out.2.2.2.2.2 (HG.out.keep hk) (Nat.le_trans hB0 hk.size) HSR.out hj (by have := HNR.out; rw [List.length_append, hlen]; omega))
        clear ihl ihr
        gi_wp2_with fail
        refine ⟨trivial, (fun h => by cases h), IL.out.mono ?_⟩
        rintro e W6 (⟨rfl, ys1, hy1, hJ6, hk6⟩ | ⟨rfl, ys1, hy1, hx6⟩)
        · have hk06 := HK5.out.trans hk6
          obtain ⟨d0, d1, d2, d3, d4, d5⟩ := nd_cells (hk06.nd _ _ HB.out)
          have HK06 := Lib.hid hk06
          have HY1 := Lib.hid hy1
          have IR6 := Lib.hid (IR.out ys1 W6 (by rw [← hy1, List.length_map]) hk06 hJ6)
          clear hy1 hJ6 hk6 hk06 IR
          gi_wp2_with fail
          refine ⟨trivial, (fun h => by cases h), IR6.out.mono ?_⟩
          rintro e W7 (⟨rfl, ys2, hy2, hJ7, hk7⟩ | ⟨rfl, ys2, hy2, hx7⟩)
          · have HJ7 := Lib.hid hJ7
            have HK7 := Lib.hid hk7
            have HY2 := Lib.hid hy2
            clear hJ7 hk7 hy2
            gi_wp2_with fail
            go_ret
            exact .inl ⟨rfl, ([] : List (Ent L)) ++ (ys1 ++ ys2), by rw [HTT.out, List.map_append, List.map_append, HY1.out, HY2.out]; rfl, by rw [← List.append_assoc, ← List.append_assoc]; exact HJ7.out, HK06.out.trans HK7.out⟩
          · have HX7 := Lib.hid hx7
            have HY2 := Lib.hid hy2
            clear hx7 hy2
            gi_wp2_with fail
            go_ret
            refine .inr ⟨rfl, ([] : List (Ent L)) ++ (ys1 ++ ys2), ?_, by rw [← List.append_assoc, ← List.append_assoc]; exact HX7.out⟩
            rw [HTT.out, List.map_append, List.map_append, HY1.out]
            obtain ⟨z, hz⟩ := HY2.out
            exact ⟨z, by rw [← hz]; simp [one]⟩
        · have HX6 := Lib.hid hx6
          have HY1 := Lib.hid hy1
          clear hx6 hy1
          gi_wp2_with fail
          refine ⟨trivial, ?_⟩
          gi_wp2_with fail
          go_ret
          refine .inr ⟨rfl, ([] : List (Ent L)) ++ ys1, ?_, by rw [← List.append_assoc]; exact HX6.out⟩
          rw [HTT.out, List.map_append]
          obtain ⟨z, hz⟩ := HY1.out
          exact ⟨z ++ tw G rt, by rw [← hz]; simp [one]⟩
      | some y =>
        simp only [Option.isSome, Option.getD] at c2 c3
        have hlen : pre.length < N := by
          have h := hN
          rw [HTT.out] at h
          simp [one] at h
          omega
        have hmem : (q, y) ∈ L := hsub _ (by rw [HTT.out]; simp [one])
        have HSL : Hid (∀ x ∈ tw G lt, x ∈ L) := by
          have : ∀ x ∈ tw G lt, x ∈ L := fun x hx => hsub x (by rw [HTT.out]; simp [hx])
          exact this
        have HSR : Hid (∀ x ∈ tw G rt, x ∈ L) := by
          have : ∀ x ∈ tw G rt, x ∈ L := fun x hx => hsub x (by rw [HTT.out]; simp [hx])
          exact this
        have HNL : Hid ((pre ++ [(⟨(q, y), hmem⟩ : Ent L)]).length + (tw G lt).length ≤ N) := by
          have h := hN
          rw [HTT.out] at h
          have : (pre ++ [(⟨(q, y), hmem⟩ : Ent L)]).length + (tw G lt).length ≤ N := by simp [one] at h ⊢; omega
          exact this
        have HNR : Hid ((pre ++ [(⟨(q, y), hmem⟩ : Ent L)]).length + (tw G lt).length + (tw G rt).length ≤ N) := by
          have h := hN
          rw [HTT.out] at h
          have : (pre ++ [(⟨(q, y), hmem⟩ : Ent L)]).length + (tw G lt).length + (tw G rt).length ≤ N := by simp [one] at h ⊢; omega
          exact this
        clear hN hsub
        gi_wp2_with fail
        have hmx : Try.prog.follows .mixedOrders = true := by kernel_rfl
        obtain ⟨fn, tmps, assign, body, hy, hR⟩ := HY.out (n - 1) pre ⟨(q, y), hmem⟩ W1.drew (HJ.out _ _ _ HJ1.out (Nat.le_trans hB0 HB1.out.size) (Below.refl _ _).drew) hlen
        simp only [encE] at hy
        have HRd := Lib.hid hR
        clear hR
        have HRo : Hid (RoundIn Fence.wide (n - 1) Try.prog l fn tmps assign body W1.drew fun e W' => ∃ ok : Bool, e = .returned (.bool ok) ∧ Hid ((ok = true → J (pre ++ [(⟨(q, y), hmem⟩ : Ent L)]) W' ∧ Keep W1.drew W') ∧ (ok = false → Jx (pre ++ [(⟨(q, y), hmem⟩ : Ent L)]) W'))) :=
          HRd.out.mono fun e W' h => h.elim (fun ⟨he, h1, h2⟩ => ⟨true, he, And.intro (fun _ => ⟨h1, h2⟩) (fun h => by cases h)⟩) (fun ⟨he, h1⟩ => ⟨false, he, And.intro (fun h => by cases h) (fun _ => h1)⟩)
        clear HRd
        gi_region_with_o (refine ⟨(fun h => by cases h), HRo.out.mono ?_⟩; rintro e W2 ⟨ok, rfl, HO⟩)
        all_goals
          cases ok with
          | false =>
            have HX2 := Lib.hid (HO.out.2 rfl)
            clear HO
            gi_wp2_with fail
            go_ret
            refine .inr ⟨rfl, [(⟨(q, y), hmem⟩ : Ent L)], ?_, HX2.out⟩
            rw [HTT.out]
            exact ⟨tw G lt ++ tw G rt, rfl⟩
          | true =>
            have HJ5 := Lib.hid (HO.out.1 rfl).1
            have hk2 := (HO.out.1 rfl).2
            have hk15 : Keep W W2 := (Keep.of_below ((HB1.out.trans ((Below.refl _ _).drew)))).trans hk2
            have HK5 := Lib.hid hk15
            obtain ⟨d0, d1, d2, d3, d4, d5⟩ := nd_cells (hk15.nd _ _ HB.out)
            clear HO hk2 hk15 c0 c1 c2 c3 c4 c5
            have IL := Lib.hid (ihl (n - 1) vl (pre ++ [(⟨(q, y), hmem⟩ : Ent L)]) W2 (HL.out.stay HK5.out.nd) HI.out.2.2.2.2.1 (HG.out.keep HK5.out) (Nat.le_trans hB0 HK5.out.size) HSL.out HJ5.out HNL.out)
            have IR := Lib.hid (fun ys W6 (hlen : List.length ys = (tw G lt).length) (hk : Keep W W6) hj => ihr (n - 1) vr (pre ++ [(⟨(q, y), hmem⟩ : Ent L)] ++ ys) W6 (HR.out.stay hk.nd) HI.out.2.2.2.2.2 (HG.out.keep hk) (Nat.le_trans hB0 hk.size) HSR.out hj (by have := HNR.out; rw [List.length_append, hlen]; omega))
            clear ihl ihr
            gi_wp2_with fail
            refine ⟨trivial, (fun h => by cases h), IL.out.mono ?_⟩
            rintro e W6 (⟨rfl, ys1, hy1, hJ6, hk6⟩ | ⟨rfl, ys1, hy1, hx6⟩)
            · have hk06 := HK5.out.trans hk6
              obtain ⟨d0, d1, d2, d3, d4, d5⟩ := nd_cells (hk06.nd _ _ HB.out)
              have HK06 := Lib.hid hk06
              have HY1 := Lib.hid hy1
              have IR6 := Lib.hid (IR.out ys1 W6 (by rw [← hy1, List.length_map]) hk06 hJ6)
              clear hy1 hJ6 hk6 hk06 IR
              gi_wp2_with fail
              refine ⟨trivial, (fun h => by cases h), IR6.out.mono ?_⟩
              rintro e W7 (⟨rfl, ys2, hy2, hJ7, hk7⟩ | ⟨rfl, ys2, hy2, hx7⟩)
              · have HJ7 := Lib.hid hJ7
                have HK7 := Lib.hid hk7
                have HY2 := Lib.hid hy2
                clear hJ7 hk7 hy2
                gi_wp2_with fail
                go_ret
                exact .inl ⟨rfl, [(⟨(q, y), hmem⟩ : Ent L)] ++ (ys1 ++ ys2), by rw [HTT.out, List.map_append, List.map_append, HY1.out, HY2.out]; rfl, by rw [← List.append_assoc, ← List.append_assoc]; exact HJ7.out, HK06.out.trans HK7.out⟩
              · have HX7 := Lib.hid hx7
                have HY2 := Lib.hid hy2
                clear hx7 hy2
                gi_wp2_with fail
                go_ret
                refine .inr ⟨rfl, [(⟨(q, y), hmem⟩ : Ent L)] ++ (ys1 ++ ys2), ?_, by rw [← List.append_assoc, ← List.append_assoc]; exact HX7.out⟩
                rw [HTT.out, List.map_append, List.map_append, HY1.out]
                obtain ⟨z, hz⟩ := HY2.out
                exact ⟨z, by rw [← hz]; simp [one]⟩
            · have HX6 := Lib.hid hx6
              have HY1 := Lib.hid hy1
              clear hx6 hy1
              gi_wp2_with fail
              refine ⟨trivial, ?_⟩
              gi_wp2_with fail
              go_ret
              refine .inr ⟨rfl, [(⟨(q, y), hmem⟩ : Ent L)] ++ ys1, ?_, by rw [← List.append_assoc]; exact HX6.out⟩
              rw [HTT.out, List.map_append]
              obtain ⟨z, hz⟩ := HY1.out
              exact ⟨z ++ tw G rt, by rw [← hz]; simp [one]⟩
end Go.Proofs.Ytbfkjdnopiadjaa

namespace Go.Proofs.Ytbfkjdnopiadjaa
open Go.RowKit Go.Shelf
attribute [local go_sem] Oper.semAt_some
open Tp (Pf Ok mn bit com Tr En one)

theorem tw_all : ∀ T : Tr, tw (fun _ => true) T = T.el
  | .nil => rfl
  | .node q o l r => by
    simp only [tw, if_true, Tr.el]
    rw [tw_all l, tw_all r]
theorem tw_has (a : Int) : ∀ T : Tr, T.Inv → tw (fun q => decide (Wp.fst a q.2 = q.1)) T = T.el.filter (Tp.hasE a)
  | .nil, _ => rfl
  | .node q o l r, h => by
    have hh := h
    obtain ⟨h1, h2, h3, h4, h5, h6⟩ := h
    simp only [tw, decide_eq_true_eq, Tr.el, List.filter_append]
    by_cases e1 : Wp.fst a q.2 = q.1
    · rw [if_pos e1, tw_has a l h5, tw_has a r h6]
      have o1 : (one q o).filter (Tp.hasE a) = one q o := List.filter_eq_self.2 fun x hx => by
        unfold Tp.hasE; rw [Tp.one_key x hx]; exact decide_eq_true e1
      rw [o1]
    · rw [if_neg e1]
      have no : ∀ (A : List En) (b : Int), (∀ x ∈ A, Tp.Bel q b x.1) → A.filter (Tp.hasE a) = [] := by
        intro A b hA
        refine List.filter_eq_nil_iff.2 fun x hx hx2 => ?_
        exact e1 (Tp.has_bel h1 (hA x hx) (of_decide_eq_true hx2)).1
      have o1 : (one q o).filter (Tp.hasE a) = [] := List.filter_eq_nil_iff.2 fun x hx hx2 => by
        unfold Tp.hasE at hx2; rw [Tp.one_key x hx] at hx2; exact e1 (of_decide_eq_true hx2)
      rw [o1, no l.el 0 (fun x hx => h2 _ (l.el_pl x hx)), no r.el 1 (fun x hx => h3 _ (r.el_pl x hx))]
      rfl
theorem fn_neIn (P : Program) (t : TypeId) {p r : Array TypeId} {b : Bool} (h : P.underlying t = some (.func p r b)) (d : Nat) (fn : Fn) (x y : Array Value) (W : World) : (Op.equalIn (d + 1) t (.func fn x y) .nilFunc).run P W = .ok false W := by
  simp [Op.equalIn, run_underlying h]
theorem fn_ne0 (P : Program) (t : TypeId) {p r : Array TypeId} {b : Bool} (h : P.underlying t = some (.func p r b)) (fn : Fn) (x y : Array Value) (W : World) : (Op.equal t (.func fn x y) .nilFunc).run P W = .ok false W := fn_neIn P t h 9999 fn x y W
theorem fn_ne (P : Program) (t : TypeId) {p r : Array TypeId} {b : Bool} (h : P.underlying t = some (.func p r b)) (fn : Fn) (x y : Array Value) (W : World) : (binOp .neq t (.func fn x y) .nilFunc).run P W = .ok (.bool true) W := by
  simp only [binOp]
  simp [fn_ne0 P t h]
theorem fn_eq (P : Program) (t : TypeId) {p r : Array TypeId} {b : Bool} (h : P.underlying t = some (.func p r b)) (fn : Fn) (x y : Array Value) (W : World) : (binOp .eql t (.func fn x y) .nilFunc).run P W = .ok (.bool false) W := by
  simp only [binOp]
  simp [fn_ne0 P t h]
theorem grown_of_below {A B : World} (h : Below A.heap.size A B) : A.grownBy B none := ⟨h.os, h.tape, h.output, h.size, fun k hk _ => h.block k hk⟩
/-- What goes over entries: a function's value, and what it gives. -/
structure SeqV (w : World) (Br Bg : Nat) (L : List En) : Prop where
  ex : ∃ v gv T G, BlkAt 64 Br [v] w ∧ TrAt w v T ∧ T.Inv ∧ BlkAt 50 Bg [gv] w ∧ GoodV w gv G ∧ tw G T = L
theorem SeqV.keep {A B : World} {Br Bg : Nat} {L : List En} (h : SeqV A Br Bg L) (k : Keep A B) (h1 : ∀ cs, BlkAt 64 Br cs A → BlkAt 64 Br cs B) (h2 : ∀ cs, BlkAt 50 Bg cs A → BlkAt 50 Bg cs B) : SeqV B Br Bg L := by
  obtain ⟨v, gv, T, G, a1, a2, a3, a4, a5, a6⟩ := h.ex
  exact ⟨v, gv, T, G, h1 _ a1, a2.stay k.nd, a3, h2 _ a4, a5.keep k, a6⟩
theorem SeqV.later {A B : World} {Br Bg : Nat} {L : List En} (h : SeqV A Br Bg L) (hb : Below A.heap.size A B) : SeqV B Br Bg L := h.keep (Keep.of_below hb) (fun _ h => h.later hb) (fun _ h => h.later hb)
theorem SeqV.lt {A : World} {Br Bg : Nat} {L : List En} (h : SeqV A Br Bg L) : Br < A.heap.size ∧ Bg < A.heap.size := by
  obtain ⟨v, gv, T, G, a1, a2, a3, a4, a5, a6⟩ := h.ex
  exact ⟨a1.lt, a4.lt⟩
def seqF (Br Bg : Nat) : Value := .func (.func 52) #[] #[.pointer (some ⟨Br, 0, none⟩), .pointer (some ⟨Bg, 0, none⟩)]

set_option maxRecDepth 100000 in
set_option maxHeartbeats 2000000 in
theorem over1_in (n l Br Bg : Nat) (L : List En) (J Jx : List (Ent L) → World → Prop)
    (hY : ∀ pre x W, J pre W → pre.length < L.length → YieldAt Fence.wide (n - 1) Try.prog l (encE x) W fun e W' =>
      (e = .returned (.bool true) ∧ J (pre ++ [x]) W' ∧ Keep W W') ∨ (e = .returned (.bool false) ∧ Jx (pre ++ [x]) W'))
    (W : World) (hJ : AbidesFrom W.heap.size J) (hS : SeqV W Br Bg L) (h0 : J [] W) :
    CallsIn Fence.wide n Try.prog 52 #[.func (.yield l) #[] #[], .pointer (some ⟨Br, 0, none⟩), .pointer (some ⟨Bg, 0, none⟩)] W fun e W' => (∃ v, e = .returned v) ∧
      ((∃ ys : List (Ent L), ys.map Subtype.val = L ∧ J ys W') ∨ (∃ pre : List (Ent L), pre.map Subtype.val <+: L ∧ Jx pre W')) := by
  obtain ⟨v, gv, T, G, a1, a2, a3, a4, a5, rfl⟩ := hS.ex
  have hw := walk_in l (tw G T).length 0 (tw G T) G gv J Jx (fun pre A B hj _ hb => hJ pre A B none hj (grown_of_below hb) (fun r e => by cases e)) (fun m pre x W hj hl => YieldAt.wideT m (hY pre x W hj hl)) T (n - 1) v [] W a2 a3 a5 (Nat.zero_le _) (fun _ h => h) h0 (by simp)
  have c0 := a1.cell (j := 0) rfl
  have c1 := a4.cell (j := 0) rfl
  have HW := Lib.hid hw
  obtain ⟨av, rfl⟩ := a2.ptr
  obtain ⟨L, hL⟩ : ∃ L, L = tw G T := ⟨_, rfl⟩
  have hgv : ∃ gf lb, gv = .func (.func gf) #[] lb := by
    rcases a5 with ⟨h, _⟩ | ⟨_, _, h, _⟩
    · exact ⟨_, _, h⟩
    · exact ⟨_, _, h⟩
  obtain ⟨gf, lb, rfl⟩ := hgv
  clear hw hJ hY hS a1 a2 a3 a4 a5 h0
  refine callsIn_of_wp Try.func52 rfl trivial ?_ rfl
  simp only [Try.ntmps52, List.size_toArray, List.length_cons, List.length_nil, Nat.reduceAdd, Nat.reduceSub, Array.replicate_succ, Array.replicate_zero, List.push_toArray, List.append_toArray, List.nil_append, List.cons_append]
  have hne := fn_ne Try.prog _ Try.underlying88 (.yield l) #[] #[] W
  gi_wp2_with fail
  refine ⟨trivial, (fun h => by cases h), HW.out.mono ?_⟩
  rintro e W1 (⟨rfl, ys, hy, hj, _⟩ | ⟨rfl, ys, hy, hx⟩)
  · have HJ := Lib.hid hj
    have HYs := Lib.hid hy
    clear hj hy
    gi_wp2_with fail
    go_end0
    exact ⟨⟨_, rfl⟩, .inl ⟨ys, HYs.out, HJ.out⟩⟩
  · have HX := Lib.hid hx
    have HYs := Lib.hid hy
    clear hx hy
    gi_wp2_with fail
    go_end0
    exact ⟨⟨_, rfl⟩, .inr ⟨ys, HYs.out, HX.out⟩⟩
/-- The contract of what goes over entries. -/
theorem over_stops (n Br Bg : Nat) (L : List En) (w : World) (hS : SeqV w Br Bg L) :
    SeqStopsK Fence.wide n Try.prog 52 #[.pointer (some ⟨Br, 0, none⟩), .pointer (some ⟨Bg, 0, none⟩)] (encE (L := L)) Keep (fun ys => ys.map Subtype.val = L) (fun pre => pre.map Subtype.val <+: L) L.length w := fun l J Jx W hW hJ _ hY h0 =>
  over1_in n l Br Bg L J Jx hY W hJ (hS.later hW) h0
theorem overV {tv : Value} {T : Tr} {w : World} (h : Tops w tv T) {gv : Value} {G : Pf → Bool} (hg : GoodV w gv G) :
    Calls Try.prog 37 #[tv, gv] w fun e w' => ∃ Br Bg, e = .returned (seqF Br Bg) ∧ SeqV w' Br Bg (tw G T) ∧ w.heap.size ≤ Br ∧ w.heap.size ≤ Bg ∧ Below w.heap.size w w' := by
  have HT := Lib.hid h
  have HG := Lib.hid hg
  have HTop := Lib.hid (topV (h.later (ba1 w (.cells #[gv] 50))))
  have hgv : ∃ gf lb, gv = .func (.func gf) #[] lb := by
    rcases hg with ⟨h, _⟩ | ⟨_, _, h, _⟩
    · exact ⟨_, _, h⟩
    · exact ⟨_, _, h⟩
  obtain ⟨gf, lb, rfl⟩ := hgv
  clear h hg
  go_enter Try.func37, Try.ntmps37
  go_wp2_with fail
  refine HTop.out.mono ?_
  rintro e w1 ⟨v, rfl, hv, rfl⟩
  have HV := Lib.hid hv
  obtain ⟨av, rfl⟩ := hv.ptr
  clear hv
  go_wp2_with fail
  go_ret
  have h1 := ba1 w (.cells #[.func (.func gf) #[] lb] 50)
  have hg1 := BlkAt.new w (t := 50) [.func (.func gf) #[] lb]
  have h2 := ba1 (w.alloc (.cells #[.func (.func gf) #[] lb] 50)) (.cells #[.pointer av] 64)
  have hr1 := BlkAt.new (w.alloc (.cells #[.func (.func gf) #[] lb] 50)) (t := 64) [.pointer av]
  refine ⟨_, _, rfl, ⟨_, _, T, G, ?_, HV.out.later h2, HT.out.inv, hg1.later h2, HG.out.keep (Keep.of_below (below_of h1 h2)), rfl⟩, ?_, Nat.le_refl _, below_of h1 h2⟩
  · rw [show (w.alloc (.cells #[.func (.func gf) #[] lb] 50)).heap.size = w.heap.size + 1 by simp] at hr1
    exact hr1
  · omega
/-- What goes over all entries. -/
theorem allV {tv : Value} {T : Tr} {w : World} (h : Tops w tv T) :
    Calls Try.prog 15 #[tv] w fun e w' => ∃ Br Bg, e = .returned (seqF Br Bg) ∧ SeqV w' Br Bg T.el ∧ w.heap.size ≤ Br ∧ w.heap.size ≤ Bg ∧ Below w.heap.size w w' := by
  have HO := Lib.hid (overV h (gv := .func (.func 38) #[] #[]) (.inl ⟨rfl, rfl⟩))
  rw [tw_all] at HO
  clear h
  go_enter Try.func15, Try.ntmps15
  go_wp2_with fail
  refine HO.out.mono ?_
  rintro e w1 ⟨Br, Bg, rfl, h1, h2, h3, h4⟩
  unfold seqF
  have H1 := Lib.hid h1
  have H4 := Lib.hid h4
  clear h1 h4
  go_wp2_with fail
  go_ret
  exact ⟨Br, Bg, rfl, H1.out, h2, h3, H4.out⟩
/-- What goes over those that have an address. -/
theorem coversV {tv : Value} {T : Tr} {w : World} (h : Tops w tv T) {a : Int} (h0 : 0 ≤ a) (h1 : a < 4294967296) :
    Calls Try.prog 16 #[tv, .int .u32 a] w fun e w' => ∃ Br Bg, e = .returned (seqF Br Bg) ∧ SeqV w' Br Bg (T.el.filter (Tp.hasE a)) ∧ w.heap.size ≤ Br ∧ w.heap.size ≤ Bg ∧ Below w.heap.size w w' := by
  have hb := ba1 w (.cells #[.int .u32 a] 35)
  have hn := BlkAt.new w (t := 35) [.int .u32 a]
  have HO := Lib.hid (overV (h.later hb) (gv := .func (.func 39) #[] #[.pointer (some ⟨w.heap.size, 0, none⟩)]) (.inr ⟨w.heap.size, a, rfl, hn, ⟨h0, h1⟩, rfl⟩))
  rw [tw_has a T h.inv] at HO
  have HB := Lib.hid hb
  clear h h0 h1 hb hn
  go_enter Try.func16, Try.ntmps16
  go_wp2_with fail
  refine HO.out.mono ?_
  rintro e w1 ⟨Br, Bg, rfl, h1, h2, h3, h4⟩
  unfold seqF
  have H1 := Lib.hid h1
  have H4 := Lib.hid (below_of HB.out h4)
  have H2 := Lib.hid h2
  have H3 := Lib.hid h3
  have HBs := HB.out.size
  have H23 : Hid (w.heap.size ≤ Br ∧ w.heap.size ≤ Bg) := by
    have : w.heap.size ≤ Br ∧ w.heap.size ≤ Bg := ⟨Nat.le_trans HBs h2, Nat.le_trans HBs h3⟩
    exact this
  clear h1 h4 h2 h3 HBs
  go_wp2_with fail
  go_ret
  exact ⟨Br, Bg, rfl, H1.out, H23.out.1, H23.out.2, H4.out⟩
theorem allT {t : Nat} {lim : Int} {T : Tr} {w : World} (h : TSt t lim T w) :
    Calls Try.prog 15 #[.pointer (some ⟨t, 0, none⟩)] w fun e w' => ∃ Br Bg, e = .returned (seqF Br Bg) ∧ SeqV w' Br Bg T.el ∧ w.heap.size ≤ Br ∧ w.heap.size ≤ Bg ∧ Below w.heap.size w w' := allV h.tops
theorem coversT {t : Nat} {lim : Int} {T : Tr} {w : World} (h : TSt t lim T w) {a : Int} (h0 : 0 ≤ a) (h1 : a < 4294967296) :
    Calls Try.prog 16 #[.pointer (some ⟨t, 0, none⟩), .int .u32 a] w fun e w' => ∃ Br Bg, e = .returned (seqF Br Bg) ∧ SeqV w' Br Bg (T.el.filter (Tp.hasE a)) ∧ w.heap.size ≤ Br ∧ w.heap.size ≤ Bg ∧ Below w.heap.size w w' := coversV h.tops h0 h1
end Go.Proofs.Ytbfkjdnopiadjaa

namespace Go.Proofs.Ytbfkjdnopiadjaa
open Go.RowKit

/-- The loop's two blocks: the rounds' deferred calls at D, the record behind it. -/
def LoopAt (D : Nat) (rec : LoopState → Option Code → Loop) (st : LoopState) (pe : Option Code) (W : World) : Prop :=
  W.heap[D + 1]? = some (.loop (rec st pe)) ∧ W.heap[D]? = some (.deferred (some []))
theorem LoopAt.walk {D B : Nat} {rec : LoopState → Option Code → Loop} {st : LoopState} {pe : Option Code} {A W : World} (h : LoopAt D rec st pe A) {row : Option Nat} (hg : A.grownBy W row)
    (hr : ∀ r, row = some r → B ≤ r ∧ ∃ o : Obj, A.heap[r]? = some o ∧ o.isWalk = true) : LoopAt D rec st pe W :=
  ⟨(grownBy_keeps hg (fun r e => (hr r e).2) h.1 rfl).trans h.1, (grownBy_keeps hg (fun r e => (hr r e).2) h.2 rfl).trans h.2⟩
theorem LoopAt.keeps {D B : Nat} {rec : LoopState → Option Code → Loop} {st : LoopState} {pe : Option Code} {A W : World} (h : LoopAt D rec st pe A) (hB : B ≤ D) (hk : KeepsFrom B A W) : LoopAt D rec st pe W :=
  ⟨hk.same _ _ (by omega) h.1 rfl, hk.same _ _ hB h.2 rfl⟩
theorem LoopAt.turn {D : Nat} {rec : LoopState → Option Code → Loop} {st : LoopState} {pe : Option Code} {A : World} (h : LoopAt D rec st pe A) (st' : LoopState) (pe' : Option Code) : LoopAt D rec st' pe' (A.putObj (D + 1) (.loop (rec st' pe'))) :=
  ⟨World.putObj_heap_same (Array.getElem?_eq_some_iff.1 h.1).1, (World.putObj_heap_other (by omega)).trans h.2⟩

set_option maxHeartbeats 1000000 in
theorem wpIn_range_left {n : Nat} {P : Program} {α : Type} {g : Operand} {ps : Array Tmp} {assign body : Code} {Q : Exit → Act → World → Prop} {a : Act} {w : World}
    {gf : Nat} {lb : Array Value} (hg : a.eval g = .func (.func gf) #[] lb) (eg : ∀ args w, (callFunc gf args).run P w = .ok (.enter gf args) w)
    {encs : α → Array Value} {Kp : World → World → Prop} {S Sp : List α → Prop} {N : Nat} {w0 : World} (hseq : SeqStopsK Fence.wide (n - 1) P gf lb encs Kp S Sp N w0)
    (hKt : ∀ {A B C : World}, Kp A B → Kp B C → Kp A C) (hKb : ∀ (W : World) (l : Nat) (o o' : Obj), w.heap.size ≤ l → W.heap[l]? = some o → o.isCells = false → o.isWalk = false → Kp W (W.putObj l o')) (hb0 : Below w0.heap.size w0 w) (hps : ∀ x, (encs x).size = ps.size)
    (I : List α → World → Prop) (Ix : Code → List α → World → Prop) (hI : OwnFrom w.heap.size I) (hIx : ∀ c, OwnFrom w.heap.size (Ix c)) (h0 : I [] w)
    (Ax : List α → α → Act → World → Prop) (hAx : ∀ pre x a', OwnFrom w.heap.size (fun (_ : Unit) W => Ax pre x a' W))
    (hassign : ∀ (l : Nat) (pre : List α) (x : α) (W : World) (K : Act → World → Prop), I pre W → (∀ a' W', KeepsFrom w.heap.size W W' → Kp W W' → Ax pre x a' W' → K a' W') →
      assign.wpIn (Fence.wide.inRound l) (n - 1 - 1) P (Exit.then K (fun _ _ _ => False)) { tmps := (ps.zip (encs x)).foldl (fun t (p, v) => t.setIfInBounds p v) a.tmps, defers := [] } W)
    (hbody : ∀ (l : Nat) (pre : List α) (x : α) (a' : Act) (W : World), Ax pre x a' W → pre.length < N → body.wpIn (Fence.wide.inRound l) (n - 1 - 1) P (ownPostG w.heap.size Kp I Ix (pre ++ [x]) W) a' W)
    (hdone : ∀ (D : Nat) (xs : List α) (W : World), w.heap.size ≤ D → S xs → I xs W → W.heap[D]? = some (.deferred (some [])) → Q .normal { a with defers := { target := .collected D, args := #[] } :: a.defers } W)
    (hstop : ∀ (D : Nat) (c : Code) (pre : List α) (W : World), w.heap.size ≤ D → Sp pre → Ix c pre W → W.heap[D]? = some (.deferred (some [])) → c.wpIn Fence.wide n P Q { a with defers := { target := .collected D, args := #[] } :: a.defers } W) :
    (Code.rangeFunc g ps assign body).wpIn Fence.wide n P Q a w := by
  refine wpIn_rangeFunc fun fn _ => ?_
  obtain ⟨D, hD⟩ : ∃ D, D = w.heap.size := ⟨_, rfl⟩
  obtain ⟨rec, hrec⟩ : ∃ rec : LoopState → Option Code → Loop, rec = fun st pe => ⟨st, pe, fn, a.tmps, ps, assign, body, D⟩ := ⟨_, rfl⟩
  have hsz : ∀ o : Obj, (w.alloc o).heap.size = D + 1 := fun o => by rw [hD]; simp
  obtain ⟨W1, hW1⟩ : ∃ W1, W1 = (w.alloc (.deferred (some []))).alloc (.loop (rec .ready none)) := ⟨_, rfl⟩
  have hA1 := ba1 w (.deferred (some []))
  have hA2 := ba1 (w.alloc (.deferred (some []))) (.loop (rec .ready none))
  have hL1 : LoopAt D rec .ready none W1 := by
    refine ⟨?_, ?_⟩
    · have := World.alloc_heap_new (w.alloc (.deferred (some []))) (.loop (rec .ready none))
      rw [hsz, ← hW1] at this; exact this
    · have h := World.alloc_heap_new w (.deferred (some []))
      rw [← hD] at h
      rw [hW1, hA2.block D (by rw [hsz]; omega)]; exact h
  have hI1 : I [] W1 := by rw [hW1]; exact hI.alloc _ (hI.alloc _ h0)
  have hB1 : Below w0.heap.size w0 W1 := by rw [hW1]; exact hb0.trans ((below_of hA1 hA2).mono hb0.size)
  have hs1 : D ≤ W1.heap.size := by have := (Array.getElem?_eq_some_iff.1 hL1.2).1; omega
  -- turning the record is no matter to what the caller keeps
  have turnI : ∀ {s : List α} {st pe st' pe'} {W : World}, I s W → LoopAt D rec st pe W → I s (W.putObj (D + 1) (.loop (rec st' pe'))) := fun hi hl => hI.putObj _ hi (by omega) hl.1 rfl
  have turnX : ∀ {c : Code} {s : List α} {st pe st' pe'} {W : World}, Ix c s W → LoopAt D rec st pe W → Ix c s (W.putObj (D + 1) (.loop (rec st' pe'))) := fun hi hl => (hIx _).putObj _ hi (by omega) hl.1 rfl
  have turnK : ∀ {st pe st' pe'} {W : World}, LoopAt D rec st pe W → Kp W (W.putObj (D + 1) (.loop (rec st' pe'))) := fun hl => hKb _ _ _ _ (by omega) hl.1 rfl rfl
  have turnA : ∀ {pre x a'} {st pe st' pe'} {W : World}, Ax pre x a' W → LoopAt D rec st pe W → Ax pre x a' (W.putObj (D + 1) (.loop (rec st' pe'))) := fun hi hl => (hAx _ _ _).putObj (s := ()) _ hi (by omega) hl.1 rfl
  have begin_ : ∀ {W : World}, LoopAt D rec .ready none W → (Instr.beginRound (D + 1)).run P W = .ok () (W.putObj (D + 1) (.loop (rec .busy none))) := fun hl => by
    have := run_beginRound (P := P) hl.1 (by rw [hrec])
    rw [this, hrec]
  have end_ : ∀ {W : World} (j : Option Code), LoopAt D rec .busy none W → (Instr.endRound (D + 1) j).run P W = .ok (.bool j.isNone) (W.putObj (D + 1) (.loop (rec (if j.isNone then .ready else .done) j))) := fun j hl => by
    have := run_endRound (P := P) j hl.1
    rw [this, hrec]
  have shut : ∀ {st pe} {W : World}, st ≠ .busy → LoopAt D rec st pe W → (Instr.endLoop (D + 1)).run P W = .ok pe (W.putObj (D + 1) (.loop (rec .exhausted pe))) := fun hne hl => by
    have := run_endLoop (P := P) hl.1 (by rw [hrec]; exact hne)
    rw [this, hrec]
  have noncells : ∀ {A : World} {row : Option Nat}, (∀ r, row = some r → W1.heap.size ≤ r ∧ ∃ o : Obj, A.heap[r]? = some o ∧ o.isWalk = true) → (∀ r, row = some r → w.heap.size ≤ r ∧ ∃ o : Obj, A.heap[r]? = some o ∧ o.isCells = false) :=
    fun hr r e => by obtain ⟨hB, o, ho, hw⟩ := hr r e; exact ⟨by omega, o, ho, Obj.not_cells_of_walk hw⟩
  have hcall := hseq (D + 1) (fun pre W => I pre W ∧ LoopAt D rec .ready none W) (fun pre W => ∃ c, Ix c pre W ∧ LoopAt D rec .done (some c) W) W1 hB1
    (fun s A B row hs hg' hr => ⟨hI s A B row hs.1 hg' (noncells hr), hs.2.walk hg' hr⟩)
    (fun s A B row hs hg' hr => by obtain ⟨c, hc, hl⟩ := hs; exact ⟨c, hIx c s A B row hc hg' (noncells hr), hl.walk hg' hr⟩)
    (fun pre x W hs hlen => by
      obtain ⟨hi, hl⟩ := hs
      have hy := run_yield (P := P) (args := encs x) hl.1 (by rw [hrec]; exact hps x)
      rw [hrec] at hy
      refine ⟨fn, _, assign, body, hy, roundIn_of_wpIn trivial (hassign _ pre x W _ hi fun a' Wa hka hpa hax => ?_)⟩
      have hla := hl.keeps (by omega) hka
      refine ⟨_, begin_ hla, ?_⟩
      have hlb := hla.turn .busy none
      have hkb : Kp W (Wa.putObj (D + 1) (.loop (rec .busy none))) := hKt hpa (turnK hla)
      refine wpIn_mono (hbody _ pre x a' _ (turnA hax hla) hlen) fun e a3 W3 hp => ?_
      cases e with
      | normal =>
        obtain ⟨hk3, hkp3, hi3⟩ := hp
        have hl3 := hlb.keeps (by omega) hk3
        exact ⟨_, _, end_ none hl3, .inl ⟨rfl, ⟨turnI hi3 hl3, hl3.turn .ready none⟩, hKt hkb (hKt hkp3 (turnK hl3))⟩⟩
      | ret =>
        obtain ⟨hk3, hi3⟩ := hp
        have hl3 := hlb.keeps (by omega) hk3
        exact ⟨_, _, end_ (some .ret) hl3, .inr ⟨rfl, _, turnX hi3 hl3, hl3.turn .done (some .ret)⟩⟩
      | exit id =>
        obtain ⟨hk3, hi3⟩ := hp
        have hl3 := hlb.keeps (by omega) hk3
        exact ⟨_, _, end_ (some (.exit id)) hl3, .inr ⟨rfl, _, turnX hi3 hl3, hl3.turn .done (some (.exit id))⟩⟩
      | goto t =>
        obtain ⟨hk3, hi3⟩ := hp
        have hl3 := hlb.keeps (by omega) hk3
        exact ⟨_, _, end_ (some (.goto t)) hl3, .inr ⟨rfl, _, turnX hi3 hl3, hl3.turn .done (some (.goto t))⟩⟩
      | panic ch => exact hp.elim
      | outgrown => exact hp.elim)
    ⟨hI1, hL1⟩
  refine ⟨D + 1, [{ target := .collected D, args := #[] }], W1, { target := .fn (.func gf) lb, args := #[.func (.yield (D + 1)) #[] #[]] }, W1, gf, #[.func (.yield (D + 1)) #[] #[]] ++ lb, W1, ?_, ?_, fun _ _ => trivial, ?_, (fun h => by cases h), ?_⟩
  · rw [hW1, hrec, hD]; exact run_enterLoop_outer _ _ _ _ _
  · simp only [resolve, hg]
    simp [go_sem]
  · simp [invoke, go_sem, eg]
  · refine hcall.mono ?_
    rintro e W2 ⟨⟨v, rfl⟩, (⟨xs, hS, hi, hl⟩ | ⟨pre, hSp, c, hi, hl⟩)⟩
    · exact ⟨none, _, shut (by decide) hl, hdone _ xs _ (by omega) hS (turnI hi hl) (hl.turn .exhausted none).2⟩
    · exact ⟨some c, _, shut (by decide) hl, hstop _ c pre _ (by omega) hSp (turnX hi hl) (hl.turn .exhausted (some c)).2⟩
end Go.Proofs.Ytbfkjdnopiadjaa

namespace Go.Proofs.Ytbfkjdnopiadjaa
open Go.RowKit Go.Shelf
attribute [local go_sem] Oper.semAt_some
open Tp (Pf Ok mn bit com Tr En one)

theorem onlyN_le {Q : Exit → Act → World → Prop} (e : Exit) (a : Act) (w : World) (h : onlyN Q e a w) : Q e a w := by
  cases e <;> first | exact h | exact h.elim
/-- The last of entries, and is there one? -/
def lastE (l : List En) : En × Bool := match l.getLast? with | none => (((0, 0), 0), false) | some x => (x, true)
theorem lastE_snoc (l : List En) (x : En) : lastE (l ++ [x]) = (x, true) := by unfold lastE; rw [List.getLast?_append]; rfl
/-- Where a match's three results lie. -/
structure M3 (p : Nat) (x : En) (b : Bool) (W : World) : Prop where
  c0 : BlkAt 37 p [.int .u32 x.1.1, .int .i64 x.1.2] W
  c1 : BlkAt 3 (p + 1) [.int .i64 x.2] W
  c2 : BlkAt 4 (p + 1 + 1) [.bool b] W
theorem M3.grown {p : Nat} {x : En} {b : Bool} {A B : World} (h : M3 p x b A) {row : Option Nat} (hg : A.grownBy B row) (hr : ∀ r, row = some r → ∃ o : Obj, A.heap[r]? = some o ∧ o.isCells = false) : M3 p x b B :=
  ⟨h.c0.of_grown hg hr, h.c1.of_grown hg hr, h.c2.of_grown hg hr⟩
theorem M3.later {p : Nat} {x : En} {b : Bool} {A B : World} (h : M3 p x b A) (hb : Below A.heap.size A B) : M3 p x b B := ⟨h.c0.later hb, h.c1.later hb, h.c2.later hb⟩
theorem M3.cells {p : Nat} {x : En} {b : Bool} {W : World} (h : M3 p x b W) : W.cell? ⟨p, 0, none⟩ = some (.int .u32 x.1.1) ∧ W.cell? ⟨p, 1, none⟩ = some (.int .i64 x.1.2) ∧ W.cell? ⟨p + 1, 0, none⟩ = some (.int .i64 x.2) ∧ W.cell? ⟨p + 1 + 1, 0, none⟩ = some (.bool b) :=
  ⟨h.c0.cell (j := 0) rfl, h.c0.cell (j := 1) rfl, h.c1.cell (j := 0) rfl, h.c2.cell (j := 0) rfl⟩
theorem M3.put0 {p : Nat} {x : En} {b : Bool} {W : World} (h : M3 p x b W) (y : En) : M3 p (y.1, x.2) b ((W.setCell ⟨p, 0, none⟩ (.int .u32 y.1.1)).setCell ⟨p, 1, none⟩ (.int .i64 y.1.2)) :=
  ⟨(h.c0.set 0 (.int .u32 y.1.1)).set 1 (.int .i64 y.1.2), (h.c1.other (by omega) _ _).other (by omega) _ _, (h.c2.other (by omega) _ _).other (by omega) _ _⟩
theorem M3.put1 {p : Nat} {x : En} {b : Bool} {W : World} (h : M3 p x b W) (y : Int) : M3 p (x.1, y) b (W.setCell ⟨p + 1, 0, none⟩ (.int .i64 y)) :=
  ⟨h.c0.other (by omega) _ _, h.c1.set 0 (.int .i64 y), h.c2.other (by omega) _ _⟩
theorem M3.put2 {p : Nat} {x : En} {b : Bool} {W : World} (h : M3 p x b W) (y : Bool) : M3 p x y (W.setCell ⟨p + 1 + 1, 0, none⟩ (.bool y)) :=
  ⟨h.c0.other (by omega) _ _, h.c1.other (by omega) _ _, h.c2.set 0 (.bool y)⟩

set_option maxRecDepth 100000 in
set_option maxHeartbeats 4000000 in
theorem match_in (n : Nat) (hn3 : 3 ≤ n) {tv : Value} {T : Tr} {w : World} (h : Tops w tv T) {a : Int} (h0 : 0 ≤ a) (h1 : a < 4294967296) :
    CallsIn Fence.wide n Try.prog 23 #[tv, .int .u32 a] w fun e w' =>
      e = .returned (.tuple #[pv (lastE (T.el.filter (Tp.hasE a))).1.1, .int .i64 (lastE (T.el.filter (Tp.hasE a))).1.2, .bool (lastE (T.el.filter (Tp.hasE a))).2]) ∧ Below w.heap.size w w' := by
  have h3 : 1 ≤ n := by omega
  obtain ⟨L, hL⟩ : ∃ L, L = T.el.filter (Tp.hasE a) := ⟨_, rfl⟩
  have HC := Lib.hid (fun (W : World) (hb : Below w.heap.size w W) => coversV (h.later hb) h0 h1)
  rw [← hL] at HC ⊢
  clear h hL h0 h1
  refine callsIn_of_wp_marks Try.func23 rfl trivial ?_ rfl
  simp only [Try.ntmps23, List.size_toArray, List.length_cons, List.length_nil, Nat.reduceAdd, Nat.reduceSub, Array.replicate_succ, Array.replicate_zero, List.push_toArray, List.append_toArray, List.nil_append, List.cons_append]
  gi_wp2_with fail
  have hM : M3 w.heap.size ((0, 0), 0) false (((w.alloc (.cells #[.int .u32 0, .int .i64 0] 37)).alloc (.cells #[.int .i64 0] 3)).alloc (.cells #[.bool false] 4)) := by
    refine ⟨((BlkAt.new w [.int .u32 0, .int .i64 0]).later (ba1 _ _)).later (ba1 _ _), ?_, ?_⟩
    · have := (BlkAt.new (w.alloc (.cells #[.int .u32 0, .int .i64 0] 37)) (t := 3) [.int .i64 0]).later (ba1 _ (.cells #[.bool false] 4))
      rw [World.size_alloc] at this; exact this
    · have := BlkAt.new ((w.alloc (.cells #[.int .u32 0, .int .i64 0] 37)).alloc (.cells #[.int .i64 0] 3)) (t := 4) [.bool false]
      rw [World.size_alloc, World.size_alloc] at this; exact this
  have hB := below_of (below_of (ba1 w (.cells #[.int .u32 0, .int .i64 0] 37)) (ba1 _ (.cells #[.int .i64 0] 3))) (ba1 _ (.cells #[.bool false] 4))
  obtain ⟨W, hW⟩ : ∃ W, W = ((w.alloc (.cells #[.int .u32 0, .int .i64 0] 37)).alloc (.cells #[.int .i64 0] 3)).alloc (.cells #[.bool false] 4) := ⟨_, rfl⟩
  rw [← hW] at hM hB ⊢
  clear hW
  have HM := Lib.hid hM
  have HB := Lib.hid hB
  clear hM hB
  refine ⟨trivial, (callsIn_wide.2 (HC.out _ HB.out)).mono ?_⟩
  rintro e w1 ⟨Br, Bg, rfl, hS, _, _, hb1⟩
  have HM1 := Lib.hid (HM.out.later hb1)
  have HB1 := Lib.hid (below_of HB.out hb1)
  have HS := Lib.hid hS
  unfold seqF
  clear hb1 hS HM HB HC
  gi_wp2_with fail
  have hle1 := HB1.out.size
  refine wpIn_range_left (gf := 52) (lb := #[.pointer (some ⟨Br, 0, none⟩), .pointer (some ⟨Bg, 0, none⟩)]) rfl (enters_of Try.func52 (by kernel_rfl) rfl)
    (over_stops (n - 1) Br Bg L w1 HS.out) Keep.trans Keep.putObj (Below.refl _ _) (fun _ => rfl)
    (fun pre W => M3 w.heap.size (lastE (pre.map Subtype.val)).1 (lastE (pre.map Subtype.val)).2 W ∧ Below w.heap.size w W) (fun _ _ _ => False)
    (fun s A B row hs hg hr => ⟨hs.1.grown hg (fun r e => (hr r e).2), hs.2.grown hg hs.2.size (fun k e => by have := (hr k e).1; omega)⟩) (fun c s A B row hs _ _ => hs.elim) ⟨HM1.out, HB1.out⟩
    (fun pre x a' W => (∃ b, M3 w.heap.size x.1 b W) ∧ Below w.heap.size w W ∧ a' = { tmps := #[tv, .int .u32 a, undef, undef, .pointer (some ⟨w.heap.size, 0, none⟩), .pointer (some ⟨w.heap.size + 1, 0, none⟩), .pointer (some ⟨w.heap.size + 1 + 1, 0, none⟩), tv, .int .u32 a, .func (.func 52) #[] #[.pointer (some ⟨Br, 0, none⟩), .pointer (some ⟨Bg, 0, none⟩)], .agg #[.int .u32 x.1.1.1, .int .i64 x.1.1.2], .int .i64 x.1.2, undef, undef, undef], defers := [] })
    (fun pre x a' s A B row hs hg hr => ⟨by obtain ⟨b, hb⟩ := hs.1; exact ⟨b, hb.grown hg (fun r e => (hr r e).2)⟩, hs.2.1.grown hg hs.2.1.size (fun k e => by have := (hr k e).1; omega), hs.2.2⟩) ?assign ?body ?done ?stop
  case assign =>
    rintro l pre x W2 K ⟨hm, hb2⟩ hK
    obtain ⟨c0, c1, c2, c3⟩ := hm.cells
    have f0 := hm.c0.frozen 0
    have f1 := hm.c0.frozen 1
    have f2 := hm.c1.frozen 0
    have HMM := Lib.hid hm
    have HBB := Lib.hid hb2
    have HK := Lib.hid hK
    obtain ⟨⟨⟨xa, xn⟩, xv⟩, hx⟩ := x
    clear hm hb2 hK
    simp only [encE] at HK ⊢
    gi_wp2_with fail
    have hm2 := (HMM.out.put0 ((xa, xn), xv)).put1 xv
    have k1 : Keep W2 _ := Keep.set HMM.out.c0 (by decide) (by decide) 0 (.int .u32 xa)
    have k2 := k1.trans (Keep.set (HMM.out.c0.set 0 (.int .u32 xa)) (by decide) (by decide) 1 (.int .i64 xn))
    have k3 := k2.trans (Keep.set (HMM.out.put0 ((xa, xn), xv)).c1 (by decide) (by decide) 0 (.int .i64 xv))
    refine HK.out _ _ ?_ k3 ⟨⟨_, hm2⟩, ?_, rfl⟩
    · exact (((KeepsOthers.setCell _ _ _).trans (KeepsOthers.setCell _ _ _)).trans (KeepsOthers.setCell _ _ _)).from _
    · exact ((HBB.out.setCell (by simp) _).setCell (by simp) _).setCell (by simp) _
  case body =>
    rintro l pre x a' W2 ⟨⟨b, hm⟩, hb2, rfl⟩ hlt
    obtain ⟨c0, c1, c2, c3⟩ := hm.cells
    have f3 := hm.c2.frozen 0
    have HMM := Lib.hid hm
    have HBB := Lib.hid hb2
    have hl : lastE ((pre ++ [x]).map Subtype.val) = (x.1, true) := by rw [List.map_append]; exact lastE_snoc _ _
    have HL := Lib.hid hl
    clear hm hb2 hl
    gi_wp2_with fail
    refine ⟨(KeepsOthers.setCell _ _ _).from _, Keep.set HMM.out.c2 (by decide) (by decide) 0 _, ?_, HBB.out.setCell (by simp; omega) _⟩
    rw [HL.out]
    exact HMM.out.put2 true
  case done =>
    rintro D ys W2 hD hys ⟨hm, hb2⟩ hK
    rw [hys] at hm
    obtain ⟨x, hx⟩ : ∃ x, x = lastE L := ⟨_, rfl⟩
    rw [← hx] at hm
    obtain ⟨⟨⟨xa, xn⟩, xv⟩, xb⟩ := x
    have HMM := Lib.hid hm
    have HBB := Lib.hid hb2
    have HK := Lib.hid hK
    have HX := Lib.hid hx
    clear hm hb2 hK hx hys
    gi_wp2_with fail
    refine Code.wpIn_mono onlyN_le (wpIn_wide.2 ?_)
    (refine wp_region_held_drew (S := (fun w' => M3 w.heap.size ((xa, xn), xv) xb w' ∧ KeepsFrom w.heap.size W2 w' ∧ Below w.heap.size w w')) (by kernel_rfl) ?_ (fun hHeld => ?_); (focus ((try dsimp only); (exact ⟨⟨HMM.out.c0, HMM.out.c1, HMM.out.c2⟩, (KeepsOthers.drew _).from _, HBB.out.drew⟩))))
    (refine wpAnyH_take (i := 0) (v := ?_) rfl (by kernel_rfl) (by kernel_rfl) (by kernel_rfl) (fun _ _ _ h => False.elim h) (Or.inl ⟨by rfl, ?_⟩) hHeld ?_; rotate_left; (focus (intro w hSw; (try dsimp only at hSw); go_simp; (obtain ⟨x0, x1, x2, x3⟩ := hSw.1.cells; go_simp; try with_reducible rfl))); (try simp only [Act.put, List.setIfInBounds_toArray, List.set_cons_zero, List.set_cons_succ, List.getElem_toArray, List.getElem_cons_zero]))
    (refine wpAnyH_take (i := 1) (v := ?_) rfl (by kernel_rfl) (by kernel_rfl) (by kernel_rfl) (fun _ _ _ h => False.elim h) (Or.inl ⟨by rfl, ?_⟩) hHeld ?_; rotate_left; (focus (intro w hSw; (try dsimp only at hSw); go_simp; (obtain ⟨x0, x1, x2, x3⟩ := hSw.1.cells; go_simp; try with_reducible rfl))); (try simp only [Act.put, List.setIfInBounds_toArray, List.set_cons_zero, List.set_cons_succ, List.getElem_toArray, List.getElem_cons_zero, List.getElem_cons_succ]))
    (refine wpAnyH_take (i := 2) (v := ?_) rfl (by kernel_rfl) (by kernel_rfl) (by kernel_rfl) (fun _ _ _ h => False.elim h) (Or.inl ⟨by rfl, ?_⟩) hHeld ?_; rotate_left; (focus (intro w hSw; (try dsimp only at hSw); go_simp; (obtain ⟨x0, x1, x2, x3⟩ := hSw.1.cells; go_simp; try with_reducible rfl))); (try simp only [Act.put, List.setIfInBounds_toArray, List.set_cons_zero, List.set_cons_succ, List.getElem_toArray, List.getElem_cons_zero, List.getElem_cons_succ]))
    obtain ⟨W3, hW3⟩ : ∃ W3, W3 = W2.drew := ⟨_, rfl⟩
    rw [← hW3] at hHeld ⊢
    clear hW3
    have H3 := hHeld
    obtain ⟨c0, c1, c2, c3⟩ := hHeld.1.cells
    have f0 := hHeld.1.c0.frozen 0
    have f1 := hHeld.1.c0.frozen 1
    have f2 := hHeld.1.c1.frozen 0
    have f3 := hHeld.1.c2.frozen 0
    have a3 := H3.1.put0 ((xa, xn), xv)
    have k3 := H3.2.1.trans (((KeepsOthers.setCell W3 ⟨w.heap.size, 0, none⟩ (.int .u32 xa)).trans (KeepsOthers.setCell _ ⟨w.heap.size, 1, none⟩ (.int .i64 xn))).from w.heap.size)
    have b3 := (H3.2.2.setCell (p := ⟨w.heap.size, 0, none⟩) (Nat.le_refl _) (.int .u32 xa)).setCell (p := ⟨w.heap.size, 1, none⟩) (Nat.le_refl _) (.int .i64 xn)
    (refine wpAnyH_ready (rs := [3]) (by kernel_rfl) (by simp) ?_; refine AllReadyH.cons rfl (fun K hK => ?_) AllReadyH.nil; go_simp; skip; refine hK.out _ _ ?_ (fun hHeldN => ?_); (focus ((try dsimp only); (exact ⟨a3, k3, b3⟩))); clear hK K hHeld; have hHeld := hHeldN; clear hHeldN; (try simp only [Act.put, List.setIfInBounds_toArray, List.set_cons_zero, List.set_cons_succ, List.getElem_toArray, List.getElem_cons_zero, List.getElem_cons_succ]))
    have a4 := a3.put1 xv
    have k4 := k3.trans ((KeepsOthers.setCell _ ⟨w.heap.size + 1, 0, none⟩ (.int .i64 xv)).from w.heap.size)
    have b4 := b3.setCell (p := ⟨w.heap.size + 1, 0, none⟩) (Nat.le_succ _) (.int .i64 xv)
    (refine wpAnyH_ready (rs := [4]) (by kernel_rfl) (by simp) ?_; refine AllReadyH.cons rfl (fun K hK => ?_) AllReadyH.nil; go_simp; skip; refine hK.out _ _ ?_ (fun hHeldN => ?_); (focus ((try dsimp only); (exact ⟨a4, k4, b4⟩))); clear hK K hHeld; have hHeld := hHeldN; clear hHeldN; (try simp only [Act.put, List.setIfInBounds_toArray, List.set_cons_zero, List.set_cons_succ, List.getElem_toArray, List.getElem_cons_zero, List.getElem_cons_succ]))
    have a5 := a4.put2 xb
    have k5 := k4.trans ((KeepsOthers.setCell _ ⟨w.heap.size + 1 + 1, 0, none⟩ (.bool xb)).from w.heap.size)
    have b5 := b4.setCell (p := ⟨w.heap.size + 1 + 1, 0, none⟩) (by simp; omega) (.bool xb)
    (refine wpAnyH_ready (rs := [5]) (by kernel_rfl) (by simp) ?_; refine AllReadyH.cons rfl (fun K hK => ?_) AllReadyH.nil; go_simp; skip; refine hK.out _ _ ?_ (fun hHeldN => ?_); (focus ((try dsimp only); (exact ⟨a5, k5, b5⟩))); clear hK K hHeld; have hHeld := hHeldN; clear hHeldN; (try simp only [Act.put, List.setIfInBounds_toArray, List.set_cons_zero, List.set_cons_succ, List.getElem_toArray, List.getElem_cons_zero, List.getElem_cons_succ]))
    refine wpAnyH_done (by kernel_rfl) ?_ _
    simp only [onlyN]
    obtain ⟨W6, hW6⟩ : ∃ W6, W6 = (((W3.setCell ⟨w.heap.size, 0, none⟩ (.int .u32 xa)).setCell ⟨w.heap.size, 1, none⟩ (.int .i64 xn)).setCell ⟨w.heap.size + 1, 0, none⟩ (.int .i64 xv)).setCell ⟨w.heap.size + 1 + 1, 0, none⟩ (.bool xb) := ⟨_, rfl⟩
    rw [← hW6] at a5 k5 b5 ⊢
    clear hW6 hHeld a4 k4 b4 a3 k3 b3 H3 c0 c1 c2 c3 f0 f1 f2 f3
    have HA5 := Lib.hid a5
    have HK5 := Lib.hid k5
    have HB5 := Lib.hid b5
    clear a5 k5 b5
    gi_wp2_with fail
    have hK' := HK5.out.same D _ (by omega) HK.out rfl
    have hg := grownBy_putObj' W6 D (.deferred none)
    have hr : ∀ r, some D = some r → ∃ o : Obj, W6.heap[r]? = some o ∧ o.isCells = false := fun r e => by cases e; exact ⟨_, hK', rfl⟩
    obtain ⟨x0, x1, x2, x3⟩ := (HA5.out.grown hg hr).cells
    refine ⟨by simp, .inl ⟨_, _, rfl, run_takeDeferred hK', ?_⟩⟩
    refine ⟨.tuple #[pv (lastE L).1.1, .int .i64 (lastE L).1.2, .bool (lastE L).2], ?_, rfl, HB5.out.grown hg HB5.out.size (fun k e => by cases e; omega)⟩
    rw [← HX.out]
    simp [results, Try.f23, go_sem, x0, x1, x2, x3, pv]
  case stop =>
    rintro D c pre W2 _ _ h _
    exact h.elim
theorem matchV {tv : Value} {T : Tr} {w : World} (h : Tops w tv T) {a : Int} (h0 : 0 ≤ a) (h1 : a < 4294967296) :
    Calls Try.prog 23 #[tv, .int .u32 a] w fun e w' =>
      e = .returned (.tuple #[pv (lastE (T.el.filter (Tp.hasE a))).1.1, .int .i64 (lastE (T.el.filter (Tp.hasE a))).1.2, .bool (lastE (T.el.filter (Tp.hasE a))).2]) ∧ Below w.heap.size w w' :=
  callsIn_wide.1 (match_in 3 (by omega) h h0 h1)
theorem matchT {t : Nat} {lim : Int} {T : Tr} {w : World} (h : TSt t lim T w) {a : Int} (h0 : 0 ≤ a) (h1 : a < 4294967296) :
    Calls Try.prog 23 #[.pointer (some ⟨t, 0, none⟩), .int .u32 a] w fun e w' =>
      e = .returned (.tuple #[pv (lastE (T.el.filter (Tp.hasE a))).1.1, .int .i64 (lastE (T.el.filter (Tp.hasE a))).1.2, .bool (lastE (T.el.filter (Tp.hasE a))).2]) ∧ Below w.heap.size w w' :=
  matchV h.tops h0 h1
end Go.Proofs.Ytbfkjdnopiadjaa
