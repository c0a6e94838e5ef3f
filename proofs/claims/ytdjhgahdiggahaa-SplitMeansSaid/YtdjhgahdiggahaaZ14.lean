/- Shares as they come about, plainly.
   Places of numbers in order: the whole.
   Places of numbers in order: the closure, and the whole. -/
import Derived.Test.YtdjhgahdiggahaaZ01
import Derived.Test.YtdjhgahdiggahaaZ13

set_option linter.unusedSimpArgs false
set_option linter.unusedVariables false
namespace Go.Proofs.Ytdjhgahdiggahaa
open Go.RowKit Go.Sort Go.Shelf
attribute [local go_sem ↓] Go.wp_at_zero Go.wp_at_succ
open Sp

def zil (rs : List Nat) : List Int := rs.map fun (n : Nat) => (n : Int)
set_option maxRecDepth 100000 in
theorem zil_len (rs : List Nat) : (zil rs).length = rs.length := by simp [zil]
set_option maxRecDepth 100000 in
theorem zil_at {rs : List Nat} {j : Nat} (h : j < rs.length) : (zil rs)[j]? = some ((rs.getD j 0 : Nat) : Int) := by
  unfold zil
  rw [List.getElem?_map, List.getElem?_eq_getElem h]
  simp [h]
def cfP (rs : List Nat) (x y : Nat) : Int := orZ (cmpZ ((rs.getD y 0 : Nat) : Int) ((rs.getD x 0 : Nat) : Int)) (cmpZ (x : Int) (y : Int))
set_option maxRecDepth 100000 in
theorem cfP_lt (rs : List Nat) (x y : Nat) : decide (cfP rs x y < 0) = Sp.lt rs x y := by
  unfold cfP orZ cmpZ
  rw [Bool.eq_iff_iff, decide_eq_true_eq, lt_iff]
  obtain ⟨a, ha⟩ : ∃ a, a = rs.getD x 0 := ⟨_, rfl⟩
  obtain ⟨b, hb⟩ : ∃ b, b = rs.getD y 0 := ⟨_, rfl⟩
  rw [← ha, ← hb]
  by_cases h1 : b < a
  · have h1' : (b : Int) < a := by omega
    simp [h1, h1']
  · have h1' : ¬ (b : Int) < a := by omega
    by_cases h2 : a < b
    · have h2' : (a : Int) < b := by omega
      simp [h1, h1', h2, h2']
      omega
    · have h3 : a = b := by omega
      subst h3
      by_cases h4 : x < y
      · have h4' : (x : Int) < y := by omega
        simp [h4, h4']
      · have h4' : ¬ (x : Int) < y := by omega
        by_cases h5 : y < x
        · have h5' : (y : Int) < x := by omega
          simp [h4, h4', h5, h5']
        · have : x = y := by omega
          subst this
          simp
set_option maxRecDepth 100000 in
theorem closL {pb g n : Nat} {rs : List Nat} {w : World} (hn : n = rs.length) (hl : n ≤ 1000) (hp : BlkAt 62 pb [.slice (some ⟨g, 0, none⟩) n n] w) (hg : IB g (zil rs) w) {x y : Nat} (hx : x < n) (hy : y < n) :
    Calls Try.prog 105 #[.int .i64 (x : Int), .int .i64 (y : Int), .pointer (some ⟨pb, 0, none⟩)] w fun e w' => e = .returned (.int .i64 (cfP rs x y)) ∧ GR w w' := by
  have HC : Hid (∀ B, GR w B → B.cell? ⟨pb, 0, none⟩ = some (.slice (some ⟨g, 0, none⟩) n n) ∧ B.cell? ⟨g, x, none⟩ = some (.int .i64 ((rs.getD x 0 : Nat) : Int)) ∧ B.cell? ⟨g, y, none⟩ = some (.int .i64 ((rs.getD y 0 : Nat) : Int))) := by
    have : ∀ B, GR w B → B.cell? ⟨pb, 0, none⟩ = some (.slice (some ⟨g, 0, none⟩) n n) ∧ B.cell? ⟨g, x, none⟩ = some (.int .i64 ((rs.getD x 0 : Nat) : Int)) ∧ B.cell? ⟨g, y, none⟩ = some (.int .i64 ((rs.getD y 0 : Nat) : Int)) := fun B hB =>
      ⟨cell_later hB.below (hp.cell (j := 0) rfl), cell_later hB.below (hg.cell (iv_at2 (zil_at (by omega)))), cell_later hB.below (hg.cell (iv_at2 (zil_at (by omega))))⟩
    exact this
  have hz : cfP rs x y = orZ (cmpZ ((rs.getD y 0 : Nat) : Int) ((rs.getD x 0 : Nat) : Int)) (cmpZ (x : Int) (y : Int)) := rfl
  obtain ⟨rx, hrx⟩ : ∃ r : Int, r = ((rs.getD x 0 : Nat) : Int) := ⟨_, rfl⟩
  obtain ⟨ry, hry⟩ : ∃ r : Int, r = ((rs.getD y 0 : Nat) : Int) := ⟨_, rfl⟩
  rw [← hrx, ← hry] at HC hz
  obtain ⟨c1, hc1⟩ : ∃ c, c = cmpZ ry rx := ⟨_, rfl⟩
  obtain ⟨c2, hc2⟩ : ∃ c, c = cmpZ (x : Int) (y : Int) := ⟨_, rfl⟩
  have H1 := Lib.hid (fun B => cmpN ry rx B)
  have H2 := Lib.hid (fun B => cmpN (x : Int) (y : Int) B)
  rw [← hc1] at H1 hz
  rw [← hc2] at H2 hz
  rw [hz]
  have g1 : (x : Int) < n := by omega
  have g2 : (y : Int) < n := by omega
  have g3 : (n : Int) ≤ 1000 := by omega
  clear hz hrx hry hc1 hc2 hp hg hn hl
  go_enter Try.func105, Try.ntmps105
  go_wp2_with fail
  (refine wp_region_held_drew (S := (fun w' => GR w w')) (by kernel_rfl) ?_ (fun hHeld => ?_); (focus ((try dsimp only); (exact (GR.refl w).drew))))
  (refine wpAnyH_take (i := 0) (v := ?_) rfl (by kernel_rfl) (by kernel_rfl) (by kernel_rfl) (fun _ _ _ h => h) (Or.inl ⟨by rfl, ?_⟩) hHeld ?_; rotate_left; (focus (intro w hSw; (try dsimp only at hSw); go_simp; (have cc := (HC.out _ hSw).1; go_simp; try with_reducible rfl))); (try simp only [Act.put, List.setIfInBounds_toArray, List.set_cons_zero, List.set_cons_succ, List.getElem_toArray, List.getElem_cons_zero]))
  (refine wpAnyH_take (i := 1) (v := ?_) rfl (by kernel_rfl) (by kernel_rfl) (by kernel_rfl) (fun _ _ _ h => h) (Or.inl ⟨by rfl, ?_⟩) hHeld ?_; rotate_left; (focus (intro w hSw; (try dsimp only at hSw); go_simp; try with_reducible rfl)); (try simp only [Act.put, List.setIfInBounds_toArray, List.set_cons_zero, List.set_cons_succ, List.getElem_toArray, List.getElem_cons_zero, List.getElem_cons_succ])); (refine wpAnyH_take (i := 2) (v := ?_) rfl (by kernel_rfl) (by kernel_rfl) (by kernel_rfl) (fun _ _ _ h => h) (Or.inl ⟨by rfl, ?_⟩) hHeld ?_; rotate_left; (focus (intro w hSw; (try dsimp only at hSw); go_simp; try with_reducible rfl)); (try simp only [Act.put, List.setIfInBounds_toArray, List.set_cons_zero, List.set_cons_succ, List.getElem_toArray, List.getElem_cons_zero, List.getElem_cons_succ]))
  (refine wpAnyH_take (i := 3) (v := ?_) rfl (by kernel_rfl) (by kernel_rfl) (by kernel_rfl) (fun _ _ _ h => h) (Or.inl ⟨by rfl, ?_⟩) hHeld ?_; rotate_left; (focus (intro w hSw; (try dsimp only at hSw); go_simp; (have cc := (HC.out _ hSw).2.2; go_simp; try with_reducible rfl))); (try simp only [Act.put, List.setIfInBounds_toArray, List.set_cons_zero, List.set_cons_succ, List.getElem_toArray, List.getElem_cons_zero, List.getElem_cons_succ]))
  (refine wpAnyH_take (i := 4) (v := ?_) rfl (by kernel_rfl) (by kernel_rfl) (by kernel_rfl) (fun _ _ _ h => h) (Or.inl ⟨by rfl, ?_⟩) hHeld ?_; rotate_left; (focus (intro w hSw; (try dsimp only at hSw); go_simp; (have cc := (HC.out _ hSw).1; go_simp; try with_reducible rfl))); (try simp only [Act.put, List.setIfInBounds_toArray, List.set_cons_zero, List.set_cons_succ, List.getElem_toArray, List.getElem_cons_zero, List.getElem_cons_succ]))
  (refine wpAnyH_take (i := 5) (v := ?_) rfl (by kernel_rfl) (by kernel_rfl) (by kernel_rfl) (fun _ _ _ h => h) (Or.inl ⟨by rfl, ?_⟩) hHeld ?_; rotate_left; (focus (intro w hSw; (try dsimp only at hSw); go_simp; try with_reducible rfl)); (try simp only [Act.put, List.setIfInBounds_toArray, List.set_cons_zero, List.set_cons_succ, List.getElem_toArray, List.getElem_cons_zero, List.getElem_cons_succ])); (refine wpAnyH_take (i := 6) (v := ?_) rfl (by kernel_rfl) (by kernel_rfl) (by kernel_rfl) (fun _ _ _ h => h) (Or.inl ⟨by rfl, ?_⟩) hHeld ?_; rotate_left; (focus (intro w hSw; (try dsimp only at hSw); go_simp; try with_reducible rfl)); (try simp only [Act.put, List.setIfInBounds_toArray, List.set_cons_zero, List.set_cons_succ, List.getElem_toArray, List.getElem_cons_zero, List.getElem_cons_succ]))
  (refine wpAnyH_take (i := 7) (v := ?_) rfl (by kernel_rfl) (by kernel_rfl) (by kernel_rfl) (fun _ _ _ h => h) (Or.inl ⟨by rfl, ?_⟩) hHeld ?_; rotate_left; (focus (intro w hSw; (try dsimp only at hSw); go_simp; (have cc := (HC.out _ hSw).2.1; go_simp; try with_reducible rfl))); (try simp only [Act.put, List.setIfInBounds_toArray, List.set_cons_zero, List.set_cons_succ, List.getElem_toArray, List.getElem_cons_zero, List.getElem_cons_succ]))
  (refine wpAnyH_take (i := 9) (v := ?_) rfl (by kernel_rfl) (by kernel_rfl) (by kernel_rfl) (fun _ _ _ h => h) (Or.inl ⟨by rfl, ?_⟩) hHeld ?_; rotate_left; (focus (intro w hSw; (try dsimp only at hSw); go_simp; try with_reducible rfl)); (try simp only [Act.put, List.setIfInBounds_toArray, List.set_cons_zero, List.set_cons_succ, List.getElem_toArray, List.getElem_cons_zero, List.getElem_cons_succ])); (refine wpAnyH_take (i := 10) (v := ?_) rfl (by kernel_rfl) (by kernel_rfl) (by kernel_rfl) (fun _ _ _ h => h) (Or.inl ⟨by rfl, ?_⟩) hHeld ?_; rotate_left; (focus (intro w hSw; (try dsimp only at hSw); go_simp; try with_reducible rfl)); (try simp only [Act.put, List.setIfInBounds_toArray, List.set_cons_zero, List.set_cons_succ, List.getElem_toArray, List.getElem_cons_zero, List.getElem_cons_succ]))
  (refine wpAnyH_ready (rs := [8]) (by kernel_rfl) (by simp) ?_; refine AllReadyH.cons rfl (fun K hK => ?_) AllReadyH.nil; go_simp; refine (H1.out _).mono ?_; rintro e y1 ⟨rfl, rfl⟩; refine hK.out _ _ ?_ (fun hHeldN => ?_); (focus ((try dsimp only); (exact hHeld))); clear hK K hHeld; have hHeld := hHeldN; clear hHeldN; (try simp only [Act.put, List.setIfInBounds_toArray, List.set_cons_zero, List.set_cons_succ, List.getElem_toArray, List.getElem_cons_zero, List.getElem_cons_succ]))
  (refine wpAnyH_ready (rs := [11]) (by kernel_rfl) (by simp) ?_; refine AllReadyH.cons rfl (fun K hK => ?_) AllReadyH.nil; go_simp; refine (H2.out _).mono ?_; rintro e y2 ⟨rfl, rfl⟩; refine hK.out _ _ ?_ (fun hHeldN => ?_); (focus ((try dsimp only); (exact hHeld))); clear hK K hHeld; have hHeld := hHeldN; clear hHeldN; (try simp only [Act.put, List.setIfInBounds_toArray, List.set_cons_zero, List.set_cons_succ, List.getElem_toArray, List.getElem_cons_zero, List.getElem_cons_succ]))
  (refine wpAnyH_ready (rs := [12]) (by kernel_rfl) (by simp) ?_; refine AllReadyH.cons rfl (fun K hK => ?_) AllReadyH.nil; go_simp; skip; refine hK.out _ _ ?_ (fun hHeldN => ?_); (focus ((try dsimp only); (exact hHeld.alloc _))); clear hK K hHeld; have hHeld := hHeldN; clear hHeldN; (try simp only [Act.put, List.setIfInBounds_toArray, List.set_cons_zero, List.set_cons_succ, List.getElem_toArray, List.getElem_cons_zero, List.getElem_cons_succ]))
  (refine wpAnyH_ready (rs := [13]) (by kernel_rfl) (by simp) ?_; refine AllReadyH.cons rfl (fun K hK => ?_) AllReadyH.nil; go_simp; refine (orV c1 c2 ((BlkAt.new w [.int .i64 c1, .int .i64 c2]).later (Below.refl _ _).drew)).mono ?_; rintro e y3 ⟨rfl, rfl⟩; refine hK.out _ _ ?_ (fun hHeldN => ?_); (focus ((try dsimp only); (exact hHeld))); clear hK K hHeld; have hHeld := hHeldN; clear hHeldN; (try simp only [Act.put, List.setIfInBounds_toArray, List.set_cons_zero, List.set_cons_succ, List.getElem_toArray, List.getElem_cons_zero, List.getElem_cons_succ]))
  (refine wpAnyH_take (i := 14) (v := ?_) rfl (by kernel_rfl) (by kernel_rfl) (by kernel_rfl) (fun _ _ _ h => h) (Or.inl ⟨by rfl, ?_⟩) hHeld ?_; rotate_left; (focus (intro w hSw; (try dsimp only at hSw); go_simp; try with_reducible rfl)); (try simp only [Act.put, List.setIfInBounds_toArray, List.set_cons_zero, List.set_cons_succ, List.getElem_toArray, List.getElem_cons_zero, List.getElem_cons_succ]))
  refine wpAnyH_done (by kernel_rfl) ?_ _
  have HE := Lib.hid hHeld
  clear hHeld
  go_wp2_with fail
  go_ret
  exact ⟨rfl, HE.out⟩
end Go.Proofs.Ytdjhgahdiggahaa

namespace Go.Proofs.Ytdjhgahdiggahaa
open Go.RowKit Go.Sort Go.Shelf
attribute [local go_sem ↓] Go.wp_at_zero Go.wp_at_succ
open Sp

set_option maxRecDepth 100000 in
theorem rg_succ {n i : Nat} (h : i < n) : (zil (List.range i ++ List.replicate (n - i) 0)).set i (i : Int) = zil (List.range (i + 1) ++ List.replicate (n - (i + 1)) 0) := by
  obtain ⟨m, hm⟩ : ∃ m, n - i = m + 1 := ⟨n - i - 1, by omega⟩
  have hm2 : n - (i + 1) = m := by omega
  rw [hm, hm2]
  unfold zil
  rw [List.map_append, List.set_append_right _ _ (by simp), List.map_append, List.range_succ, List.map_append, List.append_assoc]
  congr 1
  simp [List.replicate_succ]
set_option maxRecDepth 100000 in
theorem sort_le {pb g g2 n : Nat} {rs : List Nat} {w : World} (hn : n = rs.length) (h1 : 1 ≤ n) (hl : n ≤ 1000) (hp : BlkAt 62 pb [.slice (some ⟨g, 0, none⟩) n n] w) (hg : IB g (zil rs) w) (h2 : IB g2 (zil (List.range n)) w) (e1 : pb ≠ g2) (e2 : g ≠ g2) :
    Calls Try.prog 104 #[.slice (some ⟨g2, 0, none⟩) n n, .func (.func 105) #[] #[.pointer (some ⟨pb, 0, none⟩)]] w fun e w' => e = .returned (.tuple #[]) ∧ ∃ P : List Nat, P.Perm (List.range n) ∧ P.Pairwise (fun i j => Sp.lt rs i j = true) ∧ IB g2 (zil P) w' ∧ Chg [g2] w w' := by
  have hin : Inhabited (Fin n) := ⟨⟨0, h1⟩⟩
  obtain ⟨d, hd⟩ : ∃ d : Array (Fin n), d = (List.finRange n).toArray := ⟨_, rfl⟩
  have hsz : d.size = n := by rw [hd]; simp
  have hlz : (zil (List.range n)).length = n := by rw [zil_len]; simp
  have hlt : g2 < w.heap.size := BlkAt.lt h2
  have hH : Holds encFin w g2 0 d := by
    intro j hj
    have hjn : j < n := by rw [hsz] at hj; exact hj
    have hdj : d[j]! = ⟨j, hjn⟩ := by
      rw [getElem!_pos _ j hj]
      subst hd
      simp
    rw [Nat.zero_add, hdj]
    refine ⟨h2.cell (iv_at2 ?_), BlkAt.frozen h2 j⟩
    rw [zil_at (by simpa using hjn)]
    simp [hjn]
  have hlo : ∀ x y : Fin n, ltOf (fun x y : Fin n => cfP rs x.val y.val) x y = Sp.lt rs x.val y.val := fun x y => cfP_lt rs x.val y.val
  have hO : SWO (ltOf fun x y : Fin n => cfP rs x.val y.val) := by
    refine ⟨fun x => ?_, fun x y z a b => ?_, fun x y z a b => ?_⟩
    · rw [hlo]; exact Sp.lt_irrefl _ _
    · rw [hlo] at *; exact Sp.lt_trans a b
    · rw [hlo] at *
      rcases Sp.lt_tri rs x.val y.val with h | h | h
      · rw [h] at a; cases a
      · rw [h]; exact b
      · rcases Sp.lt_tri rs y.val z.val with h' | h' | h'
        · rw [h'] at b; cases b
        · rw [← h']; exact a
        · exact Sp.lt_asymm (Sp.lt_trans h' h)
  have hcon := Any.slices_SortFunc Try.sortI encFin (fun _ => rfl) (fun x y : Fin n => cfP rs x.val y.val) hO 105 #[.pointer (some ⟨pb, 0, none⟩)] g2 0 n d w
    (enters_of Try.func105 (by kernel_rfl) rfl) (fun m os dk hdk x y => by
      obtain ⟨_, hc⟩ := sort_ib (m := m) h2 hlz dk (hdk.trans hsz) os
      exact closL hn hl (hc.blk hp (by simp [e1])) (hc.blk hg (by simp [e2])) x.isLt y.isLt) hH hlt (by rw [hsz]; omega)
  rw [hsz] at hcon
  refine Calls.mono hcon ?_
  rintro e w' ⟨rfl, d', m, os, hp1, hp2, rfl⟩
  have hds : d'.size = n := by rw [hp1.1, hsz]
  obtain ⟨o1, o2⟩ := sort_ib (m := m) h2 hlz d' hds os
  refine ⟨rfl, d'.toList.map Fin.val, ?_, ?_, ?_, o2⟩
  · have h3 := hp1.2.2
    rw [Array.extract_eq_self_of_le (by omega), Array.extract_eq_self_of_le (by omega)] at h3
    have h4 := h3.map Fin.val
    refine h4.trans ?_
    rw [hd]
    exact List.Perm.of_eq (List.ext_getElem (by simp) (fun i h1 h2 => by simp))
  · rw [List.pairwise_map, List.pairwise_iff_getElem]
    intro i j hi hj hij
    rw [Array.length_toList] at hi hj
    have h3 := hp2 i j (Nat.zero_le _) hij (by rw [← hds]; exact hj)
    rw [hlo, getElem!_pos _ i hi, getElem!_pos _ j hj] at h3
    rw [Array.getElem_toList, Array.getElem_toList]
    rcases Sp.lt_tri rs d'[i].val d'[j].val with h | h | h
    · exact h
    · exfalso
      have hnd : d'.toList.Nodup := by
        have h3 := hp1.2.2
        rw [Array.extract_eq_self_of_le (by omega), Array.extract_eq_self_of_le (by omega)] at h3
        refine h3.nodup_iff.2 ?_
        rw [hd]
        exact List.nodup_finRange n
      have h4 : d'.toList[i]'(by rw [Array.length_toList]; exact hi) = d'.toList[j]'(by rw [Array.length_toList]; exact hj) := by
        rw [Array.getElem_toList, Array.getElem_toList]
        exact Fin.ext h
      have := (List.getElem_inj hnd).1 h4
      omega
    · rw [h] at h3; cases h3
  · have e : zil (d'.toList.map Fin.val) = d'.toList.map fun i => (i.val : Int) := by
      unfold zil
      rw [List.map_map]
      rfl
    rw [e]
    exact o1
set_option maxRecDepth 100000 in
theorem greatestL {g n : Nat} {rs : List Nat} {w : World} (hn : n = rs.length) (h1 : 1 ≤ n) (hl : n ≤ 1000) (hg : IB g (zil rs) w) :
    Calls Try.prog 74 #[.slice (some ⟨g, 0, none⟩) n n] w fun e w' => ∃ (g2 : Nat) (P : List Nat), e = .returned (.slice (some ⟨g2, 0, none⟩) n n) ∧ w.heap.size ≤ g2 ∧ P.Perm (List.range n) ∧ P.Pairwise (fun i j => Sp.lt rs i j = true) ∧ IB g2 (zil P) w' ∧ Below w.heap.size w w' := by
  have hgl : g < w.heap.size := BlkAt.lt hg
  obtain ⟨w1, hw1⟩ : ∃ w1, w1 = w.alloc (.cells #[.slice (some ⟨g, 0, none⟩) n n] 62) := ⟨_, rfl⟩
  have hb1 : Below w.heap.size w w1 := by rw [hw1]; exact ba1 _ _
  have hz1 : w1.heap.size = w.heap.size + 1 := by rw [hw1]; simp
  have hP1 : BlkAt 62 w.heap.size [.slice (some ⟨g, 0, none⟩) n n] w1 := by rw [hw1]; exact BlkAt.new w _
  obtain ⟨w2, hmk, hI2, hb2⟩ := make_ints n w1 (by omega)
  obtain ⟨g2, hg2⟩ : ∃ g2, g2 = w1.heap.size := ⟨_, rfl⟩
  rw [← hg2] at hI2 hmk
  have H0 : Hid (n = rs.length ∧ 1 ≤ n ∧ n ≤ 1000) := ⟨hn, h1, hl⟩
  have HG2 := Lib.hid (hg.later (hb1.trans (hb2.mono hb1.size)))
  have HP2 := Lib.hid (hP1.later hb2)
  have HB2 := Lib.hid (hb1.trans (hb2.mono hb1.size))
  have HI2 := Lib.hid hI2
  have HNE : Hid (w.heap.size ≠ g2 ∧ g ≠ g2 ∧ w.heap.size ≤ g2) := ⟨by omega, by omega, by omega⟩
  have HW1 := Lib.hid hw1
  have g0 : (n : Int) ≤ 1000 := by omega
  rw [hw1] at hmk
  clear hn h1 hl hg hgl hb1 hz1 hP1 hI2 hb2 hg2 hw1
  go_enter Try.func74, Try.ntmps74
  go_wp2_with fail
  clear hmk
  obtain ⟨pb, hpb⟩ : ∃ b, b = w.heap.size := ⟨_, rfl⟩
  rw [← hpb] at HP2 ⊢
  have HNE2 : Hid (pb ≠ g2 ∧ g ≠ g2 ∧ w.heap.size ≤ g2) := by
    have := HNE.out
    rw [hpb]
    exact this
  clear hpb HNE
  go_loopw [10] (fun x wr => ∃ i : Nat, i ≤ n ∧ x = .int .i64 i ∧ Hid (IB g2 (zil (List.range i ++ List.replicate (n - i) 0)) wr) ∧ Hid (Chg [g2] w2 wr)) (fun x _ => n - (intOf x).toNat)
  case atStart =>
    refine ⟨0, Nat.zero_le _, rfl, ?_, Chg.refl _ _⟩
    show IB g2 (zil ([] ++ List.replicate n 0)) w2
    have e : zil ([] ++ List.replicate n 0) = List.replicate n 0 := by simp [zil]
    rw [e]
    exact HI2.out
  case round =>
    obtain ⟨i, hi, rfl, HIR, HCR⟩ := hrel
    rcases Nat.lt_or_ge i n with hlt | hge
    · have g3 : (i : Int) < n := by omega
      have hx : ∃ v, wr.cell? ⟨g2, i, none⟩ = some (.int .i64 v) := by
        have h1 : (zil (List.range i ++ List.replicate (n - i) 0))[i]? = some 0 := by
          unfold zil
          rw [List.getElem?_map, List.getElem?_append_right (by simp), List.length_range, Nat.sub_self, List.getElem?_replicate, if_pos (by omega)]
          rfl
        exact ⟨_, HIR.out.cell (iv_at2 h1)⟩
      obtain ⟨v, c0⟩ := hx
      have hfz : ∀ j, wr.frozen? ⟨g2, j, none⟩ = false := fun j => BlkAt.frozen HIR.out j
      go_wp2_with fail
      go_roundw
      case rel =>
        refine ⟨i + 1, by omega, by go_num, ?_, ?_⟩
        · have h1 := IB.set HIR.out i (i : Int)
          rw [rg_succ hlt] at h1
          exact h1
        · exact HCR.out.set (by simp) _ _
      case measure => simp [intOf]; omega
    · obtain rfl : i = n := by omega
      have HIE : Hid (IB g2 (zil (List.range i)) wr) := by
        have := HIR.out
        rw [Nat.sub_self] at this
        have e : List.range i ++ List.replicate 0 0 = List.range i := by simp
        rw [e] at this
        exact this
      have HS := Lib.hid (sort_le H0.out.1 H0.out.2.1 H0.out.2.2 (HCR.out.blk HP2.out (by simp [HNE2.out.1])) (HCR.out.blk HG2.out (by simp [HNE2.out.2.1])) HIE.out HNE2.out.1 HNE2.out.2.1)
      go_wp2_with fail
      refine HS.out.mono ?_
      rintro e w5 ⟨rfl, P, hP1, hP2, hP3, hP4⟩
      have HPP : Hid (P.Perm (List.range i) ∧ P.Pairwise (fun i j => Sp.lt rs i j = true) ∧ IB g2 (zil P) w5) := ⟨hP1, hP2, hP3⟩
      have HBE : Hid (Below w.heap.size w w5) := by
        have := HB2.out.trans ((HCR.out.trans hP4).below HB2.out.size (fun b hb => by simp at hb; rw [hb]; exact HNE2.out.2.2))
        exact this
      clear hP1 hP2 hP3 hP4
      go_wp2_with fail
      go_ret
      exact ⟨g2, P, rfl, HNE2.out.2.2, HPP.out.1, HPP.out.2.1, HPP.out.2.2, HBE.out⟩
end Go.Proofs.Ytdjhgahdiggahaa

namespace Go.Proofs.Ytdjhgahdiggahaa
namespace Sp
/-- So many of them, the rstS noughts. -/
def uptoS (B : List Nat) (k : Nat) : List Nat := B.take k ++ List.replicate (B.length - k) 0
theorem upto_zero (B : List Nat) : uptoS B 0 = List.replicate B.length 0 := by simp [uptoS]
theorem upto_all (B : List Nat) : uptoS B B.length = B := by simp [uptoS]
theorem upto_len {B : List Nat} {k : Nat} (h : k ≤ B.length) : (uptoS B k).length = B.length := by
  unfold uptoS
  rw [List.length_append, List.length_take, List.length_replicate]
  omega
theorem upto_set {B : List Nat} {k : Nat} (h : k < B.length) : (uptoS B k).set k (B.getD k 0) = uptoS B (k + 1) := by
  unfold uptoS
  obtain ⟨m, hm⟩ : ∃ m, B.length - k = m + 1 := ⟨B.length - k - 1, by omega⟩
  have hm2 : B.length - (k + 1) = m := by omega
  rw [hm, hm2, List.set_append_right _ _ (by rw [List.length_take]; omega)]
  have e1 : k - (B.take k).length = 0 := by rw [List.length_take]; omega
  rw [e1, List.replicate_succ, List.set_cons_zero, List.take_add_one, List.append_assoc]
  congr 1
  rw [List.getElem?_eq_getElem h]
  simp [h]
theorem upto_at {B : List Nat} {k : Nat} (h : k < B.length) : (uptoS B k).getD k 0 = 0 := by
  unfold uptoS
  have e1 : (B.take k).length = k := by rw [List.length_take]; omega
  rw [List.getD_eq_getElem?_getD, List.getElem?_append_right (by omega), e1, Nat.sub_self, List.getElem?_replicate]
  split <;> rfl
theorem upto_get {B : List Nat} {k j : Nat} (h : j < k) (hk : k ≤ B.length) : (uptoS B k).getD j 0 = B.getD j 0 := by
  unfold uptoS
  rw [List.getD_eq_getElem?_getD, List.getElem?_append_left (by rw [List.length_take]; omega), List.getElem?_take, if_pos h, List.getD_eq_getElem?_getD]
/-- What is given out so far. -/
def given (W P : List Nat) (k : Nat) : List Nat := (List.range W.length).map fun i => (bseS W).getD i 0 + if i ∈ P.take k then 1 else 0
theorem given_len (W P : List Nat) (k : Nat) : (given W P k).length = W.length := by simp [given]
theorem given_zero (W P : List Nat) : given W P 0 = bseS W := by
  unfold given
  simp only [List.take_zero, List.not_mem_nil, if_false, Nat.add_zero]
  have := map_getD (bseS W)
  rw [base_len] at this
  exact this
theorem given_at {W P : List Nat} {k i : Nat} (h : i < W.length) : (given W P k).getD i 0 = (bseS W).getD i 0 + if i ∈ P.take k then 1 else 0 := by
  unfold given
  simp [h]
theorem given_set {W P : List Nat} (hn : P.Nodup) {k p : Nat} (hk : P[k]? = some p) (hp : p < W.length) : (given W P k).set p ((given W P k).getD p 0 + 1) = given W P (k + 1) := by
  obtain ⟨hkl, hke⟩ := List.getElem?_eq_some_iff.1 hk
  have hnot : p ∉ P.take k := by
    intro hm
    obtain ⟨j, hj⟩ := List.getElem?_of_mem hm
    rw [List.getElem?_take] at hj
    split at hj
    · obtain ⟨h1, h2⟩ := List.getElem?_eq_some_iff.1 hj
      have := (List.getElem_inj hn).1 (h2.trans hke.symm)
      omega
    · cases hj
  have hmem : ∀ i, i ∈ P.take (k + 1) ↔ i ∈ P.take k ∨ i = p := fun i => by
    rw [List.take_add_one, hk]
    simp
  rw [given_at hp, if_neg hnot]
  apply List.ext_getElem
  · rw [List.length_set, given_len, given_len]
  · intro i h1 h2
    rw [List.length_set, given_len] at h1
    rw [List.getElem_set]
    by_cases hi : p = i
    · subst hi
      rw [if_pos rfl]
      unfold given
      simp [hmem]
    · rw [if_neg hi]
      unfold given
      have : i ≠ p := fun e => hi e.symm
      simp [hmem, this]
theorem given_all {W P : List Nat} (hp : P.Perm (List.range (rstS W).length)) (hs : P.Pairwise fun i j => lt (rstS W) i j = true) : given W P (left W) = shares W := by
  unfold given shares
  refine List.map_congr_left fun i hi => ?_
  have hi2 : i < (rstS W).length := by rw [rest_len]; exact List.mem_range.1 hi
  have := srt_mem hp hs hi2 (left W)
  congr 1
  by_cases h : rk (rstS W) i < left W
  · rw [if_pos h, if_pos (this.2 h)]
  · rw [if_neg h, if_neg (fun hm => h (this.1 hm))]
theorem base_at {W : List Nat} {i : Nat} (hi : i < W.length) : (bseS W).getD i 0 = 256 * W.getD i 0 / W.sum := by
  unfold bseS
  simp [hi]
end Sp
end Go.Proofs.Ytdjhgahdiggahaa
