/- BootPlays: for every input the law's call returns true, and each argument reads behind it as before.
   BootPlays: the law's walk.
   The chapter's rows: the walk of the law's 'known'.
   A store filled byte by byte; what the number for 'no fuse' changes; plainly. -/
import Derived.StillTailTactics
import Derived.Test.YtoinjapmioldaaaZ01
import Derived.Test.YtoinjapmioldaaaZ03
import Derived.Test.YtoinjapmioldaaaZ04
import Derived.Test.YtoinjapmioldaaaZ06

set_option linter.unusedSimpArgs false
set_option linter.unusedVariables false
namespace Go.Proofs.Ytoinjapmioldaaa
open Go.RowKit
attribute [local go_sem ↓] Go.wp_at_zero Go.wp_at_succ

/-- Bytes with their flags. -/
def cel (l : List UInt8) (bs : List Bool) : List Ce := (List.range l.length).map fun i => (l.getD i 0, bs.getD i false)
theorem cel_length (l : List UInt8) (bs : List Bool) : (cel l bs).length = l.length := by simp [cel]
theorem cel_at {l : List UInt8} {bs : List Bool} {i : Nat} (h : i < l.length) : (cel l bs)[i]? = some (l[i], bs.getD i false) := by
  simp [cel, h]
/-- So many are filled. -/
def fil (C : List Ce) (k : Nat) : St := ⟨C.take k ++ List.replicate (C.length - k) (0, false), false, -1, 0, false⟩
def hold (C : List Ce) : St := ⟨C, false, -1, 0, false⟩
theorem fil_len {C : List Ce} {k : Nat} (h : k ≤ C.length) : (fil C k).c.length = C.length := by simp [fil]; omega
theorem fil_zero (C : List Ce) : fil C 0 = nw C.length := by simp [fil, nw]
theorem fil_all (C : List Ce) : fil C C.length = hold C := by simp [fil, hold]
theorem fil_nrm (C : List Ce) (k : Nat) : nrm (fil C k) = fil C k := rfl
theorem fil_set {C : List Ce} {k : Nat} {c : Ce} (h : C[k]? = some c) : ({ fil C k with c := (fil C k).c.set k c } : St) = fil C (k + 1) := by
  have hk := (List.getElem?_eq_some_iff.1 h).1
  have hc := (List.getElem?_eq_some_iff.1 h).2
  unfold fil
  simp only [St.mk.injEq, and_true]
  have e : C.length - k = (C.length - (k + 1)) + 1 := by omega
  rw [e, List.replicate_succ, List.set_append_right _ _ (by simp; omega)]
  have e2 : k - (C.take k).length = 0 := by simp; omega
  rw [e2, List.set_cons_zero, List.take_succ_eq_append_getElem hk, hc, List.append_assoc]
  rfl
theorem fil_sp {C : List Ce} {k : Nat} {x : UInt8} {f : Bool} (h : C[k]? = some (x, f)) : spE (fil C k) (k : Int) = 0 ∧ spS (fil C k) (k : Int) x f = fil C (k + 1) := by
  have hk := (List.getElem?_eq_some_iff.1 h).1
  have hi : inn (fil C k).c.length (k : Int) 1 = true := by rw [fil_len (by omega)]; exact inn_iff.2 ⟨by omega, by omega, by omega⟩
  unfold spE spS
  rw [if_pos hi, if_pos hi]
  refine ⟨rfl, ?_⟩
  rw [Int.toNat_natCast]
  exact fil_set h
theorem cE_nrm (s : St) : cE (nrm s) = cE s := rfl
theorem cN_nrm (s : St) : cN (nrm s) = cN s := rfl
theorem cM_nrm (s : St) : cM (nrm s) = cM s := rfl
theorem fr_nrm (s : St) : fr (nrm s) = fr s := rfl
theorem bE_nrm (s : St) : bE (nrm s) = bE s := by
  unfold bE
  rw [cE_nrm, cM_nrm, fr_nrm, wrE_nrm]
theorem bN_nrm (s : St) : bN (nrm s) = bN s := by
  unfold bN
  rw [bE_nrm, cM_nrm]
theorem bS_nrm (s : St) : bS (nrm s) = nrm (bS s) := by
  unfold bS
  rw [cE_nrm, cM_nrm, fr_nrm, wrS_nrm]
  split <;> rfl
theorem bS_len (s : St) : (bS s).c.length = s.c.length := by
  unfold bS
  split
  · exact wrS_len _ _ _
  · rfl
theorem bS_dead {s : St} (h0 : s.dead = false) (h : (bS s).dead = true) : cE (bS s) = 7 := by
  unfold bS at h ⊢
  by_cases hc : cE s = 0 ∧ cM s ≠ 18446744073709551615
  · rw [if_pos hc] at h ⊢
    have hl : ¬ s.c.length < 32 := by
      intro hl
      have := hc.1
      unfold cE at this
      rw [if_pos hl] at this
      cases this
    unfold cE
    rw [wrS_len, if_neg hl, if_pos h]
  · rw [if_neg hc, h0] at h
    cases h
end Go.Proofs.Ytoinjapmioldaaa

namespace Go.Proofs.Ytoinjapmioldaaa
open Go.RowKit
attribute [local go_sem ↓] Go.wp_at_zero Go.wp_at_succ

def kb1 : St := wrS (nw 32) 0 (sl 0 ++ sl 0)
def kb2 : St := bS kb1
def kb3 : St := bS kb2
def kb4 : St := bS kb3
theorem kb_0 : wrE (nw 32) 0 (sl 0 ++ sl 0) = 0 := by decide +kernel
theorem kb_1 : bE kb1 = 0 ∧ bN kb1 = 1 := by decide +kernel
theorem kb_2 : bE kb2 = 0 ∧ bN kb2 = 2 := by decide +kernel
theorem kb_3 : bE kb3 = 0 ∧ bN kb3 = 3 := by decide +kernel
theorem kb_4 : rdE kb4 0 32 = 0 ∧ rdB kb4 0 32 = sl 3 ++ sl 2 := by decide +kernel
theorem slotK (k : Nat) (w : World) (z : Int) (h : k < 18446744073709551616) (hz : z = (k : Int)) :
    Calls Try.prog 24 #[.int .u64 z] w fun e w' => ∃ v, e = .returned v ∧ Bytes w' v (sl k) ∧ Below w.heap.size w w' := by
  subst hz
  exact (slotR k w h).mono fun e w' ⟨v, h1, h2, h3⟩ => ⟨v, h1, h2.bytes, h3⟩
theorem catK (l m : List UInt8) : (⟨l.toArray⟩ : ByteArray) ++ ⟨m.toArray⟩ = ⟨(l ++ m).toArray⟩ := by
  apply ByteArray.ext
  simp
set_option maxHeartbeats 8000000 in
set_option maxRecDepth 100000 in
theorem knownB (w : World) : Calls Try.prog 7 #[] w fun e w' => e = .returned (.bool true) ∧ Below w.heap.size w w' := by
  go_enter Try.func7, Try.ntmps7
  go_wp2_with fail
  refine (newW 32 w (by omega) (by omega)).mono ?_
  rintro e w1 ⟨p, g, rfl, hp, hg, hP, hB⟩
  have HG := Lib.hid (And.intro hp hg)
  have HB1 := Lib.hid hB
  have HM := Lib.hid (makeB hP)
  unfold MkA at HM
  rw [kb_0] at HM
  clear hp hg hP hB
  go_wp2_with fail
  refine HM.out.mono ?_
  rintro e w2 ⟨rfl, hP, hC⟩
  have HB2 := Lib.hid (hC.on HB1.out (by have := HG.out; simp; omega))
  have HE := Lib.hid (beginB (show PSt p g 32 kb1 w2 from hP))
  unfold BeA at HE
  rw [kb_1.1, kb_1.2] at HE
  clear hP hC
  go_wp2_with fail
  refine HE.out.mono ?_
  rintro e w3 ⟨rfl, hP, hC⟩
  have HB3 := Lib.hid (hC.on HB2.out (by have := HG.out; simp; omega))
  have HE := Lib.hid (beginB (show PSt p g 32 kb2 w3 from hP))
  unfold BeA at HE
  rw [kb_2.1, kb_2.2] at HE
  clear hP hC
  go_wp2_with fail
  refine HE.out.mono ?_
  rintro e w4 ⟨rfl, hP, hC⟩
  have HB4 := Lib.hid (hC.on HB3.out (by have := HG.out; simp; omega))
  have HE := Lib.hid (beginB (show PSt p g 32 kb3 w4 from hP))
  unfold BeA at HE
  rw [kb_3.1, kb_3.2] at HE
  clear hP hC
  go_wp2_with fail
  refine HE.out.mono ?_
  rintro e w5 ⟨rfl, hP, hC⟩
  have HB5 := Lib.hid (hC.on HB4.out (by have := HG.out; simp; omega))
  have HRD := Lib.hid (readS (show PSt p g 32 kb4 w5 from hP) 0 32 (by omega))
  unfold RdA at HRD
  rw [kb_4.1, kb_4.2] at HRD
  clear hP hC
  go_wp2_with fail
  refine HRD.out.mono ?_
  rintro e w6 ⟨v, rfl, hv, hb⟩
  have HB6 := Lib.hid (below_of HB5.out hb)
  have hl : (sl 3 ++ sl 2).length = 32 := by simp [sl_length]
  obtain ⟨av, cv, rfl⟩ := hv.form
  rw [hl] at hv ⊢
  have HV := Lib.hid hv
  clear hv hb HRD HE hl
  go_wp2_with fail

  (refine wp_region_held_drew (S := (fun w' => Below w6.heap.size w6 w')) (by kernel_rfl) ?_ (fun hHeld => ?_); (focus ((try dsimp only); (exact (Below.refl _ _).drew))))
  (try dsimp only at hHeld)
  obtain ⟨w0, hw0⟩ : ∃ W0, W0 = World.drew w6 := ⟨_, rfl⟩
  rw [← hw0]
  rw [← hw0] at hHeld
  clear hw0
  (refine wpAnyH_take (i := 0) (v := ?_) rfl (by kernel_rfl) (by kernel_rfl) (by kernel_rfl) (fun _ _ _ h => h) (Or.inl ⟨by rfl, ?_⟩) hHeld ?_; rotate_left; (focus (intro w hSw; (try dsimp only at hSw); go_simp; try with_reducible rfl)); (try simp only [Act.put, List.setIfInBounds_toArray, List.set_cons_zero, List.set_cons_succ, List.getElem_toArray, List.getElem_cons_zero])); (refine wpAnyH_take (i := 1) (v := ?_) rfl (by kernel_rfl) (by kernel_rfl) (by kernel_rfl) (fun _ _ _ h => h) (Or.inl ⟨by rfl, ?_⟩) hHeld ?_; rotate_left; (focus (intro w hSw; (try dsimp only at hSw); go_simp; try with_reducible rfl)); (try simp only [Act.put, List.setIfInBounds_toArray, List.set_cons_zero, List.set_cons_succ, List.getElem_toArray, List.getElem_cons_zero, List.getElem_cons_succ])); (refine wpAnyH_take (i := 2) (v := ?_) rfl (by kernel_rfl) (by kernel_rfl) (by kernel_rfl) (fun _ _ _ h => h) (Or.inl ⟨by rfl, ?_⟩) hHeld ?_; rotate_left; (focus (intro w hSw; (try dsimp only at hSw); go_simp; try with_reducible rfl)); (try simp only [Act.put, List.setIfInBounds_toArray, List.set_cons_zero, List.set_cons_succ, List.getElem_toArray, List.getElem_cons_zero, List.getElem_cons_succ])); (refine wpAnyH_take (i := 3) (v := ?_) rfl (by kernel_rfl) (by kernel_rfl) (by kernel_rfl) (fun _ _ _ h => h) (Or.inl ⟨by rfl, ?_⟩) hHeld ?_; rotate_left; (focus (intro w hSw; (try dsimp only at hSw); go_simp; try with_reducible rfl)); (try simp only [Act.put, List.setIfInBounds_toArray, List.set_cons_zero, List.set_cons_succ, List.getElem_toArray, List.getElem_cons_zero, List.getElem_cons_succ])); (refine wpAnyH_take (i := 4) (v := ?_) rfl (by kernel_rfl) (by kernel_rfl) (by kernel_rfl) (fun _ _ _ h => h) (Or.inl ⟨by rfl, ?_⟩) hHeld ?_; rotate_left; (focus (intro w hSw; (try dsimp only at hSw); go_simp; try with_reducible rfl)); (try simp only [Act.put, List.setIfInBounds_toArray, List.set_cons_zero, List.set_cons_succ, List.getElem_toArray, List.getElem_cons_zero, List.getElem_cons_succ])); (refine wpAnyH_take (i := 5) (v := ?_) rfl (by kernel_rfl) (by kernel_rfl) (by kernel_rfl) (fun _ _ _ h => h) (Or.inl ⟨by rfl, ?_⟩) hHeld ?_; rotate_left; (focus (intro w hSw; (try dsimp only at hSw); go_simp; try with_reducible rfl)); (try simp only [Act.put, List.setIfInBounds_toArray, List.set_cons_zero, List.set_cons_succ, List.getElem_toArray, List.getElem_cons_zero, List.getElem_cons_succ])); (refine wpAnyH_take (i := 6) (v := ?_) rfl (by kernel_rfl) (by kernel_rfl) (by kernel_rfl) (fun _ _ _ h => h) (Or.inl ⟨by rfl, ?_⟩) hHeld ?_; rotate_left; (focus (intro w hSw; (try dsimp only at hSw); go_simp; try with_reducible rfl)); (try simp only [Act.put, List.setIfInBounds_toArray, List.set_cons_zero, List.set_cons_succ, List.getElem_toArray, List.getElem_cons_zero, List.getElem_cons_succ])); (refine wpAnyH_take (i := 7) (v := ?_) rfl (by kernel_rfl) (by kernel_rfl) (by kernel_rfl) (fun _ _ _ h => h) (Or.inl ⟨by rfl, ?_⟩) hHeld ?_; rotate_left; (focus (intro w hSw; (try dsimp only at hSw); go_simp; try with_reducible rfl)); (try simp only [Act.put, List.setIfInBounds_toArray, List.set_cons_zero, List.set_cons_succ, List.getElem_toArray, List.getElem_cons_zero, List.getElem_cons_succ])); (refine wpAnyH_take (i := 8) (v := ?_) rfl (by kernel_rfl) (by kernel_rfl) (by kernel_rfl) (fun _ _ _ h => h) (Or.inl ⟨by rfl, ?_⟩) hHeld ?_; rotate_left; (focus (intro w hSw; (try dsimp only at hSw); go_simp; try with_reducible rfl)); (try simp only [Act.put, List.setIfInBounds_toArray, List.set_cons_zero, List.set_cons_succ, List.getElem_toArray, List.getElem_cons_zero, List.getElem_cons_succ])); (refine wpAnyH_take (i := 9) (v := ?_) rfl (by kernel_rfl) (by kernel_rfl) (by kernel_rfl) (fun _ _ _ h => h) (Or.inl ⟨by rfl, ?_⟩) hHeld ?_; rotate_left; (focus (intro w hSw; (try dsimp only at hSw); go_simp; try with_reducible rfl)); (try simp only [Act.put, List.setIfInBounds_toArray, List.set_cons_zero, List.set_cons_succ, List.getElem_toArray, List.getElem_cons_zero, List.getElem_cons_succ])); (refine wpAnyH_take (i := 10) (v := ?_) rfl (by kernel_rfl) (by kernel_rfl) (by kernel_rfl) (fun _ _ _ h => h) (Or.inl ⟨by rfl, ?_⟩) hHeld ?_; rotate_left; (focus (intro w hSw; (try dsimp only at hSw); go_simp; try with_reducible rfl)); (try simp only [Act.put, List.setIfInBounds_toArray, List.set_cons_zero, List.set_cons_succ, List.getElem_toArray, List.getElem_cons_zero, List.getElem_cons_succ])); (refine wpAnyH_take (i := 11) (v := ?_) rfl (by kernel_rfl) (by kernel_rfl) (by kernel_rfl) (fun _ _ _ h => h) (Or.inl ⟨by rfl, ?_⟩) hHeld ?_; rotate_left; (focus (intro w hSw; (try dsimp only at hSw); go_simp; try with_reducible rfl)); (try simp only [Act.put, List.setIfInBounds_toArray, List.set_cons_zero, List.set_cons_succ, List.getElem_toArray, List.getElem_cons_zero, List.getElem_cons_succ])); (refine wpAnyH_take (i := 12) (v := ?_) rfl (by kernel_rfl) (by kernel_rfl) (by kernel_rfl) (fun _ _ _ h => h) (Or.inl ⟨by rfl, ?_⟩) hHeld ?_; rotate_left; (focus (intro w hSw; (try dsimp only at hSw); go_simp; try with_reducible rfl)); (try simp only [Act.put, List.setIfInBounds_toArray, List.set_cons_zero, List.set_cons_succ, List.getElem_toArray, List.getElem_cons_zero, List.getElem_cons_succ])); (refine wpAnyH_take (i := 13) (v := ?_) rfl (by kernel_rfl) (by kernel_rfl) (by kernel_rfl) (fun _ _ _ h => h) (Or.inl ⟨by rfl, ?_⟩) hHeld ?_; rotate_left; (focus (intro w hSw; (try dsimp only at hSw); go_simp; try with_reducible rfl)); (try simp only [Act.put, List.setIfInBounds_toArray, List.set_cons_zero, List.set_cons_succ, List.getElem_toArray, List.getElem_cons_zero, List.getElem_cons_succ])); (refine wpAnyH_take (i := 14) (v := ?_) rfl (by kernel_rfl) (by kernel_rfl) (by kernel_rfl) (fun _ _ _ h => h) (Or.inl ⟨by rfl, ?_⟩) hHeld ?_; rotate_left; (focus (intro w hSw; (try dsimp only at hSw); go_simp; try with_reducible rfl)); (try simp only [Act.put, List.setIfInBounds_toArray, List.set_cons_zero, List.set_cons_succ, List.getElem_toArray, List.getElem_cons_zero, List.getElem_cons_succ])); (refine wpAnyH_take (i := 15) (v := ?_) rfl (by kernel_rfl) (by kernel_rfl) (by kernel_rfl) (fun _ _ _ h => h) (Or.inl ⟨by rfl, ?_⟩) hHeld ?_; rotate_left; (focus (intro w hSw; (try dsimp only at hSw); go_simp; try with_reducible rfl)); (try simp only [Act.put, List.setIfInBounds_toArray, List.set_cons_zero, List.set_cons_succ, List.getElem_toArray, List.getElem_cons_zero, List.getElem_cons_succ])); (refine wpAnyH_take (i := 16) (v := ?_) rfl (by kernel_rfl) (by kernel_rfl) (by kernel_rfl) (fun _ _ _ h => h) (Or.inl ⟨by rfl, ?_⟩) hHeld ?_; rotate_left; (focus (intro w hSw; (try dsimp only at hSw); go_simp; try with_reducible rfl)); (try simp only [Act.put, List.setIfInBounds_toArray, List.set_cons_zero, List.set_cons_succ, List.getElem_toArray, List.getElem_cons_zero, List.getElem_cons_succ])); (refine wpAnyH_take (i := 17) (v := ?_) rfl (by kernel_rfl) (by kernel_rfl) (by kernel_rfl) (fun _ _ _ h => h) (Or.inl ⟨by rfl, ?_⟩) hHeld ?_; rotate_left; (focus (intro w hSw; (try dsimp only at hSw); go_simp; try with_reducible rfl)); (try simp only [Act.put, List.setIfInBounds_toArray, List.set_cons_zero, List.set_cons_succ, List.getElem_toArray, List.getElem_cons_zero, List.getElem_cons_succ])); (refine wpAnyH_take (i := 18) (v := ?_) rfl (by kernel_rfl) (by kernel_rfl) (by kernel_rfl) (fun _ _ _ h => h) (Or.inl ⟨by rfl, ?_⟩) hHeld ?_; rotate_left; (focus (intro w hSw; (try dsimp only at hSw); go_simp; try with_reducible rfl)); (try simp only [Act.put, List.setIfInBounds_toArray, List.set_cons_zero, List.set_cons_succ, List.getElem_toArray, List.getElem_cons_zero, List.getElem_cons_succ])); (refine wpAnyH_take (i := 19) (v := ?_) rfl (by kernel_rfl) (by kernel_rfl) (by kernel_rfl) (fun _ _ _ h => h) (Or.inl ⟨by rfl, ?_⟩) hHeld ?_; rotate_left; (focus (intro w hSw; (try dsimp only at hSw); go_simp; try with_reducible rfl)); (try simp only [Act.put, List.setIfInBounds_toArray, List.set_cons_zero, List.set_cons_succ, List.getElem_toArray, List.getElem_cons_zero, List.getElem_cons_succ])); (refine wpAnyH_take (i := 20) (v := ?_) rfl (by kernel_rfl) (by kernel_rfl) (by kernel_rfl) (fun _ _ _ h => h) (Or.inl ⟨by rfl, ?_⟩) hHeld ?_; rotate_left; (focus (intro w hSw; (try dsimp only at hSw); go_simp; try with_reducible rfl)); (try simp only [Act.put, List.setIfInBounds_toArray, List.set_cons_zero, List.set_cons_succ, List.getElem_toArray, List.getElem_cons_zero, List.getElem_cons_succ])); (refine wpAnyH_take (i := 21) (v := ?_) rfl (by kernel_rfl) (by kernel_rfl) (by kernel_rfl) (fun _ _ _ h => h) (Or.inl ⟨by rfl, ?_⟩) hHeld ?_; rotate_left; (focus (intro w hSw; (try dsimp only at hSw); go_simp; try with_reducible rfl)); (try simp only [Act.put, List.setIfInBounds_toArray, List.set_cons_zero, List.set_cons_succ, List.getElem_toArray, List.getElem_cons_zero, List.getElem_cons_succ])); (refine wpAnyH_take (i := 22) (v := ?_) rfl (by kernel_rfl) (by kernel_rfl) (by kernel_rfl) (fun _ _ _ h => h) (Or.inl ⟨by rfl, ?_⟩) hHeld ?_; rotate_left; (focus (intro w hSw; (try dsimp only at hSw); go_simp; try with_reducible rfl)); (try simp only [Act.put, List.setIfInBounds_toArray, List.set_cons_zero, List.set_cons_succ, List.getElem_toArray, List.getElem_cons_zero, List.getElem_cons_succ])); (refine wpAnyH_take (i := 23) (v := ?_) rfl (by kernel_rfl) (by kernel_rfl) (by kernel_rfl) (fun _ _ _ h => h) (Or.inl ⟨by rfl, ?_⟩) hHeld ?_; rotate_left; (focus (intro w hSw; (try dsimp only at hSw); go_simp; try with_reducible rfl)); (try simp only [Act.put, List.setIfInBounds_toArray, List.set_cons_zero, List.set_cons_succ, List.getElem_toArray, List.getElem_cons_zero, List.getElem_cons_succ])); (refine wpAnyH_take (i := 24) (v := ?_) rfl (by kernel_rfl) (by kernel_rfl) (by kernel_rfl) (fun _ _ _ h => h) (Or.inl ⟨by rfl, ?_⟩) hHeld ?_; rotate_left; (focus (intro w hSw; (try dsimp only at hSw); go_simp; try with_reducible rfl)); (try simp only [Act.put, List.setIfInBounds_toArray, List.set_cons_zero, List.set_cons_succ, List.getElem_toArray, List.getElem_cons_zero, List.getElem_cons_succ])); (refine wpAnyH_take (i := 25) (v := ?_) rfl (by kernel_rfl) (by kernel_rfl) (by kernel_rfl) (fun _ _ _ h => h) (Or.inl ⟨by rfl, ?_⟩) hHeld ?_; rotate_left; (focus (intro w hSw; (try dsimp only at hSw); go_simp; try with_reducible rfl)); (try simp only [Act.put, List.setIfInBounds_toArray, List.set_cons_zero, List.set_cons_succ, List.getElem_toArray, List.getElem_cons_zero, List.getElem_cons_succ])); (refine wpAnyH_take (i := 26) (v := ?_) rfl (by kernel_rfl) (by kernel_rfl) (by kernel_rfl) (fun _ _ _ h => h) (Or.inl ⟨by rfl, ?_⟩) hHeld ?_; rotate_left; (focus (intro w hSw; (try dsimp only at hSw); go_simp; try with_reducible rfl)); (try simp only [Act.put, List.setIfInBounds_toArray, List.set_cons_zero, List.set_cons_succ, List.getElem_toArray, List.getElem_cons_zero, List.getElem_cons_succ])); (refine wpAnyH_take (i := 27) (v := ?_) rfl (by kernel_rfl) (by kernel_rfl) (by kernel_rfl) (fun _ _ _ h => h) (Or.inl ⟨by rfl, ?_⟩) hHeld ?_; rotate_left; (focus (intro w hSw; (try dsimp only at hSw); go_simp; try with_reducible rfl)); (try simp only [Act.put, List.setIfInBounds_toArray, List.set_cons_zero, List.set_cons_succ, List.getElem_toArray, List.getElem_cons_zero, List.getElem_cons_succ])); (refine wpAnyH_take (i := 28) (v := ?_) rfl (by kernel_rfl) (by kernel_rfl) (by kernel_rfl) (fun _ _ _ h => h) (Or.inl ⟨by rfl, ?_⟩) hHeld ?_; rotate_left; (focus (intro w hSw; (try dsimp only at hSw); go_simp; try with_reducible rfl)); (try simp only [Act.put, List.setIfInBounds_toArray, List.set_cons_zero, List.set_cons_succ, List.getElem_toArray, List.getElem_cons_zero, List.getElem_cons_succ])); (refine wpAnyH_take (i := 29) (v := ?_) rfl (by kernel_rfl) (by kernel_rfl) (by kernel_rfl) (fun _ _ _ h => h) (Or.inl ⟨by rfl, ?_⟩) hHeld ?_; rotate_left; (focus (intro w hSw; (try dsimp only at hSw); go_simp; try with_reducible rfl)); (try simp only [Act.put, List.setIfInBounds_toArray, List.set_cons_zero, List.set_cons_succ, List.getElem_toArray, List.getElem_cons_zero, List.getElem_cons_succ])); (refine wpAnyH_take (i := 30) (v := ?_) rfl (by kernel_rfl) (by kernel_rfl) (by kernel_rfl) (fun _ _ _ h => h) (Or.inl ⟨by rfl, ?_⟩) hHeld ?_; rotate_left; (focus (intro w hSw; (try dsimp only at hSw); go_simp; try with_reducible rfl)); (try simp only [Act.put, List.setIfInBounds_toArray, List.set_cons_zero, List.set_cons_succ, List.getElem_toArray, List.getElem_cons_zero, List.getElem_cons_succ])); (refine wpAnyH_take (i := 31) (v := ?_) rfl (by kernel_rfl) (by kernel_rfl) (by kernel_rfl) (fun _ _ _ h => h) (Or.inl ⟨by rfl, ?_⟩) hHeld ?_; rotate_left; (focus (intro w hSw; (try dsimp only at hSw); go_simp; try with_reducible rfl)); (try simp only [Act.put, List.setIfInBounds_toArray, List.set_cons_zero, List.set_cons_succ, List.getElem_toArray, List.getElem_cons_zero, List.getElem_cons_succ]))
  (refine wpAnyH_take (i := 32) (v := ?_) rfl (by kernel_rfl) (by kernel_rfl) (by kernel_rfl) (fun _ _ _ h => h) (Or.inl ⟨by rfl, ?_⟩) hHeld ?_; rotate_left; (focus (intro w hSw; (try dsimp only at hSw); go_simp; (have hz := (Bytes.later HV.out hSw).str (P := Try.prog) (src := 22) (dst := 9) Try.underlying22 Try.underlying5 Try.underlying9; go_simp; try with_reducible rfl))); (try simp only [Act.put, List.setIfInBounds_toArray, List.set_cons_zero, List.set_cons_succ, List.getElem_toArray, List.getElem_cons_zero, List.getElem_cons_succ]))
  refine wpAnyH_at (m := #[true, true, true, true, true, true, true, true, true, true, true, true, true, true, true, true, true, true, true, true, true, true, true, true, true, true, true, true, true, true, true, true, true, false, false, false, false, false, false, false, false]) (by kernel_rfl) ?_
  (refine wpAnyH_ready (rs := [33]) (by kernel_rfl) (by simp) ?_; refine AllReadyH.cons rfl (fun K hK => ?_) AllReadyH.nil; go_simp; refine (slotK 3 _ 3 (by omega) rfl).mono ?_; rintro e y33 ⟨v33, rfl, hv33, hs⟩; refine hK.out _ _ ?_ (fun hHeldN => ?_); (focus ((try dsimp only); (exact hHeld.trans (hs.mono hHeld.size)))); clear hK K hHeld; have hHeld := hHeldN; clear hHeldN; (try simp only [Act.put, List.setIfInBounds_toArray, List.set_cons_zero, List.set_cons_succ, List.getElem_toArray, List.getElem_cons_zero, List.getElem_cons_succ]))
  obtain ⟨a33, c33, rfl⟩ := hv33.form
  rw [sl_length] at hv33 ⊢
  have HY33 := Lib.hid hv33
  clear hv33
  have HH33 := Lib.hid hHeld
  clear hs hHeld
  refine wpAnyH_str (S' := fun w' => Below y33.heap.size y33 w') (fun w' h => HH33.out.trans (h.mono HH33.out.size)) _ _ _ _ ?_
  have hHeld := Below.refl y33.heap.size y33
  refine wpAnyH_at (m := #[true, true, true, true, true, true, true, true, true, true, true, true, true, true, true, true, true, true, true, true, true, true, true, true, true, true, true, true, true, true, true, true, true, true, false, false, false, false, false, false, false]) (by kernel_rfl) ?_
  (refine wpAnyH_take (i := 34) (v := ?_) rfl (by kernel_rfl) (by kernel_rfl) (by kernel_rfl) (fun _ _ _ h => h) (Or.inl ⟨by rfl, ?_⟩) hHeld ?_; rotate_left; (focus (intro w hSw; (try dsimp only at hSw); go_simp; (have hz := (Bytes.later HY33.out hSw).str (P := Try.prog) (src := 22) (dst := 9) Try.underlying22 Try.underlying5 Try.underlying9; go_simp; try with_reducible rfl))); (try simp only [Act.put, List.setIfInBounds_toArray, List.set_cons_zero, List.set_cons_succ, List.getElem_toArray, List.getElem_cons_zero, List.getElem_cons_succ]))
  refine wpAnyH_at (m := #[true, true, true, true, true, true, true, true, true, true, true, true, true, true, true, true, true, true, true, true, true, true, true, true, true, true, true, true, true, true, true, true, true, true, true, false, false, false, false, false, false]) (by kernel_rfl) ?_
  (refine wpAnyH_ready (rs := [35]) (by kernel_rfl) (by simp) ?_; refine AllReadyH.cons rfl (fun K hK => ?_) AllReadyH.nil; go_simp; refine (slotK 2 _ 2 (by omega) rfl).mono ?_; rintro e y35 ⟨v35, rfl, hv35, hs⟩; refine hK.out _ _ ?_ (fun hHeldN => ?_); (focus ((try dsimp only); (exact hHeld.trans (hs.mono hHeld.size)))); clear hK K hHeld; have hHeld := hHeldN; clear hHeldN; (try simp only [Act.put, List.setIfInBounds_toArray, List.set_cons_zero, List.set_cons_succ, List.getElem_toArray, List.getElem_cons_zero, List.getElem_cons_succ]))
  obtain ⟨a35, c35, rfl⟩ := hv35.form
  rw [sl_length] at hv35 ⊢
  have HY35 := Lib.hid hv35
  clear hv35
  have HH35 := Lib.hid hHeld
  clear hs hHeld
  refine wpAnyH_str (S' := fun w' => Below y35.heap.size y35 w') (fun w' h => HH35.out.trans (h.mono HH35.out.size)) _ _ _ _ ?_
  have hHeld := Below.refl y35.heap.size y35
  refine wpAnyH_at (m := #[true, true, true, true, true, true, true, true, true, true, true, true, true, true, true, true, true, true, true, true, true, true, true, true, true, true, true, true, true, true, true, true, true, true, true, true, false, false, false, false, false]) (by kernel_rfl) ?_
  (refine wpAnyH_take (i := 36) (v := ?_) rfl (by kernel_rfl) (by kernel_rfl) (by kernel_rfl) (fun _ _ _ h => h) (Or.inl ⟨by rfl, ?_⟩) hHeld ?_; rotate_left; (focus (intro w hSw; (try dsimp only at hSw); go_simp; (have hz := (Bytes.later HY35.out hSw).str (P := Try.prog) (src := 22) (dst := 9) Try.underlying22 Try.underlying5 Try.underlying9; go_simp; try with_reducible rfl))); (try simp only [Act.put, List.setIfInBounds_toArray, List.set_cons_zero, List.set_cons_succ, List.getElem_toArray, List.getElem_cons_zero, List.getElem_cons_succ]))
  (refine wpAnyH_take (i := 37) (v := ?_) rfl (by kernel_rfl) (by kernel_rfl) (by kernel_rfl) (fun _ _ _ h => h) (Or.inl ⟨by rfl, ?_⟩) hHeld ?_; rotate_left; (focus (intro w hSw; (try dsimp only at hSw); go_simp; (have _h := hSw; rw [if_neg (by rw [sl_length, sl_length]; omega), catK]))); (try simp only [Act.put, List.setIfInBounds_toArray, List.set_cons_zero, List.set_cons_succ, List.getElem_toArray, List.getElem_cons_zero, List.getElem_cons_succ]))
  (refine wpAnyH_take (i := 38) (v := ?_) rfl (by kernel_rfl) (by kernel_rfl) (by kernel_rfl) (fun _ _ _ h => h) (Or.inl ⟨by rfl, ?_⟩) hHeld ?_; rotate_left; (focus (intro w hSw; (try dsimp only at hSw); go_simp; try with_reducible rfl)); (try simp only [Act.put, List.setIfInBounds_toArray, List.set_cons_zero, List.set_cons_succ, List.getElem_toArray, List.getElem_cons_zero, List.getElem_cons_succ])); (refine wpAnyH_take (i := 39) (v := ?_) rfl (by kernel_rfl) (by kernel_rfl) (by kernel_rfl) (fun _ _ _ h => h) (Or.inl ⟨by rfl, ?_⟩) hHeld ?_; rotate_left; (focus (intro w hSw; (try dsimp only at hSw); go_simp; try with_reducible rfl)); (try simp only [Act.put, List.setIfInBounds_toArray, List.set_cons_zero, List.set_cons_succ, List.getElem_toArray, List.getElem_cons_zero, List.getElem_cons_succ])); (refine wpAnyH_take (i := 40) (v := ?_) rfl (by kernel_rfl) (by kernel_rfl) (by kernel_rfl) (fun _ _ _ h => h) (Or.inl ⟨by rfl, ?_⟩) hHeld ?_; rotate_left; (focus (intro w hSw; (try dsimp only at hSw); go_simp; try with_reducible rfl)); (try simp only [Act.put, List.setIfInBounds_toArray, List.set_cons_zero, List.set_cons_succ, List.getElem_toArray, List.getElem_cons_zero, List.getElem_cons_succ]))
  refine wpAnyH_done (by kernel_rfl) ?_ _
  have HB7 := Lib.hid (below_of HB6.out (HH33.out.trans (HH35.out.mono HH33.out.size)))
  go_wp2_with fail
  go_ret
  exact ⟨rfl, HB7.out⟩
end Go.Proofs.Ytoinjapmioldaaa

namespace Go.Proofs.Ytoinjapmioldaaa
open Go.RowKit
attribute [local go_sem ↓] Go.wp_at_zero Go.wp_at_succ

set_option maxHeartbeats 16000000 in
set_option maxRecDepth 100000 in
theorem bootPlays_go (m : Nat) (a : Option Addr) (c : Nat) (l : List UInt8) (ua : Option Addr) (uc n : Nat) (bs : List Bool) (N : Int) (x : UInt8) (t : Bool) (w : World) (hml : m = l.length) (hnb : n = bs.length)
    (hv : Bytes w (.slice a m c) l) (hb : Row w (.slice ua n uc) (flv bs)) (hN : N ≤ 9223372036854775807) (h1 : 1 ≤ m) (h2 : m ≤ 60) :
    Calls Try.prog 3 #[.slice a m c, .slice ua n uc, .agg #[.int .i64 N, .int .u8 (x.toNat : Int), .bool t]] w fun e w' => e = .returned (.bool true) ∧ Below w.heap.size w w' := by
  obtain ⟨z, hz⟩ : ∃ z : Int, z = (x.toNat : Int) := ⟨_, rfl⟩
  rw [← hz]
  have HZ := Lib.hid hz
  obtain ⟨w0, hw0⟩ : ∃ w0, w0 = w.alloc (.cells #[.int .i64 N, .int .u8 z, .bool t] 25) := ⟨_, rfl⟩
  have hb0 : Below w.heap.size w w0 := by rw [hw0]; exact ba1 _ _
  have hbx : BlkAt 25 w.heap.size [.int .i64 N, .int .u8 z, .bool t] w0 := by rw [hw0]; exact BlkAt.new w _
  have HV := Lib.hid (hv.later hb0)
  have HU := Lib.hid (hb.later hb0)
  have HB0 := Lib.hid hb0
  have HBX := Lib.hid hbx
  have HN := Lib.hid hN
  have HM : Hid (m = l.length ∧ n = bs.length ∧ 1 ≤ m ∧ m ≤ 60) := ⟨hml, hnb, h1, h2⟩
  obtain ⟨C, hC⟩ : ∃ C, C = cel l bs := ⟨_, rfl⟩
  have HCL : Hid (C.length = m) := by rw [hC, hml]; exact cel_length _ _
  have HCC := Lib.hid hC
  have k1 : ¬ (m : Int) < 1 := by omega
  have k2 : ¬ (60 : Int) < m := by omega
  have k3 : ¬ (m : Int) ≤ 0 := by omega
  have k4 : (1 : Int) ≤ m := by omega
  have k5 : (m : Int) ≤ 60 := by omega
  have HW0 := Lib.hid hw0
  clear hz hw0 hb0 hbx hv hb hN hml hnb h1 h2 hC
  go_enter Try.func3, Try.ntmps3
  go_wp2_with fail
  rw [← HW0.out]
  refine (newW m w0 (by have := HM.out; omega) (by have := HM.out; omega)).mono ?_
  rintro e w1 ⟨p, g, rfl, hp, hg, hP, hB⟩
  have HP := Lib.hid hP
  have HB := Lib.hid hB
  have HPG := Lib.hid (And.intro hp hg)
  clear hp hg hP hB
  go_wp2_with fail
  refine (newRef m w1 (by have := HM.out; omega) (by have := HM.out; omega)).mono ?_
  rintro e w2 ⟨q, b, u, rfl, hq, hb, hu, hR, hB2⟩
  have HBo : Hid (Bo p g m q b u m m (fil C 0) w2) := by
    have := Bo.made HP.out hR hB2 hq hb hu
    rw [fil_zero, HCL.out]; exact this
  have hsz := HB.out.size
  have HA : Hid (∀ z ∈ [p, g, q, b, u], w0.heap.size ≤ z) := by
    intro z hz
    have := HPG.out
    simp at hz
    omega
  have HB2 := Lib.hid (below_of HB.out hB2)
  clear hq hb hu hR hB2 hsz
  go_wp2_with fail
  clear k1 k2 k3 k4
  go_loopw [10] (fun z wr => ∃ i : Nat, i ≤ m ∧ z = .int .i64 i ∧ Hid (Bo p g m q b u m m (fil C i) wr) ∧ Hid (Below w0.heap.size w0 wr)) (fun z _ => m - (intOf z).toNat)
  case atStart => exact ⟨0, Nat.zero_le _, rfl, HBo.out, HB2.out⟩
  case round =>
    obtain ⟨i, hi, rfl, HBo, HB⟩ := hrel
    rcases Nat.lt_or_ge i m with hlt | hge
    · have q0 : (i : Int) < m := by omega
      have hil : i < l.length := by have := HM.out; omega
      obtain ⟨bl, bo, rfl, hbl, hcb0⟩ := HV.out.at hil
      obtain ⟨y, hy⟩ : ∃ y, y = l[i] := ⟨_, rfl⟩
      rw [← hy] at hcb0
      obtain ⟨f, hf⟩ : ∃ f, f = bs.getD i false := ⟨_, rfl⟩
      have hci : C[i]? = some (y, f) := by rw [HCC.out, cel_at hil, ← hy, ← hf]
      obtain ⟨Y, hY⟩ : ∃ Y : Int, Y = (y.toNat : Int) := ⟨_, rfl⟩
      rw [← hY] at hcb0
      have HCB := Lib.hid hcb0
      have hcb := cell_later' HB.out hbl hcb0
      have HYY := Lib.hid hY
      have HSP := Lib.hid (spoilS HBo.out.P i y f (by have := HM.out; omega))
      rw [(fil_sp hci).1, (fil_sp hci).2, ← hY] at HSP
      have HCI := Lib.hid hci
      have HI : Hid (i < m ∧ bl < w0.heap.size) := ⟨hlt, hbl⟩
      clear hy hci hY hlt hil hcb0
      by_cases hin : i < bs.length
      · have g1 : (i : Int) < n := by have := HM.out; omega
        have g2 : i < n := by have := HM.out; omega
        have huw := HU.out.later HB.out
        obtain ⟨ub, uo, rfl, _, hcu⟩ := huw.at (flv_at hin)
        have hfe : bs[i] = f := by rw [hf]; simp [hin]
        rw [hfe] at hcu
        clear huw hf hin hfe
        go_wp2_with fail
        refine HSP.out.mono ?_
        rintro e w3 ⟨rfl, hP3, hC3⟩
        have HP3 := Lib.hid hP3
        have hap := HBo.out.apart
        have hR3 := HBo.out.R.chg hC3 (by simp; omega) (by simp; omega) (by simp; omega)
        have HB3 := Lib.hid (hC3.on HB.out (fun z hz => HA.out z (by simp at hz ⊢; omega)))
        rw [fil_nrm] at hR3
        have HR4 := Lib.hid hR3.drew
        have HB4 := Lib.hid HB3.out.drew
        obtain ⟨w4, hw4⟩ : ∃ w4, w4 = w3.drew := ⟨_, rfl⟩
        rw [← hw4] at HR4 HB4
        obtain ⟨s0, s1, _, _, _, _⟩ := HR4.out.cells
        have hfl : (fil C i).c.length = m := by rw [fil_len (by have := HI.out; have := HCL.out; omega)]; exact HCL.out
        rw [hfl] at s0 s1
        obtain ⟨c9, hc9⟩ : ∃ c9, (fil C i).c[i]? = some c9 := ⟨_, List.getElem?_eq_getElem (by rw [hfl]; exact HI.out.1)⟩
        obtain ⟨d0, hfb⟩ := HR4.out.atB hc9
        obtain ⟨d1, hfu⟩ := HR4.out.atU hc9
        obtain ⟨⟨z1, z4⟩, z5, z6⟩ := HR4.out.half i (.int .u8 Y) d1
        rw [hfl] at z1
        obtain ⟨p1, p2⟩ := HR4.out.put i (y, f) (by rw [hfl]; exact HI.out.1)
        rw [fil_set HCI.out] at p1
        simp only at p1 p2
        rw [← HYY.out] at p1 p2
        have hcb3 := cell_later' HB3.out HI.out.2 HCB.out
        have s0' : w3.cell? ⟨q, 0, none⟩ = some (.slice (some ⟨b, 0, none⟩) m m) := by rw [hw4] at s0; exact s0
        have HP1 := Lib.hid p1
        have HP2 := Lib.hid p2
        have HW4 := Lib.hid hw4
        have g3 : i < m := HI.out.1
        clear hP3 hC3 hR3 hw4 p1 p2 hc9 hfl z4
        go_wp2_with fail
        go_still_tail 9, (by kernel_rfl)
        change wpList _ _ _ _ _ w3.drew
        rw [← HW4.out]
        go_wp2_with fail
        go_roundw
        case rel =>
          have hP5 : PSt p g m (fil C (i + 1)) w4 := by have := HP3.out; rw [HW4.out]; exact ⟨this.blk, this.row, this.ne, this.pos, this.few, this.cap, this.fu⟩
          refine ⟨i + 1, by omega, by go_num, ?_, ?_⟩
          · exact ⟨hP5.chg HP2.out (by simp; omega) (by simp; omega), by rw [fil_nrm]; exact HP1.out, HBo.out.apart⟩
          · exact HP2.out.on HB4.out (fun z hz => HA.out z (by simp at hz ⊢; omega))
        case measure => simp [intOf]; omega
      · have g1 : ¬ (i : Int) < n := by have := HM.out; omega
        have hff : f = false := by rw [hf, List.getD_eq_getElem?_getD, List.getElem?_eq_none (by omega)]; rfl
        subst hff
        clear hf hin
        go_wp2_with fail
        refine HSP.out.mono ?_
        rintro e w3 ⟨rfl, hP3, hC3⟩
        have HP3 := Lib.hid hP3
        have hap := HBo.out.apart
        have hR3 := HBo.out.R.chg hC3 (by simp; omega) (by simp; omega) (by simp; omega)
        have HB3 := Lib.hid (hC3.on HB.out (fun z hz => HA.out z (by simp at hz ⊢; omega)))
        rw [fil_nrm] at hR3
        have HR4 := Lib.hid hR3.drew
        have HB4 := Lib.hid HB3.out.drew
        obtain ⟨w4, hw4⟩ : ∃ w4, w4 = w3.drew := ⟨_, rfl⟩
        rw [← hw4] at HR4 HB4
        obtain ⟨s0, s1, _, _, _, _⟩ := HR4.out.cells
        have hfl : (fil C i).c.length = m := by rw [fil_len (by have := HI.out; have := HCL.out; omega)]; exact HCL.out
        rw [hfl] at s0 s1
        obtain ⟨c9, hc9⟩ : ∃ c9, (fil C i).c[i]? = some c9 := ⟨_, List.getElem?_eq_getElem (by rw [hfl]; exact HI.out.1)⟩
        obtain ⟨d0, hfb⟩ := HR4.out.atB hc9
        obtain ⟨d1, hfu⟩ := HR4.out.atU hc9
        obtain ⟨⟨z1, z4⟩, z5, z6⟩ := HR4.out.half i (.int .u8 Y) d1
        rw [hfl] at z1
        obtain ⟨p1, p2⟩ := HR4.out.put i (y, false) (by rw [hfl]; exact HI.out.1)
        rw [fil_set HCI.out] at p1
        simp only at p1 p2
        rw [← HYY.out] at p1 p2
        have hcb3 := cell_later' HB3.out HI.out.2 HCB.out
        have s0' : w3.cell? ⟨q, 0, none⟩ = some (.slice (some ⟨b, 0, none⟩) m m) := by rw [hw4] at s0; exact s0
        have HP1 := Lib.hid p1
        have HP2 := Lib.hid p2
        have HW4 := Lib.hid hw4
        have g3 : i < m := HI.out.1
        clear hP3 hC3 hR3 hw4 p1 p2 hc9 hfl z4
        go_wp2_with fail
        go_still_tail 9, (by kernel_rfl)
        change wpList _ _ _ _ _ w3.drew
        rw [← HW4.out]
        go_wp2_with fail
        go_roundw
        case rel =>
          have hP5 : PSt p g m (fil C (i + 1)) w4 := by have := HP3.out; rw [HW4.out]; exact ⟨this.blk, this.row, this.ne, this.pos, this.few, this.cap, this.fu⟩
          refine ⟨i + 1, by omega, by go_num, ?_, ?_⟩
          · exact ⟨hP5.chg HP2.out (by simp; omega) (by simp; omega), by rw [fil_nrm]; exact HP1.out, HBo.out.apart⟩
          · exact HP2.out.on HB4.out (fun z hz => HA.out z (by simp at hz ⊢; omega))
        case measure => simp [intOf]; omega
    · obtain rfl : i = m := by omega
      have q0 : ¬ (i : Int) < i := by omega
      have HH : Hid (Bo p g i q b u i i (hold C) wr) := by
        have := HBo.out
        rw [← HCL.out, fil_all] at this
        rw [← HCL.out]; exact this
      clear hge hi HBo
      have HCP := Lib.hid (copyS HH.out.P)
      go_wp2_with fail
      refine HCP.out.mono ?_
      rintro e w3 ⟨p', g', cap', rfl, hp', hg', hP3, hB3⟩
      have HH3 := Lib.hid (HH.out.later hB3)
      have HB3 := Lib.hid (below_of HB.out hB3)
      have HQ3 := Lib.hid hP3
      clear hp' hg' hP3 hB3 HCP HH
      have HCT := Lib.hid (countB HH3.out.P)
      obtain ⟨M, hM⟩ : ∃ M, M = cN (hold C) := ⟨_, rfl⟩
      obtain ⟨E, hE⟩ : ∃ E, E = cE (hold C) := ⟨_, rfl⟩
      rw [← hM, ← hE] at HCT
      have HME := Lib.hid (And.intro hM hE)
      clear hM hE
      go_wp2_with fail
      refine HCT.out.mono ?_
      rintro e w4 ⟨rfl, hb4⟩
      have HH4 := Lib.hid (HH3.out.later hb4)
      have HQ4 := Lib.hid (HQ3.out.later hb4)
      have HB4 := Lib.hid (below_of HB3.out hb4)
      clear hb4 HCT HH3 HQ3
      have HCT := Lib.hid (countR HH4.out.R)
      rw [cN_nrm, cE_nrm, ← HME.out.1, ← HME.out.2] at HCT
      go_wp2_with fail
      refine HCT.out.mono ?_
      rintro e w5 ⟨rfl, hb5⟩
      have HH5 := Lib.hid (HH4.out.later hb5)
      have HQ5 := Lib.hid (HQ4.out.later hb5)
      have HB5 := Lib.hid (below_of HB4.out hb5)
      clear hb5 HCT HH4 HQ4
      have HSM := Lib.hid (sameS HQ5.out HH5.out.P)
      rw [show ((hold C).c == (hold C).c) = true by simp] at HSM
      go_wp2_with fail
      refine HSM.out.mono ?_
      rintro e w6 ⟨rfl, hb6⟩
      have HH6 := Lib.hid (HH5.out.later hb6)
      have HB6 := Lib.hid (below_of HB5.out hb6)
      have hbx := HBX.out.later HB6.out
      have x0 := hbx.cell (j := 0) rfl
      have x1 := hbx.cell (j := 1) rfl
      have x2 := hbx.cell (j := 2) rfl
      clear hb6 HSM HH5 HQ5
      have HF := Lib.hid (fuseS HH6.out.P N x t HN.out)
      rw [← HZ.out] at HF
      obtain ⟨S, hS⟩ : ∃ S, S = fuS (hold C) N x t := ⟨_, rfl⟩
      rw [← hS] at HF
      have HSD : Hid (S.dead = false ∧ S.c.length = i) := by
        rw [hS]; exact ⟨rfl, HCL.out⟩
      have HFR := Lib.hid (fun (W : World) (hR : RSt q b u i i (nrm (hold C)) W) => fuseR hR N x t HN.out)
      rw [fuS_nrm, ← HZ.out, ← hS] at HFR
      clear hS hbx
      go_wp2_with fail
      refine HF.out.mono ?_
      rintro e w7 ⟨⟨v7, rfl⟩, hP7, hC7⟩
      have hap := HH6.out.apart
      have HFR := Lib.hid (HFR.out w7 (HH6.out.R.chg hC7 (by simp; omega) (by simp; omega) (by simp; omega)))
      have HB7 := Lib.hid (hC7.on HB6.out (fun z hz => HA.out z (by simp at hz ⊢; omega)))
      have HP7 := Lib.hid hP7
      have HAP := Lib.hid hap
      have hbx := HBX.out.later HB7.out
      have x0 := hbx.cell (j := 0) rfl
      have x1 := hbx.cell (j := 1) rfl
      have x2 := hbx.cell (j := 2) rfl
      clear hP7 hC7 HF HH6 hap hbx
      go_wp2_with fail
      refine HFR.out.mono ?_
      rintro e w8 ⟨⟨v8, rfl⟩, hR8, hC8⟩
      have hap := HAP.out
      have HH8 : Hid (Bo p g i q b u i i S w8) := ⟨HP7.out.chg hC8 (by simp; omega) (by simp; omega), hR8, hap⟩
      have HB8 := Lib.hid (hC8.on HB7.out (fun z hz => HA.out z (by simp at hz ⊢; omega)))
      clear hR8 hC8 HFR HP7 hap
      have HBG := Lib.hid (beginB HH8.out.P)
      unfold BeA at HBG
      obtain ⟨T, hT⟩ : ∃ T, T = bS S := ⟨_, rfl⟩
      obtain ⟨M2, hM2⟩ : ∃ M2, M2 = bN S := ⟨_, rfl⟩
      obtain ⟨E2, hE2⟩ : ∃ E2, E2 = bE S := ⟨_, rfl⟩
      have HBR := Lib.hid (fun (W : World) (hR : RSt q b u i i (nrm S) W) => beginR hR)
      unfold BeR at HBR
      rw [bN_nrm, bE_nrm, bS_nrm, ← hM2, ← hE2, ← hT] at HBR
      rw [← hM2, ← hE2, ← hT] at HBG
      have HTD : Hid (T.c.length = i ∧ (T.dead = true → cE T = 7)) := by
        rw [hT]; exact ⟨(bS_len S).trans HSD.out.2, bS_dead HSD.out.1⟩
      clear hT hM2 hE2
      go_wp2_with fail
      refine HBG.out.mono ?_
      rintro e w9 ⟨rfl, hP9, hC9⟩
      have hap := HAP.out
      have HBR := Lib.hid (HBR.out w9 (HH8.out.R.chg hC9 (by simp; omega) (by simp; omega) (by simp; omega)))
      have HB9 := Lib.hid (hC9.on HB8.out (fun z hz => HA.out z (by simp at hz ⊢; omega)))
      have HP9 := Lib.hid hP9
      clear hP9 hC9 HBG HH8 hap
      go_wp2_with fail
      refine HBR.out.mono ?_
      rintro e wa ⟨rfl, hRa, hCa⟩
      have hap := HAP.out
      have HHA : Hid (Bo p g i q b u i i T wa) := ⟨HP9.out.chg hCa (by simp; omega) (by simp; omega), hRa, hap⟩
      have HBA := Lib.hid (hCa.on HB9.out (fun z hz => HA.out z (by simp at hz ⊢; omega)))
      clear hRa hCa HBR HP9 hap
      have HD : Hid (∀ m, Calls Try.prog 19 #[.pointer (some ⟨p, 0, none⟩)] (wa.drewN m) fun e w' => e = .returned (.bool T.dead) ∧ ∃ k, w' = wa.drewN k) := fun m => (deadS (HHA.out.P.later (below_dr0 _ _ m))).mono fun e w' ⟨e1, e2⟩ => ⟨e1, m, e2.symm⟩
      obtain ⟨s0, s1, _, _, _, s5⟩ := HHA.out.R.cells
      replace s5 : wa.cell? ⟨q, 5, none⟩ = some (.bool T.dead) := s5
      obtain ⟨d, hd⟩ : ∃ d, d = T.dead := ⟨_, rfl⟩
      rw [← hd] at HD s5
      have HDE : Hid (d = true → cE T = 7) := by rw [hd]; exact HTD.out.2
      have HDD := Lib.hid hd
      have e1 : ((M2 : Int) != (M2 : Int)) = false := by simp
      have e2 : (E2 != E2) = false := by simp
      have e3 : (d != d) = false := by simp
      clear hd s0 s1
      go_wp2_with fail
      go_quiet ((go_at_call 19; exact HD.out _))
      have HHB := Lib.hid (HHA.out.later (below_dr0 _ _ nq))
      have HBB := Lib.hid (below_of HBA.out (below_dr0 _ _ nq))
      obtain ⟨wb, hwb⟩ : ∃ wb, wb = wa.drewN nq := ⟨_, rfl⟩
      rw [← hwb] at HHB HBB ⊢
      have HCT := Lib.hid (countB HHB.out.P)
      obtain ⟨E9, hE9⟩ : ∃ E9, E9 = cE T := ⟨_, rfl⟩
      obtain ⟨M9, hM9⟩ : ∃ M9, M9 = cN T := ⟨_, rfl⟩
      rw [← hM9, ← hE9] at HCT
      rw [← hE9] at HDE
      clear hwb s5 HD HHA hE9 hM9
      go_wp2_with fail
      refine HCT.out.mono ?_
      rintro e wc ⟨rfl, hbc⟩
      have HHC := Lib.hid (HHB.out.later hbc)
      have HBC := Lib.hid (below_of HBB.out hbc)
      have HD := Lib.hid (deadS HHC.out.P)
      rw [← HDD.out] at HD
      clear hbc HCT HHB
      go_wp2_with fail
      refine HD.out.mono ?_
      rintro e wd ⟨rfl, rfl⟩
      have e9 : (d && (E9 != 7)) = false := by
        cases d with
        | false => rfl
        | true => rw [HDE.out rfl]; rfl
      have HRA := Lib.hid (raiseS HHC.out.P)
      have HTL := Lib.hid HTD.out.1
      cases d <;>
      · have hd7 := HDE.out
        (first | (simp only [Bool.false_eq_true, false_implies] at hd7) | (have hd7 := hd7 rfl; subst hd7) | skip)
        clear HDE HDD e9 e3
        go_wp2_with fail
        refine HRA.out.mono ?_
        rintro e we ⟨⟨ve, rfl⟩, hPe, hCe⟩
        have hap := HHC.out.apart
        have HPE := Lib.hid hPe
        have HRE := Lib.hid (HHC.out.R.chg hCe (by simp; omega) (by simp; omega) (by simp; omega))
        have HBE := Lib.hid (hCe.on HBC.out (fun z hz => HA.out z (by simp at hz ⊢; omega)))
        clear hPe hCe HRA hap
        go_wp2_with fail
        go_loopw [16] (fun z wr => ∃ j : Nat, j ≤ i ∧ z = .int .i64 j ∧ Hid (Below we.heap.size we wr)) (fun z _ => i - (intOf z).toNat)
        case atStart => exact ⟨0, Nat.zero_le _, rfl, Below.refl _ _⟩
        case round =>
          obtain ⟨j, hj, rfl, HR⟩ := hrel
          have HBW := Lib.hid (below_of HBE.out HR.out)
          have hH := HRE.out.later HR.out
          obtain ⟨c0, c1, c2, c3, c4, c5⟩ := hH.cells
          have hl : (nrm T).c.length = i := HTL.out
          rw [hl] at c0 c1
          rcases Nat.lt_or_ge j i with hlt | hge
          · have q0 : (j : Int) < i := by omega
            have hi2 : j < T.c.length := by have := HTL.out; omega
            obtain ⟨ce, hc⟩ : ∃ ce, ce = T.c[j] := ⟨_, rfl⟩
            have hc1 : T.c[j]? = some ce := by rw [hc]; exact List.getElem?_eq_getElem hi2
            obtain ⟨d0, hfb⟩ := hH.atB (show (nrm T).c[j]? = some ce from hc1)
            obtain ⟨d1, hfu⟩ := hH.atU (show (nrm T).c[j]? = some ce from hc1)
            obtain ⟨r1, r2⟩ := rd_one (s := raS T) (i := j) (c := ce) hc1 rfl
            have HRD := Lib.hid (readS (HPE.out.later HR.out) j 1 (by have := HM.out; omega))
            unfold RdA at HRD
            obtain ⟨xc, un⟩ := ce
            simp only at d0 d1 r1 r2
            clear hc hc1 hH c2 c3 c4 c5 hi2
            cases un
            · rw [r1, r2, if_neg (by simp), if_neg (by simp)] at HRD
              clear r1 r2
              go_wp2_with fail
              refine HRD.out.mono ?_
              rintro e w7 ⟨v7, rfl, hby, hb7⟩
              have HR7 := Lib.hid (below_of HR.out hb7)
              have c0 := cell_later hb7 c0
              have c1 := cell_later hb7 c1
              have d0 := cell_later hb7 d0
              have d1 := cell_later hb7 d1
              obtain ⟨a7, c7, rfl⟩ := hby.form
              obtain ⟨b7, o7, rfl, _, hc7⟩ := hby.at (i := 0) (by simp)
              simp only [List.getElem_cons_zero, Nat.add_zero] at hc7
              have hl7 : ([xc] : List UInt8).length = 1 := rfl
              rw [hl7]
              clear hby hb7
              go_wp2_with fail
              go_quiet (fail)
              have HR8 := Lib.hid (below_drewN HR7.out nq)
              go_wp2_with fail
              go_roundw
              case rel => exact ⟨j + 1, by omega, by go_num, HR8⟩
              case measure => simp [intOf]; omega
            · rw [r1, r2, if_pos rfl, if_pos rfl] at HRD
              clear r1 r2
              go_wp2_with fail
              refine HRD.out.mono ?_
              rintro e w7 ⟨v7, rfl, hby, hb7⟩
              have HR7 := Lib.hid (below_of HR.out hb7)
              have c0 := cell_later hb7 c0
              have c1 := cell_later hb7 c1
              have d0 := cell_later hb7 d0
              have d1 := cell_later hb7 d1
              obtain ⟨a7, c7, rfl⟩ := hby.form
              clear hby hb7
              go_wp2_with fail
              go_quiet (fail)
              have HR8 := Lib.hid (below_drewN HR7.out nq)
              go_wp2_with fail
              go_roundw
              case rel => exact ⟨j + 1, by omega, by go_num, HR8⟩
              case measure => simp [intOf]; omega
          · obtain rfl : j = i := by omega
            have q0 : ¬ (j : Int) < j := by omega
            clear hH c0 c1 c2 c3 c4 c5
            go_wp2_with fail
            refine (knownB _).mono ?_
            rintro e wk ⟨rfl, hb⟩
            have HBK := Lib.hid (below_of HB0.out (below_of HBW.out hb))
            clear hb
            go_wp2_with fail
            go_ret
            exact ⟨rfl, HBK.out⟩
set_option maxHeartbeats 4000000 in
set_option maxRecDepth 100000 in
theorem bootPlays_walk (v : Value) (l : List UInt8) (u : Value) (bs : List Bool) (N : Int) (x : UInt8) (t : Bool) (w : World) (hv : Bytes w v l) (hl : l.length ≤ 9223372036854775807) (hb : Row w u (flv bs)) (hbl : bs.length ≤ 9223372036854775807) (_hN0 : -9223372036854775808 ≤ N) (hN : N ≤ 9223372036854775807) :
    Calls Try.prog 3 #[v, u, .agg #[.int .i64 N, .int .u8 (x.toNat : Int), .bool t]] w fun e w' => e = .returned (.bool true) ∧ Below w.heap.size w w' := by
  obtain ⟨a, c, rfl⟩ := hv.form
  obtain ⟨ua, uc, rfl⟩ := hb.form
  rw [flv_length] at hb ⊢
  by_cases h : 1 ≤ l.length ∧ l.length ≤ 60
  · exact bootPlays_go l.length a c l ua uc bs.length bs N x t w rfl rfl hv hb hN h.1 h.2
  · obtain ⟨z, hz⟩ : ∃ z : Int, z = (x.toNat : Int) := ⟨_, rfl⟩
    rw [← hz]
    have HB : Hid (Below w.heap.size w (w.alloc (.cells #[.int .i64 N, .int .u8 z, .bool t] 25))) := ba1 _ _
    obtain ⟨m, hm⟩ : ∃ m, m = l.length := ⟨_, rfl⟩
    rw [← hm] at h ⊢
    clear hv hb hl hbl hN hz hm
    rcases Nat.lt_or_ge m 1 with h1 | h1
    · have k1 : (m : Int) < 1 := by omega
      clear h h1
      go_enter Try.func3, Try.ntmps3
      go_wp2_with fail
      refine (knownB _).mono ?_
      rintro e w1 ⟨rfl, hb⟩
      have HB1 := Lib.hid (below_of HB.out hb)
      clear hb
      go_wp2_with fail
      go_ret
      exact ⟨rfl, HB1.out⟩
    · have k1 : ¬ (m : Int) < 1 := by omega
      have k2 : (60 : Int) < m := by omega
      have k3 : ¬ (m : Int) ≤ 0 := by omega
      clear h h1
      go_enter Try.func3, Try.ntmps3
      go_wp2_with fail
      refine (knownB _).mono ?_
      rintro e w1 ⟨rfl, hb⟩
      have HB1 := Lib.hid (below_of HB.out hb)
      clear hb
      go_wp2_with fail
      go_ret
      exact ⟨rfl, HB1.out⟩
end Go.Proofs.Ytoinjapmioldaaa

namespace Go.Proofs.Ytoinjapmioldaaa.bootPlays
open Go.ChangeShapes Go.WideShapes Go.ChangeAt Go.RowKit

set_option maxRecDepth 100000 in
theorem lifted (os : Os) (started : os.Started) (H : Type) (enc : TypeId × Value → H) :
    ReturnsInHanded {} Try.checked os 3 .any (Rows.bootPlaysSpec.pre6 enc Try.prog Try.f3 Rows.bootPlaysRow.domain false) (Rows.bootPlaysSpec.post enc Try.prog Try.f3 false true false false) := by
  refine returnsInHanded_of_change (C := Try.checked) own started (by kernel_rfl) Try.func3
    (ChangeSpec.witness6 (enc := enc) (C := Try.checked) false ⟨#[], #[.slice none 0 0, .slice none 0 0, .agg #[.int .i64 0, .int .u8 0, .bool false]], []⟩ 8 (by kernel_rfl) (by kernel_rfl) (by kernel_rfl) (by kernel_rfl)) ?_
  intro W base args ds gs before hval0 hW hcnd _
  have hval : ∀ (j : Nat) t v, Try.f3.params[j]? = some t → args[j]? = some v → Value.okWide Try.prog W .any base t v := hval0
  have hW' := hW
  obtain ⟨p, q, hA0, hV, rfl, hfz, hnd⟩ := hW
  have hA : DataW.TrodAll enc Try.prog W 0 (fun _ => true) true Try.f3.params.toList args.toList ds p := hA0
  rw [Try.params3] at hA hval
  obtain ⟨v0, vs0, d0, ds0, p0, q0, hargs, rfl, rfl, h0, r0⟩ := trodAll_cons hA
  obtain ⟨v1, vs1, d1, ds1, p1, q1, rfl, rfl, rfl, h1, r1⟩ := trodAll_cons r0
  obtain ⟨v2, vs2, d2, ds2, p2, q2, rfl, rfl, rfl, h2, r2⟩ := trodAll_cons r1
  obtain ⟨rfl, rfl, rfl⟩ := trodAll_nil r2
  obtain rfl : args = #[v0, v1, v2] := by cases args; simp_all
  obtain ⟨rfl, rfl⟩ := trodVars_none hV
  have k0 := h0
  have lt0 : ∀ x ∈ p0, x.block < W.heap.size := by obtain ⟨m, hm⟩ := k0; exact DataW.trod_lt m _ _ _ hm
  have k1 := h1
  have lt1 : ∀ x ∈ p1, x.block < W.heap.size := by obtain ⟨m, hm⟩ := k1; exact DataW.trod_lt m _ _ _ hm
  have k2 := h2
  have lt2 : ∀ x ∈ p2, x.block < W.heap.size := by obtain ⟨m, hm⟩ := k2; exact DataW.trod_lt m _ _ _ hm
  obtain ⟨l0, hb0, hl0⟩ := open_bytes (hval 0 22 v0 rfl rfl) h0
  obtain ⟨l1, hb1, hl1⟩ := open_flags (hval 1 23 v1 rfl rfl) h1
  obtain ⟨n2, x2, t2, rfl, ha2, hb2⟩ := open_loss (hval 2 25 v2 rfl rfl) h2
  refine (bootPlays_walk v0 l0 v1 l1 n2 x2 t2 W hb0 hl0 hb1 hl1 ha2 hb2).mono fun e W' ⟨he, bel⟩ => ?_
  subst he
  exact ⟨_, rfl, _, _, _, [], _, [], hW', trodAll_mk1 (shut_bool Try.underlying4 _), (trodAll_cons_mk (Below.trod laidOut (by kernel_rfl) (of_decide_eq_true (by kernel_rfl)) k0 bel lt0) (trodAll_cons_mk (Below.trod laidOut (by kernel_rfl) (of_decide_eq_true (by kernel_rfl)) k1 bel lt1) (trodAll_cons_mk (Below.trod laidOut (by kernel_rfl) (of_decide_eq_true (by kernel_rfl)) k2 bel lt2) trodAll_mk0))), rfl, bel.frame _, fun h => by cases h⟩

/-- The statement. -/
theorem said : Rows.BootPlaysSaid :=
  OpenClaim.holds_of_wide 3 Try.f3 rfl rfl rfl rfl rfl rfl rfl ⟨rfl, rfl, rfl, rfl, rfl⟩ rfl rfl rfl rfl rfl (by kernel_rfl) Try.func3 (by kernel_rfl)
    (of_decide_eq_true (by kernel_rfl)) (by unfold Func.isWrapper; first | (rw [if_pos (by decide +kernel)]; kernel_rfl) | (rw [if_neg (by decide +kernel)]; exact ⟨rfl, rfl⟩))
    (fun os started H enc _ => lifted os started H enc)
#print axioms said
end Go.Proofs.Ytoinjapmioldaaa.bootPlays
