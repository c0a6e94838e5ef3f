/- Bytes laid over others; a copy over a block known whole.
   A store that is not there, and a zero one: the walks; StoreNil's walk.
   The chapter's rows: the walk of the law's 'known'.
   The walk of the reference's Read.
   The walk of the reference's Write.
   The walk of the program's Read. -/
import Derived.StillTailTactics
import Derived.Laws.CopyOwn
import Derived.Test.YtfoojjmokdbpcaaZ01
import Derived.Test.YtfoojjmokdbpcaaZ02

set_option linter.unusedSimpArgs false
set_option linter.unusedVariables false
namespace Go.Proofs.Ytfoojjmokdbpcaa
open Go.RowKit
attribute [local go_sem ↓] Go.wp_at_zero Go.wp_at_succ

theorem cut_c2 (g n c k m q : Nat) (hq : q = k + m) (h1 : q ≤ n) (h2 : n ≤ c) : ∃ A c', (∀ w, (Instr.slice 49 (.slice (some ⟨g, 0, none⟩) n c) (some (.int .i64 (k : Int))) (some (.int .i64 (q : Int))) none).run Try.prog w = .ok (.slice A m c') w) ∧ (k < c → A = some ⟨g, k * 2, none⟩) := by
  by_cases h : k = c
  · refine ⟨some ⟨g, 0, none⟩, c - k, fun w => ?_, fun h2 => by omega⟩
    rw [run_slice_lh w _ _ _ _ cellsC _ _ _ _ (by omega) (by omega) (by omega), sizeC]
    show Result.ok (Go.sliced _ _ _ _ 2) w = _
    unfold Go.sliced
    rw [if_pos (by simp; omega)]
    simp; omega
  · refine ⟨some ⟨g, k * 2, none⟩, c - k, fun w => ?_, fun _ => rfl⟩
    rw [run_slice_lh w _ _ _ _ cellsC _ _ _ _ (by omega) (by omega) (by omega), sizeC]
    show Result.ok (Go.sliced _ _ _ _ 2) w = _
    unfold Go.sliced
    rw [if_neg (by simp; omega)]
    simp [add0]; omega
theorem bv_put (l : List UInt8) (i : Nat) (x : UInt8) : (bv l).set i (.int .u8 (x.toNat : Int)) = bv (l.set i x) := by unfold bv; rw [List.map_set]
theorem OwnB.put {w : World} {B g cap : Nat} {l : List UInt8} (h : OwnB w B (.slice (some ⟨g, 0, none⟩) l.length cap) l) (i : Nat) (x : UInt8) :
    OwnB (w.setCell ⟨g, i, none⟩ (.int .u8 (x.toNat : Int))) B (.slice (some ⟨g, 0, none⟩) l.length cap) (l.set i x) := by
  have := (World.ownsRow.stored h i (.int .u8 (x.toNat : Int))).1
  rw [bv_put l i x] at this
  show World.ownsRow _ _ _ _ _ _ _
  rw [List.length_set]; exact this
/-- What is read so far, of what is read. -/
def rdP (l : List Ce) (i : Nat) : List UInt8 := (l.take i).map (fun c => c.1) ++ List.replicate (l.length - i) 0
theorem rdP_length {l : List Ce} {i : Nat} (h : i ≤ l.length) : (rdP l i).length = l.length := by simp [rdP]; omega
theorem rdP_zero (l : List Ce) : rdP l 0 = List.replicate l.length 0 := by simp [rdP]
theorem rdP_full (l : List Ce) : rdP l l.length = l.map (fun c => c.1) := by simp [rdP]
theorem rdP_set {l : List Ce} {i : Nat} (h : i < l.length) : (rdP l i).set i l[i].1 = rdP l (i + 1) := by
  unfold rdP
  rw [List.take_succ_eq_append_getElem h, List.map_append, List.set_append_right _ _ (by simp; omega)]
  have e : ((l.take i).map fun c => c.1).length = i := by simp; omega
  rw [e, Nat.sub_self, show l.length - i = (l.length - (i + 1)) + 1 by omega, List.replicate_succ]
  simp
theorem any_step {l : List Ce} {i : Nat} (h : i < l.length) (h2 : (l.take i).any (fun c => c.2) = false) (h3 : l[i].2 = false) : (l.take (i + 1)).any (fun c => c.2) = false := by
  rw [List.take_succ_eq_append_getElem h, List.any_append, h2]
  simp [h3]
theorem any_hit {l : List Ce} {i : Nat} (h : i < l.length) (h3 : l[i].2 = true) : l.any (fun c => c.2) = true := List.any_eq_true.2 ⟨l[i], List.getElem_mem h, h3⟩
theorem rd_no {s : St} {a n : Int} (h : redE s a n ≠ 0) : rdE s a n = redE s a n ∧ rdB s a n = [] := by
  have e : rdE s a n = redE s a n := by
    unfold redE at h ⊢
    unfold rdE
    by_cases h1 : inn s.c.length a n = true
    · rw [if_pos h1] at h ⊢
      rw [if_pos h1]
      by_cases h2 : s.dead = true
      · rw [if_pos h2, if_pos h2]
      · rw [if_neg h2] at h; exact absurd rfl h
    · rw [if_neg h1, if_neg h1]
  exact ⟨e, by unfold rdB; rw [if_neg (by rw [e]; exact h)]⟩
/-- What is answered, of what lies there. -/
def ndE (l : List Ce) : Int := if l.any (fun c => c.2) = true then 8 else 0
def ndB (l : List Ce) : List UInt8 := if l.any (fun c => c.2) = true then [] else l.map (fun c => c.1)
theorem rd_yes {s : St} {a n : Int} (h : redE s a n = 0) : 0 ≤ a ∧ 0 ≤ n ∧ a.toNat + n.toNat ≤ s.c.length ∧ s.dead = false ∧ (rdL s a n).length = n.toNat ∧ rdE s a n = ndE (rdL s a n) ∧ rdB s a n = ndB (rdL s a n) := by
  unfold redE at h
  unfold rdB rdE ndE ndB
  by_cases h1 : inn s.c.length a n = true
  · rw [if_pos h1] at h
    rw [if_pos h1]
    cases h2 : s.dead with
    | true => rw [h2] at h; simp at h
    | false =>
      have := inn_iff.1 h1
      refine ⟨this.1, this.2.1, by omega, rfl, by simp [rdL]; omega, by simp, ?_⟩
      cases hx : (rdL s a n).any (fun c => c.2) <;> simp
  · rw [if_neg h1] at h; simp at h
/-- What Read leaves. -/
def RdA (s : St) (a n : Int) (w : World) (e : Ending) (w' : World) : Prop :=
  ∃ v, e = .returned (.tuple #[v, .int .i64 (rdE s a n)]) ∧ Bytes w' v (rdB s a n) ∧ Below w.heap.size w w'
set_option maxHeartbeats 4000000 in
set_option maxRecDepth 100000 in
theorem readS {p g cap : Nat} {s : St} {w : World} (h : PSt p g cap s w) (a n : Int) (ha : a ≤ 9223372036854775807) :
    Calls Try.prog 17 #[.pointer (some ⟨p, 0, none⟩), .int .i64 a, .int .i64 n] w (RdA s a n w) := by
  have H := Lib.hid (readyS h a n ha)
  by_cases hr : redE s a n = 0
  · obtain ⟨h0, h1, h2, h3, h4, h5, h6⟩ := rd_yes hr
    obtain ⟨k, rfl⟩ := Int.eq_ofNat_of_zero_le h0
    obtain ⟨m, rfl⟩ := Int.eq_ofNat_of_zero_le h1
    simp only [Int.toNat_natCast] at h2 h4
    obtain ⟨q, hq⟩ : ∃ q, q = k + m := ⟨_, rfl⟩
    obtain ⟨A, c', hcut, hA⟩ := cut_c2 g s.c.length cap k m q hq (by omega) h.cap
    obtain ⟨w1, hmk, hown, hb1⟩ := make_zeros m w (by have := h.few; omega)
    have h' := h.later hb1
    obtain ⟨c0, c1, c2, c3, c4⟩ := h'.cells
    rw [hr] at H
    obtain ⟨L, hL⟩ : ∃ L, L = rdL s k m := ⟨_, rfl⟩
    have hat : ∀ i (hi : i < L.length), s.c[k + i]? = some L[i] := fun i hi => by
      subst hL
      have h7 : i < (s.c.drop k).length ∧ i < m := by simp only [rdL, Int.toNat_natCast, List.length_take, List.length_drop] at hi; simp; omega
      have e2 : (rdL s k m)[i]? = s.c[k + i]? := by simp only [rdL, Int.toNat_natCast, List.getElem?_take, List.getElem?_drop]; rw [if_pos h7.2]
      rw [← e2, List.getElem?_eq_getElem hi]
    unfold RdA
    rw [h5, h6]
    rw [← hL] at h4 ⊢
    have HP : Hid (PSt p g cap s w) := h
    have HAT := Lib.hid hat
    have HA : Hid (k < cap → A = some ⟨g, k * 2, none⟩) := hA
    have HL : Hid (L.length = m ∧ k + m ≤ s.c.length ∧ s.c.length ≤ cap ∧ s.c.length ≤ 4096) := ⟨h4, h2, h.cap, h.few⟩
    obtain ⟨N, hN⟩ : ∃ N, N = s.c.length := ⟨_, rfl⟩
    rw [← hN] at c0 hcut
    have e1 : wrap64 ((k : Int) + m) = (q : Int) := by rw [IntWalk.wrap64_in _ ⟨by omega, by have := h.few; omega⟩]; omega
    have HB1 := Lib.hid hb1
    have HO : Hid (OwnB w1 w.heap.size (.slice (some ⟨w.heap.size, 0, none⟩) m m) (rdP L 0)) := by
      show OwnB _ _ _ _
      rw [rdP_zero, h4]; exact hown
    have g9 : (m : Int) ≤ 4096 := by have := h.few; omega
    clear h h' hr h0 h1 h2 h3 h4 h5 h6 hA hat hb1 hown hL hN hq ha c1 c2 c3 c4
    go_enter Try.func17, Try.ntmps17
    go_wp2_with fail
    refine H.out.mono ?_
    rintro e w2 ⟨rfl, rfl⟩
    go_wp2_with fail
    clear c0 hcut e1 hmk H
    go_loopw [31] (fun x wr => ∃ (i : Nat), i ≤ m ∧ x = .int .i64 i ∧ Hid (Below w.heap.size w wr) ∧ Hid (OwnB wr w.heap.size (.slice (some ⟨w.heap.size, 0, none⟩) m m) (rdP L i)) ∧ Hid ((L.take i).any (fun c => c.2) = false)) (fun x _ => m - (intOf x).toNat)
    case atStart => exact ⟨0, Nat.zero_le _, rfl, HB1.out, HO.out, rfl⟩
    case round =>
      obtain ⟨i, hi, rfl, HB, HO, HN⟩ := hrel
      rcases Nat.lt_or_ge i m with hlt | hge
      · have g1 : (i : Int) < m := by omega
        have hiL : i < L.length := by have := HL.out; omega
        have hA := HA.out (by have := HL.out; omega)
        subst hA
        have hS := HP.out.later HB.out
        obtain ⟨d0, d1, hfg⟩ := hS.at (HAT.out i hiL)
        rw [show (k + i) * 2 = k * 2 + i * 2 by omega] at d0 d1
        obtain ⟨x, hx⟩ : ∃ x, x = L[i] := ⟨_, rfl⟩
        rw [← hx] at d0 d1
        obtain ⟨u, hu⟩ : ∃ u, u = x.2 := ⟨_, rfl⟩
        rw [← hu] at d1
        have HXO : Hid (i < L.length ∧ L[i]? = some x) := ⟨hiL, by rw [List.getElem?_eq_getElem hiL, hx]⟩
        have HU := Lib.hid hu
        clear hiL hx hu hS
        cases u
        · obtain ⟨O, hO⟩ : ∃ O, O = (Obj.cells #[.int .u8 (x.1.toNat : Int), .bool false] 51) := ⟨_, rfl⟩
          have ho : OwnB (wr.alloc O) w.heap.size (.slice (some ⟨w.heap.size, 0, none⟩) (rdP L i).length m) (rdP L i) := by rw [rdP_length (by have := HL.out; omega), HL.out.1]; exact OwnB.alloc HO.out O
          have hl : (rdP L i).length = m := by rw [rdP_length (by have := HL.out; omega), HL.out.1]
          have hfo : (wr.alloc O).frozen? ⟨w.heap.size, i, none⟩ = false := World.ownsRow.frozenAt ho i
          have hco : ∃ y, (wr.alloc O).cell? ⟨w.heap.size, i, none⟩ = some y := by
            refine ⟨.int .u8 ((rdP L i)[i]'(by omega)).toNat, ?_⟩
            rw [World.ownsRow.cellAt ho i (by omega)]
            simp [bv, List.getElem?_eq_getElem (show i < (rdP L i).length by omega)]
          obtain ⟨y, hco⟩ := hco
          have ho2 := OwnB.put ho i x.1
          rw [hl] at ho2
          have HO2 : Hid (OwnB ((wr.alloc O).setCell ⟨w.heap.size, i, none⟩ (.int .u8 (x.1.toNat : Int))) w.heap.size (.slice (some ⟨w.heap.size, 0, none⟩) m m) (rdP L (i + 1))) := by
            have hxo := HXO.out
            have e : L[i] = x := by have := hxo.2; rw [List.getElem?_eq_getElem hxo.1] at this; exact Option.some.inj this
            rw [← rdP_set hxo.1, e]; exact ho2
          have HN2 : Hid ((L.take (i + 1)).any (fun c => c.2) = false) := by
            have hxo := HXO.out
            have e : L[i] = x := by have := hxo.2; rw [List.getElem?_eq_getElem hxo.1] at this; exact Option.some.inj this
            exact any_step hxo.1 HN.out (by rw [e]; exact HU.out.symm)
          have HB2 : Hid (Below w.heap.size w ((wr.alloc O).setCell ⟨w.heap.size, i, none⟩ (.int .u8 (x.1.toNat : Int)))) := (HB.out.alloc HB.out.size O).setCell (p := ⟨w.heap.size, i, none⟩) (Nat.le_refl _) _
          subst hO
          clear ho ho2 hl
          go_wp2_with fail
          go_roundw
          case rel => exact ⟨i + 1, by omega, by go_num, HB2, HO2, HN2⟩
          case measure => simp [intOf]; omega
        · have hh : L.any (fun c => c.2) = true := by
            have hxo := HXO.out
            have e : L[i] = x := by have := hxo.2; rw [List.getElem?_eq_getElem hxo.1] at this; exact Option.some.inj this
            exact any_hit hxo.1 (by rw [e]; exact HU.out.symm)
          have HH := Lib.hid hh
          obtain ⟨O, hO⟩ : ∃ O, O = (Obj.cells #[.int .u8 (x.1.toNat : Int), .bool true] 51) := ⟨_, rfl⟩
          have HB2 : Hid (Below w.heap.size w (wr.alloc O)) := HB.out.alloc HB.out.size O
          subst hO
          clear hh
          go_wp2_with fail
          go_ret2
          exact ⟨_, by unfold ndE; rw [if_pos HH.out]; rfl, by unfold ndB; rw [if_pos HH.out]; exact Bytes.nil _ _ _, HB2.out⟩
      · have e : i = m := by omega
        subst e
        have hn : ¬ L.any (fun c => c.2) = true := by
          have := HN.out
          rw [← HL.out.1, List.take_length] at this
          rw [this]; simp
        have HH := Lib.hid hn
        have g1 : ¬ (i : Int) < i := by omega
        clear hn
        go_wp2_with fail
        go_ret2
        refine ⟨_, by unfold ndE; rw [if_neg HH.out]; rfl, ?_, HB.out⟩
        unfold ndB
        rw [if_neg HH.out]
        have h := OwnB.bytes HO.out
        rw [← HL.out.1, rdP_full] at h
        rw [← HL.out.1]
        exact h
  · obtain ⟨h1, h2⟩ := rd_no hr
    unfold RdA
    rw [h1, h2]
    obtain ⟨x, hx⟩ : ∃ x, x = redE s a n := ⟨_, rfl⟩
    rw [← hx] at H hr ⊢
    have hx2 : (x != 0) = true := by simpa using hr
    clear hr h1 h2 hx ha h
    go_enter Try.func17, Try.ntmps17
    go_wp2_with fail
    refine H.out.mono ?_
    rintro e w1 ⟨rfl, rfl⟩
    go_wp2_with fail
    go_ret2
    exact ⟨_, rfl, Bytes.nil _ _ _, Below.refl _ _⟩
end Go.Proofs.Ytfoojjmokdbpcaa

namespace Go.Proofs.Ytfoojjmokdbpcaa
open Go.RowKit
attribute [local go_sem ↓] Go.wp_at_zero Go.wp_at_succ

theorem RSt.put {q b u cb cu : Nat} {s : St} {w : World} (h : RSt q b u cb cu s w) (k : Nat) (c : Ce) (hk : k < s.c.length) :
    RSt q b u cb cu { s with c := s.c.set k c } ((w.setCell ⟨b, k, none⟩ (.int .u8 (c.1.toNat : Int))).setCell ⟨u, k, none⟩ (.bool c.2)) ∧ Chg [b, u] w ((w.setCell ⟨b, k, none⟩ (.int .u8 (c.1.toNat : Int))).setCell ⟨u, k, none⟩ (.bool c.2)) := by
  have hc1 : Chg [b] w (w.setCell ⟨b, k, none⟩ (.int .u8 (c.1.toNat : Int))) := (Chg.refl _ _).set (by simp) _ _
  have hc2 : Chg [u] (w.setCell ⟨b, k, none⟩ (.int .u8 (c.1.toNat : Int))) ((w.setCell ⟨b, k, none⟩ (.int .u8 (c.1.toNat : Int))).setCell ⟨u, k, none⟩ (.bool c.2)) := (Chg.refl _ _).set (by simp) _ _
  have hc : Chg [b, u] w _ := (hc1.mono (l' := [b, u]) (by simp)).trans (hc2.mono (l' := [b, u]) (by simp))
  have h1 := (World.ownsRow.stored h.row k (.int .u8 (c.1.toNat : Int))).1
  rw [bv_put] at h1
  have h2 := hc2.owns h1 (fun j hj => by simp [Value.ownBlock] at hj; have := h.n3; simp; omega)
  have h3 := hc1.owns h.flg (fun j hj => by simp [Value.ownBlock] at hj; have := h.n3; simp; omega)
  have h4 := (World.ownsRow.stored h3 k (.bool c.2)).1
  refine ⟨⟨?_, ?_, ?_, h.n1, h.n2, h.n3, ?_, ?_, ?_, ?_, h.fu⟩, hc⟩
  · have := hc.blk h.blk (by have := h.n1; have := h.n2; simp; omega)
    unfold rcs at this ⊢
    simp only [List.length_set]
    exact this
  · simp only [List.length_set, List.map_set]; exact h2
  · simp only [List.length_set]
    rw [show fv (s.c.set k c) = (fv s.c).set k (.bool c.2) by unfold fv; rw [List.map_set]]
    exact h4
  · have := h.pos; simp only [List.length_set]; omega
  · have := h.few; simp only [List.length_set]; omega
  · have := h.cb; simp only [List.length_set]; omega
  · have := h.cu; simp only [List.length_set]; omega
theorem RSt.die {q b u cb cu : Nat} {s : St} {w : World} (h : RSt q b u cb cu s w) : RSt q b u cb cu { s with dead := true } (w.setCell ⟨q, 5, none⟩ (.bool true)) ∧ Chg [q] w (w.setCell ⟨q, 5, none⟩ (.bool true)) := by
  have hc : Chg [q] w (w.setCell ⟨q, 5, none⟩ (.bool true)) := (Chg.refl _ _).set (by simp) _ _
  exact ⟨⟨h.blk.set 5 _, hc.owns h.row (fun k hk => by simp [Value.ownBlock] at hk; have := h.n1; simp; omega), hc.owns h.flg (fun k hk => by simp [Value.ownBlock] at hk; have := h.n2; simp; omega), h.n1, h.n2, h.n3, h.pos, h.few, h.cb, h.cu, h.fu⟩, hc⟩
theorem RSt.burn {q b u cb cu : Nat} {s : St} {w : World} (h : RSt q b u cb cu s w) (f : Int) (hf : f ≤ 9223372036854775807) : RSt q b u cb cu { s with fuse := f } (w.setCell ⟨q, 2, none⟩ (.int .i64 f)) ∧ Chg [q] w (w.setCell ⟨q, 2, none⟩ (.int .i64 f)) := by
  have hc : Chg [q] w (w.setCell ⟨q, 2, none⟩ (.int .i64 f)) := (Chg.refl _ _).set (by simp) _ _
  exact ⟨⟨h.blk.set 2 _, hc.owns h.row (fun k hk => by simp [Value.ownBlock] at hk; have := h.n1; simp; omega), hc.owns h.flg (fun k hk => by simp [Value.ownBlock] at hk; have := h.n2; simp; omega), h.n1, h.n2, h.n3, h.pos, h.few, h.cb, h.cu, hf⟩, hc⟩
theorem RSt.drew {q b u cb cu : Nat} {s : St} {w : World} (h : RSt q b u cb cu s w) : RSt q b u cb cu s w.drew := ⟨h.blk, h.row, h.flg, h.n1, h.n2, h.n3, h.pos, h.few, h.cb, h.cu, h.fu⟩
theorem RSt.put2 {q b u cb cu : Nat} {s : St} {w : World} (h : RSt q b u cb cu s w) (k : Nat) (c : Ce) (hk : k < s.c.length) :
    RSt q b u cb cu { s with c := s.c.set k c } ((w.setCell ⟨b, k, none⟩ (.int .u8 (c.1.toNat : Int))).drew.setCell ⟨u, k, none⟩ (.bool c.2)) ∧ Chg [b, u] w ((w.setCell ⟨b, k, none⟩ (.int .u8 (c.1.toNat : Int))).drew.setCell ⟨u, k, none⟩ (.bool c.2)) := by
  obtain ⟨h1, h2⟩ := h.put k c hk
  exact ⟨h1.drew, h2.drew⟩
theorem Bytes.cellAt {w : World} {bl bo n c : Nat} {l : List UInt8} (h : Bytes w (.slice (some ⟨bl, bo, none⟩) n c) l) {i : Nat} (hi : i < l.length) : w.cell? ⟨bl, bo + i, none⟩ = some (.int .u8 (l[i].toNat : Int)) := by
  obtain ⟨b', o', e, _, h2⟩ := h.at hi
  simp only [Option.some.injEq, Addr.mk.injEq, and_true] at e
  obtain ⟨rfl, rfl⟩ := e
  exact h2
theorem RSt.put3 {q b u cb cu : Nat} {s : St} {w : World} (h : RSt q b u cb cu s w) (k : Nat) (c : Ce) (hk : k < s.c.length) :
    RSt q b u cb cu { s with c := s.c.set k c } ((w.setCell ⟨b, k, none⟩ (.int .u8 (c.1.toNat : Int))).setCell ⟨u, k, none⟩ (.bool c.2)) ∧ Chg [q, b, u] w ((w.setCell ⟨b, k, none⟩ (.int .u8 (c.1.toNat : Int))).setCell ⟨u, k, none⟩ (.bool c.2)) := by
  obtain ⟨h1, h2⟩ := h.put k c hk
  exact ⟨h1, h2.mono (by simp)⟩
/-- Between both stores. -/
theorem RSt.half {q b u cb cu : Nat} {s : St} {w : World} (h : RSt q b u cb cu s w) (k : Nat) (x : Value) {y : Value} (hy : w.cell? ⟨u, k, none⟩ = some y) :
    ((w.setCell ⟨b, k, none⟩ x).cell? ⟨q, 1, none⟩ = some (.slice (some ⟨u, 0, none⟩) s.c.length cu) ∧ (w.setCell ⟨b, k, none⟩ x).cell? ⟨q, 4, none⟩ = some (.bool s.torn)) ∧ (w.setCell ⟨b, k, none⟩ x).cell? ⟨u, k, none⟩ = some y ∧ (w.setCell ⟨b, k, none⟩ x).frozen? ⟨u, k, none⟩ = false := by
  have hc : Chg [b] w (w.setCell ⟨b, k, none⟩ x) := (Chg.refl _ _).set (by simp) _ _
  have hb := hc.blk h.blk (by have := h.n1; simp; omega)
  have hu := hc.rest u h.lt.2.2 (by have := h.n3; simp; omega)
  refine ⟨⟨hb.cell (j := 1) rfl, hb.cell (j := 4) rfl⟩, ?_, ?_⟩
  · rw [World.cell?_of_block (a := ⟨u, k, none⟩) hu]; exact hy
  · rw [World.frozen?_of_block (a := ⟨u, k, none⟩) hu]; exact h.flg.frozenAt k
/-- What the reference's Write leaves. -/
def WrR (q b u cb cu : Nat) (s : St) (a : Int) (l : List UInt8) (w : World) (e : Ending) (w' : World) : Prop :=
  e = .returned (.int .i64 (wrE s a l)) ∧ RSt q b u cb cu (wrS s a l) w' ∧ Chg [q, b, u] w w'
set_option maxHeartbeats 4000000 in
set_option maxRecDepth 100000 in
theorem writeR {q b u cb cu : Nat} {s : St} {w : World} (h : RSt q b u cb cu s w) (a : Int) (v : Value) (l : List UInt8) (hl : l.length ≤ 9223372036854775807) (hv : ∀ W, Chg [q, b, u] w W → Bytes W v l) :
    Calls Try.prog 21 #[.pointer (some ⟨q, 0, none⟩), .int .i64 a, v] w (WrR q b u cb cu s a l w) := by
  obtain ⟨va, vc, rfl⟩ := (hv w (Chg.refl _ _)).form
  have H := Lib.hid (withinS h a l.length (by omega))
  obtain ⟨c0, c1, c2, c3, c4, c5⟩ := h.cells
  unfold WrR
  by_cases hr : redE s a l.length = 0
  · obtain ⟨h0, h1, h2, h3, h4⟩ := wr_yes hr
    obtain ⟨k, rfl⟩ := Int.eq_ofNat_of_zero_le h0
    simp only [Int.toNat_natCast] at h1 h3 h4
    rw [inn_iff.2 ⟨by omega, by omega, by omega⟩] at H
    rw [h2] at c5
    have HP := Lib.hid h
    have HV := Lib.hid hv
    obtain ⟨R, hR⟩ : ∃ R, R = wgo l k s := ⟨_, rfl⟩
    rw [h3, h4, ← hR]
    have HR := Lib.hid hR.symm
    have HD := Lib.hid h2
    obtain ⟨n, hn⟩ : ∃ n, n = s.c.length := ⟨_, rfl⟩
    have HL : Hid (n = s.c.length ∧ k + l.length ≤ n ∧ n ≤ 4096 ∧ q ≠ b ∧ q ≠ u ∧ b ≠ u) := ⟨hn, by omega, by have := h.few; omega, h.n1, h.n2, h.n3⟩
    have g0 : (k : Int) + l.length ≤ n := by omega
    have g9 : (n : Int) ≤ 4096 := by have := h.few; omega
    clear h hv hr h0 h1 h2 h3 h4 hR hn hl c0 c1 c2 c3 c4
    go_enter Try.func21, Try.ntmps21
    go_wp2_with fail
    refine H.out.mono ?_
    rintro e w1 ⟨rfl, rfl⟩
    go_wp2_with fail
    clear c5 H
    go_loopw [7] (fun x wr => ∃ (i : Nat) (si : St), i ≤ l.length ∧ x = .int .i64 i ∧ Hid (RSt q b u cb cu si wr) ∧ Hid (Chg [q, b, u] w wr) ∧ Hid (si.dead = false) ∧ Hid (si.c.length = n) ∧ Hid (wgo (l.drop i) (k + i) si = R)) (fun x _ => l.length - (intOf x).toNat)
    case atStart => exact ⟨0, s, Nat.zero_le _, rfl, HP.out, Chg.refl _ _, HD.out, HL.out.1.symm, by rw [List.drop_zero, Nat.add_zero]; exact HR.out⟩
    case round =>
      obtain ⟨i, si, hi, rfl, HP, HC, HD, HN, HW⟩ := hrel
      rcases Nat.lt_or_ge i l.length with hlt | hge
      · have g1 : (i : Int) < l.length := by omega
        have hw := HW.out
        rw [wgo_at hlt] at hw
        obtain ⟨bl, bo, hva, hbl, hcell⟩ := (show Bytes wr (.slice va l.length vc) l from HV.out _ HC.out).at hlt
        subst hva
        have hki : k + i < si.c.length := by have := HL.out; have := HN.out; omega
        obtain ⟨d0, hfb⟩ := HP.out.atB (List.getElem?_eq_getElem hki)
        obtain ⟨d1, hfu⟩ := HP.out.atU (List.getElem?_eq_getElem hki)
        obtain ⟨c0, c1, c2, c3, c4, c5⟩ := HP.out.cells
        have hfq : ∀ j, wr.frozen? ⟨q, j, none⟩ = false := fun j => HP.out.blk.frozen j
        have e1 : wrap64 ((k : Int) + i) = ((k + i : Nat) : Int) := by rw [IntWalk.wrap64_in _ ⟨by omega, by omega⟩]; omega
        have e2 : IntKind.i64.wrap ((k : Int) + i) = ((k + i : Nat) : Int) := by rw [IntWalk.i64_in _ ⟨by omega, by omega⟩]; omega
        obtain ⟨y, hy⟩ : ∃ y, y = si.c[k + i] := ⟨_, rfl⟩
        rw [← hy] at d0 d1
        have HY0 : Hid (si.c[k + i]? = some y) := by show _ = _; rw [List.getElem?_eq_getElem hki, hy]
        clear hy
        obtain ⟨r, hr⟩ : ∃ r, r = k + i := ⟨_, rfl⟩
        have HY : Hid (si.c[r]? = some y) := by rw [hr]; exact HY0.out
        rw [← hr] at e1 e2 d0 d1 hw
        have hrn : r < n := by have := HN.out; omega
        have g2 : (r : Int) < n := by omega
        obtain ⟨x, hx⟩ : ∃ x, x = l[i] := ⟨_, rfl⟩
        rw [← hx] at hcell hw
        rw [HN.out] at c0 c1
        have HXX := Lib.hid hx
        have HKI := Lib.hid hki
        have HRR := Lib.hid hr
        have HWW := Lib.hid hw
        have HNE := Lib.hid (And.intro HP.out.n1 (And.intro HP.out.n2 HP.out.n3))
        clear hki hr hw hx
        by_cases hf : si.fuse = 0
        · have k1 : (si.fuse == 0) = true := by simp [hf]
          have HF := Lib.hid hf
          clear hf
          go_wp2_with fail
          go_still_tail 12, (by kernel_rfl)
          change wpList _ _ _ _ _ wr.drew
          obtain ⟨w2, hw2⟩ : ∃ w2, w2 = wr.drew := ⟨_, rfl⟩
          rw [← hw2]
          have HP2 : Hid (RSt q b u cb cu si w2) := by rw [hw2]; exact HP.out.drew
          have HC2 : Hid (Chg [q, b, u] w w2) := by rw [hw2]; exact HC.out.drew
          have d0 : w2.cell? ⟨b, r, none⟩ = some (.int .u8 (y.1.toNat : Int)) := by rw [hw2]; exact d0
          have d1 : w2.cell? ⟨u, r, none⟩ = some (.bool y.2) := by rw [hw2]; exact d1
          have hfb : ∀ i, w2.frozen? ⟨b, i, none⟩ = false := by rw [hw2]; exact hfb
          obtain ⟨⟨z1, z4⟩, z5, z6⟩ := HP2.out.half r (.int .u8 (si.by_.toNat : Int)) d1
          rw [HN.out] at z1
          obtain ⟨p1, p2⟩ := HP2.out.put2 r (si.by_, si.torn) (by have := HN.out; omega)
          obtain ⟨p3, p4⟩ := p1.die
          have p5 : Chg [q, b, u] w2 _ := (p2.mono (l' := [q, b, u]) (by simp)).trans (p4.mono (by simp))
          have p6 := HC2.out.trans p5
          have hw := HWW.out
          rw [if_pos HF.out] at hw
          have p7 : RSt q b u cb cu (si.tear r) _ := p3
          rw [hw] at p7
          have HDD := HD.out
          obtain ⟨w3, hw3⟩ : ∃ w3, w3 = w2.setCell ⟨b, r, none⟩ (.int .u8 (si.by_.toNat : Int)) := ⟨_, rfl⟩
          simp only [← hw3] at z1 z4 z5 z6 p1 p6 p7
          obtain ⟨w5, hw5⟩ : ∃ w5, w5 = w3.drew := ⟨_, rfl⟩
          simp only [← hw5] at p1 p6 p7
          obtain ⟨w4, hw4⟩ : ∃ w4, w4 = w5.setCell ⟨u, r, none⟩ (.bool si.torn) := ⟨_, rfl⟩
          simp only [← hw4] at p1 p6 p7
          have HW3 := Lib.hid hw3
          have HW4 := Lib.hid hw4
          have HW5 := Lib.hid hw5
          have HZ := Lib.hid p7
          have HZC := Lib.hid p6
          have hfr : ∀ j, w5.frozen? ⟨q, j, none⟩ = false := fun j => by have := p1.blk.frozen (j := j); rw [hw4, World.frozen?_setCell] at this; exact this
          have x7 := p1.cells.2.2.2.2.2
          simp only at x7
          rw [hw4] at x7
          have x5 : w5.cell? ⟨u, r, none⟩ = some (.bool y.2) := by rw [hw5]; exact z5
          have x6 : w5.frozen? ⟨u, r, none⟩ = false := by rw [hw5]; exact z6
          have hre : (R.dead = true) := by rw [← hw]; rfl
          have HRE := Lib.hid hre
          clear hw2 hw3 hw4 hw5 hw hre p1 p2 p3 p4 p5 p6 p7 HDD c0 c1 c2 c3 c4 c5 hcell hfu hfq
          go_wp2_with fail
          rw [← HW3.out]
          go_still_tail 12, (by kernel_rfl)
          change wpList _ _ _ _ _ w3.drew
          rw [← HW5.out]
          go_wp2_with fail
          go_ret
          rw [← HW4.out]
          exact ⟨by unfold pe; rw [if_pos HRE.out]; rfl, HZ.out, HZC.out⟩
        · have k1 : (si.fuse == 0) = false := by simp [hf]
          have HF := Lib.hid hf
          by_cases hp : 0 < si.fuse
          · clear hf
            have k2 : decide (0 < si.fuse) = true := by simp [hp]
            have hfu0 := HP.out.fu
            have e3 : wrap64 (si.fuse - 1) = si.fuse - 1 := IntWalk.wrap64_in _ ⟨by omega, by omega⟩
            obtain ⟨p1, p2⟩ := HP.out.burn (si.fuse - 1) (by omega)
            obtain ⟨w1, hw1⟩ : ∃ w1, w1 = wr.setCell ⟨q, 2, none⟩ (.int .i64 (si.fuse - 1)) := ⟨_, rfl⟩
            rw [← hw1] at p1 p2
            have HP1 := Lib.hid p1
            have HC1 := Lib.hid (HC.out.trans (p2.mono (l' := [q, b, u]) (by simp)))
            have HW1 := Lib.hid hw1
            have es : si.step r x = { si with c := si.c.set r (x, false), fuse := si.fuse - 1 } := by unfold St.step; rw [if_pos hp]
            have HES := Lib.hid es
            clear hw1 es p1 p2 hfu0 hp
            go_wp2_with fail
            rw [← HW1.out]
            obtain ⟨w2, hw2⟩ : ∃ w2, w2 = w1.drew := ⟨_, rfl⟩
            have HP2 : Hid (RSt q b u cb cu { si with fuse := si.fuse - 1 } w2) := by rw [hw2]; exact HP1.out.drew
            have HC2 : Hid (Chg [q, b, u] w w2) := by rw [hw2]; exact HC1.out.drew
            obtain ⟨c0, c1, c2, c3, c4, c5⟩ := HP1.out.cells
            have hcell := (HV.out _ HC1.out).cellAt (show i < l.length by omega)
            rw [← HXX.out] at hcell
            (try simp only at c0 c1)
            rw [HN.out] at c0 c1
            obtain ⟨d0, hfb⟩ := HP2.out.atB HY.out
            obtain ⟨d1, hfu⟩ := HP2.out.atU HY.out
            obtain ⟨⟨z1, z4⟩, z5, z6⟩ := HP2.out.half r (.int .u8 (x.toNat : Int)) d1
            (try simp only at z1 z4)
            rw [HN.out] at z1
            obtain ⟨p3, p4⟩ := HP2.out.put3 r (x, false) (by have := HN.out; (try simp only); omega)
            have p5 := HC2.out.trans p4
            have hw := HWW.out
            rw [if_neg HF.out] at hw
            have p6 : RSt q b u cb cu { si with c := si.c.set r (x, false), fuse := si.fuse - 1 } _ := p3
            rw [← HES.out] at p6
            have HZ := Lib.hid p6
            have HZC := Lib.hid p5
            have HZW := Lib.hid hw
            have HW2 := Lib.hid hw2
            clear hw hw2 p3 p4 p5 p6
            go_still_tail 12, (by kernel_rfl)
            change wpList _ _ _ _ _ w1.drew
            rw [← HW2.out]
            go_wp2_with fail
            go_roundw
            case rel => exact ⟨i + 1, si.step r x, by omega, by go_num, HZ, HZC, HD.out, by show _ = _; unfold St.step; simp only [List.length_set]; exact HN.out, by show _ = _; rw [← Nat.add_assoc, ← HRR.out]; exact HZW.out⟩
            case measure => simp [intOf]; omega
          · clear hf
            have k2 : decide (0 < si.fuse) = false := by simp; omega
            obtain ⟨w1, hw1⟩ : ∃ w1, w1 = wr := ⟨_, rfl⟩
            have HP1 : Hid (RSt q b u cb cu si w1) := by rw [hw1]; exact HP.out
            have HC1 : Hid (Chg [q, b, u] w w1) := by rw [hw1]; exact HC.out
            have HW1 := Lib.hid hw1
            have es : si.step r x = { si with c := si.c.set r (x, false) } := by unfold St.step; rw [if_neg hp]
            have HES := Lib.hid es
            clear hw1 es hp
            go_wp2_with fail
            rw [← HW1.out]
            obtain ⟨w2, hw2⟩ : ∃ w2, w2 = w1.drew := ⟨_, rfl⟩
            have HP2 : Hid (RSt q b u cb cu si w2) := by rw [hw2]; exact HP1.out.drew
            have HC2 : Hid (Chg [q, b, u] w w2) := by rw [hw2]; exact HC1.out.drew
            obtain ⟨c0, c1, c2, c3, c4, c5⟩ := HP1.out.cells
            have hcell := (HV.out _ HC1.out).cellAt (show i < l.length by omega)
            rw [← HXX.out] at hcell
            (try simp only at c0 c1)
            rw [HN.out] at c0 c1
            obtain ⟨d0, hfb⟩ := HP2.out.atB HY.out
            obtain ⟨d1, hfu⟩ := HP2.out.atU HY.out
            obtain ⟨⟨z1, z4⟩, z5, z6⟩ := HP2.out.half r (.int .u8 (x.toNat : Int)) d1
            (try simp only at z1 z4)
            rw [HN.out] at z1
            obtain ⟨p3, p4⟩ := HP2.out.put3 r (x, false) (by have := HN.out; (try simp only); omega)
            have p5 := HC2.out.trans p4
            have hw := HWW.out
            rw [if_neg HF.out] at hw
            have p6 : RSt q b u cb cu { si with c := si.c.set r (x, false) } _ := p3
            rw [← HES.out] at p6
            have HZ := Lib.hid p6
            have HZC := Lib.hid p5
            have HZW := Lib.hid hw
            have HW2 := Lib.hid hw2
            clear hw hw2 p3 p4 p5 p6
            go_still_tail 12, (by kernel_rfl)
            change wpList _ _ _ _ _ w1.drew
            rw [← HW2.out]
            go_wp2_with fail
            go_roundw
            case rel => exact ⟨i + 1, si.step r x, by omega, by go_num, HZ, HZC, HD.out, by show _ = _; unfold St.step; simp only [List.length_set]; exact HN.out, by show _ = _; rw [← Nat.add_assoc, ← HRR.out]; exact HZW.out⟩
            case measure => simp [intOf]; omega
      · have e : i = l.length := by omega
        have hw := HW.out
        rw [List.drop_eq_nil_of_le hge] at hw
        have hw2 : si = R := hw
        subst hw2
        subst e
        have HRE : Hid (pe si = 0) := by show _ = _; unfold pe; rw [if_neg (by rw [HD.out]; simp)]
        have g1 : ¬ (l.length : Int) < l.length := by omega
        clear hw
        go_wp2_with fail
        go_ret
        exact ⟨by rw [HRE.out]; rfl, HP.out, HC.out⟩
  · have hr2 := wr_no hr
    rw [hr2.1, hr2.2]
    have HP := Lib.hid h
    unfold redE at hr ⊢
    by_cases h1 : inn s.c.length a l.length = true
    · rw [if_pos h1] at hr ⊢
      rw [h1] at H
      cases hd : s.dead with
      | false => rw [hd] at hr; simp at hr
      | true =>
        rw [hd] at c5
        rw [if_pos rfl]
        clear hr hr2 hv h hd h1 hl
        go_enter Try.func21, Try.ntmps21
        go_wp2_with fail
        refine H.out.mono ?_
        rintro e w1 ⟨rfl, rfl⟩
        go_wp2_with fail
        go_ret
        exact ⟨rfl, HP.out, Chg.refl _ _⟩
    · rw [if_neg h1]
      rw [Bool.eq_false_iff.2 h1] at H
      clear hr hr2 hv h h1 hl
      go_enter Try.func21, Try.ntmps21
      go_wp2_with fail
      refine H.out.mono ?_
      rintro e w1 ⟨rfl, rfl⟩
      go_wp2_with fail
      go_ret
      exact ⟨rfl, HP.out, Chg.refl _ _⟩
end Go.Proofs.Ytfoojjmokdbpcaa

namespace Go.Proofs.Ytfoojjmokdbpcaa
open Go.RowKit
attribute [local go_sem ↓] Go.wp_at_zero Go.wp_at_succ

theorem cut_b2 (g n c k m q : Nat) (hq : q = k + m) (h1 : q ≤ n) (h2 : n ≤ c) : ∃ A c', (∀ w, (Instr.slice 30 (.slice (some ⟨g, 0, none⟩) n c) (some (.int .i64 (k : Int))) (some (.int .i64 (q : Int))) none).run Try.prog w = .ok (.slice A m c') w) ∧ A ≠ none ∧ m ≤ c' ∧ (0 < m → A = some ⟨g, k, none⟩) := by
  by_cases h : k = c
  · refine ⟨some ⟨g, 0, none⟩, c - k, fun w => ?_, by simp, by omega, fun h2 => by omega⟩
    rw [run_slice_lh w _ _ _ _ cells1 _ _ _ _ (by omega) (by omega) (by omega), size1]
    show Result.ok (Go.sliced _ _ _ _ 1) w = _
    unfold Go.sliced
    rw [if_pos (by simp; omega)]
    simp; omega
  · refine ⟨some ⟨g, k, none⟩, c - k, fun w => ?_, by simp, by omega, fun _ => rfl⟩
    rw [run_slice_lh w _ _ _ _ cells1 _ _ _ _ (by omega) (by omega) (by omega), size1]
    show Result.ok (Go.sliced _ _ _ _ 1) w = _
    unfold Go.sliced
    rw [if_neg (by simp; omega)]
    simp [add0]; omega
/-- What the reference's Read leaves. -/
def RdR (s : St) (a n : Int) (w : World) (e : Ending) (w' : World) : Prop :=
  ∃ v, e = .returned (.tuple #[v, .int .i64 (rdE s a n)]) ∧ Bytes w' v (rdB s a n) ∧ Below w.heap.size w w'
set_option maxHeartbeats 4000000 in
set_option maxRecDepth 100000 in
theorem readR {q b u cb cu : Nat} {s : St} {w : World} (h : RSt q b u cb cu s w) (a n : Int) (hn : -9223372036854775808 ≤ n) :
    Calls Try.prog 24 #[.pointer (some ⟨q, 0, none⟩), .int .i64 a, .int .i64 n] w (RdR s a n w) := by
  have H := Lib.hid (withinS h a n hn)
  obtain ⟨c0, c1, c2, c3, c4, c5⟩ := h.cells
  unfold RdR
  by_cases hr : redE s a n = 0
  · obtain ⟨h0, h1, h2, h3, h4, h5, h6⟩ := rd_yes hr
    obtain ⟨k, rfl⟩ := Int.eq_ofNat_of_zero_le h0
    obtain ⟨m, rfl⟩ := Int.eq_ofNat_of_zero_le h1
    simp only [Int.toNat_natCast] at h2 h4
    rw [inn_iff.2 ⟨by omega, by omega, by omega⟩] at H
    rw [h3] at c5
    obtain ⟨z, hz⟩ : ∃ q, q = k + m := ⟨_, rfl⟩
    obtain ⟨A, c', hcut, hA0, hA1, hA2⟩ := cut_b2 b s.c.length cb k m z hz (by omega) h.cb
    obtain ⟨L, hL⟩ : ∃ L, L = rdL s k m := ⟨_, rfl⟩
    have hat : ∀ i (hi : i < L.length), s.c[k + i]? = some L[i] := fun i hi => by
      subst hL
      have h7 : i < (s.c.drop k).length ∧ i < m := by simp only [rdL, Int.toNat_natCast, List.length_take, List.length_drop] at hi; simp; omega
      have e2 : (rdL s k m)[i]? = s.c[k + i]? := by simp only [rdL, Int.toNat_natCast, List.getElem?_take, List.getElem?_drop]; rw [if_pos h7.2]
      rw [← e2, List.getElem?_eq_getElem hi]
    rw [h5, h6]
    rw [← hL] at h4 ⊢
    have HP : Hid (RSt q b u cb cu s w) := h
    have HAT := Lib.hid hat
    have HL : Hid (L.length = m ∧ k + m ≤ s.c.length ∧ s.c.length ≤ cb ∧ s.c.length ≤ 4096) := ⟨h4, h2, h.cb, h.few⟩
    have HA : Hid (A ≠ none ∧ m ≤ c' ∧ (0 < m → A = some ⟨b, k, none⟩)) := ⟨hA0, hA1, hA2⟩
    obtain ⟨N, hN⟩ : ∃ N, N = s.c.length := ⟨_, rfl⟩
    rw [← hN] at c0 c1 hcut
    have HN := Lib.hid hN
    have G8 := Lib.hid (show (k : Int) + m ≤ N by omega)
    have g7 : (m : Int) ≤ 4096 := by have := h.few; omega
    have e1 : wrap64 ((k : Int) + m) = (z : Int) := by rw [IntWalk.wrap64_in _ ⟨by omega, by have := h.few; omega⟩]; omega
    have g9 : (N : Int) ≤ 4096 := by have := h.few; omega
    clear h hr h0 h1 h2 h3 h4 h5 h6 hA0 hA1 hA2 hat hL hN hz hn c2 c3 c4
    go_enter Try.func24, Try.ntmps24
    go_wp2_with fail
    refine H.out.mono ?_
    rintro e w2 ⟨rfl, rfl⟩
    go_wp2_with fail
    clear c0 c1 c5 H
    go_loopw [8] (fun x wr => ∃ (i : Nat), i ≤ m ∧ x = .int .i64 i ∧ Hid (Below w.heap.size w wr) ∧ Hid ((L.take i).any (fun c => c.2) = false)) (fun x _ => m - (intOf x).toNat)
    case atStart => exact ⟨0, Nat.zero_le _, rfl, Below.refl _ _, rfl⟩
    case round =>
      obtain ⟨i, hi, rfl, HB, HT⟩ := hrel
      have hS := HP.out.later HB.out
      obtain ⟨c0, c1, c2, c3, c4, c5⟩ := hS.cells
      rw [← HN.out] at c0 c1
      rcases Nat.lt_or_ge i m with hlt | hge
      · have g1 : (i : Int) < m := by omega
        have hiL : i < L.length := by have := HL.out; omega
        obtain ⟨d1, hfu⟩ := hS.atU (HAT.out i hiL)
        have e2 : wrap64 ((k : Int) + i) = ((k + i : Nat) : Int) := by have := G8.out; rw [IntWalk.wrap64_in _ ⟨by omega, by omega⟩]; omega
        obtain ⟨r, hr⟩ : ∃ r, r = k + i := ⟨_, rfl⟩
        rw [← hr] at e2 d1
        have g2 : (r : Int) < N := by have := G8.out; omega
        obtain ⟨x, hx⟩ : ∃ x, x = L[i].2 := ⟨_, rfl⟩
        rw [← hx] at d1
        have HX := Lib.hid hx
        have HIL := Lib.hid hiL
        clear hx hr hS c0 c2 c3 c4 c5
        cases x
        · have HT2 : Hid ((L.take (i + 1)).any (fun c => c.2) = false) := any_step HIL.out HT.out HX.out.symm
          go_wp2_with fail
          go_roundw
          case rel => exact ⟨i + 1, by omega, by go_num, HB, HT2⟩
          case measure => simp [intOf]; omega
        · have HH := Lib.hid (any_hit HIL.out HX.out.symm)
          go_wp2_with fail
          go_ret2
          exact ⟨_, by unfold ndE; rw [if_pos HH.out]; rfl, by unfold ndB; rw [if_pos HH.out]; exact Bytes.nil _ _ _, HB.out⟩
      · have e : i = m := by omega
        subst e
        have hn : ¬ L.any (fun c => c.2) = true := by
          have := HT.out
          rw [← HL.out.1, List.take_length] at this
          rw [this]; simp
        have HH := Lib.hid hn
        have g1 : ¬ (i : Int) < i := by omega
        have HS := Lib.hid hS
        clear hn hS
        go_wp2_with fail
        go_ret2
        refine ⟨_, by unfold ndE; rw [if_neg HH.out]; rfl, ?_, HB.out⟩
        unfold ndB
        rw [if_neg HH.out]
        rcases Nat.eq_zero_or_pos i with h0 | h0
        · subst h0
          have : L = [] := List.length_eq_zero_iff.1 HL.out.1
          subst this
          exact Bytes.nil _ _ _ (fun e => absurd e HA.out.1)
        · have hA := HA.out.2.2 h0
          refine .inr ⟨b, k, c', ?_, HS.out.lt.2.1, ?_, fun j y hj => ?_⟩
          · rw [List.length_map, HL.out.1]; show Value.slice A i c' = _; rw [hA]
          · rw [List.length_map, HL.out.1]; exact HA.out.2.1
          · simp only [List.getElem?_map, Option.map_eq_some_iff] at hj
            obtain ⟨c, hc, rfl⟩ := hj
            have hj2 := (List.getElem?_eq_some_iff.1 hc).1
            have h9 := HAT.out j hj2
            rw [← List.getElem?_eq_getElem hj2, hc] at h9
            exact (HS.out.atB h9).1
  · obtain ⟨h1, h2⟩ := rd_no hr
    rw [h1, h2]
    unfold redE at hr ⊢
    by_cases h3 : inn s.c.length a n = true
    · rw [if_pos h3] at hr ⊢
      rw [h3] at H
      cases hd : s.dead with
      | false => rw [hd] at hr; simp at hr
      | true =>
        rw [hd] at c5
        rw [if_pos rfl]
        clear hr h1 h2 h3 hd h hn
        go_enter Try.func24, Try.ntmps24
        go_wp2_with fail
        refine H.out.mono ?_
        rintro e w1 ⟨rfl, rfl⟩
        go_wp2_with fail
        go_ret2
        exact ⟨_, rfl, Bytes.nil _ _ _, Below.refl _ _⟩
    · rw [if_neg h3]
      rw [Bool.eq_false_iff.2 h3] at H
      clear hr h1 h2 h3 h hn
      go_enter Try.func24, Try.ntmps24
      go_wp2_with fail
      refine H.out.mono ?_
      rintro e w1 ⟨rfl, rfl⟩
      go_wp2_with fail
      go_ret2
      exact ⟨_, rfl, Bytes.nil _ _ _, Below.refl _ _⟩
end Go.Proofs.Ytfoojjmokdbpcaa

namespace Go.Proofs.Ytfoojjmokdbpcaa
open Go.RowKit
attribute [local go_sem ↓] Go.wp_at_zero Go.wp_at_succ

theorem Bytes.chg {w W : World} {bl o n c : Nat} {l : List UInt8} {ls : List Nat} (h : Bytes w (.slice (some ⟨bl, o, none⟩) n c) l) (hc : Chg ls w W) (hn : bl ∉ ls) : Bytes W (.slice (some ⟨bl, o, none⟩) n c) l := by
  rcases h with h | ⟨b', o', c', e, h2, hp, h3⟩
  · exact .inl h
  · simp only [Value.slice.injEq, Option.some.injEq, Addr.mk.injEq, and_true] at e
    obtain ⟨⟨rfl, rfl⟩, rfl, rfl⟩ := e
    exact .inr ⟨bl, o, c, rfl, Nat.lt_of_lt_of_le h2 hc.size, hp, fun j x hx => (World.cell?_of_block (a := ⟨bl, o + j, none⟩) (hc.rest bl h2 hn)).trans (h3 j x hx)⟩
theorem Chg.on {w0 w w' : World} {l : List Nat} (hB : Below w0.heap.size w0 w) (h : Chg l w w') (hl : ∀ b ∈ l, w0.heap.size ≤ b) : Below w0.heap.size w0 w' := hB.trans (h.below hB.size hl)
theorem lit3 (w : World) (x y z : UInt8) : Bytes (w.alloc (.cells #[.int .u8 (x.toNat : Int), .int .u8 (y.toNat : Int), .int .u8 (z.toNat : Int)] 5)) (.slice (some ⟨w.heap.size, 0, none⟩) 3 3) [x, y, z] := bytes_lit w [x, y, z]
theorem k1 : wrE (nw 3) 0 [1, 2, 3] = 0 := by decide +kernel
def ks1 : St := wrS (nw 3) 0 [1, 2, 3]
def ks2 : St := fuS ks1 1 9 false
theorem k2 : wrE ks2 0 [4, 5, 6] = 7 := by decide +kernel
def ks3 : St := wrS ks2 0 [4, 5, 6]
theorem k3 : rdE ks3 0 3 = 7 := by decide +kernel
def ks4 : St := raS ks3
theorem k4 : rdE ks4 0 3 = 0 := by decide +kernel
theorem k5 : rdB ks4 0 3 = [4, 9, 3] := by decide +kernel
set_option maxHeartbeats 4000000 in
set_option maxRecDepth 100000 in
theorem knownL (w : World) : Calls Try.prog 8 #[] w fun e w' => e = .returned (.bool true) ∧ Below w.heap.size w w' := by
  go_enter Try.func8, Try.ntmps8
  go_wp2_with fail
  refine (newW 3 w (by omega) (by omega)).mono ?_
  rintro e w1 ⟨p, g, rfl, hp, hg, hP, hB⟩
  have HG := Lib.hid (And.intro hp hg)
  have HB1 := Lib.hid hB
  have HP1 := Lib.hid hP
  have hlt := hP.lt
  obtain ⟨w2, hw2⟩ : ∃ w2, w2 = w1.alloc (.cells #[.int .u8 1, .int .u8 2, .int .u8 3] 5) := ⟨_, rfl⟩
  have hq : Below w1.heap.size w1 w2 := by rw [hw2]; exact ba1 _ _
  have hby : Bytes w2 (.slice (some ⟨w1.heap.size, 0, none⟩) 3 3) [1, 2, 3] := by rw [hw2]; exact lit3 w1 1 2 3
  have HWR := Lib.hid (writeS (hP.later hq) 0 (by omega) _ _ (fun W hW => hby.chg hW (by simp; omega)))
  have HB2 := Lib.hid (below_of hB hq)
  unfold WrA at HWR
  rw [k1] at HWR
  have HW2 := Lib.hid hw2
  clear hp hg hP hB hlt hq hby hw2
  go_wp2_with fail
  rw [← HW2.out]
  refine HWR.out.mono ?_
  rintro e w3 ⟨rfl, hP3, hC3⟩
  have HB3 := Lib.hid (hC3.on HB2.out (by have := HG.out; simp; omega))
  have HF := Lib.hid (fuseS (show PSt p g 3 ks1 w3 from hP3) 1 9 false (by omega))
  clear hP3 hC3
  go_wp2_with fail
  refine HF.out.mono ?_
  rintro e w4 ⟨⟨v, rfl⟩, hP4, hC4⟩
  have hB4 := hC4.on HB3.out (by have := HG.out; simp; omega)
  have HB4 := Lib.hid hB4
  have HP4 := Lib.hid hP4
  have hlt := hP4.lt
  obtain ⟨w5, hw5⟩ : ∃ w5, w5 = w4.alloc (.cells #[.int .u8 4, .int .u8 5, .int .u8 6] 5) := ⟨_, rfl⟩
  have hq : Below w4.heap.size w4 w5 := by rw [hw5]; exact ba1 _ _
  have hby : Bytes w5 (.slice (some ⟨w4.heap.size, 0, none⟩) 3 3) [4, 5, 6] := by rw [hw5]; exact lit3 w4 4 5 6
  have HWR2 := Lib.hid (writeS (show PSt p g 3 ks2 w5 from hP4.later hq) 0 (by omega) _ _ (fun W hW => hby.chg hW (by simp; omega)))
  have HB5 := Lib.hid (below_of hB4 hq)
  unfold WrA at HWR2
  rw [k2] at HWR2
  have HW5 := Lib.hid hw5
  clear hP4 hC4 hB4 hlt hq hby hw5
  go_wp2_with fail
  rw [← HW5.out]
  refine HWR2.out.mono ?_
  rintro e w6 ⟨rfl, hP6, hC6⟩
  have hB6 := hC6.on HB5.out (by have := HG.out; simp; omega)
  have HB6 := Lib.hid hB6
  have HP6 : Hid (PSt p g 3 ks3 w6) := hP6
  have HRD := Lib.hid (readS (show PSt p g 3 ks3 w6 from hP6) 0 3 (by omega))
  unfold RdA at HRD
  rw [k3] at HRD
  clear hP6 hC6 hB6
  go_wp2_with fail
  refine HRD.out.mono ?_
  rintro e w7 ⟨v7, rfl, _, hb7⟩
  have HB7 := Lib.hid (below_of HB6.out hb7)
  have HRA := Lib.hid (raiseS (HP6.out.later hb7))
  clear hb7
  go_wp2_with fail
  refine HRA.out.mono ?_
  rintro e w8 ⟨⟨v8, rfl⟩, hP8, hC8⟩
  have HB8 := Lib.hid (hC8.on HB7.out (by have := HG.out; simp; omega))
  have HRD2 := Lib.hid (readS (show PSt p g 3 ks4 w8 from hP8) 0 3 (by omega))
  unfold RdA at HRD2
  rw [k4, k5] at HRD2
  clear hP8 hC8
  go_wp2_with fail
  refine HRD2.out.mono ?_
  rintro e w9 ⟨v9, rfl, hby, hb9⟩
  have HB9 := Lib.hid (below_of HB8.out hb9)
  obtain ⟨a9, c9, rfl⟩ := hby.form
  have hs : (convert 30 9 (.slice a9 3 c9)).run Try.prog w9 = .ok (.string ⟨[4, 9, 3].toArray⟩) w9 := hby.str (P := Try.prog) (src := 30) (dst := 9) Try.underlying30 Try.underlying5 Try.underlying9
  clear hby hb9
  go_wp2_with fail
  go_ret
  exact ⟨rfl, HB9.out⟩
end Go.Proofs.Ytfoojjmokdbpcaa

namespace Go.Proofs.Ytfoojjmokdbpcaa
open Go.RowKit
attribute [local go_sem ↓] Go.wp_at_zero Go.wp_at_succ

/-- A store that is not there, or a zero one. -/
def Nn (v : Value) (w : World) : Prop := v = .pointer none ∨ ∃ p, v = .pointer (some ⟨p, 0, none⟩) ∧ BlkAt 53 p [.slice none 0 0, .bool false, .int .i64 0, .int .u8 0, .bool false] w
theorem allN {v : Value} {w : World} (h : Nn v w) : Calls Try.prog 32 #[v] w fun e w' => e = .returned (.slice none 0 0) ∧ w = w' := by
  rcases h with rfl | ⟨p, rfl, hb⟩
  · go_enter Try.func32, Try.ntmps32
    go_wp2_with fail
    go_ret
    exact ⟨rfl, rfl⟩
  · have c0 := BlkAt.cell hb (j := 0) rfl
    clear hb
    go_enter Try.func32, Try.ntmps32
    go_wp2_with fail
    go_ret
    exact ⟨rfl, rfl⟩
theorem ptrN {v : Value} {w : World} (h : Nn v w) : ∃ a, v = .pointer a := by
  rcases h with rfl | ⟨p, rfl, _⟩
  · exact ⟨_, rfl⟩
  · exact ⟨_, rfl⟩
theorem lenN {v : Value} {w : World} (h : Nn v w) : Calls Try.prog 23 #[v] w fun e w' => e = .returned (.int .i64 0) ∧ w = w' := by
  have H := Lib.hid (allN h)
  obtain ⟨a, rfl⟩ := ptrN h
  clear h
  go_enter Try.func23, Try.ntmps23
  go_wp2_with fail
  refine H.out.mono ?_
  rintro e w1 ⟨rfl, rfl⟩
  go_wp2_with fail
  go_ret
  exact ⟨rfl, rfl⟩
theorem noneN {v : Value} {w : World} (h : Nn v w) : Calls Try.prog 29 #[v] w fun e w' => e = .returned (.bool true) ∧ w = w' := by
  have H := Lib.hid (lenN h)
  obtain ⟨a, rfl⟩ := ptrN h
  clear h
  go_enter Try.func29, Try.ntmps29
  go_wp2_with fail
  refine H.out.mono ?_
  rintro e w1 ⟨rfl, rfl⟩
  go_wp2_with fail
  go_ret
  exact ⟨rfl, rfl⟩
theorem lieN {v : Value} {w : World} (h : Nn v w) (a n : Int) : Calls Try.prog 34 #[v, .int .i64 a, .int .i64 n] w fun e w' => e = .returned (.int .i64 1) ∧ w = w' := by
  have H := Lib.hid (noneN h)
  obtain ⟨a, rfl⟩ := ptrN h
  clear h
  go_enter Try.func34, Try.ntmps34
  go_wp2_with fail
  refine H.out.mono ?_
  rintro e w1 ⟨rfl, rfl⟩
  go_wp2_with fail
  go_ret
  exact ⟨rfl, rfl⟩
theorem readyN {v : Value} {w : World} (h : Nn v w) (a n : Int) : Calls Try.prog 27 #[v, .int .i64 a, .int .i64 n] w fun e w' => e = .returned (.int .i64 1) ∧ w = w' := by
  have H := Lib.hid (lieN h a n)
  obtain ⟨a, rfl⟩ := ptrN h
  clear h
  go_enter Try.func27, Try.ntmps27
  go_wp2_with fail
  refine H.out.mono ?_
  rintro e w1 ⟨rfl, rfl⟩
  go_wp2_with fail
  go_ret
  exact ⟨rfl, rfl⟩
theorem fuseN {v : Value} {w : World} (h : Nn v w) : Calls Try.prog 14 #[v, .int .i64 1, .int .u8 2, .bool true] w fun e w' => (∃ v, e = .returned v) ∧ w = w' := by
  have H := Lib.hid (noneN h)
  obtain ⟨a, rfl⟩ := ptrN h
  clear h
  go_enter Try.func14, Try.ntmps14
  go_wp2_with fail
  refine H.out.mono ?_
  rintro e w1 ⟨rfl, rfl⟩
  go_wp2_with fail
  exact bodyPost_ret (results_none rfl _ _ _) rfl ⟨⟨_, rfl⟩, rfl⟩
theorem raiseN {v : Value} {w : World} (h : Nn v w) : Calls Try.prog 16 #[v] w fun e w' => (∃ v, e = .returned v) ∧ w = w' := by
  have H := Lib.hid (noneN h)
  obtain ⟨a, rfl⟩ := ptrN h
  clear h
  go_enter Try.func16, Try.ntmps16
  go_wp2_with fail
  refine H.out.mono ?_
  rintro e w1 ⟨rfl, rfl⟩
  go_wp2_with fail
  exact bodyPost_ret (results_none rfl _ _ _) rfl ⟨⟨_, rfl⟩, rfl⟩
theorem readN {v : Value} {w : World} (h : Nn v w) : Calls Try.prog 17 #[v, .int .i64 0, .int .i64 0] w fun e w' => e = .returned (.tuple #[.slice none 0 0, .int .i64 1]) ∧ w = w' := by
  have H := Lib.hid (readyN h 0 0)
  obtain ⟨a, rfl⟩ := ptrN h
  clear h
  go_enter Try.func17, Try.ntmps17
  go_wp2_with fail
  refine H.out.mono ?_
  rintro e w1 ⟨rfl, rfl⟩
  go_wp2_with fail
  go_ret2
  exact ⟨rfl, rfl⟩
theorem writeN {v : Value} {w : World} (h : Nn v w) : Calls Try.prog 13 #[v, .int .i64 0, .slice none 0 0] w fun e w' => e = .returned (.int .i64 1) ∧ w = w' := by
  have H := Lib.hid (readyN h 0 0)
  obtain ⟨a, rfl⟩ := ptrN h
  clear h
  go_enter Try.func13, Try.ntmps13
  go_wp2_with fail
  go_step3
  go_wp2_with fail
  refine H.out.mono ?_
  rintro e w1 ⟨rfl, rfl⟩
  go_wp2_with fail
  rw [Exit.noGoto_ret]
  go_ret
  exact ⟨rfl, rfl⟩
theorem spoilN {v : Value} {w : World} (h : Nn v w) : Calls Try.prog 22 #[v, .int .i64 0, .int .u8 1, .bool false] w fun e w' => e = .returned (.int .i64 1) ∧ w = w' := by
  have H := Lib.hid (lieN h 0 1)
  obtain ⟨a, rfl⟩ := ptrN h
  clear h
  go_enter Try.func22, Try.ntmps22
  go_wp2_with fail
  refine H.out.mono ?_
  rintro e w1 ⟨rfl, rfl⟩
  go_wp2_with fail
  go_ret
  exact ⟨rfl, rfl⟩
theorem deadN {v : Value} {w : World} (h : Nn v w) : Calls Try.prog 15 #[v] w fun e w' => e = .returned (.bool false) ∧ w = w' := by
  have H := Lib.hid (noneN h)
  obtain ⟨a, rfl⟩ := ptrN h
  clear h
  go_enter Try.func15, Try.ntmps15
  go_wp2_with fail
  refine H.out.mono ?_
  rintro e w1 ⟨rfl, rfl⟩
  go_wp2_with fail
  go_ret
  exact ⟨rfl, rfl⟩
theorem copyN {v : Value} {w : World} (h : Nn v w) : Calls Try.prog 18 #[v] w fun e w' => e = .returned (.pointer none) ∧ w = w' := by
  have H := Lib.hid (noneN h)
  obtain ⟨a, rfl⟩ := ptrN h
  clear h
  go_enter Try.func18, Try.ntmps18
  go_wp2_with fail
  refine H.out.mono ?_
  rintro e w1 ⟨rfl, rfl⟩
  go_wp2_with fail
  go_ret
  exact ⟨rfl, rfl⟩
theorem equalN (w : World) : Calls Try.prog 31 #[.slice none 0 0, .slice none 0 0] w fun e w' => e = .returned (.bool true) ∧ w = w' := by
  go_enter Try.func31, Try.ntmps31
  go_wp2_with fail
  go_loopw [5, 13] (fun _ i wr => i = .int .i64 0 ∧ wr = w) (fun _ i _ => 0)
  case atStart => exact ⟨rfl, rfl⟩
  case round =>
    obtain ⟨rfl, rfl⟩ := hrel
    go_wp2_with fail
    go_ret
    exact ⟨rfl, rfl⟩
theorem sameN {v : Value} {w : World} (h : Nn v w) : Calls Try.prog 20 #[v, .pointer none] w fun e w' => e = .returned (.bool true) ∧ w = w' := by
  have H1 := Lib.hid (allN h)
  have H2 := Lib.hid (allN (show Nn (.pointer none) w from .inl rfl))
  have H3 := Lib.hid (equalN w)
  obtain ⟨a, rfl⟩ := ptrN h
  clear h
  go_enter Try.func20, Try.ntmps20
  go_wp2_with fail
  refine H1.out.mono ?_
  rintro e w1 ⟨rfl, rfl⟩
  go_wp2_with fail
  refine H2.out.mono ?_
  rintro e w1 ⟨rfl, rfl⟩
  go_wp2_with fail
  refine H3.out.mono ?_
  rintro e w1 ⟨rfl, rfl⟩
  go_wp2_with fail
  go_ret
  exact ⟨rfl, rfl⟩

theorem Nn.later {v : Value} {w W : World} (h : Nn v w) (hb : Below w.heap.size w W) : Nn v W := by
  rcases h with h | ⟨p, h1, h2⟩
  · exact .inl h
  · exact .inr ⟨p, h1, h2.later hb⟩
set_option maxHeartbeats 4000000 in
set_option maxRecDepth 100000 in
theorem storeNil_walk (w : World) : Calls Try.prog 6 #[] w fun e w' => e = .returned (.bool true) ∧ Below w.heap.size w w' := by
  obtain ⟨w1, hw1⟩ : ∃ w1, w1 = (w.alloc (.cells #[.slice none 0 0, .bool false, .int .i64 0, .int .u8 0, .bool false] 53)).alloc (.cells #[.pointer none, .pointer (some ⟨w.heap.size, 0, none⟩)] 24) := ⟨_, rfl⟩
  have hB : Below w.heap.size w w1 := by rw [hw1]; go_grown
  have hz : BlkAt 53 w.heap.size [.slice none 0 0, .bool false, .int .i64 0, .int .u8 0, .bool false] w1 := by
    rw [hw1]; exact (BlkAt.new w _).later (ba1 _ _)
  have hl : BlkAt 24 (w.heap.size + 1) [.pointer none, .pointer (some ⟨w.heap.size, 0, none⟩)] w1 := by
    have h9 := BlkAt.new (t := 24) (w.alloc (.cells #[.slice none 0 0, .bool false, .int .i64 0, .int .u8 0, .bool false] 53)) [.pointer none, .pointer (some ⟨w.heap.size, 0, none⟩)]
    rw [hw1]; simpa using h9
  have HB := Lib.hid hB
  have HZ := Lib.hid hz
  have HL := Lib.hid hl
  have HW := Lib.hid hw1
  clear hB hz hl hw1
  go_enter Try.func6, Try.ntmps6
  go_wp2_with fail
  rw [← HW.out]
  go_loopw [3] (fun x wr => ∃ k : Nat, k ≤ 2 ∧ x = .int .i64 k ∧ wr = w1) (fun x _ => 2 - (intOf x).toNat)
  case atStart => exact ⟨0, by omega, rfl, rfl⟩
  case round =>
    obtain ⟨k, hk, rfl, rfl⟩ := hrel
    rcases Nat.lt_or_ge k 2 with hlt | hge
    · have g1 : (k : Int) < 2 := by omega
      obtain ⟨a, hc, hn⟩ : ∃ a, wr.cell? ⟨w.heap.size + 1, k, none⟩ = some (.pointer a) ∧ Nn (.pointer a) wr := by
        have : k = 0 ∨ k = 1 := by omega
        rcases this with rfl | rfl
        · exact ⟨none, BlkAt.cell HL.out (j := 0) rfl, .inl rfl⟩
        · exact ⟨_, BlkAt.cell HL.out (j := 1) rfl, .inr ⟨_, rfl, HZ.out⟩⟩
      have HNN := Lib.hid hn
      clear hn
      go_wp2_with fail
      refine (fuseN HNN.out).mono ?_
      rintro e w2 ⟨⟨v, rfl⟩, rfl⟩
      go_wp2_with fail
      refine (raiseN HNN.out).mono ?_
      rintro e w2 ⟨⟨v, rfl⟩, rfl⟩
      go_wp2_with fail
      refine (readN HNN.out).mono ?_
      rintro e w2 ⟨rfl, rfl⟩
      go_wp2_with fail
      refine (writeN HNN.out).mono ?_
      rintro e w2 ⟨rfl, rfl⟩
      go_wp2_with fail
      refine (spoilN HNN.out).mono ?_
      rintro e w2 ⟨rfl, rfl⟩
      go_wp2_with fail
      refine (lenN HNN.out).mono ?_
      rintro e w2 ⟨rfl, rfl⟩
      go_wp2_with fail
      refine (deadN HNN.out).mono ?_
      rintro e w2 ⟨rfl, rfl⟩
      go_wp2_with fail
      refine (copyN HNN.out).mono ?_
      rintro e w2 ⟨rfl, rfl⟩
      go_wp2_with fail
      refine (sameN HNN.out).mono ?_
      rintro e w2 ⟨rfl, rfl⟩
      go_wp2_with fail
      go_roundw
      case rel => exact ⟨k + 1, by omega, by go_num, trivial⟩
      case measure => simp [intOf]; omega
    · have e : k = 2 := by omega
      subst e
      go_wp2_with fail
      refine (knownL _).mono ?_
      rintro e w2 ⟨rfl, hb⟩
      have HB2 := Lib.hid (below_of HB.out hb)
      clear hb
      go_wp2_with fail
      go_ret
      exact ⟨rfl, HB2.out⟩
end Go.Proofs.Ytfoojjmokdbpcaa

namespace Go.Proofs.Ytfoojjmokdbpcaa
open Go.RowKit
attribute [local go_sem ↓] Go.wp_at_zero Go.wp_at_succ

/-- Bytes with others laid over them from a place on. -/
def spl (l : List UInt8) (i : Nat) (x : List UInt8) : List UInt8 := l.take i ++ (x ++ l.drop (i + x.length))
theorem spl_length {l : List UInt8} {i : Nat} {x : List UInt8} (h : i + x.length ≤ l.length) : (spl l i x).length = l.length := by unfold spl; simp; omega
theorem splice_bv {cur : List Value} {l x : List UInt8} {i : Nat} (h : cur.take l.length = bv l) (hi : i + x.length ≤ l.length) (hc : l.length ≤ cur.length) : (splice cur i (bv x)).take (spl l i x).length = bv (spl l i x) := by
  rw [spl_length hi]
  unfold splice spl
  have hb : (bv x).length = x.length := by simp [bv]
  rw [bv_append, bv_append, hb]
  have e1 : cur.take i = bv (l.take i) := by
    have := congrArg (List.take i) h
    rw [List.take_take, Nat.min_eq_left (by omega)] at this
    rw [this]; simp only [bv, ← List.map_take]
  have e2 : (cur.drop (i + x.length)).take (l.length - (i + x.length)) = bv (l.drop (i + x.length)) := by
    have := congrArg (List.drop (i + x.length)) h
    rw [List.drop_take] at this
    rw [this]; simp [bv, List.map_drop]
  have l1 : (bv (l.take i)).length = i := by simp [bv]; omega
  rw [e1, List.take_append, l1, List.take_of_length_le (l := bv (l.take i)) (by omega), List.take_append, hb, List.take_of_length_le (l := bv x) (by omega), ← e2]
  congr 3
  omega
theorem OwnB.splice {w w' : World} {base g cap : Nat} {l x : List UInt8} {i : Nat} {cur : Array Value} (h : OwnB w base (.slice (some ⟨g, 0, none⟩) l.length cap) l) (hg : w.heap[g]? = some (.cells cur 5 (0, 0)))
    (hw : w'.heap[g]? = some (.cells (Go.splice cur.toList i (bv x)).toArray 5 (0, 0))) (hi : i + x.length ≤ l.length) : OwnB w' base (.slice (some ⟨g, 0, none⟩) (spl l i x).length cap) (spl l i x) := by
  obtain ⟨hl, h0 | ⟨g', cap', cur', e, hb, hgg, hn, hm, hc, ht⟩⟩ := h
  · cases h0.1
  · simp only [Value.slice.injEq, Option.some.injEq, Addr.mk.injEq, and_true] at e
    obtain ⟨rfl, _, rfl⟩ := e
    rw [hg] at hgg
    simp only [Option.some.injEq, Obj.cells.injEq, and_true] at hgg
    subst hgg
    have hcl : cur.toList.length = cap := by simpa using hc
    refine ⟨by simp [bv], .inr ⟨g, cap, _, rfl, hb, hw, ?_, hm, ?_, ?_⟩⟩
    · rw [spl_length hi]; exact hn
    · rw [List.size_toArray, length_splice _ _ _ (by simp [bv]; omega)]; omega
    · rw [Nat.mul_one] at ht ⊢
      exact splice_bv ht hi (by omega)
theorem OwnB.row {w : World} {base : Nat} {v : Value} {l : List UInt8} (h : OwnB w base v l) (hl : 0 < l.length) : ∃ g cap cur, v = .slice (some ⟨g, 0, none⟩) l.length cap ∧ base ≤ g ∧ w.heap[g]? = some (.cells cur 5 (0, 0)) ∧ l.length ≤ cap ∧ cur.size = cap := by
  obtain ⟨_, h0 | ⟨g, cap, cur, rfl, hb, hg, hn, hm, hc, ht⟩⟩ := h
  · omega
  · exact ⟨g, cap, cur, rfl, hb, hg, hn, by simpa using hc⟩
/-- b[i:] of what lies at a block's front. -/
theorem cut_front (g n c i : Nat) (hi : i ≤ n) (hc : i < c) (w : World) : (Instr.slice 30 (.slice (some ⟨g, 0, none⟩) n c) (some (.int .i64 (i : Int))) none none).run Try.prog w = .ok (.slice (some ⟨g, i, none⟩) (n - i) (c - i)) w := by
  rw [run_slice_l w _ _ _ _ cells1 _ _ (by omega) (by omega), size1]
  show Result.ok (Go.sliced _ _ _ _ 1) w = _
  unfold Go.sliced
  rw [if_neg (by omega)]
  simp [Addr.add]
  omega

/-- A copy over a block known whole: the rest of memory stays. -/
theorem wpList_copy_put {w : World} {ops : Array Oper} {rest : List Oper} {o : Oper} {a : Act} {Q : Exit → Act → World → Prop} (hgd : o.guard = none) (d s : Operand)
    (ho : o.op = .call { callee := .builtin .copy, args := #[d, s], argTypes := #[30, 30] })
    (g off dLen dCap : Nat) (ad : Addr) (sLen sCap : Nat) (hd : a.eval d = .slice (some ⟨g, off, none⟩) dLen dCap) (hs : a.eval s = .slice (some ad) sLen sCap)
    (cur : Array Value) (hg : w.heap[g]? = some (.cells cur 5 (0, 0))) (cs : List Value) (hn : cs.length = Nat.min sLen dLen)
    (hsrc : ∀ j v, cs[j]? = some v → w.cell? (ad.add j) = some v) (hfit : off + cs.length ≤ cur.size) (h1 : ∀ v ∈ cs, v.oneCell' = true)
    (h : ∀ w', Hid (w'.heap[g]? = some (.cells (Go.splice cur.toList off cs).toArray 5 (0, 0))) → Hid (∀ k, k ≠ g → w'.heap[k]? = w.heap[k]?) → Hid (∀ B, B ≤ g → Below B w w') → wpList Try.prog ops Q rest (a.put o.dst (goInt cs.length)) w') :
    wpList Try.prog ops Q (o :: rest) a w :=
  wpList_copy_own hgd d s 30 30 ho 5 Try.underlying30 (by kernel_rfl) g off dLen dCap ad sLen sCap hd hs cur 5 hg cs hn hsrc hfit h1
    (h _ (show _ = _ from setRow_heap w g _ _ _ _ hg) (fun k hk => setRow_other w g k _ hk) (fun B hB => below_setRow (Below.refl B w) hB _))
end Go.Proofs.Ytfoojjmokdbpcaa
