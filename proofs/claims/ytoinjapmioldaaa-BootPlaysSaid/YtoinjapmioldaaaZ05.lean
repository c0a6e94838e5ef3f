/- boot.Count, boot.keep, boot.Begin, boot.Make: the walks.
   The chapter's rows: the walk of the law's 'known'.
   The reference's Slot: the walk.
   Bytes laid over others; a copy over a block known whole.
   The reference's Count: the walk.
   boot.look: the walk. -/
import Derived.Laws.CopyOwn
import Derived.Test.YtoinjapmioldaaaZ01
import Derived.Test.YtoinjapmioldaaaZ02
import Derived.Test.YtoinjapmioldaaaZ04

set_option linter.unusedSimpArgs false
set_option linter.unusedVariables false
namespace Go.Proofs.Ytoinjapmioldaaa
open Go.RowKit
attribute [local go_sem ↓] Go.wp_at_zero Go.wp_at_succ

theorem two_more {w w1 : World} (h : Below w.heap.size w w1) (a b : Obj) : Below w.heap.size w ((w1.alloc a).alloc b) := (h.alloc h.size a).alloc (by have := h.size; simp; omega) b
theorem cE_no {s : St} (h : rE s ≠ 0) : cE s = rE s ∧ cN s = 0 ∧ fF s = 0 := by
  have e : cE s = rE s := by
    unfold rE at h
    unfold cE rE
    by_cases h1 : s.c.length < 32
    · rw [if_pos h1, if_pos h1]
    · rw [if_neg h1, if_neg h1]
      by_cases h2 : s.dead = true
      · rw [if_pos h2, if_pos h2]
      · rw [if_neg h1, if_neg h2] at h; exact absurd rfl h
  refine ⟨e, ?_, ?_⟩
  · unfold cN; rw [if_neg (by rw [e]; exact h)]
  · unfold fF; rw [if_neg (by rw [e]; exact h)]
theorem cE_yes {s : St} (h : rE s = 0) : cE s = if sO s 0 = false ∧ sO s 1 = false then 8 else 0 := by
  unfold rE at h
  unfold cE
  by_cases h1 : s.c.length < 32
  · rw [if_pos h1] at h; cases h
  · rw [if_neg h1] at h
    rw [if_neg h1]
    by_cases h2 : s.dead = true
    · rw [if_pos h2] at h; cases h
    · rw [if_neg h2]
def lookV (s : St) : Value := .tuple #[.int .u64 (cN s : Nat), .int .i64 (fF s : Nat), .int .i64 (cE s)]
theorem look_no {s : St} (h : rE s = 0) (h0 : sO s 0 = false) (h1 : sO s 1 = false) : lookV s = .tuple #[.int .u64 0, .int .i64 0, .int .i64 8] := by
  have e : cE s = 8 := by rw [cE_yes h, if_pos ⟨h0, h1⟩]
  unfold lookV cN fF
  rw [e, if_neg (by decide), if_neg (by decide)]; rfl
theorem look_yes {s : St} (h : rE s = 0) (h0 : sO s 0 = true ∨ sO s 1 = true) : lookV s = .tuple #[.int .u64 (cM s : Nat), .int .i64 (fr s : Nat), .int .i64 0] := by
  have e : cE s = 0 := by
    rw [cE_yes h, if_neg]
    rintro ⟨a, b⟩
    rw [a, b] at h0
    simp at h0
  unfold lookV cN fF
  rw [e, if_pos rfl, if_pos rfl]
theorem look_one {s : St} (h : rE s = 0) (h0 : sO s 0 = true) (h1 : sO s 1 = false) : lookV s = .tuple #[.int .u64 (sN s 0 : Nat), .int .i64 1, .int .i64 0] := by
  rw [look_yes h (.inl h0)]; unfold cM fr; rw [if_pos (.inl h1), if_pos (.inl h1)]; rfl
theorem look_gt {s : St} (h : rE s = 0) (h1 : sO s 1 = true) (hn : sN s 1 < sN s 0) : lookV s = .tuple #[.int .u64 (sN s 0 : Nat), .int .i64 1, .int .i64 0] := by
  rw [look_yes h (.inr h1)]; unfold cM fr; rw [if_pos (.inr hn), if_pos (.inr hn)]; rfl
theorem look_le {s : St} (h : rE s = 0) (h1 : sO s 1 = true) (hn : ¬ sN s 1 < sN s 0) : lookV s = .tuple #[.int .u64 (sN s 1 : Nat), .int .i64 0, .int .i64 0] := by
  have : ¬ (sO s 1 = false ∨ sN s 1 < sN s 0) := by rw [h1]; simpa using hn
  rw [look_yes h (.inr h1)]; unfold cM fr; rw [if_neg this, if_neg this]; rfl
set_option maxHeartbeats 4000000 in
set_option maxRecDepth 100000 in
theorem lookB {p g cap : Nat} {s : St} {w : World} (h : PSt p g cap s w) :
    Calls Try.prog 31 #[.pointer (some ⟨p, 0, none⟩)] w fun e w' => e = .returned (lookV s) ∧ Below w.heap.size w w' := by
  have HR := Lib.hid (readyB h)
  have HB := Lib.hid (bothB h)
  clear h
  by_cases hr : rE s = 0
  · have HY := Lib.hid (@look_no s hr)
    have HY1 := Lib.hid (@look_one s hr)
    have HY2 := Lib.hid (@look_gt s hr)
    have HY3 := Lib.hid (@look_le s hr)
    rw [hr] at HR
    clear hr
    unfold nA oA at HB
    obtain ⟨L, hL⟩ : ∃ L, L = lookV s := ⟨_, rfl⟩
    rw [← hL] at HY HY1 HY2 HY3 ⊢
    obtain ⟨x, hx⟩ : ∃ x, x = sN s 0 := ⟨_, rfl⟩
    obtain ⟨y, hy⟩ : ∃ y, y = sN s 1 := ⟨_, rfl⟩
    obtain ⟨o, ho⟩ : ∃ o, o = sO s 0 := ⟨_, rfl⟩
    obtain ⟨k, hk⟩ : ∃ k, k = sO s 1 := ⟨_, rfl⟩
    rw [← hx, ← hy, ← ho, ← hk] at HB
    rw [← ho, ← hk] at HY
    rw [← ho, ← hk, ← hx] at HY1
    rw [← hk, ← hx, ← hy] at HY2
    rw [← hk, ← hx, ← hy] at HY3
    clear hL hx hy ho hk
    cases k
    · cases o
      · have e := HY.out rfl rfl
        subst e
        clear HY HY1 HY2 HY3
        go_enter Try.func31, Try.ntmps31
        go_wp2_with fail
        refine HR.out.mono ?_
        rintro e w1 ⟨rfl, rfl⟩
        go_wp2_with fail
        refine HB.out.mono ?_
        rintro e w1 ⟨rfl, hb⟩
        have HB2 := Lib.hid hb
        clear hb
        go_wp2_with fail
        go_ret3
        exact ⟨rfl, two_more HB2.out _ _⟩
      · have e := HY1.out rfl rfl
        subst e
        clear HY HY1 HY2 HY3
        go_enter Try.func31, Try.ntmps31
        go_wp2_with fail
        refine HR.out.mono ?_
        rintro e w1 ⟨rfl, rfl⟩
        go_wp2_with fail
        refine HB.out.mono ?_
        rintro e w1 ⟨rfl, hb⟩
        have HB2 := Lib.hid hb
        clear hb
        go_wp2_with fail
        go_ret3
        exact ⟨rfl, two_more HB2.out _ _⟩
    · by_cases hlt : y < x
      · have e := HY2.out rfl hlt
        subst e
        clear HY HY1 HY2 HY3
        have hd : decide (y < x) = true := decide_eq_true hlt
        clear hlt
        cases o <;>
        · go_enter Try.func31, Try.ntmps31
          go_wp2_with fail
          refine HR.out.mono ?_
          rintro e w1 ⟨rfl, rfl⟩
          go_wp2_with fail
          refine HB.out.mono ?_
          rintro e w1 ⟨rfl, hb⟩
          have HB2 := Lib.hid hb
          clear hb
          go_wp2_with fail
          go_ret3
          exact ⟨rfl, two_more HB2.out _ _⟩
      · have e := HY3.out rfl hlt
        subst e
        clear HY HY1 HY2 HY3
        have hd : decide (y < x) = false := decide_eq_false hlt
        clear hlt
        cases o <;>
        · go_enter Try.func31, Try.ntmps31
          go_wp2_with fail
          refine HR.out.mono ?_
          rintro e w1 ⟨rfl, rfl⟩
          go_wp2_with fail
          refine HB.out.mono ?_
          rintro e w1 ⟨rfl, hb⟩
          have HB2 := Lib.hid hb
          clear hb
          go_wp2_with fail
          go_ret3
          exact ⟨rfl, two_more HB2.out _ _⟩
  · have HE := Lib.hid (cE_no hr)
    have ht : (rE s != 0) = true := bne_iff_ne.2 hr
    have HL : Hid (lookV s = .tuple #[.int .u64 0, .int .i64 0, .int .i64 (rE s)]) := by
      have : lookV s = .tuple #[.int .u64 0, .int .i64 0, .int .i64 (rE s)] := by unfold lookV; rw [HE.out.1, HE.out.2.1, HE.out.2.2]; rfl
      exact this
    obtain ⟨r, hr2⟩ : ∃ r, r = rE s := ⟨_, rfl⟩
    rw [← hr2] at HR ht HL
    clear hr hr2 HE
    rw [HL.out]
    go_enter Try.func31, Try.ntmps31
    go_wp2_with fail
    refine HR.out.mono ?_
    rintro e w1 ⟨rfl, rfl⟩
    go_wp2_with fail
    go_ret3
    exact ⟨rfl, Below.refl _ _⟩
end Go.Proofs.Ytoinjapmioldaaa

namespace Go.Proofs.Ytoinjapmioldaaa
open Go.RowKit
attribute [local go_sem ↓] Go.wp_at_zero Go.wp_at_succ

/-- The greatest so far. -/
def mx (s : St) (k : Nat) : Nat := if k = 0 then 0 else if k = 1 then sN s 0 else cM s
theorem sN_no {s : St} {k : Nat} (h : sO s k = false) : sN s k = 0 := gdN_no h
theorem cM_no {s : St} (h : sO s 1 = false) : cM s = sN s 0 := by unfold cM; rw [if_pos (.inl h)]
theorem cM_gt {s : St} (h1 : sN s 0 < sN s 1) : cM s = sN s 1 := by
  unfold cM
  have : sO s 1 = true := by cases h : sO s 1 with
    | true => rfl
    | false => have := sN_no h; omega
  rw [if_neg (by rw [this]; simp; omega)]
theorem cM_le {s : St} (h1 : ¬ sN s 0 < sN s 1) : cM s = sN s 0 := by
  unfold cM
  split
  · rfl
  · rename_i h; simp at h; omega
set_option maxHeartbeats 8000000 in
set_option maxRecDepth 100000 in
theorem countR {q b u cb cu : Nat} {s : St} {w : World} (h : RSt q b u cb cu s w) :
    Calls Try.prog 13 #[.pointer (some ⟨q, 0, none⟩)] w fun e w' => e = .returned (.tuple #[.int .u64 (cN s : Nat), .int .i64 (cE s)]) ∧ Below w.heap.size w w' := by
  have HS := Lib.hid (slotsR h)
  obtain ⟨c0, c1, c2, c3, c4, c5⟩ := h.cells
  clear h c1 c2 c3 c4
  by_cases h1 : s.c.length < 32
  · have t1 : decide ((s.c.length : Int) < 32) = true := by simp; omega
    have HE : Hid (cE s = 2 ∧ cN s = 0) := by
      have e : cE s = 2 := by unfold cE; rw [if_pos h1]
      exact ⟨e, by unfold cN; rw [if_neg (by rw [e]; decide)]⟩
    rw [HE.out.1, HE.out.2]
    clear h1 HS
    go_enter Try.func13, Try.ntmps13
    go_wp2_with fail
    go_ret2
    exact ⟨rfl, Below.refl _ _⟩
  · have t1 : decide ((s.c.length : Int) < 32) = false := by simp; omega
    obtain ⟨d, hd⟩ : ∃ d, d = s.dead := ⟨_, rfl⟩
    rw [← hd] at c5
    cases d
    · by_cases h2 : sO s 0 = false ∧ sO s 1 = false
      · have HE : Hid (cE s = 8 ∧ cN s = 0) := by
          have e : cE s = 8 := by unfold cE; rw [if_neg h1, if_neg (by rw [← hd]; simp), if_pos h2]
          exact ⟨e, by unfold cN; rw [if_neg (by rw [e]; decide)]⟩
        rw [HE.out.1, HE.out.2]
        rw [h2.1, h2.2] at HS
        unfold nA oA at HS
        clear h1 hd h2
        go_enter Try.func13, Try.ntmps13
        go_wp2_with fail
        refine HS.out.mono ?_
        rintro e w1 ⟨rfl, hb⟩
        have HB := Lib.hid hb
        clear hb
        go_wp2_with fail
        go_ret2
        exact ⟨rfl, two_more HB.out _ _⟩
      · have HE : Hid (cE s = 0 ∧ cN s = cM s) := by
          have e : cE s = 0 := by unfold cE; rw [if_neg h1, if_neg (by rw [← hd]; simp), if_neg h2]
          exact ⟨e, by unfold cN; rw [if_pos e]⟩
        rw [HE.out.1, HE.out.2]
        have HM0 : Hid (∀ h : sO s 0 = false, sN s 0 = 0) := fun h => sN_no h
        have HM1 : Hid (sO s 1 = false → cM s = sN s 0) := fun h => cM_no h
        have HM2 : Hid (sN s 0 < sN s 1 → cM s = sN s 1) := fun h => cM_gt h
        have HM3 : Hid (¬ sN s 0 < sN s 1 → cM s = sN s 0) := fun h => cM_le h
        obtain ⟨M, hM⟩ : ∃ M, M = cM s := ⟨_, rfl⟩
        obtain ⟨x, hx⟩ : ∃ x, x = sN s 0 := ⟨_, rfl⟩
        obtain ⟨y, hy⟩ : ∃ y, y = sN s 1 := ⟨_, rfl⟩
        obtain ⟨o, ho⟩ : ∃ o, o = sO s 0 := ⟨_, rfl⟩
        obtain ⟨k, hk⟩ : ∃ k, k = sO s 1 := ⟨_, rfl⟩
        rw [← hx, ← hy, ← ho, ← hk] at HS
        rw [← ho, ← hx] at HM0
        rw [← hk, ← hM, ← hx] at HM1
        rw [← hx, ← hy, ← hM] at HM2
        rw [← hx, ← hy, ← hM] at HM3
        rw [← ho, ← hk] at h2
        rw [← hM]
        unfold nA oA at HS
        have hok : (!o && !k) = false := by cases o <;> cases k <;> simp at h2 ⊢
        clear h1 hd h2 hM hx hy ho hk HE
        cases o
        · cases k
          · cases hok
          · clear hok
            go_enter Try.func13, Try.ntmps13
            go_wp2_with fail
            refine HS.out.mono ?_
            rintro e w1 ⟨rfl, hb⟩
            have HB := Lib.hid (two_more hb (.cells #[.int .u64 (x : Int), .int .u64 (y : Int)] 63) (.cells #[.bool false, .bool true] 64))
            obtain ⟨w2, hw2⟩ : ∃ w2, w2 = (w1.alloc (.cells #[.int .u64 (x : Int), .int .u64 (y : Int)] 63)).alloc (.cells #[.bool false, .bool true] 64) := ⟨_, rfl⟩
            have HN : Hid (BlkAt 63 w1.heap.size [.int .u64 (x : Int), .int .u64 (y : Int)] w2) := by
              have := (BlkAt.new (t := 63) w1 [.int .u64 (x : Int), .int .u64 (y : Int)]).later (ba1 _ (.cells #[.bool false, .bool true] 64))
              rw [hw2]; exact this
            have HO : Hid (BlkAt 64 (w1.heap.size + 1) [.bool false, .bool true] w2) := by
              have := BlkAt.new (t := 64) (w1.alloc (.cells #[.int .u64 (x : Int), .int .u64 (y : Int)] 63)) [.bool false, .bool true]
              rw [hw2]; exact (by simpa using this : BlkAt 64 (w1.heap.size + 1) [.bool false, .bool true] _)
            have HW := Lib.hid hw2
            rw [← hw2] at HB
            clear hb hw2 HS c0 c5 t1
            go_wp2_with fail
            rw [← HW.out]
            go_loopw [6, 7] (fun c i wr => ∃ k : Nat, k ≤ 2 ∧ i = .int .i64 (k : Int) ∧ c = .int .u64 ((if k = 0 then 0 else if k = 1 then x else M : Nat) : Int) ∧ wr = w2) (fun _ i _ => 2 - (intOf i).toNat)
            case atStart => exact ⟨0, by omega, rfl, rfl, rfl⟩
            case round =>
              obtain ⟨k, hk, rfl, rfl, rfl⟩ := hrel
              have n0 := BlkAt.cell HN.out (j := 0) rfl
              have n1 := BlkAt.cell HN.out (j := 1) rfl
              have o0 := BlkAt.cell HO.out (j := 0) rfl
              have o1 := BlkAt.cell HO.out (j := 1) rfl
              have hk3 : k = 0 ∨ k = 1 ∨ k = 2 := by omega
              clear hk
              rcases hk3 with rfl | rfl | rfl
              · have hx0 : x = 0 := by first | exact HM0.out trivial | exact HM0.out rfl
                subst hx0
                go_wp2_with fail
                go_roundw
                case rel => exact ⟨1, by omega, rfl, rfl, trivial⟩
                case measure => simp [intOf]
              · by_cases hp : x < y
                · have hm := Lib.hid (HM2.out hp)
                  have hd : decide (x < y) = true := decide_eq_true hp
                  clear hp
                  go_wp2_with fail
                  go_roundw
                  case rel => exact ⟨2, by omega, rfl, by rw [hm.out]; rfl, trivial⟩
                  case measure => simp [intOf]
                · have hm := Lib.hid (HM3.out hp)
                  have hd : decide (x < y) = false := decide_eq_false hp
                  clear hp
                  go_wp2_with fail
                  go_roundw
                  case rel => exact ⟨2, by omega, rfl, by rw [hm.out]; rfl, trivial⟩
                  case measure => simp [intOf]
              · go_wp2_with fail
                go_ret2
                exact ⟨rfl, HB.out⟩
        · clear hok
          cases k
          · have hdummy := trivial
            go_enter Try.func13, Try.ntmps13
            go_wp2_with fail
            refine HS.out.mono ?_
            rintro e w1 ⟨rfl, hb⟩
            have HB := Lib.hid (two_more hb (.cells #[.int .u64 (x : Int), .int .u64 (y : Int)] 63) (.cells #[.bool true, .bool false] 64))
            obtain ⟨w2, hw2⟩ : ∃ w2, w2 = (w1.alloc (.cells #[.int .u64 (x : Int), .int .u64 (y : Int)] 63)).alloc (.cells #[.bool true, .bool false] 64) := ⟨_, rfl⟩
            have HN : Hid (BlkAt 63 w1.heap.size [.int .u64 (x : Int), .int .u64 (y : Int)] w2) := by
              have := (BlkAt.new (t := 63) w1 [.int .u64 (x : Int), .int .u64 (y : Int)]).later (ba1 _ (.cells #[.bool true, .bool false] 64))
              rw [hw2]; exact this
            have HO : Hid (BlkAt 64 (w1.heap.size + 1) [.bool true, .bool false] w2) := by
              have := BlkAt.new (t := 64) (w1.alloc (.cells #[.int .u64 (x : Int), .int .u64 (y : Int)] 63)) [.bool true, .bool false]
              rw [hw2]; exact (by simpa using this : BlkAt 64 (w1.heap.size + 1) [.bool true, .bool false] _)
            have HW := Lib.hid hw2
            rw [← hw2] at HB
            clear hb hw2 HS c0 c5 t1
            go_wp2_with fail
            rw [← HW.out]
            go_loopw [6, 7] (fun c i wr => ∃ k : Nat, k ≤ 2 ∧ i = .int .i64 (k : Int) ∧ c = .int .u64 ((if k = 0 then 0 else if k = 1 then x else M : Nat) : Int) ∧ wr = w2) (fun _ i _ => 2 - (intOf i).toNat)
            case atStart => exact ⟨0, by omega, rfl, rfl, rfl⟩
            case round =>
              obtain ⟨k, hk, rfl, rfl, rfl⟩ := hrel
              have n0 := BlkAt.cell HN.out (j := 0) rfl
              have n1 := BlkAt.cell HN.out (j := 1) rfl
              have o0 := BlkAt.cell HO.out (j := 0) rfl
              have o1 := BlkAt.cell HO.out (j := 1) rfl
              have hk3 : k = 0 ∨ k = 1 ∨ k = 2 := by omega
              clear hk
              rcases hk3 with rfl | rfl | rfl
              · by_cases hp : x = 0
                · subst hp
                  go_wp2_with fail
                  go_roundw
                  case rel => exact ⟨1, by omega, rfl, rfl, trivial⟩
                  case measure => simp [intOf]
                · have hd : decide (0 < x) = true := by simp; omega
                  clear hp
                  go_wp2_with fail
                  go_roundw
                  case rel => exact ⟨1, by omega, rfl, rfl, trivial⟩
                  case measure => simp [intOf]
              · have hm := Lib.hid (show M = x by first | exact HM1.out trivial | exact HM1.out rfl)
                go_wp2_with fail
                go_roundw
                case rel => exact ⟨2, by omega, rfl, by rw [hm.out]; rfl, trivial⟩
                case measure => simp [intOf]
              · go_wp2_with fail
                go_ret2
                exact ⟨rfl, HB.out⟩
          · have hdummy := trivial
            go_enter Try.func13, Try.ntmps13
            go_wp2_with fail
            refine HS.out.mono ?_
            rintro e w1 ⟨rfl, hb⟩
            have HB := Lib.hid (two_more hb (.cells #[.int .u64 (x : Int), .int .u64 (y : Int)] 63) (.cells #[.bool true, .bool true] 64))
            obtain ⟨w2, hw2⟩ : ∃ w2, w2 = (w1.alloc (.cells #[.int .u64 (x : Int), .int .u64 (y : Int)] 63)).alloc (.cells #[.bool true, .bool true] 64) := ⟨_, rfl⟩
            have HN : Hid (BlkAt 63 w1.heap.size [.int .u64 (x : Int), .int .u64 (y : Int)] w2) := by
              have := (BlkAt.new (t := 63) w1 [.int .u64 (x : Int), .int .u64 (y : Int)]).later (ba1 _ (.cells #[.bool true, .bool true] 64))
              rw [hw2]; exact this
            have HO : Hid (BlkAt 64 (w1.heap.size + 1) [.bool true, .bool true] w2) := by
              have := BlkAt.new (t := 64) (w1.alloc (.cells #[.int .u64 (x : Int), .int .u64 (y : Int)] 63)) [.bool true, .bool true]
              rw [hw2]; exact (by simpa using this : BlkAt 64 (w1.heap.size + 1) [.bool true, .bool true] _)
            have HW := Lib.hid hw2
            rw [← hw2] at HB
            clear hb hw2 HS c0 c5 t1
            go_wp2_with fail
            rw [← HW.out]
            go_loopw [6, 7] (fun c i wr => ∃ k : Nat, k ≤ 2 ∧ i = .int .i64 (k : Int) ∧ c = .int .u64 ((if k = 0 then 0 else if k = 1 then x else M : Nat) : Int) ∧ wr = w2) (fun _ i _ => 2 - (intOf i).toNat)
            case atStart => exact ⟨0, by omega, rfl, rfl, rfl⟩
            case round =>
              obtain ⟨k, hk, rfl, rfl, rfl⟩ := hrel
              have n0 := BlkAt.cell HN.out (j := 0) rfl
              have n1 := BlkAt.cell HN.out (j := 1) rfl
              have o0 := BlkAt.cell HO.out (j := 0) rfl
              have o1 := BlkAt.cell HO.out (j := 1) rfl
              have hk3 : k = 0 ∨ k = 1 ∨ k = 2 := by omega
              clear hk
              rcases hk3 with rfl | rfl | rfl
              · by_cases hp : x = 0
                · subst hp
                  go_wp2_with fail
                  go_roundw
                  case rel => exact ⟨1, by omega, rfl, rfl, trivial⟩
                  case measure => simp [intOf]
                · have hd : decide (0 < x) = true := by simp; omega
                  clear hp
                  go_wp2_with fail
                  go_roundw
                  case rel => exact ⟨1, by omega, rfl, rfl, trivial⟩
                  case measure => simp [intOf]
              · by_cases hp : x < y
                · have hm := Lib.hid (HM2.out hp)
                  have hd : decide (x < y) = true := decide_eq_true hp
                  clear hp
                  go_wp2_with fail
                  go_roundw
                  case rel => exact ⟨2, by omega, rfl, by rw [hm.out]; rfl, trivial⟩
                  case measure => simp [intOf]
                · have hm := Lib.hid (HM3.out hp)
                  have hd : decide (x < y) = false := decide_eq_false hp
                  clear hp
                  go_wp2_with fail
                  go_roundw
                  case rel => exact ⟨2, by omega, rfl, by rw [hm.out]; rfl, trivial⟩
                  case measure => simp [intOf]
              · go_wp2_with fail
                go_ret2
                exact ⟨rfl, HB.out⟩
    · have HE : Hid (cE s = 7 ∧ cN s = 0) := by
        have e : cE s = 7 := by unfold cE; rw [if_neg h1, if_pos hd.symm]
        exact ⟨e, by unfold cN; rw [if_neg (by rw [e]; decide)]⟩
      rw [HE.out.1, HE.out.2]
      clear h1 hd HS
      go_enter Try.func13, Try.ntmps13
      go_wp2_with fail
      go_ret2
      exact ⟨rfl, Below.refl _ _⟩
end Go.Proofs.Ytoinjapmioldaaa

namespace Go.Proofs.Ytoinjapmioldaaa
open Go.RowKit
attribute [local go_sem ↓] Go.wp_at_zero Go.wp_at_succ

/-- Bytes with others laid over them from a place on. -/
def spl (l : List UInt8) (i : Nat) (x : List UInt8) : List UInt8 := l.take i ++ (x ++ l.drop (i + x.length))
theorem spl_length {l : List UInt8} {i : Nat} {x : List UInt8} (h : i + x.length ≤ l.length) : (spl l i x).length = l.length := by unfold spl; simp; omega
theorem splice_bv {cur : List Value} {l x : List UInt8} {i : Nat} (h : cur.take l.length = bv l) (hi : i + x.length ≤ l.length) (hc : l.length ≤ cur.length) : (splice cur i (bv x)).take (spl l i x).length = bv (spl l i x) := by
  rw [spl_length hi]
  unfold splice spl
  have hb : (bv x).length = x.length := by simp [bv]
  rw [bv_append, bv_append, hb]
  have e1 : cur.take i = bv (l.take i) := by
    have := congrArg (List.take i) h
    rw [List.take_take, Nat.min_eq_left (by omega)] at this
    rw [this]; simp only [bv, ← List.map_take]
  have e2 : (cur.drop (i + x.length)).take (l.length - (i + x.length)) = bv (l.drop (i + x.length)) := by
    have := congrArg (List.drop (i + x.length)) h
    rw [List.drop_take] at this
    rw [this]; simp [bv, List.map_drop]
  have l1 : (bv (l.take i)).length = i := by simp [bv]; omega
  rw [e1, List.take_append, l1, List.take_of_length_le (l := bv (l.take i)) (by omega), List.take_append, hb, List.take_of_length_le (l := bv x) (by omega), ← e2]
  congr 3
  omega
theorem OwnB.splice {w w' : World} {base g cap : Nat} {l x : List UInt8} {i : Nat} {cur : Array Value} (h : OwnB w base (.slice (some ⟨g, 0, none⟩) l.length cap) l) (hg : w.heap[g]? = some (.cells cur 5 (0, 0)))
    (hw : w'.heap[g]? = some (.cells (Go.splice cur.toList i (bv x)).toArray 5 (0, 0))) (hi : i + x.length ≤ l.length) : OwnB w' base (.slice (some ⟨g, 0, none⟩) (spl l i x).length cap) (spl l i x) := by
  obtain ⟨hl, h0 | ⟨g', cap', cur', e, hb, hgg, hn, hm, hc, ht⟩⟩ := h
  · cases h0.1
  · simp only [Value.slice.injEq, Option.some.injEq, Addr.mk.injEq, and_true] at e
    obtain ⟨rfl, _, rfl⟩ := e
    rw [hg] at hgg
    simp only [Option.some.injEq, Obj.cells.injEq, and_true] at hgg
    subst hgg
    have hcl : cur.toList.length = cap := by simpa using hc
    refine ⟨by simp [bv], .inr ⟨g, cap, _, rfl, hb, hw, ?_, hm, ?_, ?_⟩⟩
    · rw [spl_length hi]; exact hn
    · rw [List.size_toArray, length_splice _ _ _ (by simp [bv]; omega)]; omega
    · rw [Nat.mul_one] at ht ⊢
      exact splice_bv ht hi (by omega)
theorem OwnB.row {w : World} {base : Nat} {v : Value} {l : List UInt8} (h : OwnB w base v l) (hl : 0 < l.length) : ∃ g cap cur, v = .slice (some ⟨g, 0, none⟩) l.length cap ∧ base ≤ g ∧ w.heap[g]? = some (.cells cur 5 (0, 0)) ∧ l.length ≤ cap ∧ cur.size = cap := by
  obtain ⟨_, h0 | ⟨g, cap, cur, rfl, hb, hg, hn, hm, hc, ht⟩⟩ := h
  · omega
  · exact ⟨g, cap, cur, rfl, hb, hg, hn, by simpa using hc⟩
/-- b[i:] of what lies at a block's front. -/
theorem cut_front (g n c i : Nat) (hi : i ≤ n) (hc : i < c) (w : World) : (Instr.slice 22 (.slice (some ⟨g, 0, none⟩) n c) (some (.int .i64 (i : Int))) none none).run Try.prog w = .ok (.slice (some ⟨g, i, none⟩) (n - i) (c - i)) w := by
  rw [run_slice_l w _ _ _ _ cells1 _ _ (by omega) (by omega), size1]
  show Result.ok (Go.sliced _ _ _ _ 1) w = _
  unfold Go.sliced
  rw [if_neg (by omega)]
  simp [Addr.add]
  omega

/-- A copy over a block known whole: the rest of memory stays. -/
theorem wpList_copy_put {w : World} {ops : Array Oper} {rest : List Oper} {o : Oper} {a : Act} {Q : Exit → Act → World → Prop} (hgd : o.guard = none) (d s : Operand)
    (ho : o.op = .call { callee := .builtin .copy, args := #[d, s], argTypes := #[22, 22] })
    (g off dLen dCap : Nat) (ad : Addr) (sLen sCap : Nat) (hd : a.eval d = .slice (some ⟨g, off, none⟩) dLen dCap) (hs : a.eval s = .slice (some ad) sLen sCap)
    (cur : Array Value) (hg : w.heap[g]? = some (.cells cur 5 (0, 0))) (cs : List Value) (hn : cs.length = Nat.min sLen dLen)
    (hsrc : ∀ j v, cs[j]? = some v → w.cell? (ad.add j) = some v) (hfit : off + cs.length ≤ cur.size) (h1 : ∀ v ∈ cs, v.oneCell' = true)
    (h : ∀ w', Hid (w'.heap[g]? = some (.cells (Go.splice cur.toList off cs).toArray 5 (0, 0))) → Hid (∀ k, k ≠ g → w'.heap[k]? = w.heap[k]?) → Hid (∀ B, B ≤ g → Below B w w') → wpList Try.prog ops Q rest (a.put o.dst (goInt cs.length)) w') :
    wpList Try.prog ops Q (o :: rest) a w :=
  wpList_copy_own hgd d s 22 22 ho 5 Try.underlying22 (by kernel_rfl) g off dLen dCap ad sLen sCap hd hs cur 5 hg cs hn hsrc hfit h1
    (h _ (show _ = _ from setRow_heap w g _ _ _ _ hg) (fun k hk => setRow_other w g k _ hk) (fun B hB => below_setRow (Below.refl B w) hB _))
end Go.Proofs.Ytoinjapmioldaaa

namespace Go.Proofs.Ytoinjapmioldaaa
open Go.RowKit
attribute [local go_sem ↓] Go.wp_at_zero Go.wp_at_succ

theorem putL_at (n : Nat) : ∀ m k, k < m → (putL n m)[k]? = some (UInt8.ofNat (n / 256 ^ (m - 1 - k)))
  | 0, _, h => by omega
  | m + 1, 0, _ => by simp [putL]
  | m + 1, k + 1, h => by
    rw [show m + 1 - 1 - (k + 1) = m - 1 - k by omega]
    simp only [putL, List.getElem?_cons_succ]
    exact putL_at n m k (by omega)
theorem turn_byte {n j : Nat} (h : n < 18446744073709551616) (hj : j ≤ 7) : (18446744073709551615 - n) / 256 ^ j % 256 = 255 - n / 256 ^ j % 256 := by
  have : j = 0 ∨ j = 1 ∨ j = 2 ∨ j = 3 ∨ j = 4 ∨ j = 5 ∨ j = 6 ∨ j = 7 := by omega
  rcases this with rfl | rfl | rfl | rfl | rfl | rfl | rfl | rfl <;> simp only [Nat.reducePow] <;> omega
/-- The high bytes of a number, so many; then of the turned one. -/
def hi8 (n k : Nat) : List UInt8 := (putL n 8).take k
theorem hi8_step {n k : Nat} (hk : k < 8) : hi8 n (k + 1) = hi8 n k ++ [UInt8.ofNat (n / 256 ^ (7 - k))] := by
  unfold hi8
  have h := putL_at n 8 k hk
  rw [List.take_add_one, h]; rfl
theorem hi8_len {n k : Nat} (hk : k ≤ 8) : (hi8 n k).length = k := by unfold hi8; simp [putL_length]; omega
theorem hi8_all (n : Nat) : hi8 n 8 = putL n 8 := by unfold hi8; rw [List.take_of_length_le (by rw [putL_length]; omega)]
theorem turn_at {n k : Nat} (h : n < 18446744073709551616) (hk : k < 8) : ∃ x : UInt8, (putL n 8)[k]? = some x ∧ (255 : Int) - (x.toNat : Int) = ((UInt8.ofNat ((18446744073709551615 - n) / 256 ^ (7 - k))).toNat : Int) := by
  refine ⟨_, putL_at n 8 k hk, ?_⟩
  rw [UInt8.toNat_ofNat', UInt8.toNat_ofNat', show 8 - 1 - k = 7 - k by omega]
  have := turn_byte h (show 7 - k ≤ 7 by omega)
  have h2 : n / 256 ^ (7 - k) % 256 < 256 := Nat.mod_lt _ (by decide)
  simp only [Nat.reducePow] at *
  omega
theorem lit1 (w : World) (x : UInt8) : Bytes (w.alloc (.cells #[.int .u8 (x.toNat : Int)] 5)) (.slice (some ⟨w.heap.size, 0, none⟩) 1 1) [x] := bytes_lit w [x]
set_option maxHeartbeats 4000000 in
set_option maxRecDepth 100000 in
theorem slotR (n : Nat) (w : World) (h : n < 18446744073709551616) :
    Calls Try.prog 24 #[.int .u64 (n : Int)] w fun e w' => ∃ v, e = .returned v ∧ OwnB w' w.heap.size v (sl n) ∧ Below w.heap.size w w' := by
  go_enter Try.func24, Try.ntmps24
  go_wp2_with fail
  go_loopw [3, 4] (fun v i wr => ∃ k : Nat, k ≤ 8 ∧ i = .int .i64 (7 - (k : Int)) ∧ Hid (OwnB wr w.heap.size v (hi8 n k)) ∧ Hid (Below w.heap.size w wr)) (fun _ i _ => ((intOf i) + 1).toNat)
  case atStart => exact ⟨0, by omega, rfl, OwnB.nil _ _, Below.refl _ _⟩
  case round =>
    obtain ⟨k, hk, rfl, HO, HB⟩ := hrel
    rcases Nat.lt_or_ge k 8 with hlt | hge
    · obtain ⟨j, hj⟩ : ∃ j : Nat, j = 7 - k := ⟨_, rfl⟩
      have hj2 : (7 - (k : Int)) = (j : Int) := by omega
      have HJ : Hid (j = 7 - k ∧ k < 8) := ⟨hj, hlt⟩
      have j0 : (0 : Int) ≤ j := by omega
      have j1 : (j : Int) ≤ 7 := by omega
      rw [hj2]
      clear hj hj2 hlt hk
      have hb := byte_of n j
      obtain ⟨x, hx⟩ : ∃ x : UInt8, x = UInt8.ofNat (n / 256 ^ j) := ⟨_, rfl⟩
      rw [← hx] at hb
      have HX := Lib.hid hx
      have HLI := Lib.hid (lit1 wr x)
      have HOA := Lib.hid (HO.out.alloc (.cells #[.int .u8 (x.toNat : Int)] 5))
      have HLN := Lib.hid (hi8_len (n := n) (k := k) (by have := HJ.out; omega))
      obtain ⟨av, cv, rfl⟩ := HO.out.form
      clear hx
      go_wp2_with (at_builtin; refine wpList_app rfl _ _ rfl w.heap.size _ _ (hi8 n k) [x] rfl rfl HOA.out HLI.out (by have := HLN.out; have := HJ.out; simp; omega) (by have := HB.out.size; simp; omega) ?_)
      intro v' w2 ho2 hb2 hg2
      have HO2 : Hid (OwnB w2 w.heap.size v' (hi8 n (k + 1))) := by
        have := HJ.out
        have hs := hi8_step (n := n) (k := k) (by omega)
        rw [← show j = 7 - k by omega, ← HX.out] at hs
        rw [hs]; exact ho2
      have HB2 := Lib.hid ((HB.out.alloc HB.out.size _).trans hb2)
      clear ho2 hb2 hg2
      go_wp2_with fail
      go_roundw
      case rel => exact ⟨k + 1, by have := HJ.out; omega, by have := HJ.out; go_num, HO2, HB2⟩
      case measure => simp [intOf] <;> omega
    · obtain rfl : k = 8 := by omega
      have HP := Lib.hid HO.out
      rw [hi8_all] at HP
      clear HO hge hk
      rw [show (7 - ((8 : Nat) : Int)) = -1 by decide]
      go_wp2_with fail
      go_loopw [3, 5] (fun v i w2 => ∃ k : Nat, k ≤ 8 ∧ i = .int .i64 (k : Int) ∧ Hid (OwnB w2 w.heap.size v (putL n 8 ++ hi8 (18446744073709551615 - n) k)) ∧ Hid (Below w.heap.size w w2)) (fun _ i _ => 8 - (intOf i).toNat)
      case atStart => exact ⟨0, by omega, rfl, by simpa [hi8] using HP, HB⟩
      case round =>
        obtain ⟨k, hk, rfl, HO2, HB2⟩ := hrel
        rcases Nat.lt_or_ge k 8 with hlt | hge
        · have g1 : (k : Int) < 8 := by omega
          obtain ⟨y, hy, hxy⟩ := turn_at h hlt
          obtain ⟨x, hx⟩ : ∃ x : UInt8, x = UInt8.ofNat ((18446744073709551615 - n) / 256 ^ (7 - k)) := ⟨_, rfl⟩
          rw [← hx] at hxy
          have hs := hi8_step (n := 18446744073709551615 - n) hlt
          rw [← hx] at hs
          obtain ⟨l, hl⟩ : ∃ l, l = putL n 8 ++ hi8 (18446744073709551615 - n) k := ⟨_, rfl⟩
          have HLN : Hid (l.length = 8 + k ∧ k < 8) := ⟨by rw [hl]; simp [putL_length, hi8_len hk], hlt⟩
          have hly : l[k]? = some y := by rw [hl, List.getElem?_append_left (by rw [putL_length]; omega)]; exact hy
          have HS : Hid (putL n 8 ++ hi8 (18446744073709551615 - n) (k + 1) = l ++ [x]) := by
            have : putL n 8 ++ hi8 (18446744073709551615 - n) (k + 1) = l ++ [x] := by rw [hs, hl, List.append_assoc]
            exact this
          rw [← hl] at HO2
          have hrow := OwnB.row HO2.out (by have := HLN.out; omega)
          obtain ⟨gv, cv, cur, rfl, _, _, _, _⟩ := hrow
          have hc : wr.cell? ⟨gv, k, none⟩ = some (.int .u8 (y.toNat : Int)) := by
            rw [HO2.out.cellAt k (by have := HLN.out; omega)]
            unfold bv
            rw [List.getElem?_map, hly]; rfl
          have hy2 : (0 : Int) ≤ y.toNat ∧ (y.toNat : Int) < 256 := ⟨by omega, by have := y.toNat_lt; omega⟩
          obtain ⟨z, hz⟩ : ∃ z : Int, z = (y.toNat : Int) := ⟨_, rfl⟩
          rw [← hz] at hc hxy hy2
          have hm8 : ((x.toNat : Int)) % 256 = (x.toNat : Int) := by have := x.toNat_lt; omega
          have g2 : (k : Int) < l.length := by have := HLN.out; omega
          have g3 : k < l.length := by have := HLN.out; omega
          have HLI := Lib.hid (lit1 wr x)
          have HOA := Lib.hid (HO2.out.alloc (.cells #[.int .u8 (x.toNat : Int)] 5))
          clear hly hs hx hy hl hz hy2
          go_wp2_with (at_builtin; refine wpList_app rfl _ _ rfl w.heap.size _ _ l [x] rfl rfl HOA.out HLI.out (by have := HLN.out; simp; omega) (by have := HB2.out.size; simp; omega) ?_)
          intro v' w2 ho2 hb2 hg2
          have HO3 : Hid (OwnB w2 w.heap.size v' (putL n 8 ++ hi8 (18446744073709551615 - n) (k + 1))) := by
            rw [HS.out]; exact ho2
          have HB3 := Lib.hid ((HB2.out.alloc HB2.out.size _).trans hb2)
          clear ho2 hb2 hg2
          go_wp2_with fail
          go_roundw
          case rel => exact ⟨k + 1, by omega, by go_num, HO3, HB3⟩
          case measure => simp [intOf]; omega
        · obtain rfl : k = 8 := by omega
          rw [hi8_all] at HO2
          go_wp2_with fail
          go_ret
          exact ⟨_, rfl, HO2.out, HB2.out⟩
end Go.Proofs.Ytoinjapmioldaaa

namespace Go.Proofs.Ytoinjapmioldaaa
open Go.RowKit
attribute [local go_sem ↓] Go.wp_at_zero Go.wp_at_succ

theorem Bytes.chg {w W : World} {bl o n c : Nat} {l : List UInt8} {ls : List Nat} (h : Bytes w (.slice (some ⟨bl, o, none⟩) n c) l) (hc : Chg ls w W) (hn : bl ∉ ls) : Bytes W (.slice (some ⟨bl, o, none⟩) n c) l := by
  rcases h with h | ⟨b', o', c', e, h2, hp, h3⟩
  · exact .inl h
  · simp only [Value.slice.injEq, Option.some.injEq, Addr.mk.injEq, and_true] at e
    obtain ⟨⟨rfl, rfl⟩, rfl, rfl⟩ := e
    exact .inr ⟨bl, o, c, rfl, Nat.lt_of_lt_of_le h2 hc.size, hp, fun j x hx => (World.cell?_of_block (a := ⟨bl, o + j, none⟩) (hc.rest bl h2 hn)).trans (h3 j x hx)⟩
theorem Chg.on {w0 w w' : World} {l : List Nat} (hB : Below w0.heap.size w0 w) (h : Chg l w w') (hl : ∀ b ∈ l, w0.heap.size ≤ b) : Below w0.heap.size w0 w' := hB.trans (h.below hB.size hl)
theorem lit3 (w : World) (x y z : UInt8) : Bytes (w.alloc (.cells #[.int .u8 (x.toNat : Int), .int .u8 (y.toNat : Int), .int .u8 (z.toNat : Int)] 5)) (.slice (some ⟨w.heap.size, 0, none⟩) 3 3) [x, y, z] := bytes_lit w [x, y, z]
theorem k1 : wrE (nw 3) 0 [1, 2, 3] = 0 := by decide +kernel
def ks1 : St := wrS (nw 3) 0 [1, 2, 3]
def ks2 : St := fuS ks1 1 9 false
theorem k2 : wrE ks2 0 [4, 5, 6] = 7 := by decide +kernel
def ks3 : St := wrS ks2 0 [4, 5, 6]
theorem k3 : rdE ks3 0 3 = 7 := by decide +kernel
def ks4 : St := raS ks3
theorem k4 : rdE ks4 0 3 = 0 := by decide +kernel
theorem k5 : rdB ks4 0 3 = [4, 9, 3] := by decide +kernel
end Go.Proofs.Ytoinjapmioldaaa

namespace Go.Proofs.Ytoinjapmioldaaa
open Go.RowKit
attribute [local go_sem ↓] Go.wp_at_zero Go.wp_at_succ

set_option maxHeartbeats 1000000 in
set_option maxRecDepth 100000 in
theorem countB {p g cap : Nat} {s : St} {w : World} (h : PSt p g cap s w) :
    Calls Try.prog 12 #[.pointer (some ⟨p, 0, none⟩)] w fun e w' => e = .returned (.tuple #[.int .u64 (cN s : Nat), .int .i64 (cE s)]) ∧ Below w.heap.size w w' := by
  have HL := Lib.hid (lookB h)
  unfold lookV at HL
  clear h
  go_enter Try.func12, Try.ntmps12
  go_wp2_with fail
  refine HL.out.mono ?_
  rintro e w1 ⟨rfl, hb⟩
  go_wp2_with fail
  go_ret2
  exact ⟨rfl, hb⟩
set_option maxHeartbeats 2000000 in
set_option maxRecDepth 100000 in
theorem keepB {p g cap : Nat} {s : St} {w : World} (h : PSt p g cap s w) (a : Int) (ha : a ≤ 9223372036854775807) (v : Value) (b : List UInt8) (hl : b.length = 16) (hv : ∀ W, Chg [p, g] w W → Bytes W v b) :
    Calls Try.prog 35 #[.pointer (some ⟨p, 0, none⟩), .int .i64 a, v] w (WrA p g cap s a b w) := by
  have HW := Lib.hid (writeS h a ha v b hv)
  have HV := Lib.hid hv
  obtain ⟨va, vc, rfl⟩ := (hv w (Chg.refl _ _)).form
  clear h hv
  unfold WrA at HW ⊢
  by_cases h0 : wrE s a b = 0
  · have HRW := Lib.hid (rd_wr h0)
    rw [h0] at HW ⊢
    clear h0
    rw [hl] at HW HV HRW ⊢
    go_enter Try.func35, Try.ntmps35
    go_wp2_with fail
    refine HW.out.mono ?_
    rintro e w1 ⟨rfl, hP, hC⟩
    have HP := Lib.hid hP
    have HC := Lib.hid hC
    have HRD := Lib.hid (readS hP a 16 ha)
    unfold RdA at HRD
    rw [show (16 : Int) = ((16 : Nat) : Int) from rfl, HRW.out.1, HRW.out.2] at HRD
    have hv1 := HV.out w1 hC
    have HV1 := Lib.hid hv1
    clear hP hC hv1
    go_wp2_with fail
    refine HRD.out.mono ?_
    rintro e w2 ⟨v2, rfl, hv2, hb⟩
    obtain ⟨a2, c2, rfl⟩ := hv2.form
    rw [hl] at hv2 ⊢
    have HE := Lib.hid (eqB hv2 (HV1.out.later hb))
    rw [show (b == b) = true by simp] at HE
    have HB := Lib.hid hb
    clear hv2 hb
    go_wp2_with fail
    refine HE.out.mono ?_
    rintro e w3 ⟨rfl, rfl⟩
    go_wp2_with fail
    go_ret
    exact ⟨rfl, HP.out.later HB.out, HC.out.trans (Chg.of_below _ HB.out)⟩
  · obtain ⟨r, hr⟩ : ∃ r, r = wrE s a b := ⟨_, rfl⟩
    rw [← hr] at HW h0 ⊢
    have ht : (r != 0) = true := bne_iff_ne.2 h0
    clear h0 hr
    rw [hl] at HW HV ⊢
    go_enter Try.func35, Try.ntmps35
    go_wp2_with fail
    refine HW.out.mono ?_
    rintro e w1 ⟨rfl, hP, hC⟩
    have HP := Lib.hid hP
    have HC := Lib.hid hC
    clear hP hC
    go_wp2_with fail
    go_ret
    exact ⟨rfl, HP.out, HC.out⟩
/-- What Begin leaves. -/
def BeA (p g cap : Nat) (s : St) (w : World) (e : Ending) (w' : World) : Prop :=
  e = .returned (.tuple #[.int .u64 (bN s : Nat), .int .i64 (bE s)]) ∧ PSt p g cap (bS s) w' ∧ Chg [p, g] w w'
theorem be_no {s : St} (h : cE s ≠ 0) : bE s = cE s ∧ bN s = 0 ∧ bS s = s := by
  have e : bE s = cE s := by unfold bE; rw [if_pos h]
  exact ⟨e, by unfold bN; rw [if_neg (by rw [e]; exact h)], by unfold bS; rw [if_neg (fun h2 => h h2.1)]⟩
theorem be_max {s : St} (h : cE s = 0) (h2 : cM s = 18446744073709551615) : bE s = 5 ∧ bN s = 0 ∧ bS s = s := by
  have e : bE s = 5 := by unfold bE; rw [if_neg (by rw [h]; simp), if_pos h2]
  exact ⟨e, by unfold bN; rw [if_neg (by rw [e]; decide)], by unfold bS; rw [if_neg (fun h3 => h3.2 h2)]⟩
theorem be_yes {s : St} (h : cE s = 0) (h2 : cM s ≠ 18446744073709551615) : bE s = wrE s ((16 * fr s : Nat) : Int) (sl (cM s + 1)) ∧ bS s = wrS s ((16 * fr s : Nat) : Int) (sl (cM s + 1)) := by
  exact ⟨by unfold bE; rw [if_neg (by rw [h]; simp), if_neg h2], by unfold bS; rw [if_pos ⟨h, h2⟩]⟩
set_option maxHeartbeats 4000000 in
set_option maxRecDepth 100000 in
theorem beginB {p g cap : Nat} {s : St} {w : World} (h : PSt p g cap s w) :
    Calls Try.prog 17 #[.pointer (some ⟨p, 0, none⟩)] w (BeA p g cap s w) := by
  have HL := Lib.hid (lookB h)
  have HP := Lib.hid h
  have HLT := Lib.hid h.lt
  clear h
  unfold BeA
  by_cases h0 : cE s = 0
  · have hLV : lookV s = .tuple #[.int .u64 (cM s : Nat), .int .i64 (fr s : Nat), .int .i64 0] := by
      unfold lookV cN fF; rw [h0, if_pos rfl, if_pos rfl]
    rw [hLV] at HL
    clear hLV
    by_cases h1 : cM s = 18446744073709551615
    · have HE := Lib.hid (be_max h0 h1)
      rw [HE.out.1, HE.out.2.1, HE.out.2.2]
      rw [h1] at HL
      clear h0 h1 HE
      go_enter Try.func17, Try.ntmps17
      go_wp2_with fail
      refine HL.out.mono ?_
      rintro e w1 ⟨rfl, hb⟩
      have HB := Lib.hid hb
      clear hb
      go_wp2_with fail
      go_ret2
      exact ⟨rfl, HP.out.later HB.out, Chg.of_below _ HB.out⟩
    · have HE := Lib.hid (be_yes h0 h1)
      have hm := cM_lt s
      have HBN : Hid (bN s = if wrE s ((16 * fr s : Nat) : Int) (sl (cM s + 1)) = 0 then cM s + 1 else 0) := by
        have : bN s = if wrE s ((16 * fr s : Nat) : Int) (sl (cM s + 1)) = 0 then cM s + 1 else 0 := by unfold bN; rw [HE.out.1]
        exact this
      rw [HE.out.1, HE.out.2, HBN.out]
      have hf := fr_le s
      obtain ⟨c, hc⟩ : ∃ c, c = cM s := ⟨_, rfl⟩
      obtain ⟨f, hf2⟩ : ∃ f, f = fr s := ⟨_, rfl⟩
      rw [← hc] at HL h1 hm ⊢
      rw [← hf2] at HL hf ⊢
      have ht : ((c : Int) == 18446744073709551615) = false := beq_eq_false_iff_ne.2 (by omega)
      have hw : IntKind.u64.wrap ((c : Int) + 1) = (c : Int) + 1 := IntWalk.u64_in _ ⟨by omega, by omega⟩
      have HS := fun w => slotW (c + 1) w (by omega)
      rw [show ((c + 1 : Nat) : Int) = (c : Int) + 1 by omega] at HS
      have HS := Lib.hid HS
      have HN : Hid (((if wrE s ((16 * f : Nat) : Int) (sl (c + 1)) = 0 then c + 1 else 0 : Nat) : Int) = if wrE s ((16 * f : Nat) : Int) (sl (c + 1)) = 0 then (c : Int) + 1 else 0) := by
        have : ((if wrE s ((16 * f : Nat) : Int) (sl (c + 1)) = 0 then c + 1 else 0 : Nat) : Int) = if wrE s ((16 * f : Nat) : Int) (sl (c + 1)) = 0 then (c : Int) + 1 else 0 := by split <;> simp
        exact this
      rw [HN.out]
      clear hc hf2 HE HBN h0 h1 hm HN
      have hf3 : f = 0 ∨ f = 1 := by omega
      clear hf
      rcases hf3 with rfl | rfl
      · rw [show ((16 * 0 : Nat) : Int) = 0 from rfl]
        obtain ⟨r, hr⟩ : ∃ r, r = wrE s 0 (sl (c + 1)) := ⟨_, rfl⟩
        rw [← hr]
        have HR := Lib.hid hr
        clear hr
        by_cases h : r = 0
        · subst h
          rw [if_pos rfl]
          go_enter Try.func17, Try.ntmps17
          go_wp2_with fail
          refine HL.out.mono ?_
          rintro e w1 ⟨rfl, hb⟩
          have HB := Lib.hid hb
          clear hb
          go_wp2_with fail
          refine (HS.out w1).mono ?_
          rintro e w2 ⟨v, rfl, hv, hb⟩
          obtain ⟨g2, cap2, cur, rfl, hg2, _, _, _⟩ := OwnB.row hv (by rw [sl_length]; omega)
          rw [sl_length]
          have hby := hv.bytes
          rw [sl_length] at hby
          have HB2 := Lib.hid (below_of HB.out hb)
          have HK := Lib.hid (keepB (HP.out.later HB2.out) 0 (by omega) _ (sl (c + 1)) (sl_length _) (fun W hW => hby.chg hW (by have := HLT.out; have := HB.out.size; simp; omega)))
          unfold WrA at HK
          rw [← HR.out] at HK
          clear hv hg2 hby hb
          go_wp2_with fail
          refine HK.out.mono ?_
          rintro e w3 ⟨rfl, hP, hC⟩
          have HP3 := Lib.hid hP
          have HC3 := Lib.hid ((Chg.of_below [p, g] HB2.out).trans hC)
          clear hP hC HK
          go_wp2_with fail
          go_ret2
          exact ⟨rfl, HP3.out, HC3.out⟩
        · rw [if_neg h]
          have t1 : (r != 0) = true := bne_iff_ne.2 h
          clear h
          go_enter Try.func17, Try.ntmps17
          go_wp2_with fail
          refine HL.out.mono ?_
          rintro e w1 ⟨rfl, hb⟩
          have HB := Lib.hid hb
          clear hb
          go_wp2_with fail
          refine (HS.out w1).mono ?_
          rintro e w2 ⟨v, rfl, hv, hb⟩
          obtain ⟨g2, cap2, cur, rfl, hg2, _, _, _⟩ := OwnB.row hv (by rw [sl_length]; omega)
          rw [sl_length]
          have hby := hv.bytes
          rw [sl_length] at hby
          have HB2 := Lib.hid (below_of HB.out hb)
          have HK := Lib.hid (keepB (HP.out.later HB2.out) 0 (by omega) _ (sl (c + 1)) (sl_length _) (fun W hW => hby.chg hW (by have := HLT.out; have := HB.out.size; simp; omega)))
          unfold WrA at HK
          rw [← HR.out] at HK
          clear hv hg2 hby hb
          go_wp2_with fail
          refine HK.out.mono ?_
          rintro e w3 ⟨rfl, hP, hC⟩
          have HP3 := Lib.hid hP
          have HC3 := Lib.hid ((Chg.of_below [p, g] HB2.out).trans hC)
          clear hP hC HK
          go_wp2_with fail
          go_ret2
          exact ⟨rfl, HP3.out, HC3.out⟩
      · rw [show ((16 * 1 : Nat) : Int) = 16 from rfl]
        obtain ⟨r, hr⟩ : ∃ r, r = wrE s 16 (sl (c + 1)) := ⟨_, rfl⟩
        rw [← hr]
        have HR := Lib.hid hr
        clear hr
        by_cases h : r = 0
        · subst h
          rw [if_pos rfl]
          go_enter Try.func17, Try.ntmps17
          go_wp2_with fail
          refine HL.out.mono ?_
          rintro e w1 ⟨rfl, hb⟩
          have HB := Lib.hid hb
          clear hb
          go_wp2_with fail
          refine (HS.out w1).mono ?_
          rintro e w2 ⟨v, rfl, hv, hb⟩
          obtain ⟨g2, cap2, cur, rfl, hg2, _, _, _⟩ := OwnB.row hv (by rw [sl_length]; omega)
          rw [sl_length]
          have hby := hv.bytes
          rw [sl_length] at hby
          have HB2 := Lib.hid (below_of HB.out hb)
          have HK := Lib.hid (keepB (HP.out.later HB2.out) 16 (by omega) _ (sl (c + 1)) (sl_length _) (fun W hW => hby.chg hW (by have := HLT.out; have := HB.out.size; simp; omega)))
          unfold WrA at HK
          rw [← HR.out] at HK
          clear hv hg2 hby hb
          go_wp2_with fail
          refine HK.out.mono ?_
          rintro e w3 ⟨rfl, hP, hC⟩
          have HP3 := Lib.hid hP
          have HC3 := Lib.hid ((Chg.of_below [p, g] HB2.out).trans hC)
          clear hP hC HK
          go_wp2_with fail
          go_ret2
          exact ⟨rfl, HP3.out, HC3.out⟩
        · rw [if_neg h]
          have t1 : (r != 0) = true := bne_iff_ne.2 h
          clear h
          go_enter Try.func17, Try.ntmps17
          go_wp2_with fail
          refine HL.out.mono ?_
          rintro e w1 ⟨rfl, hb⟩
          have HB := Lib.hid hb
          clear hb
          go_wp2_with fail
          refine (HS.out w1).mono ?_
          rintro e w2 ⟨v, rfl, hv, hb⟩
          obtain ⟨g2, cap2, cur, rfl, hg2, _, _, _⟩ := OwnB.row hv (by rw [sl_length]; omega)
          rw [sl_length]
          have hby := hv.bytes
          rw [sl_length] at hby
          have HB2 := Lib.hid (below_of HB.out hb)
          have HK := Lib.hid (keepB (HP.out.later HB2.out) 16 (by omega) _ (sl (c + 1)) (sl_length _) (fun W hW => hby.chg hW (by have := HLT.out; have := HB.out.size; simp; omega)))
          unfold WrA at HK
          rw [← HR.out] at HK
          clear hv hg2 hby hb
          go_wp2_with fail
          refine HK.out.mono ?_
          rintro e w3 ⟨rfl, hP, hC⟩
          have HP3 := Lib.hid hP
          have HC3 := Lib.hid ((Chg.of_below [p, g] HB2.out).trans hC)
          clear hP hC HK
          go_wp2_with fail
          go_ret2
          exact ⟨rfl, HP3.out, HC3.out⟩
  · have HE := Lib.hid (be_no h0)
    rw [HE.out.1, HE.out.2.1, HE.out.2.2]
    have hLV : lookV s = .tuple #[.int .u64 0, .int .i64 0, .int .i64 (cE s)] := by
      unfold lookV cN fF; rw [if_neg h0, if_neg h0]; rfl
    rw [hLV] at HL
    have ht : (cE s != 0) = true := bne_iff_ne.2 h0
    obtain ⟨r, hr⟩ : ∃ r, r = cE s := ⟨_, rfl⟩
    rw [← hr] at HL ht ⊢
    clear h0 hr HE hLV
    go_enter Try.func17, Try.ntmps17
    go_wp2_with fail
    refine HL.out.mono ?_
    rintro e w1 ⟨rfl, hb⟩
    have HB := Lib.hid hb
    clear hb
    go_wp2_with fail
    go_ret2
    exact ⟨rfl, HP.out.later HB.out, Chg.of_below _ HB.out⟩
/-- What Make leaves. -/
def MkA (p g cap : Nat) (s : St) (w : World) (e : Ending) (w' : World) : Prop :=
  e = .returned (.int .i64 (wrE s 0 (sl 0 ++ sl 0))) ∧ PSt p g cap (wrS s 0 (sl 0 ++ sl 0)) w' ∧ Chg [p, g] w w'
set_option maxHeartbeats 2000000 in
set_option maxRecDepth 100000 in
theorem makeB {p g cap : Nat} {s : St} {w : World} (h : PSt p g cap s w) :
    Calls Try.prog 27 #[.pointer (some ⟨p, 0, none⟩)] w (MkA p g cap s w) := by
  have HP := Lib.hid h
  have HLT := Lib.hid h.lt
  have HS := fun w => slotW 0 w (by omega)
  rw [show ((0 : Nat) : Int) = 0 from rfl] at HS
  have HS := Lib.hid HS
  clear h
  unfold MkA
  obtain ⟨r, hr⟩ : ∃ r, r = wrE s 0 (sl 0 ++ sl 0) := ⟨_, rfl⟩
  rw [← hr]
  have HR := Lib.hid hr
  clear hr
  go_enter Try.func27, Try.ntmps27
  go_wp2_with fail
  refine (HS.out w).mono ?_
  rintro e w1 ⟨v1, rfl, hv1, hb1⟩
  obtain ⟨a1, c1, rfl⟩ := hv1.form
  rw [sl_length] at hv1 ⊢
  have HV1 := Lib.hid hv1.bytes
  have HB1 := Lib.hid hb1
  clear hv1 hb1
  go_wp2_with fail
  refine (HS.out w1).mono ?_
  rintro e w2 ⟨v2, rfl, hv2, hb2⟩
  obtain ⟨a2, c2, rfl⟩ := hv2.form
  rw [sl_length] at hv2 ⊢
  have HL := Lib.hid (lists2 (HV1.out.later hb2) hv2.bytes)
  have HB2 := Lib.hid ((below_of HB1.out hb2).alloc (by have := HB1.out.size; have := hb2.size; omega) (.cells #[.slice a1 16 c1, .slice a2 16 c2] 22))
  clear hv2 hb2
  go_wp2_with fail
  refine (joinW_own _ _ _ HL.out (by simp) (by simp [sl_length])).mono ?_
  rintro e w3 ⟨v3, rfl, hv3, hb3⟩
  rw [show [sl 0, sl 0].flatten = sl 0 ++ sl 0 by simp] at hv3
  have hl : (sl 0 ++ sl 0).length = 32 := by simp [sl_length]
  obtain ⟨g2, cap2, cur, rfl, hg2, _, _, _⟩ := OwnB.row hv3 (by omega)
  have hby := hv3.bytes
  rw [hl] at hby ⊢
  have HB3 := Lib.hid (below_of HB2.out hb3)
  have HK := Lib.hid (writeS (HP.out.later HB3.out) 0 (by omega) _ (sl 0 ++ sl 0) (fun W hW => hby.chg hW (by have := HLT.out; have := HB2.out.size; simp; omega)))
  unfold WrA at HK
  rw [← HR.out] at HK
  clear hv3 hg2 hby hb3
  go_wp2_with fail
  refine HK.out.mono ?_
  rintro e w4 ⟨rfl, hP, hC⟩
  have HP3 := Lib.hid hP
  have HC3 := Lib.hid ((Chg.of_below [p, g] HB3.out).trans hC)
  clear hP hC HK
  go_wp2_with fail
  go_ret
  exact ⟨rfl, HP3.out, HC3.out⟩
end Go.Proofs.Ytoinjapmioldaaa
