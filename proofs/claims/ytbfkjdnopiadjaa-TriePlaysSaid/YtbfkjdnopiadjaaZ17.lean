/- TrieHolds: the walk. -/
import Derived.Test.YtbfkjdnopiadjaaZ13
import Derived.Test.YtbfkjdnopiadjaaZ16

set_option linter.unusedSimpArgs false
set_option linter.unusedVariables false
namespace Go.Proofs.Ytbfkjdnopiadjaa
open Go.RowKit
attribute [local go_sem ↓] Go.wp_at_zero Go.wp_at_succ
open Tp (Pf Ok En Tr)

/-- What is not a trie's, a table's or an entry's stands. -/
theorem Bth.keepB {t q : Nat} {v : Value} {lim : Int} {T : Tr} {w w' : World} (h : Bth t q v lim T w) (hc : Chg (t :: rtB q v) w w') {ty : TypeId} (h1 : ty ≠ 66) (h2 : ty ≠ 30) (h3 : ty ≠ 75) {b : Nat} {cs : List Value} (hb : BlkAt ty b cs w) : BlkAt ty b cs w' := by
  refine hc.blk hb fun hm => ?_
  rcases List.mem_cons.1 hm with rfl | hm
  · obtain ⟨u, hu, _⟩ := h.tr.blk
    exact hb.no h1 hu
  · rcases mem_rtB.1 hm with rfl | hm
    · exact hb.no h2 h.rt.blk
    · obtain ⟨c, _, hc⟩ := h.rt.own.block hm
      have := hc.symm.trans (show w.heap[b]? = _ from hb)
      simp only [Option.some.injEq, Obj.cells.injEq] at this
      exact h3 this.2.1.symm
theorem SeqV.over {t q : Nat} {v : Value} {lim : Int} {T : Tr} {w w' : World} {Br Bg : Nat} {L : List En} (hs : SeqV w Br Bg L) (h : Bth t q v lim T w) (hc : Chg (t :: rtB q v) w w') : SeqV w' Br Bg L :=
  hs.keep ⟨hc.size, fun _ _ hb => h.keepB hc (by decide) (by decide) (by decide) hb, fun _ _ hb => h.keepB hc (by decide) (by decide) (by decide) hb⟩ (fun _ hb => h.keepB hc (by decide) (by decide) (by decide) hb) (fun _ hb => h.keepB hc (by decide) (by decide) (by decide) hb)
/-- Rows apart. -/
def Apart (v u : Value) : Prop := ∀ g, v.ownBlock = some g → u.ownBlock ≠ some g
theorem OwnE.over {t q : Nat} {v u : Value} {lim : Int} {T : Tr} {w w' : World} {B : Nat} {L : List En} (hu : OwnE w B u L) (h : Bth t q v lim T w) (ha : Apart v u) (hc : Chg (t :: rtB q v) w w') : OwnE w' B u L := by
  refine hc.owns hu fun g hg hm => ?_
  obtain ⟨c, _, hb⟩ := hu.block hg
  rcases List.mem_cons.1 hm with rfl | hm
  · obtain ⟨x, hx, _⟩ := h.tr.blk
    have := hb.symm.trans (show w.heap[g]? = _ from hx)
    simp only [Option.some.injEq, Obj.cells.injEq] at this
    exact absurd this.2.1 (by decide)
  · rcases mem_rtB.1 hm with rfl | hm
    · have := hb.symm.trans (show w.heap[g]? = _ from h.rt.blk)
      simp only [Option.some.injEq, Obj.cells.injEq] at this
      exact absurd this.2.1 (by decide)
    · exact ha g hm hg
theorem Apart.fresh {v v' u : Value} {w : World} {B : Nat} {L : List En} (h : Apart v u) (hf : Fresh w v v') (hu : OwnE w B u L) : Apart v' u := by
  rcases hf with rfl | hf
  · exact h
  · intro g hg e
    have h1 := hf g hg
    obtain ⟨c, _, hb⟩ := hu.block e
    have := (Array.getElem?_eq_some_iff.1 hb).1
    omega
/-- A value's row lies from here on. -/
def RowFrom (B : Nat) (v : Value) : Prop := ∀ g, v.ownBlock = some g → B ≤ g
theorem RowFrom.fresh {B : Nat} {v v' : Value} {w : World} (h : RowFrom B v) (hf : Fresh w v v') (hB : B ≤ w.heap.size) : RowFrom B v' := by
  rcases hf with rfl | hf
  · exact h
  · exact fun g hg => Nat.le_trans hB (hf g hg)
theorem Bth.below {t q : Nat} {v : Value} {w w' : World} {B : Nat} (hc : Chg (t :: rtB q v) w w') (hB : B ≤ w.heap.size) (h1 : B ≤ t) (h2 : B ≤ q) (h3 : RowFrom B v) : Below B w w' :=
  hc.below hB fun b hb => by
    rcases List.mem_cons.1 hb with rfl | hb
    · exact h1
    · rcases mem_rtB.1 hb with rfl | hb
      · exact h2
      · exact h3 b hb
theorem Bth.fewS {t q : Nat} {v : Value} {lim : Int} {T : Tr} {w : World} (h : Bth t q v lim T w) {n : Nat} (hl : lim ≤ n) (hn : n ≤ 400000) : T.size ≤ 1000000 ∧ T.el.length ≤ n := by
  have h1 := h.tr.le
  unfold lm at h1
  have h2 : T.el.length ≤ n := by omega
  have h3 := size_le h.tr.inv h2
  exact ⟨by omega, h2⟩
theorem bth_new {t q : Nat} {lim : Int} {w : World} (h : TSt t (lm lim) .nil w) (hb : BlkAt 30 q [.slice none 0 0, .int .i64 lim] w) : Bth t q (.slice none 0 0) lim .nil w := ⟨h, ⟨hb, OwnE.nil _ _⟩⟩

set_option maxHeartbeats 4000000 in
set_option maxRecDepth 100000 in
theorem trieHolds_walk (u0 : Value) (l : List Ac) (u1 : Value) (r : List Ac) (a : Int) (w : World) (hl : Rds 4 Ac.cs w u0 l) (hln : l.length ≤ 9223372036854775807) (hky : ∀ x ∈ l, x.Ok) (hr : Rds 4 Ac.cs w u1 r) (hrn : r.length ≤ 9223372036854775807) (hrk : ∀ x ∈ r, x.Ok) (ha0 : 0 ≤ a) (ha1 : a < 4294967296) :
    Calls Try.prog 4 #[u0, u1, .int .u32 a] w fun e w' => e = .returned (.bool true) ∧ Below w.heap.size w w' := by
  obtain ⟨la, lc, rfl⟩ := hl.form
  obtain ⟨ra, rc, rfl⟩ := hr.form
  have HL := Lib.hid hl
  have HR := Lib.hid hr
  have HK := Lib.hid hky
  have HQ := Lib.hid hrk
  clear hl hr hky hrk
  by_cases hgo : l.length ≤ 60 ∧ r.length ≤ 60
  · obtain ⟨hl60, hr60⟩ := hgo
    have k1 : ¬ (60 : Int) < l.length := by omega
    have k2 : ¬ (60 : Int) < r.length := by omega
    have HN := Lib.hid (newT 100 w (by decide))
    go_enter Try.func4, Try.ntmps4
    go_wp2_with fail
    refine HN.out.mono ?_
    rintro e w1 ⟨rfl, h1, b1⟩
    have hq := BlkAt.new w1 (t := 30) [.slice none 0 0, .int .i64 100]
    have b2 := ba1 w1 (.cells #[.slice none 0 0, .int .i64 100] 30)
    have hB := bth_new (show TSt w.heap.size 100 .nil _ from TSt.later h1 b2) hq
    have HQ1 : Hid (w.heap.size ≤ w1.heap.size) := b1.size
    have HBW := Lib.hid (below_of b1 b2)
    have HB0 := Lib.hid hB
    obtain ⟨q, hqq⟩ : ∃ q, q = w1.heap.size := ⟨_, rfl⟩
    rw [← hqq] at HB0 HQ1
    clear h1 b1 HN k1 k2 hq b2 hB
    go_wp2_with fail
    rw [← hqq]
    obtain ⟨w2, hw2⟩ : ∃ w2, w2 = w1.alloc (.cells #[.slice none 0 0, .int .i64 100] 30) := ⟨_, rfl⟩
    rw [← hw2] at HB0 HBW ⊢
    clear hqq hw2
    go_loopw [9] (fun x wr => ∃ (i : Nat) (T : Tr) (v : Value), i ≤ l.length ∧ x = .int .i64 i ∧ Hid (Bth w.heap.size q v 100 T wr) ∧ Hid (RowFrom w.heap.size v) ∧ Hid (Below w.heap.size w wr)) (fun x _ => l.length - (intOf x).toNat)
    case atStart => exact ⟨0, .nil, _, Nat.zero_le _, rfl, HB0, (fun g hg => by cases hg), HBW⟩
    case round =>
      obtain ⟨i, T, v, hi, rfl, HT, HV, HBr⟩ := hrel
      cases hx : l[i]? with
      | some c =>
        obtain ⟨g, o, rfl, _, hc⟩ := (show Rds 4 Ac.cs wr (.slice la l.length lc) l from HL.out.later HBr.out).at hx
        have k0 : (i : Int) < l.length := by have := (List.getElem?_eq_some_iff.1 hx).1; omega
        have c0 := hc 0 _ rfl
        have c1 := hc 1 _ rfl
        have c2 := hc 2 _ rfl
        have c3 := hc 3 _ rfl
        have hp := (HK.out c (List.mem_of_getElem? hx)).p.ad
        obtain ⟨hsz, hlen⟩ := HT.out.fewS (n := 100) (by decide) (by decide)
        have HC := Lib.hid (doT HT.out hsz (by omega) c hp)
        clear hc hx hp hsz hlen
        rw [Nat.add_zero] at c0
        obtain ⟨del, ⟨pa, pn⟩, cx⟩ := c
        simp only [Ac.val] at c0 c1 c2 c3 HC
        go_wp2_with fail
        refine HC.out.mono ?_
        rintro e w3 ⟨rfl, v', hB3, hC3, hF3⟩
        have HB3 := Lib.hid hB3
        have HV3 := Lib.hid (HV.out.fresh hF3 HBr.out.size)
        have HBl3 := Lib.hid (HBr.out.trans (Bth.below hC3 HBr.out.size (Nat.le_refl _) HQ1.out HV.out))
        clear hB3 hC3 hF3 c0 c1 c2 c3 HC
        go_wp2_with fail
        go_roundw
        case rel => exact ⟨i + 1, _, v', by omega, by go_num, HB3, HV3, HBl3⟩
        case measure => simp [intOf]; omega
      | none =>
        have e : i = l.length := by have := List.getElem?_eq_none_iff.1 hx; omega
        subst e
        clear hx
        obtain ⟨hsz, hlen⟩ := HT.out.fewS (n := 100) (by decide) (by decide)
        have HLn := Lib.hid hlen
        obtain ⟨L, hLL⟩ : ∃ L, L = T.el := ⟨_, rfl⟩
        have HA := Lib.hid (allT HT.out.tr)
        have HUp := Lib.hid HT.out.tr.inv.up
        have HOk := Lib.hid HT.out.tr.inv.okE
        clear hsz hlen
        go_wp2_with fail
        refine HA.out.mono ?_
        rintro e w3 ⟨Br, Bg, rfl, hs1, _, _, b3⟩
        have HS1 := Lib.hid hs1
        have HB3 := Lib.hid (HT.out.later b3)
        have HBl3 := Lib.hid (below_of HBr.out b3)
        clear hs1 b3 HA
        have HA := Lib.hid (coversT HB3.out.tr ha0 ha1)
        unfold seqF
        go_wp2_with fail
        refine HA.out.mono ?_
        rintro e w4 ⟨Br2, Bg2, rfl, hs2, _, _, b4⟩
        have HS2 := Lib.hid hs2
        have HS14 := Lib.hid (HS1.out.later b4)
        have HB4 := Lib.hid (HB3.out.later b4)
        have HBl4 := Lib.hid (below_of HBl3.out b4)
        clear hs2 b4 HA HB3 HS1
        unfold seqF
        obtain ⟨vf, vc, hvf⟩ := HB4.out.rt.own.form
        have q0 := HB4.out.rt.cells.1
        have HApp := Lib.hid (run_appE w4 w4.heap.size (.slice none 0 0) v [] T.el (OwnE.nil _ _) HB4.out.rt.own.reads (by have := HLn.out; simp; omega) (Nat.le_refl _))
        rw [hvf] at q0 HApp
        go_wp2_with (at_builtin; refine wpList_appT rfl (.const (.slice none 0 0)) (.tmp 51) _ _ rfl (.slice none 0 0) (.slice vf T.el.length vc) _ rfl rfl HApp.out ?_; intro v12 w5 hc)
        obtain ⟨hc1, hc2, _⟩ := hc
        rw [List.nil_append] at hc1
        have HL1 := Lib.hid hc1
        have HS15 := Lib.hid (HS14.out.later hc2)
        have HS25 := Lib.hid (HS2.out.later hc2)
        have HB5 := Lib.hid (HB4.out.later hc2)
        have HBl5 := Lib.hid (below_of HBl4.out hc2)
        have HA1 : Hid (Apart v v12) := by
          intro g hg e
          obtain ⟨_, _, h1⟩ := HB4.out.rt.own.block hg
          have h2 := (Array.getElem?_eq_some_iff.1 h1).1
          obtain ⟨_, h3, _⟩ := hc1.block e
          omega
        clear hc1 hc2 HApp HB4 HS14 HS2 q0
        have HA := Lib.hid (coversR HB5.out.rt (by have := HLn.out; omega) HUp.out HOk.out ha0 ha1)
        go_wp2_with fail
        refine HA.out.mono ?_
        rintro e w6 ⟨v13, rfl, hc, b6⟩
        have HL16 := Lib.hid (HL1.out.later b6)
        have HL2 := Lib.hid hc
        have HS16 := Lib.hid (HS15.out.later b6)
        have HS26 := Lib.hid (HS25.out.later b6)
        have HB6 := Lib.hid (HB5.out.later b6)
        have HBl6 := Lib.hid (below_of HBl5.out b6)
        have HA2 : Hid (Apart v v13) := by
          intro g hg e
          obtain ⟨_, _, h1⟩ := HB5.out.rt.own.block hg
          have h2 := (Array.getElem?_eq_some_iff.1 h1).1
          obtain ⟨_, h3, _⟩ := hc.block e
          omega
        have HCl : Hid ((T.el.filter (Tp.hasE a)).length ≤ T.el.length) := List.length_filter_le _ _
        obtain ⟨L2, hL2⟩ : ∃ L2, L2 = T.el.filter (Tp.hasE a) := ⟨_, rfl⟩
        rw [← hL2] at HL2 HS26 HCl
        rw [← hLL] at HL16 HS16 HCl HLn
        clear hc b6 HL1 HS15 HS25 HB5 HA hL2 hLL HT HBr HUp HOk hvf
        obtain ⟨B1, hB1⟩ : ∃ B, B = w4.heap.size := ⟨_, rfl⟩
        rw [← hB1] at HL16
        obtain ⟨B2, hB2⟩ : ∃ B, B = w5.heap.size := ⟨_, rfl⟩
        rw [← hB2] at HL2
        clear hB1 hB2
        go_wp2_with fail
        go_loopw [14] (fun x wr => ∃ (i : Nat) (T : Tr) (v : Value), i ≤ r.length ∧ x = .int .i64 i ∧ Hid (Bth w.heap.size q v 100 T wr) ∧ Hid (RowFrom w.heap.size v) ∧ Hid (Below w.heap.size w wr) ∧ Hid (SeqV wr Br Bg L) ∧ Hid (SeqV wr Br2 Bg2 L2) ∧ Hid (OwnE wr B1 v12 L) ∧ Hid (OwnE wr B2 v13 L2) ∧ Hid (Apart v v12) ∧ Hid (Apart v v13)) (fun x _ => r.length - (intOf x).toNat)
        case atStart => exact ⟨0, _, v, Nat.zero_le _, rfl, HB6, HV, HBl6, HS16, HS26, HL16, HL2, HA1, HA2⟩
        case round =>
          obtain ⟨i, T, v, hi, rfl, HT, HV, HBr, HS1, HS2, HL1, HL2, HA1, HA2⟩ := hrel
          cases hx : r[i]? with
          | some c =>
            obtain ⟨g, o, rfl, _, hc⟩ := (show Rds 4 Ac.cs wr (.slice ra r.length rc) r from HR.out.later HBr.out).at hx
            have k0 : (i : Int) < r.length := by have := (List.getElem?_eq_some_iff.1 hx).1; omega
            have c0 := hc 0 _ rfl
            have c1 := hc 1 _ rfl
            have c2 := hc 2 _ rfl
            have c3 := hc 3 _ rfl
            have hp := (HQ.out c (List.mem_of_getElem? hx)).p.ad
            obtain ⟨hsz, hlen⟩ := HT.out.fewS (n := 100) (by decide) (by decide)
            have HC := Lib.hid (doT HT.out hsz (by omega) c hp)
            clear hc hx hp hsz hlen
            rw [Nat.add_zero] at c0
            obtain ⟨del, ⟨pa, pn⟩, cx⟩ := c
            simp only [Ac.val] at c0 c1 c2 c3 HC
            go_wp2_with fail
            refine HC.out.mono ?_
            rintro e w3 ⟨rfl, v', hB3, hC3, hF3⟩
            have HB3 := Lib.hid hB3
            have HV3 := Lib.hid (HV.out.fresh hF3 HBr.out.size)
            have HBl3 := Lib.hid (HBr.out.trans (Bth.below hC3 HBr.out.size (Nat.le_refl _) HQ1.out HV.out))
            have HS1' := Lib.hid (HS1.out.over HT.out hC3)
            have HS2' := Lib.hid (HS2.out.over HT.out hC3)
            have HL1' := Lib.hid (HL1.out.over HT.out HA1.out hC3)
            have HL2' := Lib.hid (HL2.out.over HT.out HA2.out hC3)
            have HA1' := Lib.hid (HA1.out.fresh hF3 HL1.out)
            have HA2' := Lib.hid (HA2.out.fresh hF3 HL2.out)
            clear hB3 hC3 hF3 c0 c1 c2 c3 HC
            go_wp2_with fail
            go_roundw
            case rel => exact ⟨i + 1, _, v', by omega, by go_num, HB3, HV3, HBl3, HS1', HS2', HL1', HL2', HA1', HA2'⟩
            case measure => simp [intOf]; omega
          | none =>
            have e : i = r.length := by have := List.getElem?_eq_none_iff.1 hx; omega
            subst e
            clear hx
            have HF0 := Lib.hid (onceT HS1.out HL1.out.reads (by have := HLn.out; omega) 0)
            go_wp2_with fail
            unfold seqF at HF0
            refine HF0.out.mono ?_
            rintro e w6 ⟨rfl, b6⟩
            have HS6 := Lib.hid (HS2.out.later b6)
            have HL6 := Lib.hid (HL2.out.later b6)
            have HB6 := Lib.hid (below_of HBr.out b6)
            clear b6 HF0
            have HF0 := Lib.hid (onceT HS6.out HL6.out.reads (by have := HLn.out; have := HCl.out; omega) 0)
            go_wp2_with fail
            unfold seqF at HF0
            refine HF0.out.mono ?_
            rintro e w7 ⟨rfl, b7⟩
            have HB7 := Lib.hid (below_of HB6.out b7)
            clear b7 HF0
            go_wp2_with fail
            refine (knownT _).mono ?_
            rintro e w8 ⟨rfl, b8⟩
            have HB8 := Lib.hid (below_of HB7.out b8)
            clear b8
            go_wp2_with fail
            go_ret
            exact ⟨rfl, HB8.out⟩
  · by_cases hl60 : l.length ≤ 60
    · have k1 : ¬ (60 : Int) < l.length := by omega
      have k2 : (60 : Int) < r.length := by omega
      clear hgo
      go_enter Try.func4, Try.ntmps4
      go_wp2_with fail
      refine (knownT _).mono ?_
      rintro e w1 ⟨rfl, b1⟩
      have B1 := Lib.hid b1
      clear b1
      go_wp2_with fail
      go_ret
      exact ⟨rfl, B1.out⟩
    · have k1 : (60 : Int) < l.length := by omega
      clear hgo
      go_enter Try.func4, Try.ntmps4
      go_wp2_with fail
      refine (knownT _).mono ?_
      rintro e w1 ⟨rfl, b1⟩
      have B1 := Lib.hid b1
      clear b1
      go_wp2_with fail
      go_ret
      exact ⟨rfl, B1.out⟩
end Go.Proofs.Ytbfkjdnopiadjaa
