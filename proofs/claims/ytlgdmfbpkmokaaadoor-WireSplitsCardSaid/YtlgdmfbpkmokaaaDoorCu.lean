/- The walk of wire.Cut. -/
import Derived.Test.YtlgdmfbpkmokaaaDoorCm
import Derived.Test.YtlgdmfbpkmokaaaDoorShelf
namespace Go.Proofs.YtlgdmfbpkmokaaaDoor
open Go.RowKit
attribute [local go_sem ↓] Go.wp_at_zero Go.wp_at_succ

theorem neg_any (z : Int) (w : World) : Calls Tryd.prog 28 #[.int .i64 z] w fun e w' => e = .returned (.bool (decide (z < 0))) ∧ w = w' := by
  go_enter Tryd.func28, Tryd.ntmps28
  go_wp2
  go_ret
  exact ⟨rfl, rfl⟩

set_option maxHeartbeats 1000000 in
theorem contains_any (b : Option Addr) (c : Nat) (zs : List Int) (w : World) (hv : Row w (.slice b zs.length c) (iv zs)) (hz : zs.length ≤ 9223372036854775807) :
    Calls Tryd.prog 27 #[.slice b zs.length c, .func (.func 28) #[] #[]] w fun e w' => e = .returned (.bool (zs.any (· < 0))) ∧ w = w' := by
  have hidx : Calls Tryd.prog 40 #[.slice b zs.length c, .func (.func 28) #[] #[]] w fun e w' => ∃ i : Int, e = .returned (.int .i64 i) ∧ (decide (0 ≤ i) = zs.any (· < 0)) ∧ w = w' := by
    have HV := Lib.hid hv
    clear hv
    have hz2 : (zs.length : Int) ≤ 9223372036854775807 := by omega
    clear hz
    go_enter Tryd.func40, Tryd.ntmps40
    go_wp2_with fail
    go_loop [5, 8] (fun _ i => ∃ k : Nat, k ≤ zs.length ∧ i = .int .i64 k ∧ Hid ((zs.take k).any (· < 0) = false)) (fun _ i => zs.length - (intOf i).toNat)
    case atStart => exact ⟨0, Nat.zero_le _, rfl, rfl⟩
    case round =>
      obtain ⟨k, hk, rfl, HN⟩ := hrel
      rcases Nat.lt_or_ge k zs.length with hlt | hge
      · have g1 : (k : Int) < zs.length := by omega
        obtain ⟨bl, bo, rfl, hbl, hc⟩ := HV.out.at (iv_at hlt)
        obtain ⟨z, hzz⟩ : ∃ z, z = zs[k] := ⟨_, rfl⟩
        rw [← hzz] at hc
        have ht : (zs.take (k + 1)).any (· < 0) = ((zs.take k).any (· < 0) || decide (z < 0)) := by
          rw [List.take_succ_eq_append_getElem hlt, List.any_append, hzz]; simp
        have HT := Lib.hid ht
        have HZ := Lib.hid hzz
        clear ht hzz
        by_cases hn : z < 0
        · have hd : decide (z < 0) = true := by simpa using hn
          have ha : zs.any (· < 0) = true := List.any_eq_true.2 ⟨z, by rw [HZ.out]; exact List.getElem_mem hlt, by simpa using hn⟩
          have HA := Lib.hid ha
          clear ha
          go_wp2_with fail
          refine (neg_any z w).mono ?_
          rintro e w1 ⟨rfl, rfl⟩
          rw [hd]
          go_wp2_with fail
          go_ret
          exact ⟨_, rfl, by rw [HA.out]; exact decide_eq_true (by omega), rfl⟩
        · have hd : decide (z < 0) = false := by simpa using hn
          go_wp2_with fail
          refine (neg_any z w).mono ?_
          rintro e w1 ⟨rfl, rfl⟩
          rw [hd]
          have HD := Lib.hid hd
          clear hd
          go_wp2_with fail
          go_round
          case rel => exact ⟨k + 1, by omega, by go_num, by show _ = _; rw [HT.out, HN.out, HD.out]; rfl⟩
          case measure => simp [intOf]; omega
      · have e : k = zs.length := by omega
        subst e
        go_wp2_with fail
        go_ret
        refine ⟨-1, rfl, ?_, rfl⟩
        have := HN.out
        rw [List.take_length] at this
        rw [this]; rfl
  go_enter Tryd.func27, Tryd.ntmps27
  go_wp2_with fail
  refine hidx.mono ?_
  rintro e w1 ⟨i, rfl, hi, rfl⟩
  have HI := Lib.hid hi
  clear hi
  go_wp2_with fail
  go_ret
  exact ⟨ret_b HI.out, rfl⟩

/-- A copy of bytes, in new memory. -/
theorem clone_any (v : Value) (l : List UInt8) (w : World) (hv : Bytes w v l) (hl : l.length ≤ 140737488355328) :
    Calls Tryd.prog 29 #[v] w fun e w' => ∃ v', e = .returned v' ∧ OwnB w' w.heap.size v' l ∧ Below w.heap.size w w' := by
  obtain ⟨a, c, rfl⟩ := hv.form
  cases a with
  | none =>
    obtain ⟨e1, rfl, rfl⟩ := hv.noaddr
    refine (Tryd.bytes_Clone_nil _ _ w).mono ?_
    rintro e w' ⟨rfl, rfl⟩
    exact ⟨_, rfl, OwnB.nil _ _, Below.refl _ _⟩
  | some ad =>
    refine (Tryd.bytes_Clone_at ad l.length c (l.map fun b => (b.toNat : Int)) w (by simp) hl (fun i hi => ?_)).mono ?_
    · have := hv.news i (.int .u8 (l[i].toNat : Int)) (by simp [bv, hi])
      rw [this]; simp [hi]
    · rintro e w' ⟨v', rfl, h1, _, h2⟩
      refine ⟨v', rfl, ?_, h2⟩
      rw [List.map_map] at h1
      exact h1

/-- A part: it reads as these bytes, and lies in block g. -/
def PartIn (w : World) (g : Nat) (u : Value) (l : List UInt8) : Prop := Bytes w u l ∧ (l ≠ [] → ∃ o c, u = .slice (some ⟨g, o, none⟩) l.length c)
/-- A row of parts that the call owns; the parts themselves as they read in wc. -/
def OwnL (wc w : World) (g B : Nat) (v : Value) (P : List (List UInt8)) : Prop :=
  ∃ xs : List Value, w.ownsRow B 23 1 v P.length xs ∧ ∀ (j : Nat) (u : Value) (l : List UInt8), xs[j]? = some u → P[j]? = some l → PartIn wc g u l

theorem info24 : ∃ i0, Tryd.prog.info? 23 = some i0 ∧ i0.zero = some (.slice none 0 0) ∧ i0.size = 1 ∧ i0.bytes = 24 := by
  have hi5 : (Tryd.prog.info? 23).map (fun i => (i.zero, i.size, i.bytes)) = some (some (.slice none 0 0), 1, 24) := by kernel_rfl
  obtain ⟨i0, hi, hx⟩ := Option.map_eq_some_iff.1 hi5
  simp only [Prod.mk.injEq] at hx
  exact ⟨i0, hi, hx.1, hx.2.1, hx.2.2⟩
theorem OwnL.push {wc w2 : World} {g B : Nat} {v' u : Value} {P : List (List UInt8)} {l : List UInt8} {xs : List Value}
    (h : ∀ (j : Nat) (u : Value) (l : List UInt8), xs[j]? = some u → P[j]? = some l → PartIn wc g u l) (hl : xs.length = P.length) (ho : w2.ownsRow B 23 1 v' (P.length + 1) (xs ++ [u])) (hu : PartIn wc g u l) : OwnL wc w2 g B v' (P ++ [l]) := by
  refine ⟨xs ++ [u], by simpa using ho, fun j x y hx hy => ?_⟩
  rcases Nat.lt_or_ge j P.length with hj | hj
  · rw [List.getElem?_append_left (by omega)] at hx hy
    exact h j x y hx hy
  · rw [List.getElem?_append_right (by omega)] at hx hy
    have hj0 : j = P.length := by
      have := (List.getElem?_eq_some_iff.1 hy).1
      simp at this; omega
    subst hj0
    rw [hl] at hx
    simp at hx hy
    subst hx hy
    exact hu
theorem PartIn.cut_hm {w : World} {g c : Nat} {a : Option Addr} {l : List UInt8} (h : PartIn w g (.slice a l.length c) l) (i : Int) (n : Nat) (hi : i = n) (hn : n ≤ l.length) :
    (∀ w, (Instr.slice 23 (.slice a l.length c) none (some (.int .i64 i)) (some (.int .i64 i))).run Tryd.prog w = .ok (.slice a n n) w) ∧ PartIn w g (.slice a n n) (l.take n) := by
  have hc := h.1.cap
  subst hi
  have hb := h.1.sliced (lo := 0) (Nat.zero_le _) hn (Nat.le_refl _) (by omega)
  have e : Go.sliced a 0 n n 1 = .slice a n n := by
    unfold Go.sliced
    congr 1
    split
    · rfl
    · cases a <;> simp [Addr.add]
  rw [e, List.drop_zero] at hb
  refine ⟨fun w => ?_, hb, fun h0 => ?_⟩
  · rw [run_slice_hm w _ a _ _ cells1 _ _ _ _ (by omega) (by omega) (by omega), size1]
    show Result.ok (Go.sliced a 0 _ _ 1) w = _
    rw [Int.toNat_natCast, e]
  · have h1 : l ≠ [] := by intro e; subst e; simp at h0
    obtain ⟨o, c', e⟩ := h.2 h1
    simp only [Value.slice.injEq] at e
    obtain ⟨rfl, _, rfl⟩ := e
    exact ⟨o, n, by rw [List.length_take, Nat.min_eq_left hn]⟩
theorem PartIn.cut_l {w : World} {g c : Nat} {a : Option Addr} {l : List UInt8} (h : PartIn w g (.slice a l.length c) l) (i : Int) (n : Nat) (hi : i = n) (hn : n ≤ l.length) :
    ∃ a', (∀ w, (Instr.slice 23 (.slice a l.length c) (some (.int .i64 i)) none none).run Tryd.prog w = .ok (.slice a' (l.length - n) (c - n)) w) ∧ PartIn w g (.slice a' (l.length - n) (c - n)) (l.drop n) := by
  have hc := h.1.cap
  subst hi
  have hb := h.1.sliced hn (Nat.le_refl _) hc (Nat.le_refl _)
  rw [List.take_length] at hb
  refine ⟨_, fun w => ?_, hb, fun h0 => ?_⟩
  · rw [run_slice_l w _ a _ _ cells1 _ _ (by omega) (by omega), size1]
    rfl
  · have h1 : l ≠ [] := by intro e; subst e; simp at h0
    obtain ⟨o, c', e⟩ := h.2 h1
    simp only [Value.slice.injEq] at e
    obtain ⟨rfl, _, rfl⟩ := e
    have h2 : n < l.length := by
      rcases Nat.lt_or_ge n l.length with h2 | h2
      · exact h2
      · exact absurd (List.drop_eq_nil_of_le h2) h0
    rw [if_neg (by omega)]
    refine ⟨o + n, c - n, ?_⟩
    simp only [Option.map_some, Nat.mul_one, List.length_drop, Value.slice.injEq, Option.some.injEq, and_true]
    unfold Addr.add
    by_cases h0 : n = 0 <;> simp [h0]

/-- What the parts that are answered are: in new memory, each by itself readable. -/
def CutAns (w : World) (v : Value) (P : List (List UInt8)) (w' : World) : Prop :=
  (∃ g wc, w.heap.size ≤ g ∧ w.heap.size ≤ wc.heap.size ∧ OwnL wc w' g wc.heap.size v P ∧ Below wc.heap.size wc w' ∧ (P.flatten ≠ [] → g < wc.heap.size ∧ ∀ o, w'.frozen? ⟨g, o, none⟩ = false)) ∧ Below w.heap.size w w'

set_option maxHeartbeats 4000000 in
set_option maxRecDepth 100000 in
theorem cutW_loop (a : Option Addr) (c : Nat) (l : List UInt8) (b : Option Addr) (d : Nat) (zs : List Int) (w : World) (hv : Bytes w (.slice a l.length c) l) (hr : Row w (.slice b zs.length d) (iv zs)) (hl : l.length ≤ 20000) (hz : zs.length ≤ 20000) (hn : zs.any (· < 0) = false) :
    Calls Tryd.prog 10 #[.slice a l.length c, .slice b zs.length d] w fun e w' => ∃ v, e = .returned (.tuple #[v, .int .i64 (cutN l zs)]) ∧ CutAns w v (cutP l zs) w' := by
  have HV := Lib.hid hv
  have HR := Lib.hid hr
  have HN := Lib.hid hn
  have hz2 : (zs.length : Int) ≤ 20000 := by omega
  have Hl := Lib.hid hl
  have Hz := Lib.hid hz
  clear hv hr hn hl hz
  go_enter Tryd.func10, Tryd.ntmps10
  go_wp2_with fail
  refine (contains_any b d zs w HR.out (by have := Hz.out; omega)).mono ?_
  rintro e w0 ⟨rfl, rfl⟩
  rw [HN.out]
  go_wp2_with fail
  refine (clone_any _ l w HV.out (by have := Hl.out; omega)).mono ?_
  rintro e w1 ⟨v1, rfl, ho1, hb1⟩
  obtain ⟨i0, hi, hz0, hz1, hby⟩ := info24
  go_wp2_with (refine wpList_make_own _ rfl _ _ 22 rfl w1.heap.size 23 i0 (.slice none 0 0) 1 Tryd.underlying22 hi hz0 hz1 .i64 .i64 (zs.length : Int) zs.length rfl rfl rfl (by rw [hby]; have := Hz.out; omega) (by unfold maxLen; have := Hz.out; omega) (Nat.le_refl _) ?_)
  intro w2 ho2 hg2
  obtain ⟨g, hgb, hpart, hgf⟩ : ∃ g, w.heap.size ≤ g ∧ PartIn w1 g v1 l ∧ (l ≠ [] → g < w1.heap.size ∧ ∀ o, w1.frozen? ⟨g, o, none⟩ = false) := by
    by_cases h0 : l = []
    · exact ⟨w.heap.size, Nat.le_refl _, ⟨ho1.bytes, fun h => absurd h0 h⟩, fun h => absurd h0 h⟩
    · have hlp : 0 < l.length := List.length_pos_iff.2 h0
      obtain ⟨g, cap, hv1, h1, h2⟩ := World.ownsRow.form ho1 hlp
      subst hv1
      exact ⟨g, h1, ⟨ho1.bytes, fun _ => ⟨0, cap, rfl⟩⟩, fun _ => ⟨h2, fun o => World.ownsRow.frozenAt ho1 o⟩⟩
  obtain ⟨a1, c1, rfl⟩ := ho1.bytes.form
  have HP := Lib.hid hpart
  have HG := Lib.hid hgf
  have HB1 := Lib.hid hb1
  have HB2 := Lib.hid (show Below w1.heap.size w1 w2 from (Below.refl _ _).grown hg2 (Nat.le_refl _) (fun j hj => by cases hj))
  have HO2 := Lib.hid (show OwnL w1 w2 g w1.heap.size (.slice (some ⟨w1.heap.size, 0, none⟩) 0 zs.length) [] from ⟨[], ho2, fun j u x hu => by simp at hu⟩)
  have HGB := Lib.hid hgb
  clear ho1 hb1 ho2 hg2 hpart hgf hgb
  go_wp2_with fail
  go_loopw [6, 7, 19] (fun r v i wr => ∃ (k : Nat) (done : List (List UInt8)) (cur : List UInt8) (a' : Option Addr) (c' : Nat), k ≤ zs.length ∧ i = .int .i64 k ∧ r = .slice a' cur.length c' ∧ Hid (PartIn w1 g (.slice a' cur.length c') cur) ∧ Hid (OwnL w1 wr g w1.heap.size v done) ∧ Hid (done.length = k) ∧ Hid (cur.length ≤ l.length) ∧ Hid (cutGo l zs = (cutGo cur (zs.drop k)).map (done ++ ·)) ∧ Hid (Below w1.heap.size w1 wr)) (fun _ _ i _ => zs.length - (intOf i).toNat)
  case atStart => exact ⟨0, [], l, a1, c1, Nat.zero_le _, rfl, rfl, HP.out, HO2.out, rfl, Nat.le_refl _, by show _ = _; simp, HB2.out⟩
  case round =>
    obtain ⟨k, done, cur, a', c', hk, rfl, rfl, HC, HO, HD, HCL, HM, HB⟩ := hrel
    have hcl : (cur.length : Int) ≤ 20000 := by have := HCL.out; have := Hl.out; omega
    rcases Nat.lt_or_ge k zs.length with hlt | hge
    · have g1 : (k : Int) < zs.length := by omega
      obtain ⟨bl, bo, rfl, hbl, hcz⟩ := HR.out.at (iv_at hlt)
      have hcz' := cell_later' (below_of HB1.out HB.out) hbl hcz
      have b1 : bl < wr.heap.size := World.block_lt_of_cell? _ _ hcz'
      have hzn := any_drop HN.out hlt
      obtain ⟨n, hn⟩ := Int.eq_ofNat_of_zero_le hzn
      rw [hn] at hcz'
      clear hcz hzn
      rcases Nat.lt_or_ge cur.length n with hlong | hfit
      · have g2 : (cur.length : Int) < n := by omega
        have hnone := cut_none HN.out (cut_stop hlt HM.out (by rw [hn]; exact g2))
        have HNo := Lib.hid hnone
        clear hnone hn
        go_wp2_with fail
        go_ret2
        rw [HNo.out.1, HNo.out.2]
        refine ⟨_, rfl, ⟨w.heap.size, wr, Nat.le_refl _, (below_of HB1.out HB.out).size, ⟨[], World.ownsRow_nil _ _ _ _, fun j u x hu => by simp at hu⟩, Below.refl _ _, fun h => absurd rfl h⟩, below_of HB1.out HB.out⟩
      · have g2 : (n : Int) ≤ cur.length := by omega
        have hstep := cut_step hlt HM.out (by rw [hn]; omega)
        rw [hn, Int.toNat_natCast] at hstep
        have HM2 := Lib.hid hstep
        obtain ⟨hr1, hp1⟩ := HC.out.cut_hm (n : Int) n rfl hfit
        obtain ⟨a2, hr2, hp2⟩ := HC.out.cut_l (n : Int) n rfl hfit
        have HP1 := Lib.hid hp1
        have HP2 := Lib.hid hp2
        obtain ⟨xs, hox, hxs⟩ := HO.out
        have HOX := Lib.hid hox
        have HXS := Lib.hid hxs
        clear hn hstep hp1 hp2 hox hxs
        go_wp2_with (at_builtin; refine wpList_append_own _ rfl _ _ 22 rfl w1.heap.size 23 i0 (.slice none 0 0) 1 24 Tryd.underlying22 hi hz0 hz1 hby rfl (by decide) _ _ _ rfl (HOX.out.alloc _) ⟨wr.heap.size, 0, none⟩ 1 1 [.slice a' n n] rfl rfl (news_one wr _ _) (one_slice _ _ _) (by unfold maxLen; have := HD.out; have := Hz.out; omega) (by have := HD.out; have := Hz.out; omega) (by simp; exact Nat.le_succ_of_le HB.out.size) ?_)
        intro v' w3 hown' hgrow _
        have HO3 : Hid (OwnL w1 w3 g w1.heap.size v' (done ++ [cur.take n])) := by
          refine OwnL.push HXS.out ?_ hown' HP1.out
          have := HOX.out.1
          simpa using this
        have HB3 : Hid (Below w1.heap.size w1 w3) := (HB.out.alloc HB.out.size _).grown hgrow (by simp; exact Nat.le_succ_of_le HB.out.size) (fun j hj => own_base HOX.out hj)
        have HLen : Hid ((cur.drop n).length = cur.length - n) := by show _ = _; simp
        clear hown' hgrow
        go_wp2_with fail
        go_roundw
        case rel => exact ⟨k + 1, done ++ [cur.take n], cur.drop n, a2, c' - n, by omega, by go_num, by rw [HLen.out], by rw [HLen.out]; exact HP2.out, HO3, by show _ = _; simp [HD.out], by show _ ≤ _; have := HCL.out; rw [HLen.out]; omega, HM2, HB3⟩
        case measure => simp [intOf]; omega
    · have e : k = zs.length := by omega
      subst e
      have hend := cut_end HM.out
      rcases Nat.eq_zero_or_pos cur.length with h0 | h0
      · have h0' : cur = [] := List.eq_nil_of_length_eq_zero h0
        rw [if_pos h0'] at hend
        have HS := Lib.hid (cut_some HN.out hend)
        have HE := Lib.hid hend
        have q0 : (cur.length : Int) = 0 := by omega
        clear hend h0'
        go_wp2_with fail
        go_ret2
        rw [HS.out.1, HS.out.2]
        refine ⟨_, rfl, ⟨g, w1, HGB.out, HB1.out.size, HO.out, HB.out, fun h => ?_⟩, below_of HB1.out HB.out⟩
        have hl0 : l ≠ [] := by rw [← cutGo_flat _ _ _ HE.out]; exact h
        obtain ⟨q1, q2⟩ := HG.out hl0
        exact ⟨q1, fun o => (HB.out.frozen (p := ⟨g, o, none⟩) q1).trans (q2 o)⟩
      · have h0' : cur ≠ [] := by intro e; subst e; simp at h0
        rw [if_neg h0'] at hend
        have HS := Lib.hid (cut_none HN.out hend)
        have q0 : (0 : Int) < cur.length := by omega
        clear hend h0'
        go_wp2_with fail
        go_ret2
        rw [HS.out.1, HS.out.2]
        exact ⟨_, rfl, ⟨w.heap.size, wr, Nat.le_refl _, (below_of HB1.out HB.out).size, ⟨[], World.ownsRow_nil _ _ _ _, fun j u x hu => by simp at hu⟩, Below.refl _ _, fun h => absurd rfl h⟩, below_of HB1.out HB.out⟩

set_option maxHeartbeats 1000000 in
theorem cutW_neg (a : Option Addr) (c : Nat) (l : List UInt8) (b : Option Addr) (d : Nat) (zs : List Int) (w : World) (hr : Row w (.slice b zs.length d) (iv zs)) (hz : zs.length ≤ 20000) (hn : zs.any (· < 0) = true) :
    Calls Tryd.prog 10 #[.slice a l.length c, .slice b zs.length d] w fun e w' => ∃ v, e = .returned (.tuple #[v, .int .i64 (cutN l zs)]) ∧ CutAns w v (cutP l zs) w' := by
  have HR := Lib.hid hr
  have HN := Lib.hid hn
  have HC := Lib.hid (cut_neg (l := l) hn)
  clear hr hn
  go_enter Tryd.func10, Tryd.ntmps10
  go_wp2_with fail
  refine (contains_any b d zs w HR.out (by omega)).mono ?_
  rintro e w0 ⟨rfl, rfl⟩
  rw [HN.out]
  go_wp2_with fail
  go_ret2
  rw [HC.out.1, HC.out.2]
  exact ⟨_, rfl, ⟨w.heap.size, w, Nat.le_refl _, Nat.le_refl _, ⟨[], World.ownsRow_nil _ _ _ _, fun j u x hu => by simp at hu⟩, Below.refl _ _, fun h => absurd rfl h⟩, Below.refl _ _⟩
theorem cutW_any (v : Value) (l : List UInt8) (u : Value) (zs : List Int) (w : World) (hv : Bytes w v l) (hr : Row w u (iv zs)) (hl : l.length ≤ 20000) (hz : zs.length ≤ 20000) :
    Calls Tryd.prog 10 #[v, u] w fun e w' => ∃ v, e = .returned (.tuple #[v, .int .i64 (cutN l zs)]) ∧ CutAns w v (cutP l zs) w' := by
  obtain ⟨a, c, rfl⟩ := hv.form
  obtain ⟨b, d, rfl⟩ := hr.form
  rw [show (iv zs).length = zs.length by simp [iv]] at hr ⊢
  cases hn : zs.any (· < 0) with
  | true => exact cutW_neg a c l b d zs w hr hz hn
  | false => exact cutW_loop a c l b d zs w hv hr hl hz hn
/-- What is answered reads as the parts. -/
theorem OwnL.lists {wc w : World} {g B : Nat} {v : Value} {P : List (List UInt8)} (h : OwnL wc w g B v P) (hb : Below wc.heap.size wc w) : Lists w v P := by
  obtain ⟨xs, ho, hx⟩ := h
  have hl : xs.length = P.length := by simpa using ho.1
  have hr := Row.of_own ho
  rcases hr with ⟨rfl, a, c, rfl, h0⟩ | ⟨b, o, c, rfl, h1, h2, h3⟩
  · exact .inl ⟨List.eq_nil_of_length_eq_zero (by simpa using hl.symm), a, c, rfl, h0⟩
  · refine .inr ⟨b, o, c, by rw [hl], h1, by omega, fun j l hj => ?_⟩
    have hj' : j < xs.length := by rw [hl]; exact (List.getElem?_eq_some_iff.1 hj).1
    exact ⟨xs[j], h3 j _ (List.getElem?_eq_getElem hj'), (hx j _ l (List.getElem?_eq_getElem hj') hj).1.later hb⟩
/-- What is written elsewhere leaves what is answered. -/
theorem CutAns.kept {w0 w' w'' : World} {v : Value} {P : List (List UInt8)} {row : Option Nat} (h : CutAns w0 v P w') (hg : w'.grownBy w'' row) (hrow : ∀ r, row = some r → r < w0.heap.size) : Lists w'' v P := by
  obtain ⟨⟨g, wc, hg0, hw0, ⟨xs, ho, hx⟩, hb, hf⟩, _⟩ := h
  have hl : xs.length = P.length := by simpa using ho.1
  have ho2 : w''.ownsRow wc.heap.size 23 1 v P.length xs := World.ownsRow.kept ho hg (by
    rcases hv : v.ownBlock with _ | j
    · exact .inl rfl
    · refine .inr fun e => ?_
      have h1 := own_base ho hv
      have h2 := hrow j e.symm
      omega)
  rcases Row.of_own ho2 with ⟨rfl, a, c, rfl, h0⟩ | ⟨b, o, c, rfl, h1, h2, h3⟩
  · exact .inl ⟨List.eq_nil_of_length_eq_zero (by simpa using hl.symm), a, c, rfl, h0⟩
  · refine .inr ⟨b, o, c, by rw [hl], h1, by omega, fun j l hj => ?_⟩
    have hj' : j < xs.length := by rw [hl]; exact (List.getElem?_eq_some_iff.1 hj).1
    refine ⟨xs[j], h3 j _ (List.getElem?_eq_getElem hj'), ?_⟩
    obtain ⟨hp1, hp2⟩ := hx j _ l (List.getElem?_eq_getElem hj') hj
    by_cases hle : l = []
    · subst hle
      obtain ⟨a, c, e⟩ := hp1.form
      rw [e] at hp1 ⊢
      exact Bytes.nil _ _ _ (fun h => by subst h; exact hp1.noaddr.2.1)
    · obtain ⟨o', c', e⟩ := hp2 hle
      rw [e] at hp1 ⊢
      have hp3 := hp1.later hb
      have hgl : g < w'.heap.size := by
        have hlp := List.length_pos_iff.2 hle
        obtain ⟨b', o2, e1, h5, _⟩ := hp3.at hlp
        simp only [Option.some.injEq, Addr.mk.injEq] at e1
        obtain ⟨rfl, _⟩ := e1
        exact h5
      have hsame : w''.heap[g]? = w'.heap[g]? := hg.block g hgl (fun e => by have := hrow g e.symm; omega)
      rcases hp3 with ⟨rfl, _⟩ | ⟨b', o2, c2, e1, h5, h6, h7⟩
      · exact absurd rfl hle
      · simp only [Value.slice.injEq, Option.some.injEq, Addr.mk.injEq] at e1
        obtain ⟨⟨rfl, rfl, _⟩, _, rfl⟩ := e1
        refine .inr ⟨g, o', c', rfl, ?_, h6, fun k x hk => ?_⟩
        · exact Nat.lt_of_lt_of_le hgl hg.size
        · rw [World.cell?_of_block (a := ⟨g, o' + k, none⟩) hsame]; exact h7 k x hk
/-- What lists are joined to is cut into them, and not with more behind. -/
theorem cutGo_join : ∀ (L : List (List UInt8)) (r : List UInt8), cutGo (L.flatten ++ r) (L.map fun l => (l.length : Int)) = if r = [] then some L else none
  | [], r => by simp [cutGo]
  | l :: L, r => by
    have h1 : ((l ++ L.flatten ++ r).drop l.length) = L.flatten ++ r := by rw [List.append_assoc, List.drop_left]
    have h2 : ((l ++ L.flatten ++ r).take l.length) = l := by rw [List.append_assoc, List.take_left]
    rw [List.flatten_cons, List.map_cons, cutGo_fits (by simp; omega), Int.toNat_natCast, h1, h2, cutGo_join L r]
    split <;> simp_all
theorem sizes_any (L : List (List UInt8)) : (L.map fun l => (l.length : Int)).any (· < 0) = false := by
  rw [List.any_eq_false]
  intro z hz
  obtain ⟨l, _, rfl⟩ := List.mem_map.1 hz
  simp
theorem cut_join (L : List (List UInt8)) : cutP L.flatten (L.map fun l => (l.length : Int)) = L ∧ cutN L.flatten (L.map fun l => (l.length : Int)) = 0 := by
  have := cutGo_join L []
  rw [List.append_nil, if_pos rfl] at this
  exact cut_some (sizes_any L) this
theorem cut_more (L : List (List UInt8)) (m : UInt8) : cutN (L.flatten ++ [m]) (L.map fun l => (l.length : Int)) = 4 := (cut_none (sizes_any L) (by rw [cutGo_join, if_neg (by simp)])).2
end Go.Proofs.YtlgdmfbpkmokaaaDoor
