/- The walk of the reference's Cut. -/
import Derived.Test.YtlgdmfbpkmokaaaDoorCm
namespace Go.Proofs.YtlgdmfbpkmokaaaDoor
open Go.RowKit
attribute [local go_sem ↓] Go.wp_at_zero Go.wp_at_succ

theorem info24r : ∃ i0, Tryd.prog.info? 23 = some i0 ∧ i0.zero = some (.slice none 0 0) ∧ i0.size = 1 ∧ i0.bytes = 24 := by
  have hi5 : (Tryd.prog.info? 23).map (fun i => (i.zero, i.size, i.bytes)) = some (some (.slice none 0 0), 1, 24) := by kernel_rfl
  obtain ⟨i0, hi, hx⟩ := Option.map_eq_some_iff.1 hi5
  simp only [Prod.mk.injEq] at hx
  exact ⟨i0, hi, hx.1, hx.2.1, hx.2.2⟩
/-- A row of parts that the call owns, read in w0. -/
def OwnR (w0 w : World) (B : Nat) (v : Value) (P : List (List UInt8)) : Prop :=
  ∃ xs : List Value, w.ownsRow B 23 1 v P.length xs ∧ ∀ (j : Nat) (u : Value) (l : List UInt8), xs[j]? = some u → P[j]? = some l → Bytes w0 u l
theorem OwnR.push {w0 w2 : World} {B : Nat} {v' u : Value} {P : List (List UInt8)} {l : List UInt8} {xs : List Value}
    (h : ∀ (j : Nat) (u : Value) (l : List UInt8), xs[j]? = some u → P[j]? = some l → Bytes w0 u l) (hl : xs.length = P.length) (ho : w2.ownsRow B 23 1 v' (P.length + 1) (xs ++ [u])) (hu : Bytes w0 u l) : OwnR w0 w2 B v' (P ++ [l]) := by
  refine ⟨xs ++ [u], by simpa using ho, fun j x y hx hy => ?_⟩
  rcases Nat.lt_or_ge j P.length with hj | hj
  · rw [List.getElem?_append_left (by omega)] at hx hy
    exact h j x y hx hy
  · rw [List.getElem?_append_right (by omega)] at hx hy
    have hj0 : j = P.length := by
      have := (List.getElem?_eq_some_iff.1 hy).1
      simp at this; omega
    subst hj0
    rw [hl] at hx
    simp at hx hy
    subst hx hy
    exact hu
theorem OwnR.lists {w0 w : World} {B : Nat} {v : Value} {P : List (List UInt8)} (h : OwnR w0 w B v P) (hb : Below w0.heap.size w0 w) : Lists w v P := by
  obtain ⟨xs, ho, hx⟩ := h
  have hl : xs.length = P.length := by simpa using ho.1
  have hr := Row.of_own ho
  rcases hr with ⟨rfl, a, c, rfl, h0⟩ | ⟨b, o, c, rfl, h1, h2, h3⟩
  · exact .inl ⟨List.eq_nil_of_length_eq_zero (by simpa using hl.symm), a, c, rfl, h0⟩
  · refine .inr ⟨b, o, c, by rw [hl], h1, by omega, fun j l hj => ?_⟩
    have hj' : j < xs.length := by rw [hl]; exact (List.getElem?_eq_some_iff.1 hj).1
    exact ⟨xs[j], h3 j _ (List.getElem?_eq_getElem hj'), (hx j _ l (List.getElem?_eq_getElem hj') hj).later hb⟩
/-- b[i:j]. -/
theorem Bytes.cut_lh {w : World} {a : Option Addr} {n c : Nat} {l : List UInt8} (h : Bytes w (.slice a n c) l) (i j : Int) (lo hi : Nat) (hi1 : i = lo) (hj1 : j = hi) (h1 : lo ≤ hi) (h2 : hi ≤ l.length) :
    ∃ a', (∀ w, (Instr.slice 23 (.slice a n c) (some (.int .i64 i)) (some (.int .i64 j)) none).run Tryd.prog w = .ok (.slice a' (hi - lo) (c - lo)) w) ∧ Bytes w (.slice a' (hi - lo) (c - lo)) ((l.take hi).drop lo) := by
  have hc := h.cap
  subst hi1 hj1
  have hb := h.sliced h1 h2 (Nat.le_trans h2 hc) (Nat.le_refl _)
  refine ⟨_, fun w => ?_, hb⟩
  rw [run_slice_lh w _ a _ _ cells1 _ _ _ _ (by omega) (by omega) (by omega), size1]
  rfl

/-- What is left, and whether it was short. -/
def scan : Nat × Bool → List Int → Nat × Bool
  | s, [] => s
  | (m, sh), z :: r => scan (if (m : Int) < z then (m, true) else (m - z.toNat, sh)) r
theorem scan_short : ∀ (r : List Int) (m : Nat), (scan (m, true) r).2 = true
  | [], _ => rfl
  | z :: r, m => by
    unfold scan
    split
    · exact scan_short r _
    · exact scan_short r _
theorem scan_cut : ∀ (r : List Int) (l : List UInt8), r.any (· < 0) = false → ((scan (l.length, false) r).2 = false ∧ (scan (l.length, false) r).1 = 0 ↔ (cutGo l r).isSome = true)
  | [], l, _ => by
    unfold scan cutGo
    by_cases h : l = [] <;> simp [h]
  | z :: r, l, h => by
    simp only [List.any_cons, Bool.or_eq_false_iff, decide_eq_false_iff_not] at h
    unfold scan cutGo
    by_cases hz : (l.length : Int) < z
    · simp only [if_pos hz]
      have := scan_short r l.length
      simp [this]
    · simp only [if_neg hz, Option.isSome_map]
      have := scan_cut r (l.drop z.toNat) h.2
      rw [List.length_drop] at this
      exact this
theorem scan_take {zs : List Int} {k : Nat} (h : k < zs.length) (s : Nat × Bool) : scan s (zs.take (k + 1)) = (let t := scan s (zs.take k); if (t.1 : Int) < zs[k] then (t.1, true) else (t.1 - zs[k].toNat, t.2)) := by
  have key : ∀ (r : List Int) (z : Int) (s : Nat × Bool), scan s (r ++ [z]) = (let t := scan s r; if (t.1 : Int) < z then (t.1, true) else (t.1 - z.toNat, t.2)) := by
    intro r
    induction r with
    | nil => intro z s; rfl
    | cons x r ih => intro z s; exact ih z _
  rw [List.take_succ_eq_append_getElem h, key]
theorem scan_le : ∀ (r : List Int) (m : Nat) (b : Bool), (scan (m, b) r).1 ≤ m
  | [], _, _ => Nat.le_refl _
  | z :: r, m, b => by
    unfold scan
    split
    · exact scan_le r _ _
    · exact Nat.le_trans (scan_le r _ _) (Nat.sub_le _ _)

set_option maxHeartbeats 4000000 in
set_option maxRecDepth 100000 in
theorem cutR_some (a : Option Addr) (c : Nat) (l : List UInt8) (b : Option Addr) (d : Nat) (zs : List Int) (w : World) (hv : Bytes w (.slice a l.length c) l) (hr : Row w (.slice b zs.length d) (iv zs)) (hl : l.length ≤ 20000) (hz : zs.length ≤ 20000) (hzs : ∀ z ∈ zs, -9223372036854775808 ≤ z ∧ z ≤ 9223372036854775807) :
    Calls Tryd.prog 11 #[.slice a l.length c, .slice b zs.length d] w fun e w' => ∃ v, e = .returned (.tuple #[v, .int .i64 (cutN l zs)]) ∧ Lists w' v (cutP l zs) ∧ Below w.heap.size w w' := by
  have HV := Lib.hid hv
  have HR := Lib.hid hr
  have hz2 : (zs.length : Int) ≤ 20000 := by omega
  have Hl := Lib.hid hl
  have Hz := Lib.hid hz
  have HZS := Lib.hid hzs
  clear hv hr hl hz hzs
  obtain ⟨i0, hi, hz0, hz1, hby⟩ := info24r
  go_enter Tryd.func11, Tryd.ntmps11
  go_wp2_with fail
  go_loop [6, 7, 8] (fun m s i => ∃ (k lf : Nat) (sh : Bool), k ≤ zs.length ∧ i = .int .i64 k ∧ m = .int .i64 lf ∧ s = .bool sh ∧ lf ≤ l.length ∧ Hid (scan (l.length, false) (zs.take k) = (lf, sh)) ∧ Hid ((zs.take k).any (· < 0) = false)) (fun _ _ i => zs.length - (intOf i).toNat)
  case atStart => exact ⟨0, l.length, false, Nat.zero_le _, rfl, rfl, rfl, Nat.le_refl _, rfl, rfl⟩
  case round =>
    obtain ⟨k, lf, sh, hk, rfl, rfl, rfl, hlf, HS, HN⟩ := hrel
    have hlf2 : (lf : Int) ≤ 20000 := by have := Hl.out; omega
    clear hlf
    rcases Nat.lt_or_ge k zs.length with hlt | hge
    · have g1 : (k : Int) < zs.length := by omega
      obtain ⟨bl, bo, rfl, hbl, hcz⟩ := HR.out.at (iv_at hlt)
      have hst := scan_take hlt (l.length, false)
      rw [HS.out] at hst
      obtain ⟨zb1, zb2⟩ := HZS.out _ (List.getElem_mem hlt)
      have hnt : (zs.take (k + 1)).any (· < 0) = ((zs.take k).any (· < 0) || decide (zs[k] < 0)) := by
        rw [List.take_succ_eq_append_getElem hlt, List.any_append]; simp
      have hmem : zs[k] ∈ zs := List.getElem_mem hlt
      obtain ⟨z, hzz⟩ : ∃ z, z = zs[k] := ⟨_, rfl⟩
      rw [← hzz] at hcz hst zb1 zb2 hnt hmem
      have HST := Lib.hid hst
      have HNT := Lib.hid hnt
      have HMEM := Lib.hid hmem
      clear hst hnt hmem hzz
      by_cases hneg : z < 0
      · have HC := Lib.hid (cut_neg (l := l) (zs := zs) (List.any_eq_true.2 ⟨z, HMEM.out, by simpa using hneg⟩))
        go_wp2_with fail
        go_ret2
        rw [HC.out.1, HC.out.2]
        exact ⟨_, rfl, Lists.nil _ _ _, Below.refl _ _⟩
      · have hz0' : 0 ≤ z := by omega
        have hnn : decide (z < 0) = false := by simpa using hneg
        have HNN := Lib.hid hnn
        clear hnn hneg
        by_cases hlong : (lf : Int) < z
        · go_wp2_with fail
          go_round
          case rel => exact ⟨k + 1, lf, true, by omega, by go_num, rfl, rfl, by have := HST.out; rw [if_pos hlong] at this; have h2 := scan_le (zs.take (k + 1)) l.length false; rw [this] at h2; exact h2, by show _ = _; rw [HST.out, if_pos hlong], by show _ = _; rw [HNT.out, HN.out, HNN.out]; rfl⟩
          case measure => simp [intOf]; omega
        · have hfit : z ≤ (lf : Int) := by omega
          go_wp2_with fail
          go_round
          case rel => exact ⟨k + 1, lf - z.toNat, sh, by omega, by go_num, by go_num, rfl, by have := HST.out; rw [if_neg hlong] at this; have h2 := scan_le (zs.take (k + 1)) l.length false; rw [this] at h2; exact h2, by show _ = _; rw [HST.out, if_neg hlong], by show _ = _; rw [HNT.out, HN.out, HNN.out]; rfl⟩
          case measure => simp [intOf]; omega
    · have e : k = zs.length := by omega
      subst e
      rw [List.take_length] at HS HN
      have hsc := scan_cut zs l HN.out
      rw [HS.out] at hsc
      have HSC := Lib.hid hsc
      clear hsc
      cases hq : cutGo l zs with
      | none =>
        have HC := Lib.hid (cut_none HN.out hq)
        have hno : ¬ (sh = false ∧ lf = 0) := by rw [HSC.out, hq]; simp
        cases sh with
        | true =>
          clear hno
          go_wp2_with fail
          go_ret2
          rw [HC.out.1, HC.out.2]
          exact ⟨_, rfl, Lists.nil _ _ _, Below.refl _ _⟩
        | false =>
          have h1 : (0 : Int) < lf := by
            rcases Nat.eq_zero_or_pos lf with h | h
            · exact absurd ⟨rfl, h⟩ hno
            · omega
          have h2 : ((lf : Int) == 0) = false := by simp; omega
          clear hno
          go_wp2_with fail
          go_ret2
          rw [HC.out.1, HC.out.2]
          exact ⟨_, rfl, Lists.nil _ _ _, Below.refl _ _⟩
      | some P =>
        have HC := Lib.hid (cut_some HN.out hq)
        have HQ := Lib.hid hq
        have hyes : sh = false ∧ lf = 0 := HSC.out.2 (by rw [hq]; rfl)
        obtain ⟨rfl, rfl⟩ := hyes
        clear hq
        go_wp2_with fail
        go_loopw [9, 10, 11] (fun v t i wr => ∃ (k m : Nat) (done : List (List UInt8)), k ≤ zs.length ∧ i = .int .i64 k ∧ t = .int .i64 m ∧ m ≤ l.length ∧ Hid (OwnR w wr w.heap.size v done) ∧ Hid (done.length = k) ∧ Hid (cutGo l zs = (cutGo (l.drop m) (zs.drop k)).map (done ++ ·)) ∧ Hid (Below w.heap.size w wr)) (fun _ _ i _ => zs.length - (intOf i).toNat)
        case atStart => exact ⟨0, 0, [], Nat.zero_le _, rfl, rfl, Nat.zero_le _, ⟨[], World.ownsRow_nil _ _ _ _, fun j u x hu => by simp at hu⟩, rfl, by show _ = _; simp, Below.refl _ _⟩
        case round =>
          obtain ⟨k, m, done, hk, rfl, rfl, hm, HO, HD, HM, HB⟩ := hrel
          have hm2 : (m : Int) ≤ 20000 := by have := Hl.out; omega
          have HMl := Lib.hid hm
          clear hm
          rcases Nat.lt_or_ge k zs.length with hlt | hge2
          · have g1 : (k : Int) < zs.length := by omega
            obtain ⟨bl, bo, rfl, hbl, hcz⟩ := HR.out.at (iv_at hlt)
            have hcz' := cell_later' HB.out hbl hcz
            have b1 : bl < wr.heap.size := World.block_lt_of_cell? _ _ hcz'
            have hzn := any_drop HN.out hlt
            obtain ⟨n, hn⟩ := Int.eq_ofNat_of_zero_le hzn
            rw [hn] at hcz' hcz
            have HCZ := Lib.hid hcz
            have hfit : ¬ ((l.drop m).length : Int) < zs[k] := by
              intro hh
              have := cut_stop hlt HM.out hh
              rw [HQ.out] at this
              cases this
            have hstep := cut_step hlt HM.out hfit
            rw [hn] at hfit
            rw [List.length_drop] at hfit
            have hmn : m + n ≤ l.length := by have := HMl.out; omega
            rw [hn, Int.toNat_natCast, List.drop_drop] at hstep
            have HM2 := Lib.hid hstep
            obtain ⟨a', hr1, hp1⟩ := HV.out.cut_lh (m : Int) ((m : Int) + (n : Int)) m (m + n) rfl (by omega) (by omega) hmn
            have epart : (l.take (m + n)).drop m = (l.drop m).take n := by rw [List.drop_take]; congr 1; omega
            rw [epart] at hp1
            rw [show m + n - m = n by omega] at hp1 hr1
            have HP1 := Lib.hid hp1
            have hn3 : (n : Int) ≤ 20000 := by have := Hl.out; omega
            have HMN := Lib.hid hmn
            obtain ⟨xs, hox, hxs⟩ := HO.out
            have HOX := Lib.hid hox
            have HXS := Lib.hid hxs
            clear hn hstep hp1 hox hxs hcz hzn hfit hmn epart
            go_wp2_with (at_builtin; refine wpList_append_own _ rfl _ _ 22 rfl w.heap.size 23 i0 (.slice none 0 0) 1 24 Tryd.underlying22 hi hz0 hz1 hby rfl (by decide) _ _ _ rfl (HOX.out.alloc _) ⟨wr.heap.size, 0, none⟩ 1 1 [.slice a' n (c - m)] rfl rfl (news_one wr _ _) (one_slice _ _ _) (by unfold maxLen; have := HD.out; have := Hz.out; omega) (by have := HD.out; have := Hz.out; omega) (by simp; exact Nat.le_succ_of_le HB.out.size) ?_)
            intro v' w3 hown' hgrow _
            have HO3 : Hid (OwnR w w3 w.heap.size v' (done ++ [(l.drop m).take n])) := by
              refine OwnR.push HXS.out ?_ hown' HP1.out
              have := HOX.out.1
              simpa using this
            have HB3 : Hid (Below w.heap.size w w3) := (HB.out.alloc HB.out.size _).grown hgrow (by simp; exact Nat.le_succ_of_le HB.out.size) (fun j hj => own_base HOX.out hj)
            have hcz3 := cell_later' HB3.out hbl HCZ.out
            have b3 : bl < w3.heap.size := World.block_lt_of_cell? _ _ hcz3
            clear hown' hgrow
            go_wp2_with fail
            go_roundw
            case rel => exact ⟨k + 1, m + n, done ++ [(l.drop m).take n], by omega, by go_num, by go_num, HMN.out, HO3, by show _ = _; simp [HD.out], HM2, HB3⟩
            case measure => simp [intOf]; omega
          · have e : k = zs.length := by omega
            subst e
            have hend := cut_end HM.out
            rw [HQ.out] at hend
            have hdone : P = done := by
              split at hend
              · injection hend
              · cases hend
            have HDone := Lib.hid hdone
            clear hend hdone
            go_wp2_with fail
            go_ret2
            rw [HC.out.1, HC.out.2, HDone.out]
            exact ⟨_, rfl, HO.out.lists HB.out, HB.out⟩
theorem cutR_any (v : Value) (l : List UInt8) (u : Value) (zs : List Int) (w : World) (hv : Bytes w v l) (hr : Row w u (iv zs)) (hl : l.length ≤ 20000) (hz : zs.length ≤ 20000) (hzs : ∀ z ∈ zs, -9223372036854775808 ≤ z ∧ z ≤ 9223372036854775807) :
    Calls Tryd.prog 11 #[v, u] w fun e w' => ∃ v, e = .returned (.tuple #[v, .int .i64 (cutN l zs)]) ∧ Lists w' v (cutP l zs) ∧ Below w.heap.size w w' := by
  obtain ⟨a, c, rfl⟩ := hv.form
  obtain ⟨b, d, rfl⟩ := hr.form
  rw [show (iv zs).length = zs.length by simp [iv]] at hr ⊢
  exact cutR_some a c l b d zs w hv hr hl hz hzs
end Go.Proofs.YtlgdmfbpkmokaaaDoor
