/- The walks of the reference's Split, AddrOf, PrefixOf. -/
import Derived.Test.YtlgdmfbpkmokaaaDoorRs
import Derived.Test.YtlgdmfbpkmokaaaDoorRo
namespace Go.Proofs.YtlgdmfbpkmokaaaDoor
open Go.RowKit
attribute [local go_sem ↓] Go.wp_at_zero Go.wp_at_succ

def sv (ps : List (List UInt8)) : List Value := ps.map fun p => .string ⟨p.toArray⟩
theorem sv_append (a b : List (List UInt8)) : sv (a ++ b) = sv a ++ sv b := by simp [sv]
theorem sv_at {ps : List (List UInt8)} {k : Nat} (h : k < ps.length) : (sv ps)[k]? = some (.string ⟨ps[k].toArray⟩) := by simp [sv, h]
theorem extract_eq (s : ByteArray) (a b : Nat) : s.extract a b = ⟨((s.data.toList.take b).drop a).toArray⟩ := by
  apply ByteArray.ext
  apply Array.toList_inj.1
  simp [List.drop_take]
theorem split_end {c : UInt8} {l : List UInt8} {ps : List (List UInt8)} {k m : Nat} (hk : k = l.length) (h : splitL c l = ps ++ ahead ((l.take k).drop m) (splitL c (l.drop k))) : splitL c l = ps ++ [(l.take k).drop m] := by
  rw [h, hk, List.drop_length]
  simp [splitL, ahead]
theorem split_at {c : UInt8} {l : List UInt8} {ps : List (List UInt8)} {k m : Nat} (hk : k < l.length) (hc : l[k] = c) (h : splitL c l = ps ++ ahead ((l.take k).drop m) (splitL c (l.drop k))) : splitL c l = (ps ++ [(l.take k).drop m]) ++ ahead ((l.take (k + 1)).drop (k + 1)) (splitL c (l.drop (k + 1))) := by
  rw [List.drop_eq_getElem_cons hk, hc, split_hit] at h
  have e : (l.take (k + 1)).drop (k + 1) = [] := by simp
  rw [e, ahead_nil, h]
  simp [ahead]
theorem split_on {c : UInt8} {l : List UInt8} {ps : List (List UInt8)} {k m : Nat} (hk : k < l.length) (hm : m ≤ k) (hc : l[k] ≠ c) (h : splitL c l = ps ++ ahead ((l.take k).drop m) (splitL c (l.drop k))) : splitL c l = ps ++ ahead ((l.take (k + 1)).drop m) (splitL c (l.drop (k + 1))) := by
  rw [List.drop_eq_getElem_cons hk, split_miss hc, ahead_ahead] at h
  rw [h, List.take_succ_eq_append_getElem hk, List.drop_append_of_le_length (by simp; omega)]
theorem info16 : ∃ i0, Tryd.prog.info? 9 = some i0 ∧ i0.zero = some (.string ⟨#[]⟩) ∧ i0.size = 1 ∧ i0.bytes = 16 := by
  have hi5 : (Tryd.prog.info? 9).map (fun i => (i.zero, i.size, i.bytes)) = some (some (.string ⟨#[]⟩), 1, 16) := by kernel_rfl
  obtain ⟨i0, hi, hx⟩ := Option.map_eq_some_iff.1 hi5
  simp only [Prod.mk.injEq] at hx
  exact ⟨i0, hi, hx.1, hx.2.1, hx.2.2⟩
theorem one_string (s : ByteArray) : ∀ u ∈ [Value.string s], u.oneCell' = true := by intro u hu; simp at hu; subst hu; rfl

set_option maxHeartbeats 2000000 in
set_option maxRecDepth 100000 in
theorem splitR_any (s : ByteArray) (c : UInt8) (w : World) (hs : s.size ≤ 1000000) :
    Calls Tryd.prog 32 #[.string s, .int .u8 (c.toNat : Int)] w fun e w' => ∃ v, e = .returned v ∧ Row w' v (sv (splitL c s.data.toList)) ∧ Below w.heap.size w w' := by
  have hsl : s.data.toList.length = s.size := by rw [Array.length_toList]; rfl
  have HSL := Lib.hid hsl
  have hs2 : (s.size : Int) ≤ 1000000 := by omega
  obtain ⟨i0, hi, hz0, hz1, hby⟩ := info16
  have hcb := c.toNat_lt
  clear hsl hs
  go_enter Tryd.func32, Tryd.ntmps32
  go_wp2_with fail
  go_loopw [5, 6, 7] (fun v f i wr => ∃ (k m : Nat) (ps : List (List UInt8)), k ≤ s.size + 1 ∧ i = .int .i64 k ∧ f = .int .i64 m ∧ m ≤ k ∧ Hid (ps.length ≤ k) ∧ Hid (wr.ownsRow w.heap.size 9 1 v ps.length (sv ps)) ∧ Hid (Below w.heap.size w wr) ∧
    Hid (splitL c s.data.toList = if k ≤ s.size then ps ++ ahead ((s.data.toList.take k).drop m) (splitL c (s.data.toList.drop k)) else ps)) (fun _ _ i _ => s.size + 1 - (intOf i).toNat)
  case atStart =>
    refine ⟨0, 0, [], Nat.zero_le _, rfl, rfl, Nat.le_refl _, Nat.le_refl _, World.ownsRow_nil w _ _ _, Below.refl _ _, ?_⟩
    show _ = _
    rw [if_pos (Nat.zero_le _)]
    simp [ahead_nil]
  case round =>
    obtain ⟨k, m, ps, hk, rfl, rfl, hm, HP, HW, HB, HS⟩ := hrel
    rcases Nat.lt_or_ge s.size k with hgt | hle
    · have g1 : (s.size : Int) < k := by omega
      have hfin := HS.out
      rw [if_neg (by omega)] at hfin
      have HF := Lib.hid hfin
      clear hfin
      go_wp2_with fail
      go_ret
      exact ⟨_, rfl, by rw [HF.out]; exact Row.of_own HW.out, HB.out⟩
    · have g1 : (k : Int) ≤ s.size := by omega
      have g2 : (m : Int) ≤ k := by omega
      have hst := HS.out
      rw [if_pos hle] at hst
      have HST := Lib.hid hst
      have HMk := Lib.hid hm
      clear hst hm
      rcases Nat.lt_or_ge k s.size with hlt | hge
      · have g3 : (k : Int) < s.size := by omega
        obtain ⟨y, hy⟩ : ∃ y : UInt8, s[k]'hlt = y := ⟨_, rfl⟩
        have hkl : k < s.data.toList.length := by have := HSL.out; omega
        have hly : s.data.toList[k]'hkl = y := (at_byte s k hlt hkl).trans hy
        by_cases hc : y = c
        · have HN : Hid (splitL c s.data.toList = if k + 1 ≤ s.size then (ps ++ [(s.data.toList.take k).drop m]) ++ ahead ((s.data.toList.take (k + 1)).drop (k + 1)) (splitL c (s.data.toList.drop (k + 1))) else ps ++ [(s.data.toList.take k).drop m]) := by
            show _ = _
            rw [if_pos (by omega)]
            exact split_at hkl (hly.trans hc) HST.out
          subst hc
          clear hly hkl
          go_wp2_with (at_builtin; refine wpList_append_own _ rfl _ _ 70 rfl w.heap.size 9 i0 (.string ⟨#[]⟩) 1 16 Tryd.underlying70 hi hz0 hz1 hby rfl (by decide) _ _ _ rfl (HW.out.alloc _) ⟨wr.heap.size, 0, none⟩ 1 1 [.string (s.extract m k)] rfl rfl (news_one wr _ _) (one_string _) (by unfold maxLen; have := HP.out; omega) (by have := HP.out; omega) (by simp; exact Nat.le_succ_of_le HB.out.size) ?_)
          intro v' w3 hown' hgrow _
          have HO3 : Hid (w3.ownsRow w.heap.size 9 1 v' (ps ++ [(s.data.toList.take k).drop m]).length (sv (ps ++ [(s.data.toList.take k).drop m]))) := by
            show World.ownsRow _ _ _ _ _ _ _
            rw [sv_append, List.length_append]
            rw [extract_eq] at hown'
            exact hown'
          have HB3 : Hid (Below w.heap.size w w3) := (HB.out.alloc HB.out.size _).grown hgrow (by simp; exact Nat.le_succ_of_le HB.out.size) (fun j hj => own_base HW.out hj)
          have HP3 : Hid ((ps ++ [(s.data.toList.take k).drop m]).length ≤ k + 1) := by
            show _ ≤ _
            have := HP.out
            simp; omega
          clear hown' hgrow
          go_wp2_with fail
          go_roundw
          case rel => exact ⟨k + 1, k + 1, ps ++ [(s.data.toList.take k).drop m], by omega, by go_num, by go_num, Nat.le_refl _, HP3, HO3, HB3, HN⟩
          case measure => simp [intOf]; omega
        · have HN : Hid (splitL c s.data.toList = if k + 1 ≤ s.size then ps ++ ahead ((s.data.toList.take (k + 1)).drop m) (splitL c (s.data.toList.drop (k + 1))) else ps) := by
            show _ = _
            rw [if_pos (by omega)]
            exact split_on hkl HMk.out (fun e => hc (hly.symm.trans e)) HST.out
          have q2 : ((y.toNat : Int) == (c.toNat : Int)) = false := by
            rw [beq_eq_false_iff_ne]
            intro e
            exact hc (UInt8.toNat_inj.1 (by omega))
          have HP3 : Hid (ps.length ≤ k + 1) := Nat.le_succ_of_le HP.out
          clear hly hkl hc
          go_wp2_with fail
          go_roundw
          case rel => exact ⟨k + 1, m, ps, by omega, by go_num, rfl, by omega, HP3, HW, HB, HN⟩
          case measure => simp [intOf]; omega
      · have hke : k = s.size := by omega
        have HN : Hid (splitL c s.data.toList = if k + 1 ≤ s.size then (ps ++ [(s.data.toList.take k).drop m]) ++ ahead ((s.data.toList.take (k + 1)).drop (k + 1)) (splitL c (s.data.toList.drop (k + 1))) else ps ++ [(s.data.toList.take k).drop m]) := by
          show _ = _
          rw [if_neg (by omega)]
          exact split_end (by have := HSL.out; omega) HST.out
        have q1 : ((k : Int) == s.size) = true := by simp; omega
        clear hke
        go_wp2_with (at_builtin; refine wpList_append_own _ rfl _ _ 70 rfl w.heap.size 9 i0 (.string ⟨#[]⟩) 1 16 Tryd.underlying70 hi hz0 hz1 hby rfl (by decide) _ _ _ rfl (HW.out.alloc _) ⟨wr.heap.size, 0, none⟩ 1 1 [.string (s.extract m k)] rfl rfl (news_one wr _ _) (one_string _) (by unfold maxLen; have := HP.out; omega) (by have := HP.out; omega) (by simp; exact Nat.le_succ_of_le HB.out.size) ?_)
        intro v' w3 hown' hgrow _
        have HO3 : Hid (w3.ownsRow w.heap.size 9 1 v' (ps ++ [(s.data.toList.take k).drop m]).length (sv (ps ++ [(s.data.toList.take k).drop m]))) := by
          show World.ownsRow _ _ _ _ _ _ _
          rw [sv_append, List.length_append]
          rw [extract_eq] at hown'
          exact hown'
        have HB3 : Hid (Below w.heap.size w w3) := (HB.out.alloc HB.out.size _).grown hgrow (by simp; exact Nat.le_succ_of_le HB.out.size) (fun j hj => own_base HW.out hj)
        have HP3 : Hid ((ps ++ [(s.data.toList.take k).drop m]).length ≤ k + 1) := by
          show _ ≤ _
          have := HP.out
          simp; omega
        clear hown' hgrow
        go_wp2_with fail
        go_roundw
        case rel => exact ⟨k + 1, k + 1, ps ++ [(s.data.toList.take k).drop m], by omega, by go_num, by go_num, Nat.le_refl _, HP3, HO3, HB3, HN⟩
        case measure => simp [intOf]; omega
end Go.Proofs.YtlgdmfbpkmokaaaDoor
