/- The walks of ip.Routed, and of the reference's SameOptions where both are the same. -/
import Derived.Test.YtccfebaifgnodaaIo
namespace Go.Proofs.Ytccfebaifgnodaa
open Go.RowKit
attribute [local go_sem ↓] Go.wp_at_zero Go.wp_at_succ

def isRoute (k : Nat) : Bool := k == 131 || k == 137
def routedK (K : List (Nat × List UInt8)) : Bool := K.any fun p => isRoute p.1
theorem route_int (k : Nat) : ((k : Int) == 131 || (k : Int) == 137) = isRoute k := by
  unfold isRoute; rw [Bool.eq_iff_iff]; simp; omega

theorem routeFn_any (k : Nat) (u : Option Addr) (n c : Nat) (w : World) :
    Calls Try.prog 52 #[.agg #[.int .u8 (k : Nat), .slice u n c]] w fun e w' => e = .returned (.bool (isRoute k)) ∧ Below w.heap.size w w' := by
  have HR := Lib.hid (route_int k)
  by_cases h : (k : Int) = 131
  · have g : ((k : Int) == 131) = true := by simpa using h
    have HG := Lib.hid g
    clear h
    go_enter Try.func52, Try.ntmps52
    go_wp2
    go_ret
    refine ⟨ret_b ?_, by go_grown⟩
    rw [← HR.out]; simp [HG.out]
  · have g : ((k : Int) == 131) = false := by simpa using h
    have HG := Lib.hid g
    go_enter Try.func52, Try.ntmps52
    go_wp2
    go_ret
    refine ⟨ret_b ?_, by go_grown⟩
    rw [← HR.out]; simp [HG.out]

set_option maxHeartbeats 2000000 in
theorem routedIdx_any (a : Option Addr) (c : Nat) (K : List (Nat × List UInt8)) (hK : K.length ≤ 1000000) (w : World) (hv : OptR w (.slice a K.length c) K) :
    Calls Try.prog 66 #[.slice a K.length c, .func (.func 52) #[] #[]] w fun e w' => ∃ i : Int, e = .returned (.int .i64 i) ∧ (decide (0 ≤ i) = routedK K) ∧ Below w.heap.size w w' := by
  have HV := Lib.hid hv
  have hz2 : (K.length : Int) ≤ 1000000 := by omega
  clear hK hv
  go_enter Try.func66, Try.ntmps66
  go_wp2_with fail
  go_loopw [5, 8] (fun _ i wr => ∃ k : Nat, k ≤ K.length ∧ i = .int .i64 k ∧ Hid (routedK (K.take k) = false) ∧ Hid (Below w.heap.size w wr)) (fun _ i _ => K.length - (intOf i).toNat)
  case atStart => exact ⟨0, Nat.zero_le _, rfl, rfl, Below.refl _ _⟩
  case round =>
    obtain ⟨k, hk, rfl, HN, HB⟩ := hrel
    rcases Nat.lt_or_ge k K.length with hlt | hge
    · have g1 : (k : Int) < K.length := by omega
      obtain ⟨b, o, rfl, hbl, hc0, x, m, d, hc1, _, _⟩ := HV.out.at hlt
      have d0 := cell_later' HB.out hbl hc0
      have d1 := cell_later' HB.out hbl hc1
      obtain ⟨z, hz⟩ : ∃ z, z = K[k].1 := ⟨_, rfl⟩
      rw [← hz] at d0
      have ht : routedK (K.take (k + 1)) = (routedK (K.take k) || isRoute z) := by
        unfold routedK
        rw [List.take_succ_eq_append_getElem hlt, List.any_append, hz]; simp
      have hmem : isRoute z = true → routedK K = true := fun h => List.any_eq_true.2 ⟨K[k], List.getElem_mem hlt, by rw [← hz]; exact h⟩
      have e0 : wr.cell? ⟨b, o + k * 2, none⟩ = some (.int .u8 (z : Nat)) := by rw [Nat.mul_comm]; exact d0
      have e1 : wr.cell? ⟨b, o + (k * 2 + 1), none⟩ = some (.slice x m d) := by rw [Nat.mul_comm k 2]; exact d1
      have e2 : wr.cell? ⟨b, o + k * 2 + 1, none⟩ = some (.slice x m d) := by rw [Nat.add_assoc]; exact e1
      have HT := Lib.hid ht
      have HM := Lib.hid hmem
      clear ht hmem hz hc0 hc1 d0 d1
      cases hr : isRoute z with
      | true =>
        have HA := Lib.hid (HM.out hr)
        have HR := Lib.hid hr
        clear hr
        go_wp2_with fail
        refine (routeFn_any z _ _ _ _).mono ?_
        rintro e w1 ⟨rfl, hb1⟩
        rw [HR.out]
        have HB1 := Lib.hid (HB.out.trans (hb1.mono HB.out.size))
        clear hb1
        go_wp2_with fail
        go_ret
        exact ⟨_, rfl, by rw [HA.out]; exact decide_eq_true (by omega), HB1.out⟩
      | false =>
        have HR := Lib.hid hr
        clear hr
        go_wp2_with fail
        refine (routeFn_any z _ _ _ _).mono ?_
        rintro e w1 ⟨rfl, hb1⟩
        rw [HR.out]
        have HB1 := Lib.hid (HB.out.trans (hb1.mono HB.out.size))
        clear hb1
        go_wp2_with fail
        go_roundw
        case rel => exact ⟨k + 1, by omega, by go_num, by show _ = _; rw [HT.out, HN.out, HR.out]; rfl, HB1⟩
        case measure => simp [intOf]; omega
    · have e : k = K.length := by omega
      subst e
      go_wp2_with fail
      go_ret
      refine ⟨-1, rfl, ?_, HB.out⟩
      have := HN.out
      rw [List.take_length] at this
      rw [this]; rfl
theorem routedHas_any (v : Value) (K : List (Nat × List UInt8)) (hK : K.length ≤ 1000000) (w : World) (hv : OptR w v K) :
    Calls Try.prog 51 #[v, .func (.func 52) #[] #[]] w fun e w' => e = .returned (.bool (routedK K)) ∧ Below w.heap.size w w' := by
  obtain ⟨a, c, rfl⟩ := hv.form
  have HV := Lib.hid hv
  clear hv
  go_enter Try.func51, Try.ntmps51
  go_wp2_with fail
  refine (routedIdx_any a c K hK w HV.out).mono ?_
  rintro e w1 ⟨i, rfl, hi, hb⟩
  have HI := Lib.hid hi
  clear hi
  go_wp2_with fail
  go_ret
  exact ⟨ret_b HI.out, hb⟩
theorem raws_len (L : List UInt8) : (Om.raws L).length ≤ L.length := by
  unfold Om.raws
  split
  · exact Nat.le_trans (List.length_filterMap_le _ _) (Om.seq_len _ L (Nat.le_refl _))
  · simp
/-- Is a source route among them? -/
def routedB (L : List UInt8) : Bool := routedK ((Om.raws L).map kd)
theorem routedW_any (v : Value) (L : List UInt8) (hL : L.length ≤ 1000000) (w : World) (hv : Bytes w v L) :
    Calls Try.prog 30 #[v] w fun e w' => e = .returned (.bool (routedB L)) ∧ Below w.heap.size w w' := by
  obtain ⟨a, c, rfl⟩ := hv.form
  have HV := Lib.hid hv
  clear hv
  go_enter Try.func30, Try.ntmps30
  go_wp2_with fail
  refine (optionsW_any _ L hL w HV.out).mono ?_
  rintro e w1 ⟨v1, rfl, ho, hb⟩
  have HO := Lib.hid ho.reads
  obtain ⟨a1, c1, rfl⟩ := ho.form
  have HB := Lib.hid hb
  clear ho hb
  go_wp2_with fail
  refine (routedHas_any _ ((Om.raws L).map kd) (by have := raws_len L; simp; omega) w1 HO.out).mono ?_
  rintro e w2 ⟨rfl, hb2⟩
  have HB2 := Lib.hid (HB.out.trans (hb2.mono HB.out.size))
  clear hb2
  go_wp2_with fail
  go_ret
  exact ⟨rfl, HB2.out⟩

set_option maxHeartbeats 4000000 in
theorem sameOpt_any (u v : Value) (K : List (Nat × List UInt8)) (hK : K.length ≤ 1000000) (w : World) (hu : OptR w u K) (hv : OptR w v K) :
    Calls Try.prog 27 #[u, v] w fun e w' => e = .returned (.bool true) ∧ Below w.heap.size w w' := by
  obtain ⟨a, c, rfl⟩ := hu.form
  obtain ⟨a', c', rfl⟩ := hv.form
  obtain ⟨N, hN⟩ : ∃ N, N = K.length := ⟨_, rfl⟩
  rw [← hN] at hu hv hK ⊢
  have HN := Lib.hid hN
  have HU := Lib.hid hu
  have HV := Lib.hid hv
  have hz2 : (N : Int) ≤ 1000000 := by omega
  clear hu hv hN hK
  go_enter Try.func27, Try.ntmps27
  go_wp2_with fail
  go_loopw [5] (fun i wr => ∃ k : Nat, k ≤ N ∧ i = .int .i64 k ∧ Hid (Below w.heap.size w wr)) (fun i _ => N - (intOf i).toNat)
  case atStart => exact ⟨0, Nat.zero_le _, rfl, Below.refl _ _⟩
  case round =>
    obtain ⟨k, hk, rfl, HB⟩ := hrel
    rcases Nat.lt_or_ge k N with hlt | hge
    · have g1 : (k : Int) < N := by omega
      have hlK : k < K.length := by rw [← HN.out]; exact hlt
      obtain ⟨b, o, rfl, hbl, hc0, x, m, d, hc1, hm1, hby⟩ := HU.out.at hlK
      obtain ⟨b', o', rfl, hbl', hc0', x', m', d', hc1', hm2, hby'⟩ := HV.out.at hlK
      have d0 := cell_later' HB.out hbl hc0
      have d1 := cell_later' HB.out hbl hc1
      have d0' := cell_later' HB.out hbl' hc0'
      have d1' := cell_later' HB.out hbl' hc1'
      have hcv := fun n => (hby.later (HB.out.trans (below_dr0 _ wr n))).str (P := Try.prog) (src := 22) (dst := 9) Try.underlying22 Try.underlying5 Try.underlying9
      have hcv' := fun n => (hby'.later (HB.out.trans (below_dr0 _ wr n))).str (P := Try.prog) (src := 22) (dst := 9) Try.underlying22 Try.underlying5 Try.underlying9
      obtain ⟨z, hz⟩ : ∃ z, z = K[k].1 := ⟨_, rfl⟩
      obtain ⟨l, hl⟩ : ∃ l, l = K[k].2 := ⟨_, rfl⟩
      rw [← hz] at d0 d0'
      rw [← hl] at hcv hcv'
      rw [Nat.mul_comm] at d0 d0'
      have e2 : wr.cell? ⟨b, o + k * 2 + 1, none⟩ = some (.slice x m d) := by rw [Nat.add_assoc, Nat.mul_comm k 2]; exact d1
      have e2' : wr.cell? ⟨b', o' + k * 2 + 1, none⟩ = some (.slice x' m' d') := by rw [Nat.add_assoc, Nat.mul_comm k 2]; exact d1'
      have g2 : ((z : Int) != z) = false := by simp
      have g3 : k < N := hlt
      clear hz hl hc0 hc1 hc0' hc1' d1 d1' hby hby' hm1 hm2 hlK
      go_wp2_with fail
      go_quiet (fail)
      go_wp2_with fail
      go_roundw
      case rel => exact ⟨k + 1, by omega, by go_num, below_drewN HB.out _⟩
      case measure => simp [intOf]; omega
    · have e : k = N := by omega
      subst e
      go_wp2_with fail
      go_ret
      exact ⟨rfl, HB.out⟩
end Go.Proofs.Ytccfebaifgnodaa
