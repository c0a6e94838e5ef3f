/- The walk of wire.Unhex. -/
import Derived.Test.YtnihjchhbggkiaaDoorWum
namespace Go.Proofs.YtnihjchhbggkiaaDoor
open Go.RowKit
attribute [local go_sem ↓] Go.wp_at_zero Go.wp_at_succ

set_option maxHeartbeats 2000000 in
set_option maxRecDepth 100000 in
theorem unhexW_any (s : ByteArray) (w : World) (hs : s.size ≤ 20000) :
    Calls Tryd.prog 22 #[.string s] w fun e w' => ∃ v, e = .returned (.tuple #[v, .int .i64 (unhexE s)]) ∧ Bytes w' v (unhexB s) ∧ Below w.heap.size w w' := by
  have hi5 : (Tryd.prog.info? 5).map (fun i => (i.zero, i.size, i.bytes)) = some (some (.int .u8 0), 1, 1) := by kernel_rfl
  obtain ⟨i0, hi, hx⟩ := Option.map_eq_some_iff.1 hi5
  simp only [Prod.mk.injEq] at hx
  obtain ⟨hz0, hz1, hz2⟩ := hx
  obtain ⟨m, hm⟩ : ∃ m : Nat, m = s.size / 2 := ⟨_, rfl⟩
  obtain ⟨w1, hmk, hown0, hg0⟩ := run_make_full (P := Tryd.prog) (w := w) w.heap.size 23 5 i0 (.int .u8 0) 1 Tryd.underlying23 hi hz0 hz1 .i64 .i64 m (by rw [hz2]; omega) (by unfold maxLen; omega) (Nat.le_refl _)
  have hdiv : (s.size : Int) / 2 = (m : Int) := by omega
  have HU := Lib.hid (show Below w.heap.size w w1 from (Below.refl _ _).grown hg0 (Nat.le_refl _) (by simp))
  have hrw : (madeCells (Value.int IntKind.u8 0).cells (m * 1)).toList = bv (rowU [] m) := by
    rw [Nat.mul_one]; show (madeCells #[.int .u8 0] m).toList = _
    rw [toList_madeCells_one]; simp [rowU, bv]
  rw [hrw] at hown0
  have HO := Lib.hid hown0
  have hsl : s.data.toList.length = s.size := by rw [Array.length_toList]; rfl
  have HSL := Lib.hid hsl
  have Hm := Lib.hid hm
  have hmb : m ≤ 10000 := by omega
  clear hi5 hown0 hg0 hrw hsl hm
  go_enter Tryd.func22, Tryd.ntmps22
  go_wp2
  go_step3
  go_wp2
  go_step3
  go_wp2
  clear hmk hdiv
  go_loopw [5, 15] (fun r i wr => ∃ (k : Nat) (x : List UInt8), k ≤ m ∧ i = .int .i64 k ∧ r = .int .i64 (2 * k) ∧ Hid (x.length = k ∧ unhexL (s.data.toList.take (2 * k)) = some x) ∧ Hid (wr.ownsRow w.heap.size 5 1 (.slice (some ⟨w.heap.size, 0, none⟩) m m) m (bv (rowU x m))) ∧ Hid (Below w.heap.size w wr)) (fun _ i _ => m - (intOf i).toNat)
  case atStart => exact ⟨0, [], Nat.zero_le _, rfl, by simp, ⟨rfl, by simp [unhexL]⟩, HO.out, HU⟩
  case round =>
    obtain ⟨k, x, hk, rfl, rfl, HX, HW, HB⟩ := hrel
    by_cases hlt : k < m
    · have hm2 := Hm.out
      have q0 : 2 * k < s.size := by omega
      have q1 : 2 * k + 1 < s.size := by omega
      clear hm2
      have hu : wr.cell? ⟨w.heap.size, k, none⟩ = some (.int .u8 0) := by
        have hx1 := HX.out.1
        rw [HW.out.cellAt k (by omega)]
        have e : m - x.length = (m - x.length - 1) + 1 := by omega
        unfold bv rowU
        rw [e, List.replicate_succ, List.map_append, List.getElem?_append_right (by simp; omega)]
        simp [hx1]
      have hf := HW.out.frozenAt k
      obtain ⟨d0, h0⟩ : ∃ d, hexv s[2 * k] = d := ⟨_, rfl⟩
      obtain ⟨d1, h1⟩ : ∃ d, hexv s[2 * k + 1] = d := ⟨_, rfl⟩
      have b0 := hexv_bd s[2 * k]
      have b1 := hexv_bd s[2 * k + 1]
      rw [h0] at b0
      rw [h1] at b1
      obtain ⟨b00, b01⟩ := b0
      obtain ⟨b10, b11⟩ := b1
      have H0 := Lib.hid h0
      have H1 := Lib.hid h1
      clear h0 h1
      by_cases n0 : d0 < 0
      · have hbad := unhex_no (unhexL_bad HX.out.2 (by have := HSL.out; omega) (.inl (by rw [at_list s _ q0, H0.out]; exact n0)))
        have HBAD := Lib.hid hbad
        clear hbad
        go_wp2
        refine wp_loop_rounds 3 ?_
        rw [rounds_succ]
        go_wp2_with fail
        refine (indexByte_at _ d0 H0.out _).mono ?_
        rintro e wn ⟨rfl, rfl⟩
        go_wp2_with fail
        simp only [Exit.noGoto]
        go_wp2
        go_ret2
        rw [HBAD.out.1, HBAD.out.2]
        exact ⟨_, rfl, Bytes.nil _ _ _, HB.out⟩
      · have o0 : bits .or .u8 0 d0 = d0 := or_z (by omega) (by omega)
        have own3 := HW.out.stored k (.int .u8 d0)
        have HB3 := Lib.hid (HB.out.setCell (p := ⟨w.heap.size, k, none⟩) (Nat.le_refl _) (.int .u8 d0))
        have hu3 : (wr.setCell ⟨w.heap.size, k, none⟩ (.int .u8 d0)).cell? ⟨w.heap.size, k, none⟩ = some (.int .u8 d0) := by
          rw [own3.1.cellAt k (by omega), List.getElem?_set_self]
          have hx1 := HX.out.1
          simp [bv, rowU]; omega
        have hf3 := own3.1.frozenAt k
        have HW3 := Lib.hid own3.1
        clear own3
        go_wp2
        refine wp_loop_rounds 3 ?_
        rw [rounds_succ]
        go_wp2_with fail
        refine (indexByte_at _ d0 H0.out _).mono ?_
        rintro e wn ⟨rfl, rfl⟩
        go_wp2_with fail
        generalize (wr.setCell ⟨w.heap.size, k, none⟩ (.int .u8 d0)) = w3 at *
        clear hu hf o0
        rw [rounds_succ]
        by_cases n1 : d1 < 0
        · have hbad := unhex_no (unhexL_bad HX.out.2 (by have := HSL.out; omega) (.inr (by rw [at_list s _ q1, H1.out]; exact n1)))
          have HBAD := Lib.hid hbad
          clear hbad
          go_wp2_with fail
          refine (indexByte_at _ d1 H1.out _).mono ?_
          rintro e wn ⟨rfl, rfl⟩
          go_wp2_with fail
          simp only [Exit.noGoto]
          go_wp2
          go_ret2
          rw [HBAD.out.1, HBAD.out.2]
          exact ⟨_, rfl, Bytes.nil _ _ _, HB3.out⟩
        · have o1 : bits .or .u8 (d0 * 16) d1 = d0 * 16 + d1 := or_j (by omega) (by omega) (by omega) (by omega)
          have hok := unhexL_step HX.out.2 (by have := HSL.out; omega) (by rw [at_list s _ q0, H0.out]; omega) (by rw [at_list s _ q1, H1.out]; omega)
          rw [at_list s _ q0, at_list s _ q1, H0.out, H1.out] at hok
          have own4 := HW3.out.stored k (.int .u8 (d0 * 16 + d1))
          rw [List.set_set, show d0 * 16 + d1 = ((UInt8.ofNat (16 * d0.toNat + d1.toNat)).toNat : Int) by rw [UInt8.toNat_ofNat']; omega] at own4
          have hx1 := HX.out.1
          have own5 := own4.1
          have hset := rowU_set (x := x) (m := m) (by omega) (UInt8.ofNat (16 * d0.toNat + d1.toNat))
          rw [hx1] at hset
          rw [hset] at own5
          have HOK := Lib.hid hok
          have HW4 := Lib.hid own5
          have Hx1 := Lib.hid hx1
          clear hok own4 own5 hx1 hset
          go_wp2_with fail
          refine (indexByte_at _ d1 H1.out _).mono ?_
          rintro e wn ⟨rfl, rfl⟩
          go_wp2_with fail
          rw [rounds_succ]
          go_wp2_with fail
          have e4 : ((UInt8.ofNat (16 * d0.toNat + d1.toNat)).toNat : Int) = d0 * 16 + d1 := by rw [UInt8.toNat_ofNat']; omega
          rw [e4] at HW4
          exact ⟨⟨k + 1, _, by omega, congrArg (Value.int .i64) (by omega), congrArg (Value.int .i64) (by omega), ⟨by simp [Hx1.out], HOK.out⟩, HW4.out, HB3.out.setCell (Nat.le_refl _) _⟩, by simp [intOf]; omega⟩
    · have hk2 : k = m := by omega
      subst hk2
      by_cases hev : 2 * k = s.size
      · have hl : s.data.toList.take (2 * k) = s.data.toList := List.take_of_length_le (by have := HSL.out; omega)
        have h2 := HX.out.2
        rw [hl] at h2
        have HY := Lib.hid (unhex_yes h2)
        have c1 : (2 * (k : Int)) = (s.size : Int) := by omega
        clear h2 hl hev
        go_wp2
        simp only [Exit.noGoto]
        go_wp2
        go_ret2
        rw [HY.out.1, HY.out.2]
        refine ⟨_, rfl, Bytes.of_own (base := w.heap.size) (e := 5) (n := k) ?_, HB.out⟩
        have h3 := HW.out
        rwa [show rowU x k = x from by unfold rowU; rw [HX.out.1, Nat.sub_self]; simp] at h3
      · have HN := Lib.hid (unhex_no (unhexL_odd HX.out.2 (by have := HSL.out; have := Hm.out; omega)))
        have c1 : ¬ (2 * (k : Int)) = (s.size : Int) := by omega
        clear hev
        go_wp2
        simp only [Exit.noGoto]
        go_wp2
        go_ret2
        rw [HN.out.1, HN.out.2]
        exact ⟨_, rfl, Bytes.nil _ _ _, HB.out⟩
end Go.Proofs.YtnihjchhbggkiaaDoor
