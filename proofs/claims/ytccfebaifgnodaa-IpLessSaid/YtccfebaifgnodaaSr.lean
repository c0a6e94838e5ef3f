/- The walks of the reference's Words, Total, Check. -/
import Derived.Test.YtccfebaifgnodaaSt
import Derived.Test.YtccfebaifgnodaaRo
import Derived.Deep.AppendLies
namespace Go.Proofs.Ytccfebaifgnodaa
open Go.RowKit
attribute [local go_sem ↓] Go.wp_at_zero Go.wp_at_succ

/-- The words as values. -/
def wv (l : List UInt8) (k : Nat) : List Value := (List.range k).map fun i => .int .u16 (Sm.word l i : Nat)
theorem wv_succ (l : List UInt8) (k : Nat) : wv l (k + 1) = wv l k ++ [.int .u16 (Sm.word l k : Nat)] := by
  unfold wv; rw [List.range_succ]; simp
theorem wv_length (l : List UInt8) (k : Nat) : (wv l k).length = k := by simp [wv]

set_option maxHeartbeats 2000000 in
set_option maxRecDepth 100000 in
theorem wordsR_some (b : Option Addr) (c : Nat) (l : List UInt8) (w : World) (hv : Bytes w (.slice b l.length c) l) (hl : l.length ≤ 10000) :
    Calls Try.prog 55 #[.slice b l.length c] w fun e w' => ∃ v, e = .returned v ∧ w'.ownsRow w.heap.size 24 1 v ((l.length + 1) / 2) (wv l ((l.length + 1) / 2)) ∧ Below w.heap.size w w' := by
  have hi5 : (Try.prog.info? 24).map (fun i => (i.zero, i.size, i.bytes)) = some (some (.int .u16 0), 1, 2) := by kernel_rfl
  obtain ⟨i0, hi, hx⟩ := Option.map_eq_some_iff.1 hi5
  simp only [Prod.mk.injEq] at hx
  obtain ⟨hz0, hz1, hz2⟩ := hx
  have HV := Lib.hid hv
  clear hi5 hv
  go_enter Try.func55, Try.ntmps55
  go_wp2_with fail
  go_loopw [3, 4] (fun v i wr => ∃ k : Nat, k ≤ (l.length + 1) / 2 ∧ i = .int .i64 ((2 * k : Nat) : Int) ∧ Hid (wr.ownsRow w.heap.size 24 1 v k (wv l k)) ∧ Hid (Below w.heap.size w wr)) (fun _ i _ => l.length + 1 - (intOf i).toNat)
  case atStart => exact ⟨0, Nat.zero_le _, rfl, World.ownsRow_nil w _ _ _, Below.refl _ _⟩
  case round =>
    obtain ⟨k, hk, rfl, HW, HB⟩ := hrel
    by_cases hlt : 2 * k < l.length
    · obtain ⟨bx, ox, rfl, hbx, hex⟩ := HV.out.at hlt
      have hcell := cell_later' HB.out hbx hex
      obtain ⟨x, hx⟩ : ∃ x : Nat, x = l[2 * k].toNat := ⟨_, rfl⟩
      have hxn : x < 256 := by rw [hx]; exact l[2 * k].toNat_lt
      rw [← hx] at hcell
      have Hx := Lib.hid hx
      have g1 : (2 * (k : Int)) < l.length := by omega
      have hcell2 : wr.cell? ⟨bx, ox + 2 * k, none⟩ = some (.int .u8 (x : Int)) := hcell
      have b1 : bx < wr.heap.size := Nat.lt_of_lt_of_le hbx HB.out.size
      clear hx hex hcell
      by_cases hlt2 : 2 * k + 1 < l.length
      · obtain ⟨bx', ox', e1, _, hex2⟩ := HV.out.at hlt2
        simp only [Option.some.injEq, Addr.mk.injEq, and_true] at e1
        obtain ⟨rfl, rfl⟩ := e1
        have hcell3 := cell_later' HB.out hbx hex2
        obtain ⟨y, hy⟩ : ∃ y : Nat, y = l[2 * k + 1].toNat := ⟨_, rfl⟩
        have hyn : y < 256 := by rw [hy]; exact l[2 * k + 1].toNat_lt
        rw [← hy] at hcell3
        have Hy := Lib.hid hy
        have g2 : (2 * (k : Int)) + 1 < l.length := by omega
        clear hy hex2
        go_wp2_with (at_builtin; refine wpList_append_own _ rfl _ _ 85 rfl w.heap.size 24 i0 (.int .u16 0) 1 2 Try.underlying85 hi hz0 hz1 hz2 rfl (by decide) _ _ _ rfl (HW.out.alloc _) ⟨wr.heap.size, 0, none⟩ 1 1 [.int .u16 (256 * (x : Int) + (y : Int))] rfl rfl (news_one wr _ _) (one_int _ _) (by unfold maxLen; omega) (by omega) (by simp; exact Nat.le_succ_of_le HB.out.size) ?_)
        intro v' w1 hown' hgrow _
        have hwd : Sm.word l k = 256 * x + y := by
          rw [Hx.out, Hy.out]
          unfold Sm.word Sm.at0
          rw [List.getElem?_eq_getElem hlt, List.getElem?_eq_getElem hlt2]; rfl
        have hown2 : Hid (w1.ownsRow w.heap.size 24 1 v' (k + 1) (wv l (k + 1))) := by
          show World.ownsRow _ _ _ _ _ _ _
          rw [wv_succ, hwd]; exact hown'
        have hB2 : Hid (Below w.heap.size w w1) := (HB.out.alloc HB.out.size _).grown hgrow (by simp; exact Nat.le_succ_of_le HB.out.size) (fun j hj => own_base HW.out hj)
        clear hown' hgrow hwd
        go_wp2_with fail
        go_roundw
        case rel => exact ⟨k + 1, by omega, by go_num, hown2, hB2⟩
        case measure => simp [intOf]; omega
      · have g2 : (l.length : Int) ≤ 2 * (k : Int) + 1 := by omega
        go_wp2_with (at_builtin; refine wpList_append_own _ rfl _ _ 85 rfl w.heap.size 24 i0 (.int .u16 0) 1 2 Try.underlying85 hi hz0 hz1 hz2 rfl (by decide) _ _ _ rfl (HW.out.alloc _) ⟨wr.heap.size, 0, none⟩ 1 1 [.int .u16 (256 * (x : Int))] rfl rfl (news_one wr _ _) (one_int _ _) (by unfold maxLen; omega) (by omega) (by simp; exact Nat.le_succ_of_le HB.out.size) ?_)
        intro v' w1 hown' hgrow _
        have hwd : Sm.word l k = 256 * x := by
          rw [Hx.out]
          unfold Sm.word Sm.at0
          rw [List.getElem?_eq_getElem hlt, List.getElem?_eq_none (by omega)]; rfl
        have hown2 : Hid (w1.ownsRow w.heap.size 24 1 v' (k + 1) (wv l (k + 1))) := by
          show World.ownsRow _ _ _ _ _ _ _
          rw [wv_succ, hwd]; exact hown'
        have hB2 : Hid (Below w.heap.size w w1) := (HB.out.alloc HB.out.size _).grown hgrow (by simp; exact Nat.le_succ_of_le HB.out.size) (fun j hj => own_base HW.out hj)
        clear hown' hgrow hwd
        go_wp2_with fail
        go_roundw
        case rel => exact ⟨k + 1, by omega, by go_num, hown2, hB2⟩
        case measure => simp [intOf]; omega
    · have g1 : (l.length : Int) ≤ 2 * (k : Int) := by omega
      have e : k = (l.length + 1) / 2 := by omega
      have E := Lib.hid e
      clear e
      go_wp2_with fail
      go_ret
      exact ⟨_, rfl, by rw [← E.out]; exact HW.out, HB.out⟩

theorem totalR_some (b : Option Addr) (c : Nat) (l : List UInt8) (w : World) (hv : Bytes w (.slice b l.length c) l) (hl : l.length ≤ 10000) :
    Calls Try.prog 34 #[.slice b l.length c] w fun e w' => e = .returned (.int .u16 (Sm.tot l : Nat)) ∧ Below w.heap.size w w' := by
  have HV := Lib.hid hv
  clear hv
  go_enter Try.func34, Try.ntmps34
  go_wp2_with fail
  refine (wordsR_some b c l w HV.out hl).mono ?_
  rintro e w1 ⟨v, rfl, hown, hb⟩
  have hrow := Row.of_own hown
  obtain ⟨a1, c1, rfl⟩ := hrow.form
  rw [wv_length] at hrow ⊢
  have HR := Lib.hid hrow
  have HB := Lib.hid hb
  clear hown hrow hb
  obtain ⟨n, hn⟩ : ∃ n, n = (l.length + 1) / 2 := ⟨_, rfl⟩
  rw [← hn] at HR ⊢
  have hn2 : n ≤ 10000 := by omega
  have Hn := Lib.hid hn
  clear hn
  go_wp2_with fail
  go_loop [4, 5] (fun t i => ∃ k : Nat, k ≤ n ∧ i = .int .i64 k ∧ t = .int .u16 (Sm.canon (Sm.upto l k) : Nat)) (fun _ i => n - (intOf i).toNat)
  case atStart => exact ⟨0, Nat.zero_le _, rfl, rfl⟩
  case round =>
    obtain ⟨k, hk, rfl, rfl⟩ := hrel
    rcases Nat.lt_or_ge k n with hlt | hge
    · obtain ⟨bl, bo, rfl, hbl, hc⟩ := HR.out.at (i := k) (x := .int .u16 (Sm.word l k : Nat)) (by simp [wv, hlt])
      have g1 : (k : Int) < n := by omega
      have d1 := Sm.canon_lt (Sm.upto l k)
      have d2 := Sm.word_lt l k
      go_wp2_with fail
      refine (addR_int _ _ _ (by omega) (by omega) (by omega) (by omega) (Sm.canon (Sm.upto l (k + 1)) : Nat) (by rw [Int.toNat_natCast, Int.toNat_natCast, Sm.step])).mono ?_
      rintro e w3 ⟨rfl, rfl⟩
      go_wp2_with fail
      go_round
      case rel => exact ⟨k + 1, by omega, by go_num, rfl⟩
      case measure => simp [intOf]; omega
    · have e : k = n := by omega
      subst e
      go_wp2_with fail
      go_ret
      exact ⟨ret_i (by rw [Hn.out]; rfl), HB.out⟩
theorem totalR_any (v : Value) (l : List UInt8) (w : World) (hv : Bytes w v l) (hl : l.length ≤ 10000) :
    Calls Try.prog 34 #[v] w fun e w' => e = .returned (.int .u16 (Sm.tot l : Nat)) ∧ Below w.heap.size w w' := by
  obtain ⟨b, c, rfl⟩ := hv.form
  exact totalR_some b c l w hv hl
theorem checkR_any (v : Value) (l : List UInt8) (w : World) (hv : Bytes w v l) (hl : l.length ≤ 10000) :
    Calls Try.prog 49 #[v] w fun e w' => e = .returned (.int .u16 (65535 - Sm.tot l : Nat)) ∧ Below w.heap.size w w' := by
  have hb := Sm.tot_lt l
  have HV := Lib.hid hv
  clear hv
  go_enter Try.func49, Try.ntmps49
  go_wp2_with fail
  refine (totalR_any v l w HV.out hl).mono ?_
  rintro e w1 ⟨rfl, hb1⟩
  go_wp2_with fail
  go_ret
  exact ⟨ret_i (by omega), hb1⟩
end Go.Proofs.Ytccfebaifgnodaa
