/- The walks of the reference's Words, Total, Check, for longer bytes.
   The walks of sum.Total, sum.Check, sum.Good, for longer bytes.
   The walk of the closure that goes over the bytes of lists, for longer bytes. -/
import Derived.Test.YtnhkkpcepppgoaaZ02
import Derived.Test.YtnhkkpcepppgoaaZ04

set_option linter.unusedSimpArgs false
set_option linter.unusedVariables false
namespace Go.Proofs.Ytnhkkpcepppgoaa
open Go.RowKit
attribute [local go_sem ↓] Go.wp_at_zero Go.wp_at_succ

set_option maxHeartbeats 1000000 in
theorem next_anyB (w0 w : World) (N i a c : Nat) (b : Option Addr) (L : List (List UInt8)) (hv : Lists w0 (.slice b L.length c) L) (hx : Nx w0 N i a (.slice b L.length c) w)
    (hi : i ≤ L.length) (ha : ∀ h : i < L.length, a ≤ L[i].length) (hL : L.length ≤ 100000) (hS : ∀ l ∈ L, l.length ≤ 100000) :
    Calls Try.prog 91 #[.pointer (some ⟨N + 1, 0, none⟩), .pointer (some ⟨N, 0, none⟩), .pointer (some ⟨N + 1 + 1, 0, none⟩)] w (NextGives w0 N (.slice b L.length c) L i a) := by
  go_enter Try.func91, Try.ntmps91
  go_wp2_with fail
  go_loopg [4] (L.length - i) (fun k _ wr => ∃ i' a' : Nat, Nx w0 N i' a' (.slice b L.length c) wr ∧ k = L.length - i' ∧ i' ≤ L.length ∧ (∀ h : i' < L.length, a' ≤ L[i'].length) ∧ Hid (rest L i' a' = rest L i a))
  case atStart => exact ⟨i, a, hx, rfl, hi, ha, rfl⟩
  case round =>
    obtain ⟨i', a', hn, rfl, hi', ha', hr⟩ := hrel
    have c0 := cell_of_one hn.c0
    have c1 := cell_of_one hn.c1
    have c2 := cell_of_one hn.c2
    have f1 := free_of_one hn.c1
    have f2 := free_of_one hn.c2
    rcases Nat.lt_or_ge i' L.length with hlt | hge
    · obtain ⟨bl, bo, rfl, hbl, x, d, he, hbe⟩ := hv.at hlt
      have he' := cell_later' hn.bel hbl he
      have hal := ha' hlt
      have hsl := hS _ (List.getElem_mem hlt)
      obtain ⟨m, hm⟩ : ∃ m, m = L[i'].length := ⟨_, rfl⟩
      rw [← hm] at he he' hbe hal hsl
      have g1 : (i' : Int) < L.length := by omega
      have Hm := Lib.hid hm
      clear hm
      have b1 : bl < wr.heap.size := Nat.lt_of_lt_of_le hbl hn.bel.size
      rcases Nat.lt_or_ge a' m with hlt2 | hge2
      · have g2 : decide ((a' : Int) = m) = false := by simp; omega
        have g3 : ((a' : Int) == m) = false := by simp; omega
        have hlx : a' < L[i'].length := by rw [← Hm.out]; exact hlt2
        obtain ⟨bx, ox, rfl, hbx, hex⟩ := hbe.at hlx
        have hex' := cell_later' hn.bel hbx hex
        have b2 : bx < wr.heap.size := Nat.lt_of_lt_of_le hbx hn.bel.size
        obtain ⟨y, hy⟩ : ∃ y, y = L[i'][a'] := ⟨_, rfl⟩
        rw [← hy] at hex'
        have Hy := Lib.hid hy
        have n1 := hn.le
        have n2 : bx ≠ N + 2 := by omega
        have n3 : bl ≠ N + 2 := by omega
        have HN := Lib.hid hn
        have HV := Lib.hid hv
        clear hy hex he hbe hv hx hn
        go_wp2_with fail
        go_quiet (fail)
        go_wp2_with fail
        go_quiet (fail)
        go_wp2_with fail
        go_ret
        have hro := rest_in hlt hlx
        rw [← Hy.out, hr.out] at hro
        refine ⟨i', a' + 1, ret_i ?_, ?_, hi', fun h => ?_, ?_⟩
        · rw [at0_cons hro]
        · exact ((HN.out.drewN _).set2 (a' + 1)).drewN _
        · omega
        · rw [hro]; rfl
      · have e2 : a' = m := by omega
        subst e2
        have hn2 := fun n => (hn.drewN n).set (i' + 1) 0
        have HN := Lib.hid hn2
        clear he hbe hv hx hn hn2
        go_wp2_with fail
        go_quiet (fail)
        go_wp2_with fail
        go_roundg (L.length - (i' + 1))
        case measure => omega
        case rel =>
          refine ⟨i' + 1, 0, ?_, rfl, by omega, fun _ => Nat.zero_le _, ?_⟩
          · exact HN.out nq
          · show _ = _
            rw [← rest_end hlt, ← Hm.out]; exact hr.out
    · have e : i' = L.length := by omega
      subst e
      have g1 : decide ((L.length : Int) < L.length) = false := by simp
      have HN := Lib.hid hn
      clear hv hx hn
      go_wp2_with fail
      go_quiet (fail)
      go_wp2_with fail
      go_ret
      refine ⟨L.length, a', ret_i ?_, HN.out.drewN _, Nat.le_refl _, fun h => absurd h (by omega), ?_⟩
      · rw [at0_nil (hr.out.symm.trans rest_none)]; rfl
      · rw [← hr.out, rest_none]; rfl
end Go.Proofs.Ytnhkkpcepppgoaa

namespace Go.Proofs.Ytnhkkpcepppgoaa
open Go.RowKit
attribute [local go_sem ↓] Go.wp_at_zero Go.wp_at_succ

set_option maxHeartbeats 1000000 in
theorem totalW_someB (w : World) (c : Nat) (b : Option Addr) (L : List (List UInt8)) (hv : Lists w (.slice b L.length c) L) (hL : L.length ≤ 100000) (hS : L.flatten.length ≤ 100000) :
    Calls Try.prog 84 #[.slice b L.length c] w fun e w' => e = .returned (.int .u16 (Sm.tot L.flatten : Nat)) ∧ Below w.heap.size w w' := by
  go_enter Try.func84, Try.ntmps84
  go_wp2_with fail
  go_loop [3, 12] (fun s i => ∃ k : Nat, k ≤ L.length ∧ i = .int .i64 k ∧ s = .int .i64 (sizes L k)) (fun _ i => L.length - (intOf i).toNat)
  case atStart => exact ⟨0, Nat.zero_le _, rfl, rfl⟩
  case round =>
    obtain ⟨k, hk, rfl, rfl⟩ := hrel
    have hsz := sizes_le (L := L) (k := k)
    obtain ⟨z, hz⟩ : ∃ z, z = sizes L k := ⟨_, rfl⟩
    rw [← hz] at hsz ⊢
    have Hz := Lib.hid hz
    clear hz
    rcases Nat.lt_or_ge k L.length with hlt | hge
    · obtain ⟨bl, bo, rfl, hbl, x, d, he, hbe⟩ := hv.at hlt
      have hs2 := sizes_succ hlt
      rw [← Hz.out] at hs2
      have hsz2 := sizes_le (L := L) (k := k + 1)
      obtain ⟨m, hm⟩ : ∃ m, m = L[k].length := ⟨_, rfl⟩
      rw [← hm] at he hs2
      have hm2 : m ≤ 100000 := by omega
      have Hs2 := Lib.hid hs2
      have HV := Lib.hid hv
      have g1 : (k : Int) < L.length := by omega
      clear hm hs2 hv hbe hsz2
      go_wp2_with fail
      go_round
      case rel => exact ⟨k + 1, by omega, by go_num, by rw [Hs2.out]; go_num⟩
      case measure => simp [intOf]; omega
    · have e : k = L.length := by omega
      subst e
      have HV := Lib.hid hv
      clear hv
      have hz1 := Hz.out
      rw [sizes_all] at hz1
      have Hz2 := Lib.hid hz1
      clear hz1
      have hS2 : ∀ l ∈ L, l.length ≤ 100000 := fun l h => Nat.le_trans (mem_le h) hS
      go_wp2_with (go_in)
      go_loopw [7, 26] (fun t j wr => ∃ k i' a' : Nat, k ≤ (z + 1) / 2 ∧ j = .int .i64 k ∧ t = .int .u16 (Sm.canon (Sm.upto L.flatten k) : Nat) ∧ Hid (Nx w w.heap.size i' a' (.slice b L.length c) wr) ∧ i' ≤ L.length ∧ (∀ h : i' < L.length, a' ≤ L[i'].length) ∧ Hid (rest L i' a' = L.flatten.drop (2 * k))) (fun _ j _ => (z + 1) / 2 - (intOf j).toNat)
      case atStart => exact ⟨0, 0, 0, Nat.zero_le _, rfl, rfl, Nx.start w _, Nat.zero_le _, fun _ => Nat.zero_le _, rfl⟩
      case round =>
        obtain ⟨k, i', a', hk, rfl, rfl, HN, hi', ha', HR⟩ := hrel
        rcases Nat.lt_or_ge k ((z + 1) / 2) with hlt | hge
        · have g1 : (k : Int) < ((z : Int) + 1) / 2 := by omega
          go_wp2_with fail
          refine (next_anyB w wr w.heap.size i' a' c b L HV.out HN.out hi' ha' hL hS2).mono ?_
          rintro e w1 ⟨i1, a1, rfl, hn1, hi1, ha1, hr1⟩
          have HN1 := Lib.hid hn1
          have HR1 := Lib.hid hr1
          clear hn1 hr1
          go_wp2_with fail
          refine (next_anyB w w1 w.heap.size i1 a1 c b L HV.out HN1.out hi1 ha1 hL hS2).mono ?_
          rintro e w2 ⟨i2, a2, rfl, hn2, hi2, ha2, hr2⟩
          have hq1 : Sm.at0 (rest L i' a') 0 = Sm.at0 L.flatten (2 * k) := by rw [HR.out, at0_drop]; rfl
          have hq2 : Sm.at0 (rest L i1 a1) 0 = Sm.at0 L.flatten (2 * k + 1) := by rw [HR1.out, HR.out, List.drop_drop, at0_drop]
          have hr3 : rest L i2 a2 = L.flatten.drop (2 * (k + 1)) := by rw [hr2, HR1.out, HR.out, List.drop_drop, List.drop_drop]; rfl
          rw [hq1, hq2]
          have HN2 := Lib.hid hn2
          have HR3 := Lib.hid hr3
          have b1 := Sm.at0_lt L.flatten (2 * k)
          have b2 := Sm.at0_lt L.flatten (2 * k + 1)
          obtain ⟨x, hx⟩ : ∃ x, x = Sm.at0 L.flatten (2 * k) := ⟨_, rfl⟩
          obtain ⟨y, hy⟩ : ∃ y, y = Sm.at0 L.flatten (2 * k + 1) := ⟨_, rfl⟩
          rw [← hx] at b1 ⊢
          rw [← hy] at b2 ⊢
          have hwd : Sm.word L.flatten k = 256 * x + y := by rw [hx, hy]; rfl
          have HW := Lib.hid hwd
          have HO := Lib.hid (or_word x y b1 b2)
          clear hn2 hr2 hr3 hq1 hq2 hx hy hwd
          have c1 := Sm.canon_lt (Sm.upto L.flatten k)
          go_wp2_with fail
          rw [HO.out]
          refine (addW_int _ _ _ (by omega) (by omega) (by omega) (by omega) (Sm.canon (Sm.upto L.flatten (k + 1)) : Nat) (by rw [Int.toNat_natCast, Int.toNat_natCast, ← HW.out, Sm.step])).mono ?_
          rintro e w3 ⟨rfl, rfl⟩
          go_wp2_with fail
          go_roundw
          case rel => exact ⟨k + 1, i2, a2, by omega, by go_num, rfl, HN2, hi2, ha2, HR3⟩
          case measure => simp [intOf]; omega
        · have e : k = (z + 1) / 2 := by omega
          have E := Lib.hid e
          have g1 : ((z : Int) + 1) / 2 ≤ (k : Int) := by omega
          clear e
          go_wp2_with fail
          go_ret
          refine ⟨ret_i ?_, HN.out.bel⟩
          rw [E.out, Hz2.out]; rfl

/-- What a list of lists comes to. -/
theorem totalW_anyB (w : World) (v : Value) (L : List (List UInt8)) (hv : Lists w v L) (hL : L.length ≤ 100000) (hS : L.flatten.length ≤ 100000) :
    Calls Try.prog 84 #[v] w fun e w' => e = .returned (.int .u16 (Sm.tot L.flatten : Nat)) ∧ Below w.heap.size w w' := by
  obtain ⟨b, c, rfl⟩ := hv.form
  exact totalW_someB w c b L hv hL hS
theorem checkW_anyB (w : World) (v : Value) (L : List (List UInt8)) (hv : Lists w v L) (hL : L.length ≤ 100000) (hS : L.flatten.length ≤ 100000) :
    Calls Try.prog 62 #[v] w fun e w' => e = .returned (.int .u16 (65535 - Sm.tot L.flatten : Nat)) ∧ Below w.heap.size w w' := by
  have hb := Sm.tot_lt L.flatten
  have HV := Lib.hid hv
  clear hv
  go_enter Try.func62, Try.ntmps62
  go_wp2_with fail
  refine (totalW_anyB w v L HV.out hL hS).mono ?_
  rintro e w1 ⟨rfl, hb1⟩
  go_wp2_with fail
  go_ret
  exact ⟨ret_i (by omega), hb1⟩
theorem total_oneB (w : World) (v : Value) (l : List UInt8) (h : Bytes w v l) (hl : l.length ≤ 100000) :
    Calls Try.prog 84 #[.slice (some ⟨w.heap.size, 0, none⟩) 1 1] (w.alloc (.cells #[v] 22)) fun e w' => e = .returned (.int .u16 (Sm.tot l : Nat)) ∧ Below w.heap.size w w' := by
  refine (totalW_anyB _ _ [l] (lists_one h) (by simp) (by simpa using hl)).mono ?_
  rintro e w1 ⟨rfl, hb⟩
  refine ⟨by simp, ?_⟩
  exact ((Below.refl _ _).alloc (Nat.le_refl _) _).trans (hb.mono (by simp))
theorem check_oneB (w : World) (v : Value) (l : List UInt8) (h : Bytes w v l) (hl : l.length ≤ 100000) :
    Calls Try.prog 62 #[.slice (some ⟨w.heap.size, 0, none⟩) 1 1] (w.alloc (.cells #[v] 22)) fun e w' => e = .returned (.int .u16 (65535 - Sm.tot l : Nat)) ∧ Below w.heap.size w w' := by
  refine (checkW_anyB _ _ [l] (lists_one h) (by simp) (by simpa using hl)).mono ?_
  rintro e w1 ⟨rfl, hb⟩
  refine ⟨by simp, ?_⟩
  exact ((Below.refl _ _).alloc (Nat.le_refl _) _).trans (hb.mono (by simp))
theorem goodW_anyB (w : World) (v : Value) (l : List UInt8) (h : Bytes w v l) (hl : l.length ≤ 100000) :
    Calls Try.prog 67 #[v] w fun e w' => e = .returned (.bool (Sm.tot l == 65535)) ∧ Below w.heap.size w w' := by
  obtain ⟨a, c, rfl⟩ := h.form
  have H := Lib.hid h
  clear h
  go_enter Try.func67, Try.ntmps67
  go_wp2_with fail
  refine (total_oneB w _ l H.out hl).mono ?_
  rintro e w1 ⟨rfl, hb1⟩
  obtain ⟨t, ht⟩ : ∃ t, t = Sm.tot l := ⟨_, rfl⟩
  rw [← ht]
  have HT := Lib.hid ht
  clear ht
  go_wp2_with fail
  go_ret
  refine ⟨ret_b ?_, hb1⟩
  rw [← HT.out, Bool.eq_iff_iff]; simp; omega
end Go.Proofs.Ytnhkkpcepppgoaa

namespace Go.Proofs.Ytnhkkpcepppgoaa
open Go.RowKit
attribute [local go_sem ↓] Go.wp_at_zero Go.wp_at_succ

set_option maxHeartbeats 2000000 in
set_option maxRecDepth 100000 in
theorem wordsR_someB (b : Option Addr) (c : Nat) (l : List UInt8) (w : World) (hv : Bytes w (.slice b l.length c) l) (hl : l.length ≤ 100000) :
    Calls Try.prog 81 #[.slice b l.length c] w fun e w' => ∃ v, e = .returned v ∧ w'.ownsRow w.heap.size 24 1 v ((l.length + 1) / 2) (wv l ((l.length + 1) / 2)) ∧ Below w.heap.size w w' := by
  have hi5 : (Try.prog.info? 24).map (fun i => (i.zero, i.size, i.bytes)) = some (some (.int .u16 0), 1, 2) := by kernel_rfl
  obtain ⟨i0, hi, hx⟩ := Option.map_eq_some_iff.1 hi5
  simp only [Prod.mk.injEq] at hx
  obtain ⟨hz0, hz1, hz2⟩ := hx
  have HV := Lib.hid hv
  clear hi5 hv
  go_enter Try.func81, Try.ntmps81
  go_wp2_with fail
  go_loopw [3, 4] (fun v i wr => ∃ k : Nat, k ≤ (l.length + 1) / 2 ∧ i = .int .i64 ((2 * k : Nat) : Int) ∧ Hid (wr.ownsRow w.heap.size 24 1 v k (wv l k)) ∧ Hid (Below w.heap.size w wr)) (fun _ i _ => l.length + 1 - (intOf i).toNat)
  case atStart => exact ⟨0, Nat.zero_le _, rfl, World.ownsRow_nil w _ _ _, Below.refl _ _⟩
  case round =>
    obtain ⟨k, hk, rfl, HW, HB⟩ := hrel
    by_cases hlt : 2 * k < l.length
    · obtain ⟨bx, ox, rfl, hbx, hex⟩ := HV.out.at hlt
      have hcell := cell_later' HB.out hbx hex
      obtain ⟨x, hx⟩ : ∃ x : Nat, x = l[2 * k].toNat := ⟨_, rfl⟩
      have hxn : x < 256 := by rw [hx]; exact l[2 * k].toNat_lt
      rw [← hx] at hcell
      have Hx := Lib.hid hx
      have g1 : (2 * (k : Int)) < l.length := by omega
      have hcell2 : wr.cell? ⟨bx, ox + 2 * k, none⟩ = some (.int .u8 (x : Int)) := hcell
      have b1 : bx < wr.heap.size := Nat.lt_of_lt_of_le hbx HB.out.size
      clear hx hex hcell
      by_cases hlt2 : 2 * k + 1 < l.length
      · obtain ⟨bx', ox', e1, _, hex2⟩ := HV.out.at hlt2
        simp only [Option.some.injEq, Addr.mk.injEq, and_true] at e1
        obtain ⟨rfl, rfl⟩ := e1
        have hcell3 := cell_later' HB.out hbx hex2
        obtain ⟨y, hy⟩ : ∃ y : Nat, y = l[2 * k + 1].toNat := ⟨_, rfl⟩
        have hyn : y < 256 := by rw [hy]; exact l[2 * k + 1].toNat_lt
        rw [← hy] at hcell3
        have Hy := Lib.hid hy
        have g2 : (2 * (k : Int)) + 1 < l.length := by omega
        clear hy hex2
        go_wp2_with (at_builtin; refine wpList_append_own _ rfl _ _ 108 rfl w.heap.size 24 i0 (.int .u16 0) 1 2 Try.underlying108 hi hz0 hz1 hz2 rfl (by decide) _ _ _ rfl (HW.out.alloc _) ⟨wr.heap.size, 0, none⟩ 1 1 [.int .u16 (256 * (x : Int) + (y : Int))] rfl rfl (news_one wr _ _) (one_int _ _) (by unfold maxLen; omega) (by omega) (by simp; exact Nat.le_succ_of_le HB.out.size) ?_)
        intro v' w1 hown' hgrow _
        have hwd : Sm.word l k = 256 * x + y := by
          rw [Hx.out, Hy.out]
          unfold Sm.word Sm.at0
          rw [List.getElem?_eq_getElem hlt, List.getElem?_eq_getElem hlt2]; rfl
        have hown2 : Hid (w1.ownsRow w.heap.size 24 1 v' (k + 1) (wv l (k + 1))) := by
          show World.ownsRow _ _ _ _ _ _ _
          rw [wv_succ, hwd]; exact hown'
        have hB2 : Hid (Below w.heap.size w w1) := (HB.out.alloc HB.out.size _).grown hgrow (by simp; exact Nat.le_succ_of_le HB.out.size) (fun j hj => own_base HW.out hj)
        clear hown' hgrow hwd
        go_wp2_with fail
        go_roundw
        case rel => exact ⟨k + 1, by omega, by go_num, hown2, hB2⟩
        case measure => simp [intOf]; omega
      · have g2 : (l.length : Int) ≤ 2 * (k : Int) + 1 := by omega
        go_wp2_with (at_builtin; refine wpList_append_own _ rfl _ _ 108 rfl w.heap.size 24 i0 (.int .u16 0) 1 2 Try.underlying108 hi hz0 hz1 hz2 rfl (by decide) _ _ _ rfl (HW.out.alloc _) ⟨wr.heap.size, 0, none⟩ 1 1 [.int .u16 (256 * (x : Int))] rfl rfl (news_one wr _ _) (one_int _ _) (by unfold maxLen; omega) (by omega) (by simp; exact Nat.le_succ_of_le HB.out.size) ?_)
        intro v' w1 hown' hgrow _
        have hwd : Sm.word l k = 256 * x := by
          rw [Hx.out]
          unfold Sm.word Sm.at0
          rw [List.getElem?_eq_getElem hlt, List.getElem?_eq_none (by omega)]; rfl
        have hown2 : Hid (w1.ownsRow w.heap.size 24 1 v' (k + 1) (wv l (k + 1))) := by
          show World.ownsRow _ _ _ _ _ _ _
          rw [wv_succ, hwd]; exact hown'
        have hB2 : Hid (Below w.heap.size w w1) := (HB.out.alloc HB.out.size _).grown hgrow (by simp; exact Nat.le_succ_of_le HB.out.size) (fun j hj => own_base HW.out hj)
        clear hown' hgrow hwd
        go_wp2_with fail
        go_roundw
        case rel => exact ⟨k + 1, by omega, by go_num, hown2, hB2⟩
        case measure => simp [intOf]; omega
    · have g1 : (l.length : Int) ≤ 2 * (k : Int) := by omega
      have e : k = (l.length + 1) / 2 := by omega
      have E := Lib.hid e
      clear e
      go_wp2_with fail
      go_ret
      exact ⟨_, rfl, by rw [← E.out]; exact HW.out, HB.out⟩

theorem totalR_someB (b : Option Addr) (c : Nat) (l : List UInt8) (w : World) (hv : Bytes w (.slice b l.length c) l) (hl : l.length ≤ 100000) :
    Calls Try.prog 56 #[.slice b l.length c] w fun e w' => e = .returned (.int .u16 (Sm.tot l : Nat)) ∧ Below w.heap.size w w' := by
  have HV := Lib.hid hv
  clear hv
  go_enter Try.func56, Try.ntmps56
  go_wp2_with fail
  refine (wordsR_someB b c l w HV.out hl).mono ?_
  rintro e w1 ⟨v, rfl, hown, hb⟩
  have hrow := Row.of_own hown
  obtain ⟨a1, c1, rfl⟩ := hrow.form
  rw [wv_length] at hrow ⊢
  have HR := Lib.hid hrow
  have HB := Lib.hid hb
  clear hown hrow hb
  obtain ⟨n, hn⟩ : ∃ n, n = (l.length + 1) / 2 := ⟨_, rfl⟩
  rw [← hn] at HR ⊢
  have hn2 : n ≤ 100000 := by omega
  have Hn := Lib.hid hn
  clear hn
  go_wp2_with fail
  go_loop [4, 5] (fun t i => ∃ k : Nat, k ≤ n ∧ i = .int .i64 k ∧ t = .int .u16 (Sm.canon (Sm.upto l k) : Nat)) (fun _ i => n - (intOf i).toNat)
  case atStart => exact ⟨0, Nat.zero_le _, rfl, rfl⟩
  case round =>
    obtain ⟨k, hk, rfl, rfl⟩ := hrel
    rcases Nat.lt_or_ge k n with hlt | hge
    · obtain ⟨bl, bo, rfl, hbl, hc⟩ := HR.out.at (i := k) (x := .int .u16 (Sm.word l k : Nat)) (by simp [wv, hlt])
      have g1 : (k : Int) < n := by omega
      have d1 := Sm.canon_lt (Sm.upto l k)
      have d2 := Sm.word_lt l k
      go_wp2_with fail
      refine (addR_int _ _ _ (by omega) (by omega) (by omega) (by omega) (Sm.canon (Sm.upto l (k + 1)) : Nat) (by rw [Int.toNat_natCast, Int.toNat_natCast, Sm.step])).mono ?_
      rintro e w3 ⟨rfl, rfl⟩
      go_wp2_with fail
      go_round
      case rel => exact ⟨k + 1, by omega, by go_num, rfl⟩
      case measure => simp [intOf]; omega
    · have e : k = n := by omega
      subst e
      go_wp2_with fail
      go_ret
      exact ⟨ret_i (by rw [Hn.out]; rfl), HB.out⟩
theorem totalR_anyB (v : Value) (l : List UInt8) (w : World) (hv : Bytes w v l) (hl : l.length ≤ 100000) :
    Calls Try.prog 56 #[v] w fun e w' => e = .returned (.int .u16 (Sm.tot l : Nat)) ∧ Below w.heap.size w w' := by
  obtain ⟨b, c, rfl⟩ := hv.form
  exact totalR_someB b c l w hv hl
theorem checkR_anyB (v : Value) (l : List UInt8) (w : World) (hv : Bytes w v l) (hl : l.length ≤ 100000) :
    Calls Try.prog 66 #[v] w fun e w' => e = .returned (.int .u16 (65535 - Sm.tot l : Nat)) ∧ Below w.heap.size w w' := by
  have hb := Sm.tot_lt l
  have HV := Lib.hid hv
  clear hv
  go_enter Try.func66, Try.ntmps66
  go_wp2_with fail
  refine (totalR_anyB v l w HV.out hl).mono ?_
  rintro e w1 ⟨rfl, hb1⟩
  go_wp2_with fail
  go_ret
  exact ⟨ret_i (by omega), hb1⟩
end Go.Proofs.Ytnhkkpcepppgoaa
