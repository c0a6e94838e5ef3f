/- The walks of sum.Total, sum.Check, sum.Good. -/
import Derived.Test.YtccfebaifgnodaaSf
namespace Go.Proofs.Ytccfebaifgnodaa
open Go.RowKit
attribute [local go_sem ↓] Go.wp_at_zero Go.wp_at_succ

/-- The bytes of the first lists. -/
def sizes (L : List (List UInt8)) (k : Nat) : Nat := (L.take k).flatten.length
theorem sizes_succ {L : List (List UInt8)} {k : Nat} (h : k < L.length) : sizes L (k + 1) = sizes L k + L[k].length := by
  unfold sizes
  rw [List.take_succ_eq_append_getElem h, List.flatten_append, List.length_append, List.flatten_singleton]
theorem sizes_all (L : List (List UInt8)) : sizes L L.length = L.flatten.length := by unfold sizes; rw [List.take_length]
theorem mem_le {L : List (List UInt8)} {l : List UInt8} (h : l ∈ L) : l.length ≤ L.flatten.length := by
  obtain ⟨a, b, rfl⟩ := List.append_of_mem h
  simp; omega
theorem at0_drop (l : List UInt8) (i j : Nat) : Sm.at0 (l.drop i) j = Sm.at0 l (i + j) := by
  unfold Sm.at0; rw [List.getElem?_drop]
theorem or_word (h l : Nat) (hh : h < 256) (hl : l < 256) : bits .or .u16 ((h : Int) * 256) (l : Int) = ((256 * h + l : Nat) : Int) := by
  rw [show (h : Int) * 256 = ((256 * h : Nat) : Int) by omega, u16_or_nat _ _ (by omega) (by omega)]
  rw [show 256 * h = h <<< 8 by rw [Nat.shiftLeft_eq]; omega, ← Nat.shiftLeft_add_eq_or_of_lt (b := l) (i := 8) (by omega) h]
theorem Nx.start (w : World) (v : Value) : Nx w w.heap.size 0 0 v (((w.alloc (.cells #[v] 76)).alloc (.cells #[.int .i64 0] 3)).alloc (.cells #[.int .i64 0] 3)) := by
  have s1 : (w.alloc (.cells #[v] 76)).heap.size = w.heap.size + 1 := by simp
  have s2 : ((w.alloc (.cells #[v] 76)).alloc (.cells #[.int .i64 0] 3)).heap.size = w.heap.size + 2 := by simp
  refine ⟨?_, Nat.le_refl _, ?_, ?_, ?_⟩
  · go_grown
  · rw [Below.heap_alloc _ _ _ (by omega), Below.heap_alloc _ _ _ (by omega)]; exact heap_alloc_new _ _
  · rw [Below.heap_alloc _ _ _ (by omega), ← s1]; exact heap_alloc_new _ _
  · rw [← s2]; exact heap_alloc_new _ _
theorem sizes_le {L : List (List UInt8)} {k : Nat} : sizes L k ≤ L.flatten.length := by
  unfold sizes
  have : L.flatten = (L.take k).flatten ++ (L.drop k).flatten := by rw [← List.flatten_append, List.take_append_drop]
  rw [this]; simp

set_option maxHeartbeats 1000000 in
theorem totalW_some (w : World) (c : Nat) (b : Option Addr) (L : List (List UInt8)) (hv : Lists w (.slice b L.length c) L) (hL : L.length ≤ 10000) (hS : L.flatten.length ≤ 10000) :
    Calls Try.prog 63 #[.slice b L.length c] w fun e w' => e = .returned (.int .u16 (Sm.tot L.flatten : Nat)) ∧ Below w.heap.size w w' := by
  go_enter Try.func63, Try.ntmps63
  go_wp2_with fail
  go_loop [3, 12] (fun s i => ∃ k : Nat, k ≤ L.length ∧ i = .int .i64 k ∧ s = .int .i64 (sizes L k)) (fun _ i => L.length - (intOf i).toNat)
  case atStart => exact ⟨0, Nat.zero_le _, rfl, rfl⟩
  case round =>
    obtain ⟨k, hk, rfl, rfl⟩ := hrel
    have hsz := sizes_le (L := L) (k := k)
    obtain ⟨z, hz⟩ : ∃ z, z = sizes L k := ⟨_, rfl⟩
    rw [← hz] at hsz ⊢
    have Hz := Lib.hid hz
    clear hz
    rcases Nat.lt_or_ge k L.length with hlt | hge
    · obtain ⟨bl, bo, rfl, hbl, x, d, he, hbe⟩ := hv.at hlt
      have hs2 := sizes_succ hlt
      rw [← Hz.out] at hs2
      have hsz2 := sizes_le (L := L) (k := k + 1)
      obtain ⟨m, hm⟩ : ∃ m, m = L[k].length := ⟨_, rfl⟩
      rw [← hm] at he hs2
      have hm2 : m ≤ 10000 := by omega
      have Hs2 := Lib.hid hs2
      have HV := Lib.hid hv
      have g1 : (k : Int) < L.length := by omega
      clear hm hs2 hv hbe hsz2
      go_wp2_with fail
      go_round
      case rel => exact ⟨k + 1, by omega, by go_num, by rw [Hs2.out]; go_num⟩
      case measure => simp [intOf]; omega
    · have e : k = L.length := by omega
      subst e
      have HV := Lib.hid hv
      clear hv
      have hz1 := Hz.out
      rw [sizes_all] at hz1
      have Hz2 := Lib.hid hz1
      clear hz1
      have hS2 : ∀ l ∈ L, l.length ≤ 10000 := fun l h => Nat.le_trans (mem_le h) hS
      go_wp2_with (go_in)
      go_loopw [7, 26] (fun t j wr => ∃ k i' a' : Nat, k ≤ (z + 1) / 2 ∧ j = .int .i64 k ∧ t = .int .u16 (Sm.canon (Sm.upto L.flatten k) : Nat) ∧ Hid (Nx w w.heap.size i' a' (.slice b L.length c) wr) ∧ i' ≤ L.length ∧ (∀ h : i' < L.length, a' ≤ L[i'].length) ∧ Hid (rest L i' a' = L.flatten.drop (2 * k))) (fun _ j _ => (z + 1) / 2 - (intOf j).toNat)
      case atStart => exact ⟨0, 0, 0, Nat.zero_le _, rfl, rfl, Nx.start w _, Nat.zero_le _, fun _ => Nat.zero_le _, rfl⟩
      case round =>
        obtain ⟨k, i', a', hk, rfl, rfl, HN, hi', ha', HR⟩ := hrel
        rcases Nat.lt_or_ge k ((z + 1) / 2) with hlt | hge
        · have g1 : (k : Int) < ((z : Int) + 1) / 2 := by omega
          go_wp2_with fail
          refine (next_any w wr w.heap.size i' a' c b L HV.out HN.out hi' ha' hL hS2).mono ?_
          rintro e w1 ⟨i1, a1, rfl, hn1, hi1, ha1, hr1⟩
          have HN1 := Lib.hid hn1
          have HR1 := Lib.hid hr1
          clear hn1 hr1
          go_wp2_with fail
          refine (next_any w w1 w.heap.size i1 a1 c b L HV.out HN1.out hi1 ha1 hL hS2).mono ?_
          rintro e w2 ⟨i2, a2, rfl, hn2, hi2, ha2, hr2⟩
          have hq1 : Sm.at0 (rest L i' a') 0 = Sm.at0 L.flatten (2 * k) := by rw [HR.out, at0_drop]; rfl
          have hq2 : Sm.at0 (rest L i1 a1) 0 = Sm.at0 L.flatten (2 * k + 1) := by rw [HR1.out, HR.out, List.drop_drop, at0_drop]
          have hr3 : rest L i2 a2 = L.flatten.drop (2 * (k + 1)) := by rw [hr2, HR1.out, HR.out, List.drop_drop, List.drop_drop]; rfl
          rw [hq1, hq2]
          have HN2 := Lib.hid hn2
          have HR3 := Lib.hid hr3
          have b1 := Sm.at0_lt L.flatten (2 * k)
          have b2 := Sm.at0_lt L.flatten (2 * k + 1)
          obtain ⟨x, hx⟩ : ∃ x, x = Sm.at0 L.flatten (2 * k) := ⟨_, rfl⟩
          obtain ⟨y, hy⟩ : ∃ y, y = Sm.at0 L.flatten (2 * k + 1) := ⟨_, rfl⟩
          rw [← hx] at b1 ⊢
          rw [← hy] at b2 ⊢
          have hwd : Sm.word L.flatten k = 256 * x + y := by rw [hx, hy]; rfl
          have HW := Lib.hid hwd
          have HO := Lib.hid (or_word x y b1 b2)
          clear hn2 hr2 hr3 hq1 hq2 hx hy hwd
          have c1 := Sm.canon_lt (Sm.upto L.flatten k)
          go_wp2_with fail
          rw [HO.out]
          refine (addW_int _ _ _ (by omega) (by omega) (by omega) (by omega) (Sm.canon (Sm.upto L.flatten (k + 1)) : Nat) (by rw [Int.toNat_natCast, Int.toNat_natCast, ← HW.out, Sm.step])).mono ?_
          rintro e w3 ⟨rfl, rfl⟩
          go_wp2_with fail
          go_roundw
          case rel => exact ⟨k + 1, i2, a2, by omega, by go_num, rfl, HN2, hi2, ha2, HR3⟩
          case measure => simp [intOf]; omega
        · have e : k = (z + 1) / 2 := by omega
          have E := Lib.hid e
          have g1 : ((z : Int) + 1) / 2 ≤ (k : Int) := by omega
          clear e
          go_wp2_with fail
          go_ret
          refine ⟨ret_i ?_, HN.out.bel⟩
          rw [E.out, Hz2.out]; rfl

/-- What a list of lists comes to. -/
theorem totalW_any (w : World) (v : Value) (L : List (List UInt8)) (hv : Lists w v L) (hL : L.length ≤ 10000) (hS : L.flatten.length ≤ 10000) :
    Calls Try.prog 63 #[v] w fun e w' => e = .returned (.int .u16 (Sm.tot L.flatten : Nat)) ∧ Below w.heap.size w w' := by
  obtain ⟨b, c, rfl⟩ := hv.form
  exact totalW_some w c b L hv hL hS
theorem checkW_any (w : World) (v : Value) (L : List (List UInt8)) (hv : Lists w v L) (hL : L.length ≤ 10000) (hS : L.flatten.length ≤ 10000) :
    Calls Try.prog 45 #[v] w fun e w' => e = .returned (.int .u16 (65535 - Sm.tot L.flatten : Nat)) ∧ Below w.heap.size w w' := by
  have hb := Sm.tot_lt L.flatten
  have HV := Lib.hid hv
  clear hv
  go_enter Try.func45, Try.ntmps45
  go_wp2_with fail
  refine (totalW_any w v L HV.out hL hS).mono ?_
  rintro e w1 ⟨rfl, hb1⟩
  go_wp2_with fail
  go_ret
  exact ⟨ret_i (by omega), hb1⟩
/-- One list in new memory. -/
theorem lists_one {w : World} {v : Value} {l : List UInt8} (h : Bytes w v l) : Lists (w.alloc (.cells #[v] 22)) (.slice (some ⟨w.heap.size, 0, none⟩) 1 1) [l] :=
  .inr ⟨w.heap.size, 0, 1, rfl, by simp, Nat.le_refl _, fun j x hx => by
    match j, hx with
    | 0, hx => simp at hx; subst hx; exact ⟨v, by simp, h.later ((Below.refl _ _).alloc (Nat.le_refl _) _)⟩⟩
theorem lists_two {w : World} {u v : Value} {k l : List UInt8} (g : Bytes w u k) (h : Bytes w v l) : Lists (w.alloc (.cells #[u, v] 22)) (.slice (some ⟨w.heap.size, 0, none⟩) 2 2) [k, l] :=
  .inr ⟨w.heap.size, 0, 2, rfl, by simp, Nat.le_refl _, fun j x hx => by
    match j, hx with
    | 0, hx => simp at hx; subst hx; exact ⟨u, by simp, g.later ((Below.refl _ _).alloc (Nat.le_refl _) _)⟩
    | 1, hx => simp at hx; subst hx; exact ⟨v, by simp, h.later ((Below.refl _ _).alloc (Nat.le_refl _) _)⟩⟩
theorem total_one (w : World) (v : Value) (l : List UInt8) (h : Bytes w v l) (hl : l.length ≤ 10000) :
    Calls Try.prog 63 #[.slice (some ⟨w.heap.size, 0, none⟩) 1 1] (w.alloc (.cells #[v] 22)) fun e w' => e = .returned (.int .u16 (Sm.tot l : Nat)) ∧ Below w.heap.size w w' := by
  refine (totalW_any _ _ [l] (lists_one h) (by simp) (by simpa using hl)).mono ?_
  rintro e w1 ⟨rfl, hb⟩
  refine ⟨by simp, ?_⟩
  exact ((Below.refl _ _).alloc (Nat.le_refl _) _).trans (hb.mono (by simp))
theorem check_one (w : World) (v : Value) (l : List UInt8) (h : Bytes w v l) (hl : l.length ≤ 10000) :
    Calls Try.prog 45 #[.slice (some ⟨w.heap.size, 0, none⟩) 1 1] (w.alloc (.cells #[v] 22)) fun e w' => e = .returned (.int .u16 (65535 - Sm.tot l : Nat)) ∧ Below w.heap.size w w' := by
  refine (checkW_any _ _ [l] (lists_one h) (by simp) (by simpa using hl)).mono ?_
  rintro e w1 ⟨rfl, hb⟩
  refine ⟨by simp, ?_⟩
  exact ((Below.refl _ _).alloc (Nat.le_refl _) _).trans (hb.mono (by simp))
theorem goodW_any (w : World) (v : Value) (l : List UInt8) (h : Bytes w v l) (hl : l.length ≤ 10000) :
    Calls Try.prog 57 #[v] w fun e w' => e = .returned (.bool (Sm.tot l == 65535)) ∧ Below w.heap.size w w' := by
  obtain ⟨a, c, rfl⟩ := h.form
  have H := Lib.hid h
  clear h
  go_enter Try.func57, Try.ntmps57
  go_wp2_with fail
  refine (total_one w _ l H.out hl).mono ?_
  rintro e w1 ⟨rfl, hb1⟩
  obtain ⟨t, ht⟩ : ∃ t, t = Sm.tot l := ⟨_, rfl⟩
  rw [← ht]
  have HT := Lib.hid ht
  clear ht
  go_wp2_with fail
  go_ret
  refine ⟨ret_b ?_, hb1⟩
  rw [← HT.out, Bool.eq_iff_iff]; simp; omega
end Go.Proofs.Ytccfebaifgnodaa
