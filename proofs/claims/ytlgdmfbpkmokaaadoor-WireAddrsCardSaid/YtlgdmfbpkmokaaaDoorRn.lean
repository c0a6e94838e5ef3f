/- The walk of the reference's Number. -/
import Derived.Test.YtlgdmfbpkmokaaaDoorWd
namespace Go.Proofs.YtlgdmfbpkmokaaaDoor
open Go.RowKit
attribute [local go_sem ↓] Go.wp_at_zero Go.wp_at_succ

/-- Is a byte a digit of ten? -/
def dig (b : UInt8) : Bool := decide (48 ≤ b.toNat) && decide (b.toNat ≤ 57)
/-- The number of digits. -/
def decN (l : List UInt8) : Nat := l.foldl (fun n b => 10 * n + (b.toNat - 48)) 0
theorem decN_take (l : List UInt8) (k : Nat) (h : k < l.length) : decN (l.take (k + 1)) = 10 * decN (l.take k) + (l[k].toNat - 48) := by
  unfold decN
  rw [List.take_succ_eq_append_getElem h, List.foldl_append]
  rfl
theorem decN_lt : ∀ (k : Nat) (l : List UInt8), l.length = k → (∀ b ∈ l, b.toNat ≤ 57) → decN l < 10 ^ k := by
  intro k
  induction k with
  | zero => intro l h _; have := List.eq_nil_of_length_eq_zero h; subst this; decide
  | succ k ih =>
    intro l h hb
    obtain ⟨r, b, rfl⟩ : ∃ r b, l = r ++ [b] := ⟨l.dropLast, l.getLast (by intro e; subst e; simp at h), (List.dropLast_concat_getLast _).symm⟩
    have hr := ih r (by simp at h; omega) (fun x hx => hb x (by simp [hx]))
    have h57 := hb b (by simp)
    have e : decN (r ++ [b]) = 10 * decN r + (b.toNat - 48) := by simp [decN]
    rw [e, Nat.pow_succ]
    omega
/-- May the text be read at all: one to nine digits, no nought ahead of others? -/
def refOk (l : List UInt8) : Bool := decide (1 ≤ l.length) && (decide (l.length ≤ 9) && (!(decide (1 < l.length) && decide (l.head? = some 48)) && l.all dig))
def refN (l : List UInt8) : Int := if refOk l = true then (decN l : Int) else 0
def refB (l : List UInt8) (most : Int) : Bool := refOk l && decide ((decN l : Int) ≤ most)
theorem ref_no {l : List UInt8} {most : Int} (h : refOk l = false) : refN l = 0 ∧ refB l most = false := by simp [refN, refB, h]
theorem ref_yes {l : List UInt8} {most : Int} (h : refOk l = true) : refN l = decN l ∧ refB l most = decide ((decN l : Int) ≤ most) := by simp [refN, refB, h]
theorem at_byte (s : ByteArray) (j : Nat) (_h : j < s.size) (h2 : j < s.data.toList.length) : s.data.toList[j] = s[j] := by
  rw [Array.getElem_toList]; rfl

set_option maxHeartbeats 1000000 in
set_option maxRecDepth 100000 in
theorem numberR_any (s : ByteArray) (most : Int) (w : World) (hs : s.size ≤ 1000000) :
    Calls Tryd.prog 33 #[.string s, .int .i64 most] w fun e w' => e = .returned (.tuple #[.int .i64 (refN s.data.toList), .bool (refB s.data.toList most)]) ∧ w = w' := by
  have hsl : s.data.toList.length = s.size := by rw [Array.length_toList]; rfl
  by_cases h1 : 1 ≤ s.size
  · by_cases h9 : s.size ≤ 9
    · by_cases hz : 1 < s.size ∧ s[0].toNat = 48
      · have hno : refOk s.data.toList = false := by
          have e0 : s.data.toList.head? = some s[0] := by
            rw [List.head?_eq_getElem?, List.getElem?_eq_getElem (by omega), at_byte s 0 (by omega)]
          have e1 : s[0] = 48 := UInt8.toNat_inj.1 (by rw [hz.2]; rfl)
          rw [e1] at e0
          have e2 : 1 < s.data.toList.length := by omega
          have d2 : decide (1 < s.data.toList.length) = true := by simpa using e2
          have d3 : decide (s.data.toList.head? = some 48) = true := by simpa using e0
          unfold refOk
          rw [d2, d3]
          simp
        have HN := Lib.hid (ref_no (most := most) hno)
        obtain ⟨z1, z2⟩ := hz
        have c1 : (1 : Int) ≤ s.size := by omega
        have c2 : (s.size : Int) ≤ 9 := by omega
        have c3 : (1 : Int) < s.size := by omega
        clear hno hsl
        go_enter Tryd.func33, Tryd.ntmps33
        go_wp2
        go_ret2
        rw [HN.out.1, HN.out.2]
        exact ⟨rfl, rfl⟩
      · have hgood : s.data.toList.all dig = true → refOk s.data.toList = true := by
          intro ha
          have d1 : decide (1 ≤ s.data.toList.length) = true := decide_eq_true (by omega)
          have d2 : decide (s.data.toList.length ≤ 9) = true := decide_eq_true (by omega)
          have d3 : (decide (1 < s.data.toList.length) && decide (s.data.toList.head? = some 48)) = false := by
            rw [Bool.eq_false_iff]
            intro h
            simp only [Bool.and_eq_true, decide_eq_true_eq] at h
            apply hz
            refine ⟨by omega, ?_⟩
            have e0 : s.data.toList.head? = some s[0] := by
              rw [List.head?_eq_getElem?, List.getElem?_eq_getElem (by omega), at_byte s 0 (by omega)]
            rw [e0] at h
            rw [Option.some.inj h.2]; rfl
          unfold refOk
          rw [d1, d2, d3, ha]; rfl
        have Hgood := Lib.hid hgood
        have HSL := Lib.hid hsl
        have c1 : (1 : Int) ≤ s.size := by omega
        have c2 : (s.size : Int) ≤ 9 := by omega
        clear hgood hsl
        by_cases hone : s.size = 1
        · have c3 : ¬ (1 : Int) < s.size := by omega
          clear hz hone
          go_enter Tryd.func33, Tryd.ntmps33
          go_wp2
          go_loop [4, 5, 6, 7] (fun _ _ n i => ∃ k : Nat, k ≤ s.size ∧ i = .int .i64 k ∧ n = .int .i64 ((decN (s.data.toList.take k) : Nat) : Int) ∧ Hid ((s.data.toList.take k).all dig = true)) (fun _ _ _ i => s.size - (intOf i).toNat)
          case atStart => exact ⟨0, Nat.zero_le _, rfl, rfl, rfl⟩
          case round =>
            obtain ⟨k, hk, rfl, rfl, HA⟩ := hrel
            obtain ⟨y, hy⟩ : ∃ y : Nat, y = decN (s.data.toList.take k) := ⟨_, rfl⟩
            have hyb : y < 1000000000 := by
              have h := decN_lt (s.data.toList.take k).length _ rfl (fun b hb => by have := List.all_eq_true.1 HA.out b hb; simp [dig] at this; omega)
              have hl : (s.data.toList.take k).length ≤ 9 := by have := HSL.out; simp; omega
              have := Nat.pow_le_pow_right (show 0 < 10 by decide) hl
              omega
            rw [← hy]
            have Hy := Lib.hid hy
            clear hy
            by_cases hlt : k < s.size
            · have ht := HSL.out
              have hkl : k < s.data.toList.length := by omega
              have hdn := decN_take s.data.toList k hkl
              rw [at_byte s k hlt, ← Hy.out] at hdn
              have hal : (s.data.toList.take (k + 1)).all dig = ((s.data.toList.take k).all dig && dig s[k]) := by
                rw [List.take_succ_eq_append_getElem hkl, List.all_append, at_byte s k hlt]; simp
              have Hdn := Lib.hid hdn
              have Hal := Lib.hid hal
              have hmem : s[k] ∈ s.data.toList := by rw [← at_byte s k hlt hkl]; exact List.getElem_mem hkl
              obtain ⟨c, hc⟩ : ∃ c : Nat, s[k].toNat = c := ⟨_, rfl⟩
              have hcb : c < 256 := by rw [← hc]; exact s[k].toNat_lt
              clear ht hdn hal
              by_cases hd : 48 ≤ c ∧ c ≤ 57
              · obtain ⟨d1, d2⟩ := hd
                clear hmem
                go_wp2
                go_round
                case rel =>
                  refine ⟨k + 1, by omega, by go_num, congrArg (Value.int .i64) ?_, ?_⟩
                  · rw [Hdn.out, hc]; omega
                  · show _ = true
                    rw [Hal.out, HA.out]; simp [dig, hc, d1, d2]
                case measure => simp [intOf]; omega
              · have hno : refOk s.data.toList = false := by
                  have e : s.data.toList.all dig = false := by
                    rw [Bool.eq_false_iff]
                    intro h
                    have := List.all_eq_true.1 h _ hmem
                    simp [dig, hc] at this
                    omega
                  unfold refOk; rw [e]; simp
                have HN := Lib.hid (ref_no (most := most) hno)
                have c9 : (c : Int) < 48 ∨ 57 < (c : Int) := by omega
                clear hno hmem hd
                rcases c9 with c9 | c9
                · go_wp2
                  go_ret2
                  rw [HN.out.1, HN.out.2]
                  exact ⟨rfl, rfl⟩
                · have c8 : ¬ (c : Int) < 48 := by omega
                  go_wp2
                  go_ret2
                  rw [HN.out.1, HN.out.2]
                  exact ⟨rfl, rfl⟩
            · have hk2 : k = s.size := by omega
              subst hk2
              have hfull : s.data.toList.take s.size = s.data.toList := List.take_of_length_le (by have := HSL.out; omega)
              have ha := HA.out
              rw [hfull] at ha
              have hy2 := Hy.out
              rw [hfull] at hy2
              have HOK := Lib.hid (ref_yes (most := most) (Hgood.out ha))
              have Hy2 := Lib.hid hy2
              clear hfull ha hy2
              go_wp2
              go_ret2
              rw [HOK.out.1, HOK.out.2, ← Hy2.out]
              exact ⟨rfl, rfl⟩
        · have c3 : (1 : Int) < s.size := by omega
          obtain ⟨z0, hz0⟩ : ∃ z : Nat, s[0].toNat = z := ⟨_, rfl⟩
          have c4 : ((z0 : Int) == 48) = false := by
            rw [beq_eq_false_iff_ne]; intro h; apply hz; exact ⟨by omega, by omega⟩
          clear hz hone
          go_enter Tryd.func33, Tryd.ntmps33
          go_wp2
          go_loop [4, 5, 6, 7] (fun _ _ n i => ∃ k : Nat, k ≤ s.size ∧ i = .int .i64 k ∧ n = .int .i64 ((decN (s.data.toList.take k) : Nat) : Int) ∧ Hid ((s.data.toList.take k).all dig = true)) (fun _ _ _ i => s.size - (intOf i).toNat)
          case atStart => exact ⟨0, Nat.zero_le _, rfl, rfl, rfl⟩
          case round =>
            obtain ⟨k, hk, rfl, rfl, HA⟩ := hrel
            obtain ⟨y, hy⟩ : ∃ y : Nat, y = decN (s.data.toList.take k) := ⟨_, rfl⟩
            have hyb : y < 1000000000 := by
              have h := decN_lt (s.data.toList.take k).length _ rfl (fun b hb => by have := List.all_eq_true.1 HA.out b hb; simp [dig] at this; omega)
              have hl : (s.data.toList.take k).length ≤ 9 := by have := HSL.out; simp; omega
              have := Nat.pow_le_pow_right (show 0 < 10 by decide) hl
              omega
            rw [← hy]
            have Hy := Lib.hid hy
            clear hy
            by_cases hlt : k < s.size
            · have ht := HSL.out
              have hkl : k < s.data.toList.length := by omega
              have hdn := decN_take s.data.toList k hkl
              rw [at_byte s k hlt, ← Hy.out] at hdn
              have hal : (s.data.toList.take (k + 1)).all dig = ((s.data.toList.take k).all dig && dig s[k]) := by
                rw [List.take_succ_eq_append_getElem hkl, List.all_append, at_byte s k hlt]; simp
              have Hdn := Lib.hid hdn
              have Hal := Lib.hid hal
              have hmem : s[k] ∈ s.data.toList := by rw [← at_byte s k hlt hkl]; exact List.getElem_mem hkl
              obtain ⟨c, hc⟩ : ∃ c : Nat, s[k].toNat = c := ⟨_, rfl⟩
              have hcb : c < 256 := by rw [← hc]; exact s[k].toNat_lt
              clear ht hdn hal
              by_cases hd : 48 ≤ c ∧ c ≤ 57
              · obtain ⟨d1, d2⟩ := hd
                clear hmem
                go_wp2
                go_round
                case rel =>
                  refine ⟨k + 1, by omega, by go_num, congrArg (Value.int .i64) ?_, ?_⟩
                  · rw [Hdn.out, hc]; omega
                  · show _ = true
                    rw [Hal.out, HA.out]; simp [dig, hc, d1, d2]
                case measure => simp [intOf]; omega
              · have hno : refOk s.data.toList = false := by
                  have e : s.data.toList.all dig = false := by
                    rw [Bool.eq_false_iff]
                    intro h
                    have := List.all_eq_true.1 h _ hmem
                    simp [dig, hc] at this
                    omega
                  unfold refOk; rw [e]; simp
                have HN := Lib.hid (ref_no (most := most) hno)
                have c9 : (c : Int) < 48 ∨ 57 < (c : Int) := by omega
                clear hno hmem hd
                rcases c9 with c9 | c9
                · go_wp2
                  go_ret2
                  rw [HN.out.1, HN.out.2]
                  exact ⟨rfl, rfl⟩
                · have c8 : ¬ (c : Int) < 48 := by omega
                  go_wp2
                  go_ret2
                  rw [HN.out.1, HN.out.2]
                  exact ⟨rfl, rfl⟩
            · have hk2 : k = s.size := by omega
              subst hk2
              have hfull : s.data.toList.take s.size = s.data.toList := List.take_of_length_le (by have := HSL.out; omega)
              have ha := HA.out
              rw [hfull] at ha
              have hy2 := Hy.out
              rw [hfull] at hy2
              have HOK := Lib.hid (ref_yes (most := most) (Hgood.out ha))
              have Hy2 := Lib.hid hy2
              clear hfull ha hy2
              go_wp2
              go_ret2
              rw [HOK.out.1, HOK.out.2, ← Hy2.out]
              exact ⟨rfl, rfl⟩
    · have hno : refOk s.data.toList = false := by
        have d : decide (s.data.toList.length ≤ 9) = false := decide_eq_false (by omega)
        unfold refOk; rw [d]; simp
      have HN := Lib.hid (ref_no (most := most) hno)
      have c1 : (1 : Int) ≤ s.size := by omega
      have c2 : (9 : Int) < s.size := by omega
      clear hno hsl
      go_enter Tryd.func33, Tryd.ntmps33
      go_wp2
      go_ret2
      rw [HN.out.1, HN.out.2]
      exact ⟨rfl, rfl⟩
  · have hno : refOk s.data.toList = false := by
      have d : decide (1 ≤ s.data.toList.length) = false := decide_eq_false (by omega)
      unfold refOk; rw [d]; simp
    have HN := Lib.hid (ref_no (most := most) hno)
    have c1 : (s.size : Int) < 1 := by omega
    clear hno hsl
    go_enter Tryd.func33, Tryd.ntmps33
    go_wp2
    go_ret2
    rw [HN.out.1, HN.out.2]
    exact ⟨rfl, rfl⟩
end Go.Proofs.YtlgdmfbpkmokaaaDoor
