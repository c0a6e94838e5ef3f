/- The walk of the reference's Unhex. -/
import Derived.Test.YtnihjchhbggkiaaDoorWum
namespace Go.Proofs.YtnihjchhbggkiaaDoor
open Go.RowKit
attribute [local go_sem ↓] Go.wp_at_zero Go.wp_at_succ

set_option maxHeartbeats 2000000 in
set_option maxRecDepth 100000 in
theorem unhexR_any (s : ByteArray) (w : World) (hs : s.size ≤ 20000) :
    Calls Tryd.prog 23 #[.string s] w fun e w' => ∃ v, e = .returned (.tuple #[v, .bool (unhexL s.data.toList).isSome]) ∧ Bytes w' v (unhexB s) ∧ Below w.heap.size w w' := by
  have hi5 : (Tryd.prog.info? 5).map (fun i => (i.zero, i.size, i.bytes)) = some (some (.int .u8 0), 1, 1) := by kernel_rfl
  obtain ⟨i0, hi, hx⟩ := Option.map_eq_some_iff.1 hi5
  simp only [Prod.mk.injEq] at hx
  obtain ⟨hz0, hz1, hz2⟩ := hx
  have hsl : s.data.toList.length = s.size := by rw [Array.length_toList]; rfl
  have HSL := Lib.hid hsl
  clear hi5 hsl
  by_cases hev : s.size % 2 = 0
  · obtain ⟨m, hm⟩ : ∃ m : Nat, s.size = 2 * m := ⟨s.size / 2, by omega⟩
    have c1 : (s.size : Int) % 2 = 0 := by omega
    have Hm := Lib.hid hm
    have hmb : m ≤ 10000 := by omega
    clear hev hm
    go_enter Tryd.func23, Tryd.ntmps23
    go_wp2
    clear c1
    go_loopw [4, 5] (fun v i wr => ∃ (k : Nat) (x : List UInt8), k ≤ m ∧ i = .int .i64 (2 * k) ∧ Hid (x.length = k ∧ unhexL (s.data.toList.take (2 * k)) = some x) ∧ Hid (wr.ownsRow w.heap.size 5 1 v k (bv x)) ∧ Hid (Below w.heap.size w wr)) (fun _ i _ => 2 * m - (intOf i).toNat)
    case atStart => exact ⟨0, [], Nat.zero_le _, rfl, ⟨rfl, by simp [unhexL]⟩, World.ownsRow_nil w _ _ _, Below.refl _ _⟩
    case round =>
      obtain ⟨k, x, hk, rfl, HX, HW, HB⟩ := hrel
      by_cases hlt : k < m
      · have hm2 := Hm.out
        have q0 : 2 * k < s.size := by omega
        have q1 : 2 * k + 1 < s.size := by omega
        have c2 : 2 * (k : Int) < (s.size : Int) := by omega
        clear hm2
        go_wp2
        go_loop [2, 3, 6, 7] (fun _ _ n j => ∃ (t : Nat) (A : Int), t ≤ 2 ∧ j = .int .i64 (2 * k + t) ∧ n = .int .i64 A ∧ 0 ≤ A ∧ A ≤ 255 ∧ (t ≤ 1 → A ≤ 15) ∧ Hid (Acc (hexv s[2 * k]) (hexv s[2 * k + 1]) t A)) (fun _ _ _ j => 2 * k + 2 - (intOf j).toNat)
        case atStart => exact ⟨0, 0, by omega, by simp, rfl, by omega, by omega, by omega, ⟨fun _ => rfl, fun h => by omega, fun h => by omega⟩⟩
        case round =>
          obtain ⟨t, A, ht, rfl, rfl, hA, hA2, hA3, HT⟩ := hrel
          have p0 : t = 0 → hexv s[2 * k] = hexv s[2 * k] := fun _ => rfl
          by_cases ht2 : t < 2
          · have q2 : 2 * k + t < s.size := by omega
            have e0 : t = 0 → hexv s[2 * k + t] = hexv s[2 * k] := by rintro rfl; rfl
            have e1 : t = 1 → hexv s[2 * k + t] = hexv s[2 * k + 1] := by rintro rfl; rfl
            obtain ⟨c, hc⟩ : ∃ c : Nat, s[2 * k + t].toNat = c := ⟨_, rfl⟩
            have hcb : c < 256 := by rw [← hc]; exact s[2 * k + t].toNat_lt
            have hA4 := hA3 (by omega)
            have E0 := Lib.hid e0
            have E1 := Lib.hid e1
            clear hA3 p0 e0 e1
            by_cases hd : 48 ≤ c ∧ c ≤ 57
            · obtain ⟨hd1, hd2⟩ := hd
              have hx : hexv s[2 * k + t] = (c : Int) - 48 := by unfold hexv; rw [hc, if_pos ⟨hd1, hd2⟩]
              have HXc := Lib.hid hx
              clear hx
              go_wp2
              go_round
              case rel => exact ⟨t + 1, _, by omega, by go_num, rfl, by omega, by omega, (fun h => by have := HT.out.1 (by omega); omega), HT.out.step ht2 (fun h => by rw [← HXc.out]; exact E0.out h) (fun h => by rw [← HXc.out]; exact E1.out h) (by omega)⟩
              case measure => simp [intOf]; omega
            · by_cases hd' : 97 ≤ c ∧ c ≤ 102
              · obtain ⟨hd1, hd2⟩ := hd'
                have hx : hexv s[2 * k + t] = (c : Int) - 87 := by unfold hexv; rw [hc, if_neg hd, if_pos ⟨hd1, hd2⟩]
                have HXc := Lib.hid hx
                clear hx hd
                go_wp2
                go_round
                case rel => exact ⟨t + 1, _, by omega, by go_num, rfl, by omega, by omega, (fun h => by have := HT.out.1 (by omega); omega), by rw [show 16 * A + ((c : Int) - 97) + 10 = 16 * A + ((c : Int) - 87) by omega]; exact HT.out.step ht2 (fun h => by rw [← HXc.out]; exact E0.out h) (fun h => by rw [← HXc.out]; exact E1.out h) (by omega)⟩
                case measure => simp [intOf]; omega
              · have hx : hexv s[2 * k + t] < 0 := by unfold hexv; rw [hc, if_neg hd, if_neg hd']; decide
                have hbad : unhexL s.data.toList = none := by
                  refine unhexL_bad HX.out.2 (by have := HSL.out; omega) ?_
                  have : t = 0 ∨ t = 1 := by omega
                  rcases this with h | h
                  · exact .inl (by rw [at_list s _ q0, ← E0.out h]; exact hx)
                  · exact .inr (by rw [at_list s _ q1, ← E1.out h]; exact hx)
                have HBAD := Lib.hid hbad
                have n1 : (c : Int) < 48 ∨ 57 < (c : Int) := by omega
                have n2 : (c : Int) < 97 ∨ 102 < (c : Int) := by omega
                clear hbad hx hd hd'
                go_wp2
                all_goals go_ret2
                all_goals rw [HBAD.out, (unhex_no HBAD.out).1]
                all_goals exact ⟨_, rfl, Bytes.nil _ _ _, HB.out⟩
          · have ht3 : t = 2 := by omega
            subst ht3
            clear hA3 p0 ht2
            have b0 := hexv_bd s[2 * k]
            have b1 := hexv_bd s[2 * k + 1]
            have hacc := HT.out.2.2 rfl
            have hok := unhexL_step HX.out.2 (by have := HSL.out; omega) (by rw [at_list s _ q0]; omega) (by rw [at_list s _ q1]; omega)
            rw [at_list s _ q0, at_list s _ q1] at hok
            have hcv : UInt8.ofNat (16 * (hexv s[2 * k]).toNat + (hexv s[2 * k + 1]).toNat) = UInt8.ofNat A.toNat := by
              congr 1; omega
            rw [hcv] at hok
            have HOK := Lib.hid hok
            clear b0 b1 hacc hok hcv
            go_wp2_with (at_builtin; refine wpList_append_own _ rfl (.tmp 64) (.tmp 67) 23 rfl w.heap.size 5 i0 (.int .u8 0) 1 1 Tryd.underlying23 hi hz0 hz1 hz2 rfl (by decide) _ _ _ rfl (HW.out.alloc _) ⟨wr.heap.size, 0, none⟩ 1 1 [.int .u8 A] rfl rfl (cell_one_new _ _ _) (by intro u hu; simp at hu; subst hu; rfl) (by unfold maxLen; omega) (by omega) (by simp; exact Nat.le_succ_of_le HB.out.size) ?_; intro v1 w1 hown1 hgrow1 hnil1)
            have e5 : ((UInt8.ofNat A.toNat).toNat : Int) = A := by rw [UInt8.toNat_ofNat']; omega
            have hbv : bv (x ++ [UInt8.ofNat A.toNat]) = bv x ++ [.int .u8 A] := by rw [bv_append]; simp only [bv, List.map_cons, List.map_nil, e5]
            go_roundw
            case rel => exact ⟨k + 1, _, by omega, congrArg (Value.int .i64) (by omega), ⟨by simp [HX.out.1], HOK.out⟩, by rw [hbv]; exact hown1, (HB.out.alloc HB.out.size _).grown hgrow1 (by simp; exact Nat.le_succ_of_le HB.out.size) (fun j hj => own_base HW.out hj)⟩
            case measure => simp [intOf]; omega
      · have hk2 : k = m := by omega
        subst hk2
        have hm2 := Hm.out
        have hl : s.data.toList.take (2 * k) = s.data.toList := List.take_of_length_le (by have := HSL.out; omega)
        have h2 := HX.out.2
        rw [hl] at h2
        have HY := Lib.hid h2
        clear h2 hl
        go_wp2
        go_ret2
        rw [HY.out, (unhex_yes HY.out).1]
        exact ⟨_, rfl, Bytes.of_own HW.out, HB.out⟩
  · have c1 : (s.size : Int) % 2 = 1 := by omega
    have hn : unhexL s.data.toList = none := by
      cases h : unhexL s.data.toList with
      | none => rfl
      | some x => have := unhexL_len _ _ _ (Nat.le_refl _) h; have := HSL.out; omega
    have HN := Lib.hid hn
    clear hn hev
    go_enter Tryd.func23, Tryd.ntmps23
    go_wp2
    go_ret2
    rw [HN.out, (unhex_no HN.out).1]
    exact ⟨_, rfl, Bytes.nil _ _ _, Below.refl _ _⟩
end Go.Proofs.YtnihjchhbggkiaaDoor
