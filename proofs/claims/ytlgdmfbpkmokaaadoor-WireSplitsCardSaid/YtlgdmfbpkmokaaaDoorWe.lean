/- The walk of wire.AddrOf. -/
import Derived.Test.YtlgdmfbpkmokaaaDoorWd
namespace Go.Proofs.YtlgdmfbpkmokaaaDoor
open Go.RowKit
attribute [local go_sem ↓] Go.wp_at_zero Go.wp_at_succ

/-- What is read of so many parts that are to come, behind those that came to a. -/
def addrF : Nat → Int → List UInt8 → Option Int
  | 0, _, _ => none
  | k + 1, a, l =>
    if numB (Lib.cut l [46]).1 255 = false then none
    else if (Lib.cut l [46]).2.2 = decide (k = 0) then none
    else if k = 0 then some (a * 256 + numI (Lib.cut l [46]).1 255)
    else addrF k (a * 256 + numI (Lib.cut l [46]).1 255) (Lib.cut l [46]).2.1
def addrI (l : List UInt8) : Int := (addrF 4 0 l).getD 0
def addrE (l : List UInt8) : Int := if (addrF 4 0 l).isSome then 0 else 4


theorem numI_bd (l : List UInt8) : 0 ≤ numI l 255 ∧ numI l 255 ≤ 255 := by
  unfold numI num?
  split
  · split <;> simp <;> omega
  · simp

theorem addrF_step (k : Nat) (a : Int) (l : List UInt8) : addrF (k + 1) a l =
    (if numB (Lib.cut l [46]).1 255 = false then none
    else if (Lib.cut l [46]).2.2 = decide (k = 0) then none
    else if k = 0 then some (a * 256 + numI (Lib.cut l [46]).1 255)
    else addrF k (a * 256 + numI (Lib.cut l [46]).1 255) (Lib.cut l [46]).2.1) := rfl
theorem addr_none {l : List UInt8} (h : addrF 4 0 l = none) : addrI l = 0 ∧ addrE l = 4 := by simp [addrI, addrE, h]
theorem addr_some {l : List UInt8} {v : Int} (h : addrF 4 0 l = some v) : addrI l = v ∧ addrE l = 0 := by simp [addrI, addrE, h]

/-- strings.Cut, what it hands back under names. -/
theorem cut_at (s sep p b : ByteArray) (f : Bool) (hp : p.data.toList = (Lib.cut s.data.toList sep.data.toList).1) (hb : b.data.toList = (Lib.cut s.data.toList sep.data.toList).2.1) (hf : f = (Lib.cut s.data.toList sep.data.toList).2.2)
    (hs : s.size ≤ 1000000) (w : World) (g : Gl w) :
    Calls Tryd.prog 30 #[.string s, .string sep] w fun e w' => e = .returned (.tuple #[.string p, .string b, .bool f]) ∧ Below w.heap.size w w' := by
  obtain ⟨m, hm⟩ := g.m
  refine (Tryd.strings_Cut s sep m w (by omega) hm).mono ?_
  rintro e w' ⟨rfl, n, rfl⟩
  refine ⟨?_, below_drewN (Below.refl _ _) _⟩
  rw [← hp, ← hb, ← hf]

theorem shl_or {a n : Int} (h : 0 ≤ a) (h2 : a < 16777216) (h3 : 0 ≤ n) (h4 : n ≤ 255) : bits .or .u32 (a * 256) n = a * 256 + n := by
  rw [u32_or _ _ (by omega) (by omega) h3 (by omega)]
  rw [nat_join 8 _ _ (by omega) (by omega)]
  omega

set_option maxHeartbeats 1000000 in
theorem addrOf_any (s : ByteArray) (hs : s.size ≤ 1000000) (w : World) (g : Gl w) :
    Calls Tryd.prog 14 #[.string s] w fun e w' => e = .returned (.tuple #[.int .u32 (addrI s.data.toList), .int .i64 (addrE s.data.toList)]) ∧ Below w.heap.size w w' := by
  go_enter Tryd.func14, Tryd.ntmps14
  go_wp2
  go_step3
  go_wp2
  go_step3
  go_wp2
  go_loopw [4, 5, 14] (fun a r i wr => ∃ (k : Nat) (x : Int) (t : ByteArray), k ≤ 4 ∧ i = .int .i64 k ∧ a = .int .u32 x ∧ r = .string t ∧ 0 ≤ x ∧ x < 256 ^ k ∧ t.size ≤ 1000000 ∧ Hid (addrF (4 - k) x t.data.toList = addrF 4 0 s.data.toList) ∧ Below w.heap.size w wr) (fun _ _ i _ => 4 - (intOf i).toNat)
  case atStart => exact ⟨0, 0, s, by omega, rfl, rfl, rfl, by omega, by decide, hs, rfl, Below.refl _ _⟩
  case round =>
    obtain ⟨k, x, t, hk, rfl, rfl, rfl, hx1, hx2, ht, HF, hB⟩ := hrel
    have hg := g.below hB
    by_cases hk4 : k < 4
    · obtain ⟨p, hp⟩ : ∃ p : ByteArray, p.data.toList = (Lib.cut t.data.toList [46]).1 := ⟨⟨(Lib.cut t.data.toList [46]).1.toArray⟩, by simp⟩
      obtain ⟨b, hb⟩ : ∃ b : ByteArray, b.data.toList = (Lib.cut t.data.toList [46]).2.1 := ⟨⟨(Lib.cut t.data.toList [46]).2.1.toArray⟩, by simp⟩
      obtain ⟨f, hf⟩ : ∃ f : Bool, f = (Lib.cut t.data.toList [46]).2.2 := ⟨_, rfl⟩
      have hpl : p.size ≤ 1000000 := Wp.cut_left (by rw [hp]) ht
      have hbl : b.size ≤ 1000000 := Wp.cut_right (by rw [hb]) ht
      have hstep := addrF_step (3 - k) x t.data.toList
      have hk1 : 4 - k = (3 - k) + 1 := by omega
      have hdot : ([46] : List UInt8) = (⟨#[46]⟩ : ByteArray).data.toList := rfl
      rw [← hk1, ← hp, ← hb, ← hf] at hstep
      rw [hdot] at hp hb hf
      have hx3 : x < 16777216 := by
        have := Wp.pow256 (k := k) (by omega)
        omega
      have hn := numI_bd p.data.toList
      obtain ⟨hn1, hn2⟩ := hn
      rcases hnum : numB p.data.toList 255 with _ | _
      · have hfin : addrF (4 - k) x t.data.toList = none := by rw [hstep]; simp [hnum]
        have HE := Lib.hid (addr_none (HF.out.symm.trans hfin))
        have Hnum := Lib.hid hnum
        have HP := Lib.hid hp
        have HBb := Lib.hid hb
        have Hff := Lib.hid hf
        clear hstep hnum hp hb hf hfin hk1 hdot HF
        go_wp2_with (first | (go_at_call 30; refine (cut_at _ _ p b f HP.out HBb.out Hff.out ht _ hg).mono ?_; rintro e w1 ⟨rfl, hb1⟩) | (go_at_call 31; refine (number_any p 255 hpl _ (hg.below hb1)).mono ?_; rintro e w2 ⟨rfl, hb2⟩; rw [Hnum.out]))
        all_goals (try rw [Exit.noGoto_ret])
        all_goals go_ret2
        all_goals exact ⟨ret_ii HE.out.1.symm HE.out.2.symm, hB.trans ((hb1.trans (hb2.mono hb1.size)).mono hB.size)⟩
      · by_cases hk3 : k = 3
        · subst hk3
          rcases f with _ | _
          · have hfin : addrF (4 - 3) x t.data.toList = some (x * 256 + numI p.data.toList 255) := by rw [hstep]; simp [hnum]
            have HE := Lib.hid (addr_some (HF.out.symm.trans hfin))
            have Hnum := Lib.hid hnum
            have HP := Lib.hid hp
            have HBb := Lib.hid hb
            have Hff := Lib.hid hf
            clear hstep hnum hp hb hf hfin hk1 hdot HF
            go_wp2_with (first | (go_at_call 30; refine (cut_at _ _ p b false HP.out HBb.out Hff.out ht _ hg).mono ?_; rintro e w1 ⟨rfl, hb1⟩) | (go_at_call 31; refine (number_any p 255 hpl _ (hg.below hb1)).mono ?_; rintro e w2 ⟨rfl, hb2⟩; rw [Hnum.out]))
            all_goals (try rw [Exit.noGoto_ret])
            all_goals go_ret2
            all_goals exact ⟨ret_ii (Eq.trans (shl_or hx1 hx3 hn1 hn2) HE.out.1.symm) HE.out.2.symm, hB.trans ((hb1.trans (hb2.mono hb1.size)).mono hB.size)⟩
          · have hfin : addrF (4 - 3) x t.data.toList = none := by rw [hstep]; simp [hnum]
            have HE := Lib.hid (addr_none (HF.out.symm.trans hfin))
            have Hnum := Lib.hid hnum
            have HP := Lib.hid hp
            have HBb := Lib.hid hb
            have Hff := Lib.hid hf
            clear hstep hnum hp hb hf hfin hk1 hdot HF
            go_wp2_with (first | (go_at_call 30; refine (cut_at _ _ p b true HP.out HBb.out Hff.out ht _ hg).mono ?_; rintro e w1 ⟨rfl, hb1⟩) | (go_at_call 31; refine (number_any p 255 hpl _ (hg.below hb1)).mono ?_; rintro e w2 ⟨rfl, hb2⟩; rw [Hnum.out]))
            all_goals (try rw [Exit.noGoto_ret])
            all_goals go_ret2
            all_goals exact ⟨ret_ii HE.out.1.symm HE.out.2.symm, hB.trans ((hb1.trans (hb2.mono hb1.size)).mono hB.size)⟩
        · have hk3i : ((k : Int) == 3) = false := by rw [beq_eq_false_iff_ne]; omega
          have hk0 : ¬ (3 - k = 0) := by omega
          rcases f with _ | _
          · have hfin : addrF (4 - k) x t.data.toList = none := by rw [hstep]; simp [hnum, hk0]
            have HE := Lib.hid (addr_none (HF.out.symm.trans hfin))
            have Hnum := Lib.hid hnum
            have HP := Lib.hid hp
            have HBb := Lib.hid hb
            have Hff := Lib.hid hf
            clear hstep hnum hp hb hf hfin hk1 hdot HF
            go_wp2_with (first | (go_at_call 30; refine (cut_at _ _ p b false HP.out HBb.out Hff.out ht _ hg).mono ?_; rintro e w1 ⟨rfl, hb1⟩) | (go_at_call 31; refine (number_any p 255 hpl _ (hg.below hb1)).mono ?_; rintro e w2 ⟨rfl, hb2⟩; rw [Hnum.out]))
            all_goals (try rw [Exit.noGoto_ret])
            all_goals go_ret2
            all_goals exact ⟨ret_ii HE.out.1.symm HE.out.2.symm, hB.trans ((hb1.trans (hb2.mono hb1.size)).mono hB.size)⟩
          · have hfin : addrF (4 - (k + 1)) (x * 256 + numI p.data.toList 255) b.data.toList = addrF 4 0 s.data.toList := by
              rw [← HF.out, hstep, show 4 - (k + 1) = 3 - k from by omega]; simp [hnum, hk0]
            have HE := Lib.hid hfin
            have Hnum := Lib.hid hnum
            have HP := Lib.hid hp
            have HBb := Lib.hid hb
            have Hff := Lib.hid hf
            clear hstep hnum hp hb hf hfin hk1 hdot HF
            go_wp2_with (first | (go_at_call 30; refine (cut_at _ _ p b true HP.out HBb.out Hff.out ht _ hg).mono ?_; rintro e w1 ⟨rfl, hb1⟩) | (go_at_call 31; refine (number_any p 255 hpl _ (hg.below hb1)).mono ?_; rintro e w2 ⟨rfl, hb2⟩; rw [Hnum.out]))
            go_roundw
            case rel => exact ⟨k + 1, x * 256 + numI p.data.toList 255, b, by omega, by go_num, by rw [shl_or hx1 hx3 hn1 hn2], rfl, by omega, Wp.pow256_succ hx2 hn2, hbl, HE.out, hB.trans ((hb1.trans (hb2.mono hb1.size)).mono hB.size)⟩
            case measure => simp [intOf]; omega
    · have hk5 : k = 4 := by omega
      subst hk5
      have HE := Lib.hid (addr_none (l := s.data.toList) (HF.out.symm.trans rfl))
      clear HF
      go_wp2
      all_goals (try rw [Exit.noGoto_ret])
      go_ret2
      exact ⟨ret_ii HE.out.1.symm HE.out.2.symm, hB⟩
end Go.Proofs.YtlgdmfbpkmokaaaDoor
