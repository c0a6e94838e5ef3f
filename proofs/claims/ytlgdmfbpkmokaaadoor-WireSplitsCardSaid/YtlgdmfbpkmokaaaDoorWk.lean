/- The walk of known: the chapter's rows hold. -/
import Derived.Test.YtlgdmfbpkmokaaaDoorWf
import Derived.Test.YtlgdmfbpkmokaaaDoorWg
import Derived.Test.YtlgdmfbpkmokaaaDoorWh
namespace Go.Proofs.YtlgdmfbpkmokaaaDoor
open Go.RowKit
attribute [local go_sem ↓] Go.wp_at_zero Go.wp_at_succ

theorem put258 (w : World) : Calls Tryd.prog 23 #[.int .u64 258, .int .i64 2] w (AnsB [1, 2] 0 w) := putW_yes 258 2 w (by decide) (by decide) (by decide)
theorem put256 (w : World) : Calls Tryd.prog 23 #[.int .u64 256, .int .i64 1] w (AnsB [] 2 w) := putW_no 256 1 w (by decide)
theorem get12 (v : Value) (w : World) (h : Bytes w v [1, 2]) : Calls Tryd.prog 24 #[v] w fun e w' => e = .returned (.tuple #[.int .u64 258, .int .i64 0]) ∧ w = w' := getW_any v [1, 2] w h (by decide)
theorem addrBad1 (w : World) (g : Gl w) : Calls Tryd.prog 14 #[.string ⟨#[49, 48, 46, 48, 46, 48, 46, 48, 49]⟩] w fun e w' => e = .returned (.tuple #[.int .u32 0, .int .i64 4]) ∧ Below w.heap.size w w' :=
  (addrOf_any ⟨#[49, 48, 46, 48, 46, 48, 46, 48, 49]⟩ (by decide) w g).mono fun _ _ ⟨he, hb⟩ => ⟨he.trans (ret_ii (by decide +kernel) (by decide +kernel)), hb⟩
theorem addrBad2 (w : World) (g : Gl w) : Calls Tryd.prog 14 #[.string ⟨#[49, 48, 46, 48, 46, 48, 46, 50, 53, 54]⟩] w fun e w' => e = .returned (.tuple #[.int .u32 0, .int .i64 4]) ∧ Below w.heap.size w w' :=
  (addrOf_any ⟨#[49, 48, 46, 48, 46, 48, 46, 50, 53, 54]⟩ (by decide) w g).mono fun _ _ ⟨he, hb⟩ => ⟨he.trans (ret_ii (by decide +kernel) (by decide +kernel)), hb⟩
theorem prefGood (w : World) (g : Gl w) : Calls Tryd.prog 16 #[.string ⟨#[49, 48, 46, 48, 46, 48, 46, 48, 47, 56]⟩] w fun e w' => e = .returned (.tuple #[.agg #[.int .u32 167772160, .int .i64 8], .int .i64 0]) ∧ Below w.heap.size w w' :=
  (prefixOf_any ⟨#[49, 48, 46, 48, 46, 48, 46, 48, 47, 56]⟩ (by decide) w g).mono fun _ _ ⟨he, hb⟩ => ⟨he.trans (ret_pf (by decide +kernel) (by decide +kernel) (by decide +kernel)), hb⟩
theorem prefBad (w : World) (g : Gl w) : Calls Tryd.prog 16 #[.string ⟨#[49, 48, 46, 48, 46, 48, 46, 49, 47, 56]⟩] w fun e w' => e = .returned (.tuple #[.agg #[.int .u32 0, .int .i64 0], .int .i64 4]) ∧ Below w.heap.size w w' :=
  (prefixOf_any ⟨#[49, 48, 46, 48, 46, 48, 46, 49, 47, 56]⟩ (by decide) w g).mono fun _ _ ⟨he, hb⟩ => ⟨he.trans (ret_pf (by decide +kernel) (by decide +kernel) (by decide +kernel)), hb⟩
theorem ret_s {a b : List UInt8} (h : a = b) : Ending.returned (.string ⟨a.toArray⟩) = .returned (.string ⟨b.toArray⟩) := by rw [h]
theorem addr10 (w : World) (g : Gl w) : Calls Tryd.prog 19 #[.int .u32 167772161] w fun e w' => e = .returned (.string ⟨#[49, 48, 46, 48, 46, 48, 46, 49]⟩) ∧ Below w.heap.size w w' :=
  (addrText_any 167772161 (by decide) (by decide) w g).mono fun _ _ ⟨he, hb⟩ => ⟨he.trans (ret_s (by decide +kernel)), hb⟩
theorem has10 (w : World) : Calls Tryd.prog 25 #[.agg #[.int .u32 167772160, .int .i64 8], .int .u32 168364297] w fun e w' => e = .returned (.bool true) ∧ Below w.heap.size w w' :=
  (hasW_any 167772160 8 168364297 w (by decide) (by decide) (by decide) (by decide)).mono fun _ _ ⟨he, hb⟩ => ⟨he.trans (ret_b (by decide +kernel)), hb⟩

set_option maxHeartbeats 1000000 in
set_option maxRecDepth 100000 in
theorem known_any (w : World) (g : Gl w) :
    Calls Tryd.prog 7 #[] w fun e w' => e = .returned (.bool true) ∧ Below w.heap.size w w' := by
  go_enter Tryd.func7, Tryd.ntmps7
  go_wp2_with fail
  refine (put258 _).mono ?_
  rintro e w1 ⟨v1, rfl, hv1, hb1⟩
  go_wp2_with fail
  refine (put256 _).mono ?_
  rintro e w2 ⟨v2, rfl, hv2, hb2⟩
  go_wp2_with fail
  have hg2 : Gl (w2.alloc (.cells #[.int .u8 1, .int .u8 2] 5)) := ((g.below hb1).below hb2).alloc _
  refine (get12 _ _ ?_).mono ?_
  · exact .inr ⟨w2.heap.size, 0, 2, rfl, by simp, Nat.le_refl _, fun j x hx => by
      match j, hx with
      | 0, hx => simp at hx; subst hx; simp
      | 1, hx => simp at hx; subst hx; simp⟩
  rintro e w3 ⟨rfl, rfl⟩
  go_wp2_with fail
  refine (addrBad1 _ hg2).mono ?_
  rintro e w4 ⟨rfl, hb4⟩
  have hg4 := hg2.below hb4
  go_wp2_with fail
  refine (addrBad2 _ hg4).mono ?_
  rintro e w5 ⟨rfl, hb5⟩
  have hg5 := hg4.below hb5
  go_wp2_with fail
  refine (prefGood _ hg5).mono ?_
  rintro e w6 ⟨rfl, hb6⟩
  have hg6 := hg5.below hb6
  go_wp2_with fail
  refine (prefBad _ (hg6.alloc _)).mono ?_
  rintro e w7 ⟨rfl, hb7⟩
  have hg7 := (hg6.alloc _).below hb7
  go_wp2_with fail
  have hv : Bytes (w7.alloc (.cells #[.int .u32 0, .int .i64 0] 40)) v1 [1, 2] := by
    have a3 := ((Below.refl w6.heap.size w6).alloc (Nat.le_refl _) (.cells #[.int .u32 167772160, .int .i64 8] 40)).trans (hb7.mono (by simp))
    exact ((((((hv1.later hb2).later ((Below.refl _ _).alloc (Nat.le_refl _) _)).later hb4).later hb5).later hb6).later a3).later ((Below.refl _ _).alloc (Nat.le_refl _) _)
  have hgz := hg7.alloc (.cells #[.int .u32 0, .int .i64 0] 40)
  have k0 : (w7.alloc (.cells #[.int .u32 0, .int .i64 0] 40)).cell? ⟨w6.heap.size, 0, none⟩ = some (.int .u32 167772160) :=
    cell_later ((Below.refl _ _).alloc (Nat.le_refl _) _) (cell_later hb7 (by simp))
  have k1 : (w7.alloc (.cells #[.int .u32 0, .int .i64 0] 40)).cell? ⟨w6.heap.size, 1, none⟩ = some (.int .i64 8) :=
    cell_later ((Below.refl _ _).alloc (Nat.le_refl _) _) (cell_later hb7 (by simp))
  have hfin : Below w.heap.size w (w7.alloc (.cells #[.int .u32 0, .int .i64 0] 40)) := by
    have a1 := below3 hb1 hb2 ((Below.refl _ _).alloc (Nat.le_refl _) (.cells #[.int .u8 1, .int .u8 2] 5))
    have a2 := below3 hb4 hb5 hb6
    have a3 := ((Below.refl w6.heap.size w6).alloc (Nat.le_refl _) (.cells #[.int .u32 167772160, .int .i64 8] 40)).trans (hb7.mono (by simp))
    have a4 := a3.trans (((Below.refl w7.heap.size w7).alloc (Nat.le_refl _) (.cells #[.int .u32 0, .int .i64 0] 40)).mono a3.size)
    exact below3 a1 a2 a4
  have Hfin := Lib.hid hfin
  rw [hv.str Tryd.underlying23 Tryd.underlying5 Tryd.underlying9]
  clear hv1 hb1 hb2 hb4 hb5 hb6 hb7 hg2 hg4 hg5 hg6 hg7 hfin hv hv2
  go_wp2_with (first | (go_at_call 13; refine (num_any _ _).mono ?_; rintro e wn ⟨rfl, rfl⟩) | (go_at_call 19; refine (addr10 _ hgz).mono ?_; rintro e w8 ⟨rfl, hb8⟩; have m0 := cell_later hb8 k0; have m1 := cell_later hb8 k1) | (go_at_call 25; refine (has10 _).mono ?_; rintro e w9 ⟨rfl, hb9⟩))
  go_ret
  exact ⟨rfl, Hfin.out.trans ((hb8.trans (hb9.mono hb8.size)).mono Hfin.out.size)⟩
end Go.Proofs.YtlgdmfbpkmokaaaDoor
