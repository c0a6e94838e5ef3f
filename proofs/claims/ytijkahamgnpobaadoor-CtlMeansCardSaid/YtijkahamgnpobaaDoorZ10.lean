/- Plain: bytes cut by sizes.
   The walk of ctl.Unlist.
   The walk of the reference's List; lists, whether they may be or not, in one contract each.
   The walks of ctl.List and of the reference's.
   The walk of the reference's Bytes of an update. -/
import Derived.IntWalk
import Derived.Laws.MakeOwn
import Derived.Test.YtijkahamgnpobaaDoorZ04
import Derived.Test.YtijkahamgnpobaaDoorZ05
import Derived.Test.YtijkahamgnpobaaDoorZ06
import Derived.Test.YtijkahamgnpobaaDoorZ07
import Derived.Test.YtijkahamgnpobaaDoorZ08
import Derived.Test.YtijkahamgnpobaaDoorZ09

set_option linter.unusedSimpArgs false
set_option linter.unusedVariables false
namespace Go.Proofs.YtijkahamgnpobaaDoor
open Go.RowKit
attribute [local go_sem ↓] Go.wp_at_zero Go.wp_at_succ

set_option maxHeartbeats 8000000 in
set_option maxRecDepth 100000 in
theorem bytesR5_any (a n d : Nat) (ha : a < 4294967296) (h : mayU a n d = true) (wm : World) :
    Calls Tryd.prog 15 #[.agg #[.int .u32 (a : Int), .int .i64 (n : Int), .int .i64 (d : Int)]] wm fun e w' => ∃ v, e = .returned v ∧ OwnB w' wm.heap.size v (upL a n d) ∧ Below wm.heap.size wm w' := by
  obtain ⟨h1, h2, h3⟩ := mayU_of h
  obtain ⟨n0, n1, _⟩ := Wp.may_of h1
  have k1 : (a : Int) < 4294967296 := by omega
  have k2 : (n : Int) < 256 := by omega
  have k3 : (d : Int) < 256 := by omega
  have u1 : IntKind.u64.wrap (a : Int) = a := IntWalk.u64_in _ ⟨by omega, by omega⟩
  have u2 : IntKind.u8.wrap (n : Int) = n := IntWalk.u8_in _ ⟨by omega, by omega⟩
  have u3 : IntKind.u8.wrap (d : Int) = d := IntWalk.u8_in _ ⟨by omega, by omega⟩
  obtain ⟨wb, hwb⟩ : ∃ wb, wb = wm.alloc (.cells #[.int .u32 (a : Int), .int .i64 (n : Int), .int .i64 (d : Int)] 27) := ⟨_, rfl⟩
  have HBW : Hid (Below wm.heap.size wm wb) := by rw [hwb]; exact (Below.refl _ _).alloc (Nat.le_refl _) _
  have HR : Hid (BlkAt 27 wm.heap.size [.int .u32 (a : Int), .int .i64 (n : Int), .int .i64 (d : Int)] wb) := by rw [hwb]; exact BlkAt.new wm _
  clear h h1 h2 h3 n0 n1
  go_enter Tryd.func15, Tryd.ntmps15
  go_wp2_with fail
  rw [← hwb]
  clear hwb
  (refine wp_region_held_drew (S := (fun w' => Below wb.heap.size wb w')) (by kernel_rfl) ?_ (fun hHeld => ?_); (focus ((try dsimp only); (exact (Below.refl _ _).drew))))
  (try dsimp only at hHeld)
  obtain ⟨w0, hw0⟩ : ∃ w0, w0 = World.drew wb := ⟨_, rfl⟩
  rw [← hw0]
  rw [← hw0] at hHeld
  clear hw0
  refine wpAnyH_cut #[true, true, true, true, true, true, true, true, true, true, true, true, true, true, true] 0 (fun A w1 => ∃ (v7 : Value) (g15 : Nat) (v16 : Value), A = ⟨#[.agg #[.int .u32 (a : Int), .int .i64 (n : Int), .int .i64 (d : Int)], .pointer (some ⟨wm.heap.size, 0, none⟩), v16, .pointer (some ⟨wm.heap.size, 0, none⟩), .pointer (some ⟨wm.heap.size, 0, none⟩), .int .u32 (a : Int), .int .u64 (a : Int), v7, .pointer (some ⟨wm.heap.size, 0, none⟩), .pointer (some ⟨wm.heap.size, 1, none⟩), .int .i64 (n : Int), .int .u8 (n : Int), .pointer (some ⟨wm.heap.size, 2, none⟩), .int .i64 (d : Int), .int .u8 (d : Int), .slice (some ⟨g15, 0, none⟩) 2 2, v16], []⟩ ∧ Hid (OwnB w1 wb.heap.size v16 (upL a n d))) ?_ (fun m0 => ?_)
  · rintro l A w1 rfl ⟨v7, g15, v16, rfl, F16⟩ hHeld
    refine wpAnyH_done (by kernel_rfl) ?_ _
    have HO := Lib.hid F16.out
    have HBZ := Lib.hid hHeld
    clear hHeld
    go_wp2_with fail
    go_ret
    exact ⟨_, rfl, OwnB.weak HO.out HBW.out.size, HBW.out.trans (HBZ.out.mono HBW.out.size)⟩
  refine wpAnyH_cut #[true, true, true, true, true, true, true, true, true, true, true, true, true, false, false] 2 (fun A w1 => ∃ (v7 : Value) (g15 : Nat), A = ⟨#[.agg #[.int .u32 (a : Int), .int .i64 (n : Int), .int .i64 (d : Int)], .pointer (some ⟨wm.heap.size, 0, none⟩), .slice none 0 0, .pointer (some ⟨wm.heap.size, 0, none⟩), .pointer (some ⟨wm.heap.size, 0, none⟩), .int .u32 (a : Int), .int .u64 (a : Int), v7, .pointer (some ⟨wm.heap.size, 0, none⟩), .pointer (some ⟨wm.heap.size, 1, none⟩), .int .i64 (n : Int), .int .u8 (n : Int), .pointer (some ⟨wm.heap.size, 2, none⟩), .int .i64 (d : Int), .int .u8 (d : Int), .slice (some ⟨g15, 0, none⟩) 2 2, undef], []⟩ ∧ Hid (OwnB w1 wb.heap.size v7 (putL a 4)) ∧ Hid (Bytes w1 (.slice (some ⟨g15, 0, none⟩) 2 2) [UInt8.ofNat n, UInt8.ofNat d])) ?_ (fun m1 => ?_)
  · rintro l A w1 rfl ⟨v7, g15, rfl, F7, F15⟩ hHeld
    refine wpAnyH_ready (rs := [13]) (by kernel_rfl) (by simp) ?_
    refine AllReadyH.cons rfl (fun K hK => ?_) AllReadyH.nil
    refine step_app rfl (.tmp 7) (.tmp 15) rfl wb.heap.size _ _ (putL a 4) [UInt8.ofNat n, UInt8.ofNat d] rfl rfl F7.out F15.out (by simp [putL_length]) hHeld.size ?_
    intro y w_n ho hs _
    have hF := Lib.hid ho
    refine hK.out _ _ (hHeld.trans hs) (fun hHeldN => ?_)
    try simp only [Act.put, List.setIfInBounds_toArray, List.set_cons_zero, List.set_cons_succ, List.getElem_toArray, List.getElem_cons_zero, List.getElem_cons_succ]
    (have hHeldO := hHeld; clear hHeld; have hHeld := hHeldN)
    (refine wpAnyH_take (i := 14) (v := ?_) rfl (by kernel_rfl) (by kernel_rfl) (by kernel_rfl) (fun _ _ _ h => h) (Or.inl ⟨by rfl, ?_⟩) hHeld ?_; rotate_left; (focus (intro w hSw; (try dsimp only at hSw); go_simp; try with_reducible rfl)); (try simp only [Act.put, List.setIfInBounds_toArray, List.set_cons_zero, List.set_cons_succ, List.getElem_toArray, List.getElem_cons_zero, List.getElem_cons_succ]))
    exact m0 _ _ _ (by kernel_rfl) ⟨_, _, _, rfl, hF⟩ hHeldN
  refine wpAnyH_cut #[true, true, true, true, true, true, true, true, true, true, true, true, false, false, false] 3 (fun A w1 => ∃ (v7 : Value), A = ⟨#[.agg #[.int .u32 (a : Int), .int .i64 (n : Int), .int .i64 (d : Int)], .pointer (some ⟨wm.heap.size, 0, none⟩), .slice none 0 0, .pointer (some ⟨wm.heap.size, 0, none⟩), .pointer (some ⟨wm.heap.size, 0, none⟩), .int .u32 (a : Int), .int .u64 (a : Int), v7, .pointer (some ⟨wm.heap.size, 0, none⟩), .pointer (some ⟨wm.heap.size, 1, none⟩), .int .i64 (n : Int), .int .u8 (n : Int), .pointer (some ⟨wm.heap.size, 2, none⟩), .int .i64 (d : Int), .int .u8 (d : Int), undef, undef], []⟩ ∧ Hid (OwnB w1 wb.heap.size v7 (putL a 4))) ?_ (fun m2 => ?_)
  · rintro l A w1 rfl ⟨v7, rfl, F7⟩ hHeld
    refine wpAnyH_ready (rs := [12]) (by kernel_rfl) (by simp) ?_
    refine AllReadyH.cons rfl (fun K hK => ?_) AllReadyH.nil
    go_simp
    have hs : Below (World.heap w1).size w1 (w1.alloc (.cells #[.int .u8 (n : Int), .int .u8 (d : Int)] 5)) := (Below.refl _ _).alloc (Nat.le_refl _) _
    have hF : Hid (Bytes (w1.alloc (.cells #[.int .u8 (n : Int), .int .u8 (d : Int)] 5)) (.slice (some ⟨(World.heap w1).size, 0, none⟩) 2 2) [UInt8.ofNat n, UInt8.ofNat d]) := two_lit n d (by omega) (by omega) w1
    refine hK.out _ _ (hHeld.trans (hs.mono hHeld.size)) (fun hHeldN => ?_)
    exact m1 _ _ _ (by kernel_rfl) ⟨_, _, rfl, Lib.hid (F7.out.later hs), hF⟩ hHeldN
  refine wpAnyH_cut #[true, true, true, true, false, true, true, true, true, true, true, true, true, false, false] 3 (fun A w1 => ∃ (g15 : Nat), A = ⟨#[.agg #[.int .u32 (a : Int), .int .i64 (n : Int), .int .i64 (d : Int)], .pointer (some ⟨wm.heap.size, 0, none⟩), .slice none 0 0, .pointer (some ⟨wm.heap.size, 0, none⟩), .pointer (some ⟨wm.heap.size, 0, none⟩), .int .u32 (a : Int), .int .u64 (a : Int), undef, .pointer (some ⟨wm.heap.size, 0, none⟩), .pointer (some ⟨wm.heap.size, 1, none⟩), .int .i64 (n : Int), .int .u8 (n : Int), .pointer (some ⟨wm.heap.size, 2, none⟩), .int .i64 (d : Int), .int .u8 (d : Int), .slice (some ⟨g15, 0, none⟩) 2 2, undef], []⟩ ∧ Hid (Bytes w1 (.slice (some ⟨g15, 0, none⟩) 2 2) [UInt8.ofNat n, UInt8.ofNat d])) ?_ (fun m3 => ?_)
  · rintro l A w1 rfl ⟨g15, rfl, F15⟩ hHeld
    refine wpAnyH_ready (rs := [4]) (by kernel_rfl) (by simp) ?_
    refine AllReadyH.cons rfl (fun K hK => ?_) AllReadyH.nil
    go_simp
    refine (putRO_any a 4 _ (by omega) (by omega)).mono ?_
    rintro e w_n ⟨y, rfl, hf, hs⟩
    have hF := Lib.hid (OwnB.weak (show OwnB w_n _ y (putL a 4) from hf) hHeld.size)
    refine hK.out _ _ (hHeld.trans (hs.mono hHeld.size)) (fun hHeldN => ?_)
    exact m1 _ _ _ (by kernel_rfl) ⟨_, _, rfl, hF, Lib.hid (F15.out.later hs)⟩ hHeldN
  refine wpAnyH_cut #[true, true, true, true, false, true, true, true, true, true, true, true, false, false, false] 4 (fun A w1 => A = ⟨#[.agg #[.int .u32 (a : Int), .int .i64 (n : Int), .int .i64 (d : Int)], .pointer (some ⟨wm.heap.size, 0, none⟩), .slice none 0 0, .pointer (some ⟨wm.heap.size, 0, none⟩), .pointer (some ⟨wm.heap.size, 0, none⟩), .int .u32 (a : Int), .int .u64 (a : Int), undef, .pointer (some ⟨wm.heap.size, 0, none⟩), .pointer (some ⟨wm.heap.size, 1, none⟩), .int .i64 (n : Int), .int .u8 (n : Int), .pointer (some ⟨wm.heap.size, 2, none⟩), .int .i64 (d : Int), .int .u8 (d : Int), undef, undef], []⟩) ?_ (fun m4 => ?_)
  · rintro l A w1 rfl rfl hHeld
    refine wpAnyH_ready (rs := [4, 12]) (by kernel_rfl) (by simp) ?_
    refine AllReadyH.cons rfl (fun K hK => ?_) (AllReadyH.cons rfl (fun K hK => ?_) AllReadyH.nil)
    · go_simp
      refine (putRO_any a 4 _ (by omega) (by omega)).mono ?_
      rintro e w_n ⟨y, rfl, hf, hs⟩
      have hF := Lib.hid (OwnB.weak (show OwnB w_n _ y (putL a 4) from hf) hHeld.size)
      refine hK.out _ _ (hHeld.trans (hs.mono hHeld.size)) (fun hHeldN => ?_)
      exact m2 _ _ _ (by kernel_rfl) ⟨_, rfl, hF⟩ hHeldN
    · go_simp
      have hs : Below (World.heap w1).size w1 (w1.alloc (.cells #[.int .u8 (n : Int), .int .u8 (d : Int)] 5)) := (Below.refl _ _).alloc (Nat.le_refl _) _
      have hF : Hid (Bytes (w1.alloc (.cells #[.int .u8 (n : Int), .int .u8 (d : Int)] 5)) (.slice (some ⟨(World.heap w1).size, 0, none⟩) 2 2) [UInt8.ofNat n, UInt8.ofNat d]) := two_lit n d (by omega) (by omega) w1
      refine hK.out _ _ (hHeld.trans (hs.mono hHeld.size)) (fun hHeldN => ?_)
      exact m3 _ _ _ (by kernel_rfl) ⟨_, rfl, hF⟩ hHeldN
  (refine wpAnyH_take (i := 0) (v := ?_) rfl (by kernel_rfl) (by kernel_rfl) (by kernel_rfl) (fun _ _ _ h => h) (Or.inl ⟨by rfl, ?_⟩) hHeld ?_; rotate_left; (focus (intro w hSw; (try dsimp only at hSw); go_simp; try with_reducible rfl)); (try simp only [Act.put, List.setIfInBounds_toArray, List.set_cons_zero, List.set_cons_succ, List.getElem_toArray, List.getElem_cons_zero])); (refine wpAnyH_take (i := 5) (v := ?_) rfl (by kernel_rfl) (by kernel_rfl) (by kernel_rfl) (fun _ _ _ h => h) (Or.inl ⟨by rfl, ?_⟩) hHeld ?_; rotate_left; (focus (intro w hSw; (try dsimp only at hSw); go_simp; try with_reducible rfl)); (try simp only [Act.put, List.setIfInBounds_toArray, List.set_cons_zero, List.set_cons_succ, List.getElem_toArray, List.getElem_cons_zero, List.getElem_cons_succ])); (refine wpAnyH_take (i := 9) (v := ?_) rfl (by kernel_rfl) (by kernel_rfl) (by kernel_rfl) (fun _ _ _ h => h) (Or.inl ⟨by rfl, ?_⟩) hHeld ?_; rotate_left; (focus (intro w hSw; (try dsimp only at hSw); go_simp; try with_reducible rfl)); (try simp only [Act.put, List.setIfInBounds_toArray, List.set_cons_zero, List.set_cons_succ, List.getElem_toArray, List.getElem_cons_zero, List.getElem_cons_succ])); (refine wpAnyH_take (i := 1) (v := ?_) rfl (by kernel_rfl) (by kernel_rfl) (by kernel_rfl) (fun _ _ _ h => h) (Or.inl ⟨by rfl, ?_⟩) hHeld ?_; rotate_left; (focus (intro w hSw; (try dsimp only at hSw); go_simp; try with_reducible rfl)); (try simp only [Act.put, List.setIfInBounds_toArray, List.set_cons_zero, List.set_cons_succ, List.getElem_toArray, List.getElem_cons_zero, List.getElem_cons_succ])); (refine wpAnyH_take (i := 6) (v := ?_) rfl (by kernel_rfl) (by kernel_rfl) (by kernel_rfl) (fun _ _ _ h => h) (Or.inl ⟨by rfl, ?_⟩) hHeld ?_; rotate_left; (focus (intro w hSw; (try dsimp only at hSw); go_simp; try with_reducible rfl)); (try simp only [Act.put, List.setIfInBounds_toArray, List.set_cons_zero, List.set_cons_succ, List.getElem_toArray, List.getElem_cons_zero, List.getElem_cons_succ]))
  (refine wpAnyH_take (i := 10) (v := ?_) rfl (by kernel_rfl) (by kernel_rfl) (by kernel_rfl) (fun _ _ _ h => h) (Or.inl ⟨by rfl, ?_⟩) hHeld ?_; rotate_left; (focus (intro w hSw; (try dsimp only at hSw); go_simp; ((have hcc := cell_later' hSw HR.out.lt (HR.out.cell (j := 2) rfl)); go_simp; try with_reducible rfl))); (try simp only [Act.put, List.setIfInBounds_toArray, List.set_cons_zero, List.set_cons_succ, List.getElem_toArray, List.getElem_cons_zero, List.getElem_cons_succ]))
  (refine wpAnyH_take (i := 2) (v := ?_) rfl (by kernel_rfl) (by kernel_rfl) (by kernel_rfl) (fun _ _ _ h => h) (Or.inl ⟨by rfl, ?_⟩) hHeld ?_; rotate_left; (focus (intro w hSw; (try dsimp only at hSw); go_simp; ((have hcc := cell_later' hSw HR.out.lt (HR.out.cell (j := 0) rfl)); go_simp; try with_reducible rfl))); (try simp only [Act.put, List.setIfInBounds_toArray, List.set_cons_zero, List.set_cons_succ, List.getElem_toArray, List.getElem_cons_zero, List.getElem_cons_succ]))
  (refine wpAnyH_take (i := 7) (v := ?_) rfl (by kernel_rfl) (by kernel_rfl) (by kernel_rfl) (fun _ _ _ h => h) (Or.inl ⟨by rfl, ?_⟩) hHeld ?_; rotate_left; (focus (intro w hSw; (try dsimp only at hSw); go_simp; ((have hcc := cell_later' hSw HR.out.lt (HR.out.cell (j := 1) rfl)); go_simp; try with_reducible rfl))); (try simp only [Act.put, List.setIfInBounds_toArray, List.set_cons_zero, List.set_cons_succ, List.getElem_toArray, List.getElem_cons_zero, List.getElem_cons_succ]))
  (refine wpAnyH_take (i := 11) (v := ?_) rfl (by kernel_rfl) (by kernel_rfl) (by kernel_rfl) (fun _ _ _ h => h) (Or.inl ⟨by rfl, ?_⟩) hHeld ?_; rotate_left; (focus (intro w hSw; (try dsimp only at hSw); go_simp; try with_reducible rfl)); (try simp only [Act.put, List.setIfInBounds_toArray, List.set_cons_zero, List.set_cons_succ, List.getElem_toArray, List.getElem_cons_zero, List.getElem_cons_succ])); (refine wpAnyH_take (i := 3) (v := ?_) rfl (by kernel_rfl) (by kernel_rfl) (by kernel_rfl) (fun _ _ _ h => h) (Or.inl ⟨by rfl, ?_⟩) hHeld ?_; rotate_left; (focus (intro w hSw; (try dsimp only at hSw); go_simp; try with_reducible rfl)); (try simp only [Act.put, List.setIfInBounds_toArray, List.set_cons_zero, List.set_cons_succ, List.getElem_toArray, List.getElem_cons_zero, List.getElem_cons_succ])); (refine wpAnyH_take (i := 8) (v := ?_) rfl (by kernel_rfl) (by kernel_rfl) (by kernel_rfl) (fun _ _ _ h => h) (Or.inl ⟨by rfl, ?_⟩) hHeld ?_; rotate_left; (focus (intro w hSw; (try dsimp only at hSw); go_simp; try with_reducible rfl)); (try simp only [Act.put, List.setIfInBounds_toArray, List.set_cons_zero, List.set_cons_succ, List.getElem_toArray, List.getElem_cons_zero, List.getElem_cons_succ]))
  exact m4 _ _ _ (by kernel_rfl) rfl hHeld
end Go.Proofs.YtijkahamgnpobaaDoor

namespace Go.Proofs.YtijkahamgnpobaaDoor
open Go.RowKit
attribute [local go_sem ↓] Go.wp_at_zero Go.wp_at_succ

/-- A list's bytes. -/
def liL (L : List Ud) : List UInt8 := UInt8.ofNat L.length :: (L.map upD).flatten
def badL (L : List Ud) : Bool := L.any fun u => !mayD u
theorem liL_length (L : List Ud) : (liL L).length = 1 + 6 * L.length := by
  have : ∀ M : List Ud, (M.map upD).flatten.length = 6 * M.length := by
    intro M
    induction M with
    | nil => rfl
    | cons u M ih => rw [List.map_cons, List.flatten_cons, List.length_append, ih, upD_length, List.length_cons]; omega
  unfold liL; rw [List.length_cons, this]; omega
theorem spellD_any (u : Ud) (hu : u.Ok) (h : mayD u = true) (w : World) :
    Calls Tryd.prog 27 #[.agg #[.int .u32 (u.a : Int), .int .i64 u.n, .int .i64 u.d]] w fun e w' => ∃ v, e = .returned v ∧ OwnB w' w.heap.size v (upD u) ∧ Below w.heap.size w w' := by
  obtain ⟨a, n, d⟩ := u
  have h0 : mayU a n d = true := h
  obtain ⟨m1, m2, m3⟩ := mayU_of h0
  obtain ⟨n0, n1, _⟩ := Wp.may_of m1
  obtain ⟨n', rfl⟩ := Int.eq_ofNat_of_zero_le n0
  obtain ⟨d', rfl⟩ := Int.eq_ofNat_of_zero_le m2
  exact spell_any a n' d' hu.a h0 w
theorem bytesRD_any (u : Ud) (hu : u.Ok) (h : mayD u = true) (w : World) :
    Calls Tryd.prog 15 #[.agg #[.int .u32 (u.a : Int), .int .i64 u.n, .int .i64 u.d]] w fun e w' => ∃ v, e = .returned v ∧ OwnB w' w.heap.size v (upD u) ∧ Below w.heap.size w w' := by
  obtain ⟨a, n, d⟩ := u
  have h0 : mayU a n d = true := h
  obtain ⟨m1, m2, m3⟩ := mayU_of h0
  obtain ⟨n0, n1, _⟩ := Wp.may_of m1
  obtain ⟨n', rfl⟩ := Int.eq_ofNat_of_zero_le n0
  obtain ⟨d', rfl⟩ := Int.eq_ofNat_of_zero_le m2
  exact bytesR5_any a n' d' hu.a h0 w
theorem good_at {L : List Ud} (h : badL L = false) {u : Ud} (hu : u ∈ L) : mayD u = true := by
  unfold badL at h
  rw [List.any_eq_false] at h
  have := h u hu
  simpa using this

theorem listW_bad (a : Option Addr) (c : Nat) (L : List Ud) (w : World) (hv : Upds w (.slice a L.length c) L) (hL : L.length ≤ 9223372036854775807) (hb : badL L = true) :
    Calls Tryd.prog 16 #[.slice a L.length c] w fun e w' => e = .returned (.tuple #[.slice none 0 0, .int .i64 2]) ∧ Below w.heap.size w w' := by
  have h := badAny_any a c L w hv hL
  rw [show (L.any fun u => !mayD u) = true from hb] at h
  have HH := Lib.hid h
  clear h hb hv
  go_enter Tryd.func16, Tryd.ntmps16
  go_wp2_with fail
  refine HH.out.mono ?_
  rintro e w1 ⟨rfl, hb1⟩
  have HB1 := Lib.hid hb1
  clear hb1
  go_wp2_with fail
  go_ret2
  exact ⟨rfl, HB1.out⟩
theorem listW_long (a : Option Addr) (c : Nat) (L : List Ud) (w : World) (hv : Upds w (.slice a L.length c) L) (hL : L.length ≤ 9223372036854775807) (hb : badL L = false) (hl : 32 < L.length) :
    Calls Tryd.prog 16 #[.slice a L.length c] w fun e w' => e = .returned (.tuple #[.slice none 0 0, .int .i64 3]) ∧ Below w.heap.size w w' := by
  have h := badAny_any a c L w hv hL
  rw [show (L.any fun u => !mayD u) = false from hb] at h
  have HH := Lib.hid h
  have k1 : (32 : Int) < L.length := by omega
  clear h hb hv
  go_enter Tryd.func16, Tryd.ntmps16
  go_wp2_with fail
  refine HH.out.mono ?_
  rintro e w1 ⟨rfl, hb1⟩
  have HB1 := Lib.hid hb1
  clear hb1
  go_wp2_with fail
  go_ret2
  exact ⟨rfl, HB1.out⟩

set_option maxHeartbeats 4000000 in
set_option maxRecDepth 100000 in
theorem listW_ok (a : Option Addr) (c : Nat) (L : List Ud) (w : World) (hv : Upds w (.slice a L.length c) L) (hk : ∀ u ∈ L, u.Ok) (hb : badL L = false) (hl : L.length ≤ 32) :
    Calls Tryd.prog 16 #[.slice a L.length c] w fun e w' => ∃ v, e = .returned (.tuple #[v, .int .i64 0]) ∧ OwnB w' w.heap.size v (liL L) ∧ Below w.heap.size w w' := by
  have h := badAny_any a c L w hv (by omega)
  rw [show (L.any fun u => !mayD u) = false from hb] at h
  have HH := Lib.hid h
  have HSP : Hid (∀ u ∈ L, ∀ W, Calls Tryd.prog 27 #[.agg #[.int .u32 (u.a : Int), .int .i64 u.n, .int .i64 u.d]] W fun e w' => ∃ v, e = .returned v ∧ OwnB w' W.heap.size v (upD u) ∧ Below W.heap.size W w') := fun u hu W => spellD_any u (hk u hu) (good_at hb hu) W
  have HV := Lib.hid hv
  obtain ⟨n, hn⟩ : ∃ n, n = L.length := ⟨_, rfl⟩
  have k1 : (n : Int) ≤ 32 := by omega
  have k2 : (n : Int) < 256 := by omega
  have HLL : Hid (([UInt8.ofNat L.length] :: L.map upD).flatten = liL L) := by show _ = _; simp [liL]
  rw [← hn]
  rw [← hn] at HH HV
  have HN := Lib.hid hn
  clear h hb hv hk hl hn
  go_enter Tryd.func16, Tryd.ntmps16
  go_wp2_with fail
  refine HH.out.mono ?_
  rintro e w1 ⟨rfl, hb1⟩
  have HB1 := Lib.hid hb1
  clear hb1
  go_wp2_with fail
  have hP0 : OwnP ((w1.alloc (.cells #[.int .u8 (n : Int)] 5)).alloc (.cells #[.slice (some ⟨w1.heap.size, 0, none⟩) 1 1] 28)) w.heap.size (.slice (some ⟨w1.heap.size + 1, 0, none⟩) 1 1) [[UInt8.ofNat n]] := by
    have hB := HB1.out.size
    have ho := own_lit (w1.alloc (.cells #[.int .u8 (n : Int)] 5)) w.heap.size 28 [.slice (some ⟨w1.heap.size, 0, none⟩) 1 1] (by simp; omega) (by unfold maxLen; simp)
    rw [World.size_alloc] at ho
    refine ⟨[.slice (some ⟨w1.heap.size, 0, none⟩) 1 1], rfl, ho, fun j u l hu hl => ?_⟩
    match j, hu, hl with
    | 0, hu, hl =>
      simp only [List.getElem?_cons_zero, Option.some.injEq] at hu hl
      subst hu hl
      have hq := own_lit w1 w.heap.size 5 (bv [UInt8.ofNat n]) hB (by unfold maxLen; simp [bv])
      have hz : bv [UInt8.ofNat n] = [.int .u8 (n : Int)] := by simp [bv, ofNat8 (show n < 256 by omega)]
      rw [hz] at hq
      have hq2 : OwnB (w1.alloc (.cells #[.int .u8 (n : Int)] 5)) w.heap.size (.slice (some ⟨w1.heap.size, 0, none⟩) 1 1) [UInt8.ofNat n] := by
        show World.ownsRow _ _ _ _ _ _ _
        rw [hz]; exact hq
      exact hq2.alloc _
  have HP0 := Lib.hid hP0
  have HB2 : Hid (Below w.heap.size w ((w1.alloc (.cells #[.int .u8 (n : Int)] 5)).alloc (.cells #[.slice (some ⟨w1.heap.size, 0, none⟩) 1 1] 28))) := (HB1.out.alloc HB1.out.size _).alloc (by simp; have := HB1.out.size; omega) _
  clear hP0
  go_loopw [4, 21] (fun v i wr => ∃ k : Nat, k ≤ n ∧ i = .int .i64 k ∧ Hid (OwnP wr w.heap.size v ([UInt8.ofNat n] :: (L.take k).map upD)) ∧ Hid (Below w.heap.size w wr)) (fun _ i _ => n - (intOf i).toNat)
  case atStart => exact ⟨0, Nat.zero_le _, rfl, HP0.out, HB2.out⟩
  case round =>
    obtain ⟨k, hk, rfl, HW, HB⟩ := hrel
    rcases Nat.lt_or_ge k n with hlt | hge
    · have g1 : (k : Int) < n := by omega
      have hltL : k < L.length := by have := HN.out; omega
      obtain ⟨bl, bo, rfl, hbl, c0, c1, c2⟩ := (HV.out.later HB.out).at hltL
      have hsp := HSP.out L[k] (List.getElem_mem hltL)
      obtain ⟨u, hu⟩ : ∃ u, u = L[k] := ⟨_, rfl⟩
      rw [← hu] at c0 c1 c2 hsp
      have ht : [UInt8.ofNat n] :: (L.take (k + 1)).map upD = ([UInt8.ofNat n] :: (L.take k).map upD) ++ [upD u] := by
        rw [List.take_succ_eq_append_getElem hltL, List.map_append, hu]; rfl
      have HT := Lib.hid ht
      have HSU := Lib.hid hsp
      obtain ⟨P, hP⟩ : ∃ P, P = [UInt8.ofNat n] :: (L.take k).map upD := ⟨_, rfl⟩
      have hPl : P.length ≤ 2000000 := by rw [hP]; simp; omega
      rw [← hP] at HW HT
      have HPL := Lib.hid hPl
      clear ht hu hsp hP hPl hltL
      go_wp2_with fail
      refine (HSU.out _).mono ?_
      rintro e w3 ⟨x, rfl, hox, hb3⟩
      obtain ⟨xa, xc, rfl⟩ := hox.form
      have q1 : Below wr.heap.size wr w3 := ((Below.refl _ _).alloc (Nat.le_refl _) _).trans (hb3.mono (by simp))
      have HW3 := Lib.hid (HW.out.later q1)
      have HB3 := Lib.hid (HB.out.trans (q1.mono HB.out.size))
      have HOX := Lib.hid (OwnB.weak hox (Nat.le_trans HB.out.size (by simp)))
      rw [upD_length] at HOX ⊢
      clear hb3 hox q1 c0 c1 c2
      go_wp2_with (at_builtin; refine wpList_appP rfl _ _ rfl w.heap.size _ (.slice xa 6 xc) P (upD u) w3.heap.size rfl rfl (OwnP.later HW3.out ((Below.refl _ _).alloc (Nat.le_refl _) _)) (OwnB.alloc HOX.out _) (by simp) HPL.out (by simp; exact Nat.le_succ_of_le HB3.out.size) ?_)
      intro v' w4 ho4 hb4 _
      have HO4 : Hid (OwnP w4 w.heap.size v' ([UInt8.ofNat n] :: (L.take (k + 1)).map upD)) := by show OwnP _ _ _ _; rw [HT.out]; exact ho4
      have HB4 := Lib.hid ((HB3.out.alloc HB3.out.size (.cells #[.slice xa 6 xc] 28)).trans hb4)
      clear ho4 hb4
      go_wp2_with fail
      go_roundw
      case rel => exact ⟨k + 1, by omega, by go_num, HO4, HB4⟩
      case measure => simp [intOf]; omega
    · have e : k = n := by omega
      subst e
      have hfin := HW.out
      rw [List.take_of_length_le (by have := HN.out; omega)] at hfin
      obtain ⟨M, hM⟩ : ∃ M, M = [UInt8.ofNat k] :: L.map upD := ⟨_, rfl⟩
      have hME : M.flatten = liL L := by rw [hM, HN.out]; exact HLL.out
      have hjl : M.flatten.length ≤ 100000 := by rw [hME, liL_length]; have := HN.out; omega
      have hpn : M.length ≤ 10000 := by rw [hM]; simp; have := HN.out; omega
      rw [← hM] at hfin
      obtain ⟨va, vc, rfl⟩ := hfin.form
      obtain ⟨mn, hmn⟩ : ∃ m, m = M.length := ⟨_, rfl⟩
      rw [← hmn] at hfin ⊢
      have HF := Lib.hid hfin
      have HJL := Lib.hid hjl
      have HPN := Lib.hid hpn
      have HME := Lib.hid hME
      clear hfin hjl hpn hME hM hmn
      go_wp2_with fail
      refine (joinW_own _ M _ HF.out.lists HPN.out HJL.out).mono ?_
      rintro e w5 ⟨x, rfl, hox, hb5⟩
      have HOX : Hid (OwnB w5 w.heap.size x (liL L)) := by
        have h2 := OwnB.weak hox HB.out.size
        rw [HME.out] at h2
        exact h2
      have HB5 := Lib.hid (HB.out.trans (hb5.mono HB.out.size))
      clear hox hb5
      go_wp2_with fail
      go_ret2
      exact ⟨_, rfl, HOX.out, HB5.out⟩
end Go.Proofs.YtijkahamgnpobaaDoor

namespace Go.Proofs.YtijkahamgnpobaaDoor
open Go.RowKit
attribute [local go_sem ↓] Go.wp_at_zero Go.wp_at_succ

def liE (L : List Ud) : Int := if badL L = true then 2 else if 32 < L.length then 3 else 0
def liP (L : List Ud) : List UInt8 := if badL L = true then [] else if 32 < L.length then [] else liL L
theorem li_bad {L : List Ud} (h : badL L = true) : liE L = 2 ∧ liP L = [] := by simp [liE, liP, h]
theorem li_long {L : List Ud} (h : badL L = false) (h2 : 32 < L.length) : liE L = 3 ∧ liP L = [] := by simp [liE, liP, h, h2]
theorem li_ok {L : List Ud} (h : badL L = false) (h2 : L.length ≤ 32) : liE L = 0 ∧ liP L = liL L := by
  have : ¬ 32 < L.length := by omega
  simp [liE, liP, h, this]
/-- What a list comes to. -/
def LiA (L : List Ud) (w : World) (e : Ending) (w' : World) : Prop := ∃ v, e = .returned (.tuple #[v, .int .i64 (liE L)]) ∧ Bytes w' v (liP L) ∧ Below w.heap.size w w'
theorem listW_any (v : Value) (L : List Ud) (w : World) (hv : Upds w v L) (hL : L.length ≤ 9223372036854775807) (hk : ∀ u ∈ L, u.Ok) : Calls Tryd.prog 16 #[v] w (LiA L w) := by
  obtain ⟨a, c, rfl⟩ := hv.form
  cases hb : badL L with
  | true =>
    obtain ⟨e1, e2⟩ := li_bad hb
    refine (listW_bad a c L w hv hL hb).mono ?_
    rintro e w' ⟨rfl, h⟩
    exact ⟨_, by rw [e1], by rw [e2]; exact Bytes.nil _ _ _, h⟩
  | false =>
    rcases Nat.lt_or_ge 32 L.length with h32 | h32
    · obtain ⟨e1, e2⟩ := li_long hb h32
      refine (listW_long a c L w hv hL hb h32).mono ?_
      rintro e w' ⟨rfl, h⟩
      exact ⟨_, by rw [e1], by rw [e2]; exact Bytes.nil _ _ _, h⟩
    · obtain ⟨e1, e2⟩ := li_ok hb h32
      refine (listW_ok a c L w hv hk hb h32).mono ?_
      rintro e w' ⟨v, rfl, ho, h⟩
      exact ⟨_, by rw [e1], by rw [e2]; exact ho.bytes, h⟩

theorem bad_take {L : List Ud} {k : Nat} (h : k < L.length) (h2 : badL (L.take k) = false) (h3 : mayD L[k] = true) : badL (L.take (k + 1)) = false := by
  unfold badL at *
  rw [List.take_succ_eq_append_getElem h, List.any_append, h2]; simp [h3]
theorem bad_some {L : List Ud} {k : Nat} (h : k < L.length) (h3 : mayD L[k] = false) : badL L = true :=
  List.any_eq_true.2 ⟨L[k], List.getElem_mem h, by rw [h3]; rfl⟩

set_option maxHeartbeats 4000000 in
set_option maxRecDepth 100000 in
theorem listR_any (v : Value) (L : List Ud) (w : World) (hv : Upds w v L) (hL : L.length ≤ 9223372036854775807) (hk : ∀ u ∈ L, u.Ok) : Calls Tryd.prog 17 #[v] w (LiA L w) := by
  obtain ⟨a, c, rfl⟩ := hv.form
  have HV := Lib.hid hv
  have HM : Hid (∀ u ∈ L, ∀ W, Calls Tryd.prog 13 #[.agg #[.int .u32 (u.a : Int), .int .i64 u.n, .int .i64 u.d]] W fun e w' => e = .returned (.bool (mayD u)) ∧ Below W.heap.size W w') := fun u hu W => mayUR_any _ _ _ W (by omega) (by have := (hk u hu).a; omega)
  have HBY : Hid (∀ u ∈ L, mayD u = true → ∀ W, Calls Tryd.prog 15 #[.agg #[.int .u32 (u.a : Int), .int .i64 u.n, .int .i64 u.d]] W fun e w' => ∃ v, e = .returned v ∧ OwnB w' W.heap.size v (upD u) ∧ Below W.heap.size W w') := fun u hu h W => bytesRD_any u (hk u hu) h W
  obtain ⟨n, hn⟩ : ∃ n, n = L.length := ⟨_, rfl⟩
  have k0 : (n : Int) ≤ 9223372036854775807 := by omega
  rw [← hn]
  rw [← hn] at HV
  have HN := Lib.hid hn
  clear hv hk hn hL
  go_enter Tryd.func17, Tryd.ntmps17
  go_wp2_with fail
  go_loopw [4] (fun i wr => ∃ k : Nat, k ≤ n ∧ i = .int .i64 k ∧ Hid (badL (L.take k) = false) ∧ Hid (Below w.heap.size w wr)) (fun i _ => n - (intOf i).toNat)
  case atStart => exact ⟨0, Nat.zero_le _, rfl, rfl, Below.refl _ _⟩
  case round =>
    obtain ⟨k, hk, rfl, HB0, HB⟩ := hrel
    rcases Nat.lt_or_ge k n with hlt | hge
    · have g1 : (k : Int) < n := by omega
      have hltL : k < L.length := by have := HN.out; omega
      obtain ⟨bl, bo, rfl, hbl, c0, c1, c2⟩ := (HV.out.later HB.out).at hltL
      have hm := HM.out L[k] (List.getElem_mem hltL)
      cases hd : mayD L[k] with
      | false =>
        rw [hd] at hm
        have HE := Lib.hid (li_bad (bad_some hltL hd))
        obtain ⟨u, hu⟩ : ∃ u, u = L[k] := ⟨_, rfl⟩
        rw [← hu] at c0 c1 c2 hm
        have HMU := Lib.hid hm
        clear hu hm hd hltL
        go_wp2_with fail
        refine (HMU.out _).mono ?_
        rintro e w2 ⟨rfl, hb2⟩
        have HB2 := Lib.hid (below_of HB.out hb2)
        clear hb2
        go_wp2_with fail
        go_ret2
        exact ⟨_, by rw [HE.out.1]; rfl, by rw [HE.out.2]; exact Bytes.nil _ _ _, HB2.out⟩
      | true =>
        rw [hd] at hm
        have HBK := Lib.hid (bad_take hltL HB0.out hd)
        obtain ⟨u, hu⟩ : ∃ u, u = L[k] := ⟨_, rfl⟩
        rw [← hu] at c0 c1 c2 hm
        have HMU := Lib.hid hm
        clear hu hm hd hltL
        go_wp2_with fail
        refine (HMU.out _).mono ?_
        rintro e w2 ⟨rfl, hb2⟩
        have HB2 := Lib.hid (below_of HB.out hb2)
        clear hb2
        go_wp2_with fail
        go_roundw
        case rel => exact ⟨k + 1, by omega, by go_num, HBK, HB2⟩
        case measure => simp [intOf]; omega
    · have e : k = n := by omega
      subst e
      have hgood := HB0.out
      rw [List.take_of_length_le (by have := HN.out; omega)] at hgood
      by_cases h32 : 32 < k
      · have g2 : (32 : Int) < k := by omega
        have HE := Lib.hid (li_long hgood (by have := HN.out; omega))
        clear hgood
        go_wp2_with fail
        go_ret2
        exact ⟨_, by rw [HE.out.1]; rfl, by rw [HE.out.2]; exact Bytes.nil _ _ _, HB.out⟩
      · have g2 : (k : Int) ≤ 32 := by omega
        have g3 : (k : Int) < 256 := by omega
        have HE := Lib.hid (li_ok hgood (by have := HN.out; omega))
        have HGD : Hid (∀ u ∈ L, mayD u = true) := fun u hu => good_at hgood hu
        clear hgood h32
        go_wp2_with fail
        have hO0 : OwnB (wr.alloc (.cells #[.int .u8 (k : Int)] 5)) w.heap.size (.slice (some ⟨wr.heap.size, 0, none⟩) 1 1) [UInt8.ofNat k] := by
          have hq := own_lit wr w.heap.size 5 (bv [UInt8.ofNat k]) HB.out.size (by unfold maxLen; simp [bv])
          have hz : bv [UInt8.ofNat k] = [.int .u8 (k : Int)] := by simp [bv, ofNat8 (show k < 256 by omega)]
          rw [hz] at hq
          show World.ownsRow _ _ _ _ _ _ _
          rw [hz]; exact hq
        have HO0 := Lib.hid hO0
        have HB1 := Lib.hid (HB.out.alloc HB.out.size (.cells #[.int .u8 (k : Int)] 5))
        clear hO0
        go_loopw [5, 6] (fun v i wr2 => ∃ j : Nat, j ≤ k ∧ i = .int .i64 j ∧ Hid (OwnB wr2 w.heap.size v (UInt8.ofNat k :: ((L.take j).map upD).flatten)) ∧ Hid (Below w.heap.size w wr2)) (fun _ i _ => k - (intOf i).toNat)
        case atStart => exact ⟨0, Nat.zero_le _, rfl, HO0.out, HB1.out⟩
        case round =>
          obtain ⟨j, hj, rfl, HW, HB2⟩ := hrel
          rcases Nat.lt_or_ge j k with hlt | hge2
          · have g4 : (j : Int) < k := by omega
            have hltL : j < L.length := by have := HN.out; omega
            obtain ⟨bl, bo, rfl, hbl, c0, c1, c2⟩ := (HV.out.later HB2.out).at hltL
            have hsp := HBY.out L[j] (List.getElem_mem hltL) (HGD.out _ (List.getElem_mem hltL))
            obtain ⟨u, hu⟩ : ∃ u, u = L[j] := ⟨_, rfl⟩
            rw [← hu] at c0 c1 c2 hsp
            have ht : UInt8.ofNat k :: ((L.take (j + 1)).map upD).flatten = (UInt8.ofNat k :: ((L.take j).map upD).flatten) ++ upD u := by
              rw [List.take_succ_eq_append_getElem hltL, List.map_append, List.flatten_append, hu]; simp
            have hlen : (UInt8.ofNat k :: ((L.take j).map upD).flatten).length ≤ 1000 := by
              have := liL_length (L.take j)
              unfold liL at this
              simp only [List.length_cons] at this ⊢
              have h2 : (L.take j).length ≤ j := List.length_take_le _ _
              omega
            have HT := Lib.hid ht
            have HSU := Lib.hid hsp
            obtain ⟨P, hP⟩ : ∃ P, P = UInt8.ofNat k :: ((L.take j).map upD).flatten := ⟨_, rfl⟩
            rw [← hP] at HW HT hlen
            have HPL := Lib.hid hlen
            clear ht hu hsp hP hlen hltL
            go_wp2_with fail
            refine (HSU.out _).mono ?_
            rintro e w3 ⟨x, rfl, hox, hb3⟩
            have HW3 := Lib.hid (HW.out.later hb3)
            have HB3 := Lib.hid (below_of HB2.out hb3)
            have HX3 := Lib.hid hox.bytes
            clear hb3 hox c0 c1 c2
            go_wp2_with (at_builtin; refine wpList_app rfl _ _ rfl w.heap.size _ _ P (upD u) rfl rfl HW3.out HX3.out (by have := HPL.out; rw [upD_length]; omega) HB3.out.size ?_)
            intro v' w4 ho4 hb4 _
            have HO4 : Hid (OwnB w4 w.heap.size v' (UInt8.ofNat k :: ((L.take (j + 1)).map upD).flatten)) := by show OwnB _ _ _ _; rw [HT.out]; exact ho4
            have HB4 := Lib.hid (HB3.out.trans hb4)
            clear ho4 hb4
            go_wp2_with fail
            go_roundw
            case rel => exact ⟨j + 1, by omega, by go_num, HO4, HB4⟩
            case measure => simp [intOf]; omega
          · have e : j = k := by omega
            subst e
            have hfin := HW.out
            rw [List.take_of_length_le (by have := HN.out; omega)] at hfin
            have hME : UInt8.ofNat j :: (L.map upD).flatten = liL L := by unfold liL; rw [HN.out]
            rw [hME] at hfin
            have HF := Lib.hid hfin.bytes
            clear hME
            clear hfin
            go_wp2_with fail
            go_ret2
            exact ⟨_, by rw [HE.out.1]; rfl, by rw [HE.out.2]; exact HF.out, HB2.out⟩
end Go.Proofs.YtijkahamgnpobaaDoor

namespace Go.Proofs.YtijkahamgnpobaaDoor
open Go.RowKit
attribute [local go_sem ↓] Go.wp_at_zero Go.wp_at_succ

/-- What a list's bytes say first, and its parts. -/
def hd0 (b : List UInt8) : Nat := (b.getD 0 0).toNat
def chunk (b : List UInt8) (i : Nat) : List UInt8 := (b.drop (1 + 6 * i)).take 6
def ofU (l : List UInt8) : Ud := ⟨ofA l, ofN l, ofD l⟩
def unPre (b : List UInt8) (j : Nat) : List Ud := (List.range j).map fun i => ofU (chunk b i)
def unAll (b : List UInt8) (j : Nat) : Bool := (List.range j).all fun i => ofB (chunk b i)
def unOk (b : List UInt8) : Bool := decide (1 ≤ b.length) && (decide (hd0 b ≤ 32) && (decide (b.length = 1 + 6 * hd0 b) && unAll b (hd0 b)))
def unL (b : List UInt8) : List Ud := if unOk b = true then unPre b (hd0 b) else []
def unE (b : List UInt8) : Int := if unOk b = true then 0 else 4
theorem un_yes {b : List UInt8} (h : unOk b = true) : unL b = unPre b (hd0 b) ∧ unE b = 0 := by simp [unL, unE, h]
theorem un_no {b : List UInt8} (h : unOk b = false) : unL b = [] ∧ unE b = 4 := by simp [unL, unE, h]
theorem unPre_succ (b : List UInt8) (j : Nat) : unPre b (j + 1) = unPre b j ++ [ofU (chunk b j)] := by simp [unPre, List.range_succ]
theorem unPre_length (b : List UInt8) (j : Nat) : (unPre b j).length = j := by simp [unPre]
theorem unAll_succ (b : List UInt8) (j : Nat) : unAll b (j + 1) = (unAll b j && ofB (chunk b j)) := by simp [unAll, List.range_succ]
theorem unAll_no {b : List UInt8} {j n : Nat} (hj : j < n) (h : ofB (chunk b j) = false) : unAll b n = false := by
  unfold unAll
  rw [List.all_eq_false]
  exact ⟨j, List.mem_range.2 hj, by rw [h]; simp⟩
theorem unOk_no {b : List UInt8} (h : ¬ (1 ≤ b.length ∧ hd0 b ≤ 32 ∧ b.length = 1 + 6 * hd0 b ∧ unAll b (hd0 b) = true)) : unOk b = false := by
  rw [Bool.eq_false_iff]; intro e; apply h; simpa [unOk] using e
theorem unOk_yes {b : List UInt8} (h1 : 1 ≤ b.length) (h2 : hd0 b ≤ 32) (h3 : b.length = 1 + 6 * hd0 b) (h4 : unAll b (hd0 b) = true) : unOk b = true := by
  unfold unOk; rw [decide_eq_true h1, decide_eq_true h2, decide_eq_true h3, h4]; rfl

/-- b[:n:n]. -/
theorem Bytes.cut_hm6 {w : World} {c : Nat} {a : Option Addr} {l : List UInt8} (h : Bytes w (.slice a l.length c) l) (hn : 6 ≤ l.length) :
    (∀ w, (Instr.slice 28 (.slice a l.length c) none (some (.int .i64 6)) (some (.int .i64 6))).run Tryd.prog w = .ok (.slice a 6 6) w) ∧ Bytes w (.slice a 6 6) (l.take 6) := by
  have hc := h.cap
  have hb := h.sliced (lo := 0) (Nat.zero_le _) hn (Nat.le_refl _) (by omega)
  have e : Go.sliced a 0 6 6 1 = .slice a 6 6 := by
    unfold Go.sliced
    congr 1
    split
    · rfl
    · cases a <;> simp [Addr.add]
  rw [e, List.drop_zero] at hb
  refine ⟨fun w => ?_, hb⟩
  rw [run_slice_hm w _ a _ _ cells1 _ _ _ _ (by omega) (by omega) (by omega), size1]
  show Result.ok (Go.sliced a 0 6 6 1) w = _
  rw [e]
theorem head_cell {w : World} {v : Value} {b : List UInt8} (h : Bytes w v b) (hl : 1 ≤ b.length) : ∃ bl o c, v = .slice (some ⟨bl, o, none⟩) b.length c ∧ bl < w.heap.size ∧ b.length ≤ c ∧ w.cell? ⟨bl, o, none⟩ = some (.int .u8 (hd0 b : Int)) := by
  rcases h with ⟨rfl, _⟩ | ⟨bl, o, c, e, hb, hc, hx⟩
  · simp at hl
  · refine ⟨bl, o, c, e, hb, hc, ?_⟩
    have := hx 0 (b.getD 0 0) (getD_at (by omega))
    rw [Nat.add_zero] at this; exact this
theorem hd0_lt (b : List UInt8) : hd0 b < 256 := UInt8.toNat_lt _

set_option maxHeartbeats 2000000 in
set_option maxRecDepth 100000 in
theorem unlistW_no (v : Value) (b : List UInt8) (w : World) (hv : Bytes w v b) (hl : b.length ≤ 9223372036854775807) (h : ¬ (1 ≤ b.length ∧ hd0 b ≤ 32 ∧ b.length = 1 + 6 * hd0 b)) :
    Calls Tryd.prog 18 #[v] w fun e w' => e = .returned (.tuple #[.slice none 0 0, .int .i64 4]) ∧ w = w' := by
  by_cases h1 : 1 ≤ b.length
  · obtain ⟨bl, o, c, rfl, hbl, hc, hcell⟩ := head_cell hv h1
    obtain ⟨n, hn⟩ : ∃ n, n = hd0 b := ⟨_, rfl⟩
    have hn2 : n < 256 := by rw [hn]; exact hd0_lt b
    rw [← hn] at hcell h
    obtain ⟨m, hm⟩ : ∃ m, m = b.length := ⟨_, rfl⟩
    rw [← hm] at hc h h1 ⊢
    have k1 : (1 : Int) ≤ m := by omega
    have k2 : (m : Int) ≤ 9223372036854775807 := by omega
    have k3 : (n : Int) < 256 := by omega
    have u1 : IntKind.i64.wrap (n : Int) = n := IntWalk.i64_in _ ⟨by omega, by omega⟩
    clear hv hl hn hm
    by_cases h32 : 32 < n
    · have k4 : (32 : Int) < n := by omega
      have k5 : decide ((32 : Int) < n) = true := by simp; omega
      clear h
      go_enter Tryd.func18, Tryd.ntmps18
      go_wp2_with fail
      go_step3
      go_wp2_with fail
      rw [Exit.noGoto_ret]
      go_ret2
      exact ⟨rfl, rfl⟩
    · have k4 : (n : Int) ≤ 32 := by omega
      have k5 : decide ((32 : Int) < n) = false := by simp; omega
      have k6 : ((m : Int) != 1 + 6 * n) = true := by rw [bne_iff_ne]; omega
      clear h h32
      go_enter Tryd.func18, Tryd.ntmps18
      go_wp2_with fail
      go_step3
      go_wp2_with fail
      rw [Exit.noGoto_ret]
      go_ret2
      exact ⟨rfl, rfl⟩
  · obtain ⟨a, c, rfl⟩ := hv.form
    have e : b = [] := List.eq_nil_of_length_eq_zero (by omega)
    subst e
    clear hv h h1 hl
    go_enter Tryd.func18, Tryd.ntmps18
    go_wp2_with fail
    go_step3
    go_wp2_with fail
    rw [Exit.noGoto_ret]
    go_ret2
    exact ⟨rfl, rfl⟩
set_option maxHeartbeats 8000000 in
set_option maxRecDepth 100000 in
theorem unlistW_go (v : Value) (b : List UInt8) (w : World) (hv : Bytes w v b) (h1 : 1 ≤ b.length) (h32 : hd0 b ≤ 32) (hbl : b.length = 1 + 6 * hd0 b) :
    Calls Tryd.prog 18 #[v] w fun e w' => ∃ v, e = .returned (.tuple #[v, .int .i64 (unE b)]) ∧ Upds w' v (unL b) ∧ Below w.heap.size w w' := by
  obtain ⟨bl, o, c, rfl, hbll, hc, hcell⟩ := head_cell hv h1
  obtain ⟨a1, hs1, hr1⟩ := hv.cut_l 1 1 rfl h1
  obtain ⟨n, hn⟩ : ∃ n, n = hd0 b := ⟨_, rfl⟩
  rw [← hn] at hcell h32 hbl
  obtain ⟨m, hm⟩ : ∃ m, m = b.length := ⟨_, rfl⟩
  rw [← hm] at hc h1 hs1 hr1 hbl ⊢
  obtain ⟨i0, hi, hz0, hz1, hz2⟩ := infoU
  obtain ⟨w1, hmk, hown, hg⟩ := run_make_own (P := Tryd.prog) w w.heap.size 41 27 i0 _ 3 Tryd.underlying41 hi hz0 hz1 .i64 .u8 n (by rw [hz2]; omega) (by unfold maxLen; omega) (Nat.le_refl _)
  have HB1 := Lib.hid (show Below w.heap.size w w1 from (Below.refl _ _).grown hg (Nat.le_refl _) (by simp))
  have HO1 : Hid (OwnU w1 w.heap.size (.slice (some ⟨w.heap.size, 0, none⟩) 0 n) []) := hown
  have k1 : (1 : Int) ≤ m := by omega
  have k2 : (m : Int) ≤ 200 := by omega
  have k3 : (n : Int) < 256 := by omega
  have k4 : (n : Int) ≤ 32 := by omega
  have u1 : IntKind.i64.wrap (n : Int) = n := IntWalk.i64_in _ ⟨by omega, by omega⟩
  have k5 : decide ((32 : Int) < n) = false := by simp; omega
  have k6 : ((m : Int) != 1 + 6 * n) = false := by rw [bne_eq_false_iff_eq]; omega
  have HR1 := Lib.hid hr1
  have HN : Hid (n = hd0 b ∧ m = b.length ∧ m = 1 + 6 * n) := ⟨hn, hm, hbl⟩
  clear hv hr1 hn hm hbl h32 hown hg hi hz0 hz1 hz2
  go_enter Tryd.func18, Tryd.ntmps18
  go_wp2_with fail
  go_step3
  go_wp2_with fail
  go_step3
  go_wp2_with fail
  go_loopw [4, 5] (fun v r wr => ∃ (j : Nat) (a5 : Option Addr) (c5 m5 : Nat), j ≤ n ∧ r = .slice a5 m5 c5 ∧ m5 = 6 * (n - j) ∧ Hid (Bytes w (.slice a5 m5 c5) (b.drop (1 + 6 * j))) ∧ Hid (OwnU wr w.heap.size v (unPre b j)) ∧ Hid (unAll b j = true) ∧ Hid (Below w.heap.size w wr)) (fun _ r _ => match r with | .slice _ m _ => m | _ => 0)
  case atStart => exact ⟨0, a1, c - 1, m - 1, Nat.zero_le _, rfl, by have := HN.out; omega, HR1.out, HO1.out, rfl, HB1.out⟩
  case round =>
    obtain ⟨j, a5, c5, m5, hj, rfl, hm5, HR, HW, HA, HB⟩ := hrel
    have hdl : (b.drop (1 + 6 * j)).length = m5 := by rw [List.length_drop]; have := HN.out; omega
    rcases Nat.lt_or_ge j n with hlt | hge
    · have g0 : 0 < m5 := by omega
      have g1 : (0 : Int) < m5 := by omega
      have hr := HR.out
      rw [← hdl] at hr
      obtain ⟨hc6, hb6⟩ := hr.cut_hm6 (by omega)
      obtain ⟨a6, hcl, hbl6⟩ := hr.cut_l 6 6 rfl (by omega)
      rw [hdl] at hc6 hcl hbl6
      have hof := fun (W : World) (h : Below w.heap.size w W) => of5W_any (.slice a5 6 6) (chunk b j) W (hb6.later h) (by unfold chunk; simp; omega)
      obtain ⟨A0, hA0⟩ : ∃ x, x = ofA (chunk b j) := ⟨_, rfl⟩
      obtain ⟨N0, hN0⟩ : ∃ x, x = ofN (chunk b j) := ⟨_, rfl⟩
      obtain ⟨D0, hD0⟩ : ∃ x, x = ofD (chunk b j) := ⟨_, rfl⟩
      rw [← hA0, ← hN0, ← hD0] at hof
      have HQ6 := Lib.hid hbl6
      have HM5 := Lib.hid hm5
      have HS : Hid (unPre b (j + 1) = unPre b j ++ [⟨A0, N0, D0⟩]) := by show _ = _; rw [unPre_succ, hA0, hN0, hD0]; rfl
      have g6 : 6 ≤ m5 := by omega
      cases hok : ofB (chunk b j) with
      | true =>
        rw [show ofE (chunk b j) = 0 from by unfold ofE; rw [hok]; rfl] at hof
        have HOF := Lib.hid hof
        have HAS : Hid (unAll b (j + 1) = true) := by show _ = _; rw [unAll_succ, HA.out, hok]; rfl
        clear hr hb6 hof hA0 hN0 hD0 hbl6 hm5 hdl hok
        go_wp2_with fail
        refine (HOF.out _ HB.out).mono ?_
        rintro e w2 ⟨rfl, hb2⟩
        have q := hb2.alloc hb2.size (.cells #[.int .u32 (A0 : Int), .int .i64 (N0 : Int), .int .i64 (D0 : Int)] 27)
        have HW2 := Lib.hid (OwnU.later HW.out q)
        have HB2 := Lib.hid (below_of HB.out q)
        have R2 := Lib.hid (show BlkAt 27 w2.heap.size [.int .u32 (A0 : Int), .int .i64 (N0 : Int), .int .i64 (D0 : Int)] (w2.alloc (.cells #[.int .u32 (A0 : Int), .int .i64 (N0 : Int), .int .i64 (D0 : Int)] 27)) from BlkAt.new w2 _)
        clear hb2 q hc6
        go_wp2_with fail
        obtain ⟨wz, hwz⟩ : ∃ wz, wz = w2.alloc (.cells #[.int .u32 (A0 : Int), .int .i64 (N0 : Int), .int .i64 (D0 : Int)] 27) := ⟨_, rfl⟩
        rw [← hwz] at HW2 HB2 R2 ⊢
        clear hwz
        (refine wp_region_held_drew (S := (fun w' => Below w.heap.size w w')) (by kernel_rfl) ?_ (fun hHeld => ?_); (focus ((try dsimp only); (exact HB2.out.drew))))
        (try dsimp only at hHeld)
        obtain ⟨w0, hw0⟩ : ∃ W0, W0 = World.drew wz := ⟨_, rfl⟩
        have HW3 : Hid (OwnU w0 w.heap.size u4 (unPre b j)) := by rw [hw0]; exact OwnU.later HW2.out ((Below.refl _ _).drew)
        have R3 : Hid (BlkAt 27 w2.heap.size [.int .u32 (A0 : Int), .int .i64 (N0 : Int), .int .i64 (D0 : Int)] w0) := by rw [hw0]; exact BlkAt.later R2.out ((Below.refl _ _).drew)
        rw [← hw0]
        rw [← hw0] at hHeld
        clear hw0
        have c0 := BlkAt.cell R3.out (j := 0) rfl
        have c1 := BlkAt.cell R3.out (j := 1) rfl
        have c2 := BlkAt.cell R3.out (j := 2) rfl
        (refine wpAnyH_take (i := 0) (v := ?_) rfl (by kernel_rfl) (by kernel_rfl) (by kernel_rfl) (fun _ _ _ h => h) (Or.inl ⟨by rfl, ?_⟩) hHeld ?_; rotate_left; (focus (intro w hSw; (try dsimp only at hSw); go_simp; try with_reducible rfl)); (try simp only [Act.put, List.setIfInBounds_toArray, List.set_cons_zero, List.set_cons_succ, List.getElem_toArray, List.getElem_cons_zero])); (refine wpAnyH_take (i := 4) (v := ?_) rfl (by kernel_rfl) (by kernel_rfl) (by kernel_rfl) (fun _ _ _ h => h) (Or.inl ⟨by rfl, ?_⟩) hHeld ?_; rotate_left; (focus (intro w hSw; (try dsimp only at hSw); go_simp; try with_reducible rfl)); (try simp only [Act.put, List.setIfInBounds_toArray, List.set_cons_zero, List.set_cons_succ, List.getElem_toArray, List.getElem_cons_zero, List.getElem_cons_succ])); (refine wpAnyH_take (i := 5) (v := ?_) rfl (by kernel_rfl) (by kernel_rfl) (by kernel_rfl) (fun _ _ _ h => h) (Or.inl ⟨by rfl, ?_⟩) hHeld ?_; rotate_left; (focus (intro w hSw; (try dsimp only at hSw); go_simp; try with_reducible rfl)); (try simp only [Act.put, List.setIfInBounds_toArray, List.set_cons_zero, List.set_cons_succ, List.getElem_toArray, List.getElem_cons_zero, List.getElem_cons_succ]))
        refine wpAnyH_at (m := #[true, false, false, false, true, true, false, false]) (by kernel_rfl) ?_
        (refine wpAnyH_ready (rs := [1]) (by kernel_rfl) (by simp) ?_; refine AllReadyH.cons rfl (fun K hK => ?_) AllReadyH.nil; go_simp; skip; refine hK.out _ _ ?_ (fun hHeldN => ?_); (focus ((try dsimp only); (exact hHeld))); clear hK K hHeld; have hHeld := hHeldN; clear hHeldN; (try simp only [Act.put, List.setIfInBounds_toArray, List.set_cons_zero, List.set_cons_succ, List.getElem_toArray, List.getElem_cons_zero, List.getElem_cons_succ]))
        refine wpAnyH_at (m := #[true, true, false, false, true, true, false, false]) (by kernel_rfl) ?_
        (refine wpAnyH_ready (rs := [2]) (by kernel_rfl) (by simp) ?_; refine AllReadyH.cons rfl (fun K hK => ?_) AllReadyH.nil; go_simp; skip; refine hK.out _ _ ?_ (fun hHeldN => ?_); (focus ((try dsimp only); (exact hHeld.alloc hHeld.size _))); clear hK K hHeld; have hHeld := hHeldN; clear hHeldN; (try simp only [Act.put, List.setIfInBounds_toArray, List.set_cons_zero, List.set_cons_succ, List.getElem_toArray, List.getElem_cons_zero, List.getElem_cons_succ]))
        refine wpAnyH_at (m := #[true, true, true, false, true, true, false, false]) (by kernel_rfl) ?_
        (refine wpAnyH_ready (rs := [3]) (by kernel_rfl) (by simp) ?_; refine AllReadyH.cons rfl (fun K hK => ?_) AllReadyH.nil; refine step_appU rfl (.tmp 46) (.tmp 48) rfl w.heap.size u4 (unPre b j) ⟨A0, N0, D0⟩ w0.heap.size rfl rfl (OwnU.later HW3.out ((Below.refl _ _).alloc (Nat.le_refl _) _)) (by simp) (by simp) (by simp) (by rw [unPre_length]; omega) hHeld.size ?_; intro v4 w4 ho4 hb4 _; refine hK.out _ _ ?_ (fun hHeldN => ?_); (focus ((try dsimp only); (exact hHeld.trans hb4))); clear hK K hHeld; have hHeld := hHeldN; clear hHeldN; (try simp only [Act.put, List.setIfInBounds_toArray, List.set_cons_zero, List.set_cons_succ, List.getElem_toArray, List.getElem_cons_zero, List.getElem_cons_succ]))
        (refine wpAnyH_take (i := 6) (v := ?_) rfl (by kernel_rfl) (by kernel_rfl) (by kernel_rfl) (fun _ _ _ h => h) (Or.inl ⟨by rfl, ?_⟩) hHeld ?_; rotate_left; (focus (intro w hSw; (try dsimp only at hSw); go_simp; try with_reducible rfl)); (try simp only [Act.put, List.setIfInBounds_toArray, List.set_cons_zero, List.set_cons_succ, List.getElem_toArray, List.getElem_cons_zero, List.getElem_cons_succ])); (refine wpAnyH_take (i := 7) (v := ?_) rfl (by kernel_rfl) (by kernel_rfl) (by kernel_rfl) (fun _ _ _ h => h) (Or.inl ⟨by rfl, ?_⟩) hHeld ?_; rotate_left; (focus (intro w hSw; (try dsimp only at hSw); go_simp; try with_reducible rfl)); (try simp only [Act.put, List.setIfInBounds_toArray, List.set_cons_zero, List.set_cons_succ, List.getElem_toArray, List.getElem_cons_zero, List.getElem_cons_succ]))
        refine wpAnyH_done (by kernel_rfl) ?_ _
        have HO4 : Hid (OwnU w4 w.heap.size v4 (unPre b (j + 1))) := by show OwnU _ _ _ _; rw [HS.out]; exact ho4
        have HB4 := Lib.hid hHeld
        have HQ7 : Hid (Bytes w (.slice a6 (m5 - 6) (c5 - 6)) (b.drop (1 + 6 * (j + 1)))) := by
          have h := HQ6.out
          rw [List.drop_drop] at h
          rw [show 1 + 6 * (j + 1) = 1 + 6 * j + 6 by omega]
          exact h
        clear ho4 hb4 hHeld c0 c1 c2
        go_wp2_with fail
        go_roundw
        case rel => exact ⟨j + 1, a6, c5 - 6, m5 - 6, by omega, rfl, by have := HM5.out; omega, HQ7, HO4, HAS, HB4⟩
        case measure => simp; omega
      | false =>
        rw [show ofE (chunk b j) = 4 from by unfold ofE; rw [hok]; rfl] at hof
        have HOF := Lib.hid hof
        have hno : unOk b = false := unOk_no (fun h => by
          have h2 := unAll_no (show j < hd0 b by have := HN.out; omega) hok
          rw [h2] at h
          exact absurd h.2.2.2 (by simp))
        have HE := Lib.hid (un_no hno)
        clear hr hb6 hof hA0 hN0 hD0 hbl6 hm5 hdl hok hno
        go_wp2_with fail
        refine (HOF.out _ HB.out).mono ?_
        rintro e w2 ⟨rfl, hb2⟩
        have HB2 := Lib.hid (below_of HB.out (hb2.alloc hb2.size (.cells #[.int .u32 (A0 : Int), .int .i64 (N0 : Int), .int .i64 (D0 : Int)] 27)))
        clear hb2
        go_wp2_with fail
        rw [Exit.noGoto_ret]
        go_ret2
        exact ⟨_, by rw [HE.out.2]; rfl, by rw [HE.out.1]; exact Upds.nil _ _ _, HB2.out⟩
    · have e : j = n := by omega
      subst e
      have hok : unOk b = true := unOk_yes (by have := HN.out; omega) (by have := HN.out; omega) (by have := HN.out; omega) (by rw [← HN.out.1]; exact HA.out)
      have HE := Lib.hid (un_yes hok)
      have e0 : m5 = 0 := by omega
      subst e0
      clear hok hm5 hdl
      go_wp2_with fail
      rw [Exit.noGoto_ret]
      go_ret2
      exact ⟨_, by rw [HE.out.2]; rfl, by rw [HE.out.1, ← HN.out.1]; exact HW.out.upds, HB.out⟩
theorem unlistW_any (v : Value) (b : List UInt8) (w : World) (hv : Bytes w v b) (hl : b.length ≤ 9223372036854775807) :
    Calls Tryd.prog 18 #[v] w fun e w' => ∃ v, e = .returned (.tuple #[v, .int .i64 (unE b)]) ∧ Upds w' v (unL b) ∧ Below w.heap.size w w' := by
  by_cases h : 1 ≤ b.length ∧ hd0 b ≤ 32 ∧ b.length = 1 + 6 * hd0 b
  · exact unlistW_go v b w hv h.1 h.2.1 h.2.2
  · obtain ⟨e1, e2⟩ := un_no (unOk_no (b := b) (fun h2 => h ⟨h2.1, h2.2.1, h2.2.2.1⟩))
    refine (unlistW_no v b w hv hl h).mono ?_
    rintro e w' ⟨rfl, rfl⟩
    exact ⟨_, by rw [e2], by rw [e1]; exact Upds.nil _ _ _, Below.refl _ _⟩
end Go.Proofs.YtijkahamgnpobaaDoor

namespace Go.Proofs.YtijkahamgnpobaaDoor
open Go.RowKit

def cutGo : List UInt8 → List Int → Option (List (List UInt8))
  | l, [] => if l = [] then some [] else none
  | l, n :: r => if (l.length : Int) < n then none else (cutGo (l.drop n.toNat) r).map (l.take n.toNat :: ·)
/-- What the cut answers: the parts and the error. -/
def cutP (l : List UInt8) (zs : List Int) : List (List UInt8) := if zs.any (· < 0) = true then [] else (cutGo l zs).getD []
def cutN (l : List UInt8) (zs : List Int) : Int := if zs.any (· < 0) = true then 2 else if (cutGo l zs).isSome = true then 0 else 4

theorem cutGo_long {l : List UInt8} {n : Int} {r : List Int} (h : (l.length : Int) < n) : cutGo l (n :: r) = none := by simp [cutGo, h]
theorem cutGo_fits {l : List UInt8} {n : Int} {r : List Int} (h : ¬ (l.length : Int) < n) : cutGo l (n :: r) = (cutGo (l.drop n.toNat) r).map (l.take n.toNat :: ·) := by simp [cutGo, h]
theorem any_drop {zs : List Int} (h : zs.any (· < 0) = false) {k : Nat} (hk : k < zs.length) : 0 ≤ zs[k] := by
  have := List.any_eq_false.1 h zs[k] (List.getElem_mem hk)
  simpa using this
theorem drop_cons {zs : List Int} {k : Nat} (h : k < zs.length) : zs.drop k = zs[k] :: zs.drop (k + 1) := List.drop_eq_getElem_cons h
/-- One part more. -/
theorem cut_step {l cur : List UInt8} {zs : List Int} {done : List (List UInt8)} {k : Nat} (hk : k < zs.length) (h : cutGo l zs = (cutGo cur (zs.drop k)).map (done ++ ·)) (hn : ¬ (cur.length : Int) < zs[k]) :
    cutGo l zs = (cutGo (cur.drop zs[k].toNat) (zs.drop (k + 1))).map ((done ++ [cur.take zs[k].toNat]) ++ ·) := by
  rw [h, drop_cons hk, cutGo_fits hn, Option.map_map]
  congr 1
  funext x
  simp
theorem cut_stop {l cur : List UInt8} {zs : List Int} {done : List (List UInt8)} {k : Nat} (hk : k < zs.length) (h : cutGo l zs = (cutGo cur (zs.drop k)).map (done ++ ·)) (hn : (cur.length : Int) < zs[k]) : cutGo l zs = none := by
  rw [h, drop_cons hk, cutGo_long hn]; rfl
theorem cut_end {l cur : List UInt8} {zs : List Int} {done : List (List UInt8)} (h : cutGo l zs = (cutGo cur (zs.drop zs.length)).map (done ++ ·)) : cutGo l zs = if cur = [] then some done else none := by
  rw [h, List.drop_length]
  unfold cutGo
  split <;> simp_all
theorem cut_neg {l : List UInt8} {zs : List Int} (h : zs.any (· < 0) = true) : cutP l zs = [] ∧ cutN l zs = 2 := by simp [cutP, cutN, h]
theorem cut_none {l : List UInt8} {zs : List Int} (h : zs.any (· < 0) = false) (h2 : cutGo l zs = none) : cutP l zs = [] ∧ cutN l zs = 4 := by simp [cutP, cutN, h, h2]
theorem cut_some {l : List UInt8} {zs : List Int} {P : List (List UInt8)} (h : zs.any (· < 0) = false) (h2 : cutGo l zs = some P) : cutP l zs = P ∧ cutN l zs = 0 := by simp [cutP, cutN, h, h2]
theorem cutGo_flat : ∀ (zs : List Int) (l : List UInt8) (P : List (List UInt8)), cutGo l zs = some P → P.flatten = l
  | [], l, P, h => by
    unfold cutGo at h
    split at h
    · injection h with h; subst h; simp_all
    · cases h
  | n :: r, l, P, h => by
    unfold cutGo at h
    split at h
    · cases h
    · obtain ⟨Q, h1, rfl⟩ := Option.map_eq_some_iff.1 h
      rw [List.flatten_cons, cutGo_flat r _ Q h1, List.take_append_drop]
theorem cutGo_len : ∀ (zs : List Int) (l : List UInt8) (P : List (List UInt8)), cutGo l zs = some P → P.length = zs.length
  | [], l, P, h => by
    unfold cutGo at h
    split at h
    · injection h with h; subst h; rfl
    · cases h
  | n :: r, l, P, h => by
    unfold cutGo at h
    split at h
    · cases h
    · obtain ⟨Q, h1, rfl⟩ := Option.map_eq_some_iff.1 h
      simp [cutGo_len r _ Q h1]
theorem cutP_len (l : List UInt8) (zs : List Int) : (cutP l zs).length ≤ zs.length := by
  unfold cutP
  split
  · simp
  · cases h : cutGo l zs with
    | none => simp
    | some P => simp [cutGo_len zs l P h]
theorem cutP_part (l : List UInt8) (zs : List Int) : ∀ p ∈ cutP l zs, p.length ≤ l.length := by
  intro p hp
  unfold cutP at hp
  split at hp
  · simp at hp
  · cases h : cutGo l zs with
    | none => rw [h] at hp; simp at hp
    | some P =>
      rw [h] at hp
      simp at hp
      have h1 := cutGo_flat zs l P h
      obtain ⟨a, b, rfl⟩ := List.append_of_mem hp
      rw [← h1]; simp; omega
end Go.Proofs.YtijkahamgnpobaaDoor
