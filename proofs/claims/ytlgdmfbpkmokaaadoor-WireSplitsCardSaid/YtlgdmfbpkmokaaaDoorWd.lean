/- The library's variables that the layer's texts read, and the walk of wire.number. -/
import Derived.Test.YtlgdmfbpkmokaaaDoorWa
import Derived.Test.YtlgdmfbpkmokaaaDoorShelf
namespace Go.Proofs.YtlgdmfbpkmokaaaDoor
open Go.RowKit
attribute [local go_sem ↓] Go.wp_at_zero Go.wp_at_succ

/-- What the library's variables hold. -/
structure Gl (w : World) : Prop where
  m : ∃ m, w.cell? ⟨0, 0, none⟩ = some (.int .i64 m)
  es : ∃ te pe, w.cell? ⟨1, 0, none⟩ = some (.iface te pe)
  er : ∃ te pe, w.cell? ⟨2, 0, none⟩ = some (.iface te pe)
  tab : Lib.TabIs Tryd.prog w "internal/strconv.uint64pow10" .u64 Lib.pow10Tab
  size : 5 < w.heap.size

theorem Gl.below {w w' : World} (h : Gl w) (hb : Below w.heap.size w w') : Gl w' := by
  obtain ⟨⟨m, hm⟩, ⟨te, pe, hs⟩, ⟨tr, pr, hr⟩, ht, hz⟩ := h
  refine ⟨⟨m, cell_later hb hm⟩, ⟨te, pe, cell_later hb hs⟩, ⟨tr, pr, cell_later hb hr⟩, ?_, Nat.lt_of_lt_of_le hz hb.size⟩
  exact var?_below hb (g := 3) (by kernel_rfl) (by omega) ht

theorem Gl.drewN {w : World} (h : Gl w) (n : Nat) : Gl (w.drewN n) := h.below (below_drewN (Below.refl _ _) n)
theorem Gl.alloc {w : World} (h : Gl w) (o : Obj) : Gl (w.alloc o) := h.below ((Below.refl _ _).alloc (Nat.le_refl _) _)
theorem Gl.drew {w : World} (h : Gl w) : Gl w.drew := h.below (Below.refl _ _).drew

/-- The number of which the text is one, if it is at most so great. -/
def num? (l : List UInt8) (most : Int) : Option Int :=
  match Lib.atoiAll l with
  | .ok v => if 0 ≤ v ∧ v ≤ most ∧ Lib.itoa v = l then some v else none
  | _ => none
def numI (l : List UInt8) (most : Int) : Int := (num? l most).getD 0
def numB (l : List UInt8) (most : Int) : Bool := (num? l most).isSome

theorem below_grow' (w : World) (k : Nat) (os : Array Obj) : Below w.heap.size w (Sort.grow (w.drewN k) os) :=
  ⟨rfl, rfl, rfl, by show w.heap.size ≤ (w.heap ++ os).size; rw [Array.size_append]; omega, fun j hj => by show (w.heap ++ os)[j]? = w.heap[j]?; rw [Array.getElem?_append_left hj]⟩
theorem bytes_ne {x s : ByteArray} (h : x ≠ s) : (x.toList == s.toList) = false := by
  rw [beq_eq_false_iff_ne, ByteArray.toList_eq, ByteArray.toList_eq]
  intro e; apply h
  have : x.data = s.data := Array.toList_inj.1 e
  cases x; cases s; simp at this; rw [this]
theorem ret_ib {k : IntKind} {a a' : Int} {b b' : Bool} (h : a = a') (h2 : b = b') : Ending.returned (.tuple #[.int k a, .bool b]) = .returned (.tuple #[.int k a', .bool b']) := by rw [h, h2]

theorem itoa_any (n : Int) (h0 : -9223372036854775808 ≤ n) (h1 : n ≤ 9223372036854775807) (w : World) (g : Gl w) :
    Calls Tryd.prog 35 #[.int .i64 n] w fun e w' => e = .returned (.string ⟨(Lib.itoa n).toArray⟩) ∧ Below w.heap.size w w' :=
  (Tryd.strconv_Itoa n h0 h1 w g.tab).mono fun _ _ ⟨he, _, _, hw⟩ => ⟨he, hw ▸ below_grow' _ _ _⟩

/-- The same, the text under a name. -/
theorem itoa_at (n : Int) (x : ByteArray) (hx : x.data.toList = Lib.itoa n) (h0 : -9223372036854775808 ≤ n) (h1 : n ≤ 9223372036854775807) (w : World) (g : Gl w) :
    Calls Tryd.prog 35 #[.int .i64 n] w fun e w' => e = .returned (.string x) ∧ Below w.heap.size w w' :=
  (itoa_any n h0 h1 w g).mono fun _ _ ⟨he, hw⟩ => ⟨by rw [he, ← hx], hw⟩
theorem atoi_ok_any (s : ByteArray) (hs : s.size ≤ 1000000) (v : Int) (h : Lib.atoiAll s.data.toList = .ok v) (w : World) :
    Calls Tryd.prog 42 #[.string s] w fun e w' => e = .returned (.tuple #[.int .i64 v, .nilIface]) ∧ Below w.heap.size w w' :=
  (Tryd.strconv_Atoi_ok s (by omega) v h w).mono fun _ _ ⟨he, hw⟩ => ⟨he, by rcases hw with rfl | ⟨t, rfl⟩ <;> first | exact Below.refl _ _ | exact Lib.bytesWorld_below _ _ _⟩

set_option maxHeartbeats 400000 in
theorem number_any (s : ByteArray) (most : Int) (hs : s.size ≤ 1000000) (w : World) (g : Gl w) :
    Calls Tryd.prog 31 #[.string s, .int .i64 most] w fun e w' => e = .returned (.tuple #[.int .i64 (numI s.data.toList most), .bool (numB s.data.toList most)]) ∧ Below w.heap.size w w' := by
  obtain ⟨te, pe, hes⟩ := g.es
  obtain ⟨tr, pr, her⟩ := g.er
  rcases hh : Lib.atoiAll s.data.toList with v | _ | _
  · by_cases hlo : 0 ≤ v
    · by_cases hhi : v ≤ most
      · have hv := Wp.atoi_range hh
        by_cases hsame : s.data.toList = Lib.itoa v
        · have hf : numI s.data.toList most = v ∧ numB s.data.toList most = true := by simp [numI, numB, num?, hh, hlo, hhi, hsame.symm]
          have H := Lib.hid hh
          have Hf := Lib.hid hf
          have Hs := Lib.hid hsame
          obtain ⟨hv1, hv2⟩ := hv
          clear hh hf hsame
          go_enter Tryd.func31, Tryd.ntmps31
          go_wp2_with (first | (go_at_call 42; refine (atoi_ok_any s hs v H.out _).mono ?_; rintro e w1 ⟨rfl, hb1⟩) | (go_at_call 35; refine (itoa_at v s Hs.out hv1 hv2 _ (g.below hb1)).mono ?_; rintro e w2 ⟨rfl, hb2⟩))
          go_ret2
          exact ⟨ret_ib Hf.out.1.symm Hf.out.2.symm, hb1.trans (hb2.mono hb1.size)⟩
        · have hf : numI s.data.toList most = 0 ∧ numB s.data.toList most = false := by
            have : ¬ (Lib.itoa v = s.data.toList) := fun h => hsame h.symm
            simp [numI, numB, num?, hh, this]
          have hne : ((⟨(Lib.itoa v).toArray⟩ : ByteArray).toList == s.toList) = false := by
            apply bytes_ne; intro h; apply hsame; rw [← h]
          obtain ⟨x, hx⟩ : ∃ x : ByteArray, x = ⟨(Lib.itoa v).toArray⟩ := ⟨_, rfl⟩
          have hx2 : x.data.toList = Lib.itoa v := by rw [hx]
          rw [← hx] at hne
          have H := Lib.hid hh
          have Hf := Lib.hid hf
          have Hx := Lib.hid hx2
          obtain ⟨hv1, hv2⟩ := hv
          clear hh hf hsame hx hx2
          go_enter Tryd.func31, Tryd.ntmps31
          go_wp2_with (first | (go_at_call 42; refine (atoi_ok_any s hs v H.out _).mono ?_; rintro e w1 ⟨rfl, hb1⟩) | (go_at_call 35; refine (itoa_at v x Hx.out hv1 hv2 _ (g.below hb1)).mono ?_; rintro e w2 ⟨rfl, hb2⟩))
          go_ret2
          exact ⟨ret_ib Hf.out.1.symm Hf.out.2.symm, hb1.trans (hb2.mono hb1.size)⟩
      · have hf : numI s.data.toList most = 0 ∧ numB s.data.toList most = false := by simp [numI, numB, num?, hh, hhi]
        have H := Lib.hid hh
        have Hf := Lib.hid hf
        clear hh hf
        go_enter Tryd.func31, Tryd.ntmps31
        go_wp2_with (first | (go_at_call 42; refine (atoi_ok_any s hs v H.out _).mono ?_; rintro e w1 ⟨rfl, hb1⟩))
        go_ret2
        exact ⟨ret_ib Hf.out.1.symm Hf.out.2.symm, hb1⟩
    · have hf : numI s.data.toList most = 0 ∧ numB s.data.toList most = false := by simp [numI, numB, num?, hh, hlo]
      have H := Lib.hid hh
      have Hf := Lib.hid hf
      clear hh hf
      go_enter Tryd.func31, Tryd.ntmps31
      go_wp2_with (first | (go_at_call 42; refine (atoi_ok_any s hs v H.out _).mono ?_; rintro e w1 ⟨rfl, hb1⟩))
      go_ret2
      exact ⟨ret_ib Hf.out.1.symm Hf.out.2.symm, hb1⟩
  · have hf : numI s.data.toList most = 0 ∧ numB s.data.toList most = false := by simp [numI, numB, num?, hh]
    have H := Lib.hid hh
    have Hf := Lib.hid hf
    clear hh hf
    go_enter Tryd.func31, Tryd.ntmps31
    go_wp2_with (go_at_call 42; refine (Tryd.strconv_Atoi_syntax s (by omega) (by intro v; rw [H.out]; exact fun h => by cases h) (by rw [H.out]; exact fun h => by cases h) _ w hes (.inr ⟨te, pe, rfl⟩)).mono ?_; rintro e w1 ⟨N, rfl, hN, hblk, hb1⟩)
    go_ret2
    exact ⟨ret_ib Hf.out.1.symm Hf.out.2.symm, hb1⟩
  · have hf : numI s.data.toList most = 0 ∧ numB s.data.toList most = false := by simp [numI, numB, num?, hh]
    have H := Lib.hid hh
    have Hf := Lib.hid hf
    clear hh hf
    go_enter Tryd.func31, Tryd.ntmps31
    go_wp2_with (go_at_call 42; refine (Tryd.strconv_Atoi_range s (by omega) H.out _ w her (.inr ⟨tr, pr, rfl⟩)).mono ?_; rintro e w1 ⟨N, rfl, hN, hblk, hb1⟩)
    go_ret2
    exact ⟨ret_ib Hf.out.1.symm Hf.out.2.symm, hb1⟩
end Go.Proofs.YtlgdmfbpkmokaaaDoor
