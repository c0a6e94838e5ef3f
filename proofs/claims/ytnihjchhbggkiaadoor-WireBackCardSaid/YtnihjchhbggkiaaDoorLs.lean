/- The walk of the law on the text of bytes. -/
import Derived.Test.YtnihjchhbggkiaaDoorWk
import Derived.Test.YtnihjchhbggkiaaDoorWxr
import Derived.Test.YtnihjchhbggkiaaDoorWu
import Derived.Test.YtnihjchhbggkiaaDoorWur
namespace Go.Proofs.YtnihjchhbggkiaaDoor
open Go.RowKit
attribute [local go_sem ↓] Go.wp_at_zero Go.wp_at_succ

theorem ret_vi {v : Value} {a b : Int} (h : a = b) : Ending.returned (.tuple #[v, .int .i64 a]) = .returned (.tuple #[v, .int .i64 b]) := by rw [h]
theorem ret_vb {v : Value} {a b : Bool} (h : a = b) : Ending.returned (.tuple #[v, .bool a]) = .returned (.tuple #[v, .bool b]) := by rw [h]

theorem unhexW_case (s : ByteArray) (x : List UInt8) (n : Int) (hb : unhexB s = x) (he : unhexE s = n) (w : World) (hs : s.size ≤ 20000) :
    Calls Tryd.prog 22 #[.string s] w fun e w' => ∃ a c, e = .returned (.tuple #[.slice a x.length c, .int .i64 n]) ∧ Bytes w' (.slice a x.length c) x ∧ Below w.heap.size w w' := by
  refine (unhexW_any s w hs).mono ?_
  rintro e w' ⟨v, rfl, h, hB⟩
  rw [hb] at h
  obtain ⟨a, c, rfl⟩ := h.form
  exact ⟨a, c, ret_vi he, h, hB⟩
theorem unhexR_case (s : ByteArray) (x : List UInt8) (n : Bool) (hb : unhexB s = x) (he : (unhexL s.data.toList).isSome = n) (w : World) (hs : s.size ≤ 20000) :
    Calls Tryd.prog 23 #[.string s] w fun e w' => ∃ a c, e = .returned (.tuple #[.slice a x.length c, .bool n]) ∧ Bytes w' (.slice a x.length c) x ∧ Below w.heap.size w w' := by
  refine (unhexR_any s w (by omega)).mono ?_
  rintro e w' ⟨v, rfl, h, hB⟩
  rw [hb] at h
  obtain ⟨a, c, rfl⟩ := h.form
  exact ⟨a, c, ret_vb he, h, hB⟩

set_option maxHeartbeats 4000000 in
set_option maxRecDepth 100000 in
theorem hexes_yes (a0 : Option Addr) (c0 : Nat) (l : List UInt8) (s : ByteArray) (x : List UInt8) (w : World) (g : Gl w) (hb : Bytes w (.slice a0 l.length c0) l) (hl : l.length ≤ 9000) (hs : s.size ≤ 9000) (hx : unhexL s.data.toList = some x) :
    Calls Tryd.prog 5 #[.slice a0 l.length c0, .string s] w fun e w' => e = .returned (.bool true) ∧ Below w.heap.size w w' := by
  have hle : (l.length : Int) ≤ 9000 := by omega
  have hse : (s.size : Int) ≤ 9000 := by omega
  have Hb := Lib.hid hb
  have Hx := Lib.hid hx
  clear hb hx
  go_enter Tryd.func5, Tryd.ntmps5
  go_wp2_with fail
  refine (unhexW_case s x 0 (unhex_yes Hx.out).1 (unhex_yes Hx.out).2 _ (by omega)).mono ?_
  rintro e w1 ⟨a1, c1, rfl, hv1, hb1⟩
  have Hv1 := Lib.hid hv1
  have Hb1 := Lib.hid hb1
  clear hv1 hb1
  go_wp2_with fail
  refine (unhexR_case s x true (unhex_yes Hx.out).1 (by rw [Hx.out]; rfl) _ (by omega)).mono ?_
  rintro e w2 ⟨a2, c2, rfl, hv2, hb2⟩
  have Hv2 := Lib.hid hv2
  have Hb2 := Lib.hid hb2
  clear hv2 hb2
  go_wp2_with fail
  have hB2 : Below w.heap.size w w2 := Hb1.out.trans (Hb2.out.mono Hb1.out.size)
  refine (hexW_any _ l _ (Hb.out.later hB2) (by omega)).mono ?_
  rintro e w3 ⟨rfl, hb3⟩
  have hB3 : Below w.heap.size w w3 := hB2.trans (hb3.mono hB2.size)
  have HB3 := Lib.hid hB3
  have H1 := Lib.hid ((Hv1.out.later Hb2.out).later hb3)
  have H2 := Lib.hid (Hv2.out.later hb3)
  clear hB2 hb3 hB3
  go_wp2_with fail
  refine (hexR_any _ l _ (Hb.out.later HB3.out) (by omega)).mono ?_
  rintro e w4 ⟨rfl, hb4⟩
  have HB4 := Lib.hid (HB3.out.trans (hb4.mono HB3.out.size))
  have J1 := Lib.hid (H1.out.later hb4)
  have J2 := Lib.hid (H2.out.later hb4)
  clear hb4
  go_wp2_with fail
  rw [J1.out.str Tryd.underlying23 Tryd.underlying5 Tryd.underlying9]
  go_wp2_with fail
  rw [J2.out.str Tryd.underlying23 Tryd.underlying5 Tryd.underlying9]
  have hg := g.below HB4.out
  go_wp2_with (first | (go_at_call 13; refine (num_any _ _).mono ?_; rintro e wn ⟨rfl, rfl⟩) | (go_at_call 9; refine (known_any _ hg).mono ?_; rintro e wk ⟨rfl, hbk⟩))
  go_ret
  exact ⟨rfl, HB4.out.trans (hbk.mono HB4.out.size)⟩
set_option maxHeartbeats 4000000 in
set_option maxRecDepth 100000 in
theorem hexes_no (a0 : Option Addr) (c0 : Nat) (l : List UInt8) (s : ByteArray) (w : World) (g : Gl w) (hb : Bytes w (.slice a0 l.length c0) l) (hl : l.length ≤ 9000) (hs : s.size ≤ 9000) (hx : unhexL s.data.toList = none) :
    Calls Tryd.prog 5 #[.slice a0 l.length c0, .string s] w fun e w' => e = .returned (.bool true) ∧ Below w.heap.size w w' := by
  have hle : (l.length : Int) ≤ 9000 := by omega
  have hse : (s.size : Int) ≤ 9000 := by omega
  have Hb := Lib.hid hb
  have Hx := Lib.hid hx
  clear hb hx
  go_enter Tryd.func5, Tryd.ntmps5
  go_wp2_with fail
  refine (unhexW_case s [] 4 (unhex_no Hx.out).1 (unhex_no Hx.out).2 _ (by omega)).mono ?_
  rintro e w1 ⟨a1, c1, rfl, hv1, hb1⟩
  have Hv1 := Lib.hid hv1
  have Hb1 := Lib.hid hb1
  clear hv1 hb1
  go_wp2_with fail
  refine (unhexR_case s [] false (unhex_no Hx.out).1 (by rw [Hx.out]; rfl) _ (by omega)).mono ?_
  rintro e w2 ⟨a2, c2, rfl, hv2, hb2⟩
  have Hv2 := Lib.hid hv2
  have Hb2 := Lib.hid hb2
  clear hv2 hb2
  go_wp2_with fail
  have hB2 : Below w.heap.size w w2 := Hb1.out.trans (Hb2.out.mono Hb1.out.size)
  refine (hexW_any _ l _ (Hb.out.later hB2) (by omega)).mono ?_
  rintro e w3 ⟨rfl, hb3⟩
  have hB3 : Below w.heap.size w w3 := hB2.trans (hb3.mono hB2.size)
  have HB3 := Lib.hid hB3
  have H1 := Lib.hid ((Hv1.out.later Hb2.out).later hb3)
  have H2 := Lib.hid (Hv2.out.later hb3)
  clear hB2 hb3 hB3
  go_wp2_with fail
  refine (hexR_any _ l _ (Hb.out.later HB3.out) (by omega)).mono ?_
  rintro e w4 ⟨rfl, hb4⟩
  have HB4 := Lib.hid (HB3.out.trans (hb4.mono HB3.out.size))
  have J1 := Lib.hid (H1.out.later hb4)
  have J2 := Lib.hid (H2.out.later hb4)
  clear hb4
  go_wp2_with fail
  rw [show Value.slice a1 0 c1 = Value.slice a1 ([] : List UInt8).length c1 from rfl, J1.out.str Tryd.underlying23 Tryd.underlying5 Tryd.underlying9]
  go_wp2_with fail
  rw [show Value.slice a2 0 c2 = Value.slice a2 ([] : List UInt8).length c2 from rfl, J2.out.str Tryd.underlying23 Tryd.underlying5 Tryd.underlying9]
  have hg := g.below HB4.out
  go_wp2_with (first | (go_at_call 13; refine (num_any _ _).mono ?_; rintro e wn ⟨rfl, rfl⟩) | (go_at_call 9; refine (known_any _ hg).mono ?_; rintro e wk ⟨rfl, hbk⟩))
  go_ret
  exact ⟨rfl, HB4.out.trans (hbk.mono HB4.out.size)⟩
set_option maxHeartbeats 1000000 in
theorem hexes_great (a0 : Option Addr) (c0 m : Nat) (s : ByteArray) (w : World) (g : Gl w) (h : 9000 < m ∨ 9000 < s.size) :
    Calls Tryd.prog 5 #[.slice a0 m c0, .string s] w fun e w' => e = .returned (.bool true) ∧ Below w.heap.size w w' := by
  by_cases h1 : 9000 < m
  · have hle : (9000 : Int) < m := by omega
    clear h
    go_enter Tryd.func5, Tryd.ntmps5
    go_wp2_with (go_at_call 9; refine (known_any _ g).mono ?_; rintro e wk ⟨rfl, hbk⟩)
    go_ret
    exact ⟨rfl, hbk⟩
  · have hle : (m : Int) ≤ 9000 := by omega
    have hse : (9000 : Int) < s.size := by omega
    clear h
    go_enter Tryd.func5, Tryd.ntmps5
    go_wp2_with (go_at_call 9; refine (known_any _ g).mono ?_; rintro e wk ⟨rfl, hbk⟩)
    go_ret
    exact ⟨rfl, hbk⟩

theorem wireHex_walk (v : Value) (l : List UInt8) (s : ByteArray) (w : World) (g : Gl w) (hb : Bytes w v l) (_hl : l.length ≤ 9223372036854775807) (_hs : s.size ≤ 9223372036854775807) :
    Calls Tryd.prog 5 #[v, .string s] w fun e w' => e = .returned (.bool true) ∧ Below w.heap.size w w' := by
  obtain ⟨a0, c0, rfl⟩ := hb.form
  by_cases h : 9000 < l.length ∨ 9000 < s.size
  · exact hexes_great a0 c0 l.length s w g h
  · cases hx : unhexL s.data.toList with
    | none => exact hexes_no a0 c0 l s w g hb (by omega) (by omega) hx
    | some x => exact hexes_yes a0 c0 l s x w g hb (by omega) (by omega) hx
end Go.Proofs.YtnihjchhbggkiaaDoor
