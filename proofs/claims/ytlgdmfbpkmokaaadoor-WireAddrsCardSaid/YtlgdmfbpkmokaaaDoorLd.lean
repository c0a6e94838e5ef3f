/- The walk of the law WireAddrs. -/
import Derived.Test.YtlgdmfbpkmokaaaDoorRu
import Derived.Test.YtlgdmfbpkmokaaaDoorRa
import Derived.Test.YtlgdmfbpkmokaaaDoorWk
namespace Go.Proofs.YtlgdmfbpkmokaaaDoor
open Go.RowKit
attribute [local go_sem ↓] Go.wp_at_zero Go.wp_at_succ

theorem addrW_case (s : ByteArray) (hs : s.size ≤ 1000000) (A E : Int) (hA : addrI s.data.toList = A) (hE : addrE s.data.toList = E) (w : World) (g : Gl w) :
    Calls Tryd.prog 14 #[.string s] w fun e w' => e = .returned (.tuple #[.int .u32 A, .int .i64 E]) ∧ Below w.heap.size w w' := by
  subst hA hE
  exact addrOf_any s hs w g
theorem addrR_case (s : ByteArray) (hs : s.size ≤ 1000000) (A : Int) (ok : Bool) (hA : addrI s.data.toList = A) (hE : (addrF 4 0 s.data.toList).isSome = ok) (w : World) :
    Calls Tryd.prog 15 #[.string s] w fun e w' => e = .returned (.tuple #[.int .u32 A, .bool ok]) ∧ Below w.heap.size w w' := by
  subst hA hE
  exact addrR_any s w hs
theorem prefW_case (s : ByteArray) (hs : s.size ≤ 1000000) (A n E : Int) (hA : pfA s.data.toList = A) (hn : pfN s.data.toList = n) (hE : pfE s.data.toList = E) (w : World) (g : Gl w) :
    Calls Tryd.prog 16 #[.string s] w fun e w' => e = .returned (.tuple #[.agg #[.int .u32 A, .int .i64 n], .int .i64 E]) ∧ Below w.heap.size w w' := by
  subst hA hn hE
  exact prefixOf_any s hs w g
theorem prefR_case (s : ByteArray) (hs : s.size ≤ 1000000) (A n : Int) (ok : Bool) (hA : pfA s.data.toList = A) (hn : pfN s.data.toList = n) (hE : pfOk s.data.toList = ok) (w : World) :
    Calls Tryd.prog 17 #[.string s] w fun e w' => e = .returned (.tuple #[.agg #[.int .u32 A, .int .i64 n], .bool ok]) ∧ Below w.heap.size w w' := by
  subst hA hn hE
  exact prefixR_any s w hs
/-- What an address's text says, and how it is refused. -/
def ACase (s : ByteArray) (A E : Int) (ok : Bool) : Prop := addrI s.data.toList = A ∧ addrE s.data.toList = E ∧ (addrF 4 0 s.data.toList).isSome = ok
def PCase (s : ByteArray) (A n E : Int) (ok : Bool) : Prop := pfA s.data.toList = A ∧ pfN s.data.toList = n ∧ pfE s.data.toList = E ∧ pfOk s.data.toList = ok
set_option maxHeartbeats 4000000 in
set_option maxRecDepth 100000 in
theorem addrs_yyy (a b : Nat) (m : Int) (s : ByteArray) (A : Int) (pA pN : Int) (w : World) (g : Gl w) (ha : a < 4294967296) (hb : b < 4294967296) (hs : s.size ≤ 9000) (h1 : ACase s A 0 true) (h2 : PCase s pA pN 0 true) (h3 : Wp.mayB (b : Int) m = true) :
    Calls Tryd.prog 4 #[.int .u32 (a : Int), .agg #[.int .u32 (b : Int), .int .i64 m], .string s] w fun e w' => e = .returned (.bool true) ∧ Below w.heap.size w w' := by
  have H1 := Lib.hid h1
  have H2 := Lib.hid h2
  have H3 := Lib.hid h3
  have HA := Lib.hid ha
  have HB := Lib.hid hb
  have g0 : (s.size : Int) ≤ 9000 := by omega
  have Hs := Lib.hid (show s.size ≤ 1000000 by omega)
  obtain ⟨sA, hsA⟩ : ∃ x : ByteArray, x = ⟨(addrT a).toArray⟩ := ⟨_, rfl⟩
  have HSA := Lib.hid hsA
  have R0 := Lib.hid (Res.new w b m)
  have B0 : Hid (Below w.heap.size w (w.alloc (.cells #[.int .u32 (b : Int), .int .i64 m] 40))) := (Below.refl _ _).alloc (Nat.le_refl _) _
  clear h1 h2 h3 ha hb hs hsA
  go_enter Tryd.func4, Tryd.ntmps4
  go_wp2_with fail
  refine (addrW_case s Hs.out _ _ H1.out.1 H1.out.2.1 _ (g.below B0.out)).mono ?_
  rintro e w1 ⟨rfl, hb1⟩
  have R0 := Lib.hid (R0.out.later hb1)
  have B0 := Lib.hid (below_of B0.out hb1)
  clear hb1
  go_wp2_with fail
  refine (addrR_case s Hs.out _ _ H1.out.1 H1.out.2.2 _).mono ?_
  rintro e w2 ⟨rfl, hb2⟩
  have R0 := Lib.hid (R0.out.later hb2)
  have B0 := Lib.hid (below_of B0.out hb2)
  clear hb2
  go_wp2_with fail
  refine (prefW_case s Hs.out _ _ _ H2.out.1 H2.out.2.1 H2.out.2.2.1 _ (g.below B0.out)).mono ?_
  rintro e w3 ⟨rfl, hb3⟩
  have R0 := Lib.hid ((R0.out.later hb3).alloc (.cells #[.int .u32 pA, .int .i64 pN] 40))
  have R1 := Lib.hid (Res.new w3 pA pN)
  have B0 := Lib.hid ((below_of B0.out hb3).alloc (below_of B0.out hb3).size (.cells #[.int .u32 pA, .int .i64 pN] 40))
  clear hb3
  go_wp2_with fail
  refine (prefR_case s Hs.out _ _ _ H2.out.1 H2.out.2.1 H2.out.2.2.2 _).mono ?_
  rintro e w4 ⟨rfl, hb4⟩
  have R0w := Lib.hid (R0.out.later hb4)
  have R1 := Lib.hid ((R1.out.later hb4).alloc (.cells #[.int .u32 pA, .int .i64 pN] 40))
  have R0 := Lib.hid (R0w.out.alloc (.cells #[.int .u32 pA, .int .i64 pN] 40))
  have R2 := Lib.hid (Res.new w4 pA pN)
  have B0 := Lib.hid ((below_of B0.out hb4).alloc (below_of B0.out hb4).size (.cells #[.int .u32 pA, .int .i64 pN] 40))
  clear hb4
  obtain ⟨c0, c1, f0, f1, lt⟩ := R0w.out
  go_wp2_with fail
  refine (prefixText_yes (b : Int) m (by omega) (by have := HB.out; omega) H3.out _ (g.below B0.out)).mono ?_
  rintro e w5 ⟨rfl, hb5⟩
  obtain ⟨sP, hsP⟩ : ∃ x : ByteArray, x = ⟨(pfT b m).toArray⟩ := ⟨_, rfl⟩
  rw [← hsP]
  have HSP := Lib.hid hsP
  clear hsP
  have R0 := Lib.hid (R0.out.later hb5)
  have R1 := Lib.hid (R1.out.later hb5)
  have R2 := Lib.hid (R2.out.later hb5)
  have B0 := Lib.hid (below_of B0.out hb5)
  clear hb5 c0 c1 f0 f1 lt
  go_wp2_with fail
  refine (addrText_any (a : Int) (by omega) (by have := HA.out; omega) _ (g.below B0.out)).mono ?_
  rintro e w6 ⟨rfl, hb6⟩
  rw [← HSA.out]
  have R0 := Lib.hid (R0.out.later hb6)
  have R1 := Lib.hid (R1.out.later hb6)
  have R2 := Lib.hid (R2.out.later hb6)
  have B0 := Lib.hid (below_of B0.out hb6)
  clear hb6
  go_wp2_with fail
  refine (addrTextR_any a HA.out _ (g.below B0.out)).mono ?_
  rintro e w7 ⟨rfl, hb7⟩
  rw [← HSA.out]
  have R0 := Lib.hid (R0.out.later hb7)
  have R1 := Lib.hid (R1.out.later hb7)
  have R2 := Lib.hid (R2.out.later hb7)
  have B0 := Lib.hid (below_of B0.out hb7)
  clear hb7
  obtain ⟨c0, c1, f0, f1, lt⟩ := R0.out
  obtain ⟨d0, d1, _, _, dl⟩ := R1.out
  obtain ⟨e0, e1, _, _, el⟩ := R2.out
  go_wp2_with (go_at_call 13; refine (num_any _ _).mono ?_; rintro e wn ⟨rfl, rfl⟩)
  refine (mayR_any (b : Int) m _ (by omega) (by have := HB.out; omega)).mono ?_
  rintro e w8 ⟨rfl, hb8⟩
  rw [H3.out]
  have R0 := Lib.hid (R0.out.later hb8)
  have B0 := Lib.hid (below_of B0.out hb8)
  clear hb8 c0 c1 f0 f1 lt d0 d1 dl e0 e1 el
  obtain ⟨c0, c1, f0, f1, lt⟩ := R0.out
  have hg8 := g.below B0.out
  have hm : 0 ≤ m ∧ m ≤ 32 := by
    have h := H3.out
    simp [Wp.mayB] at h
    exact ⟨h.1, h.2.1⟩
  go_wp2_with fail
  refine (prefixTextR_any b m HB.out (by omega) (by omega) _ hg8).mono ?_
  rintro e w9 ⟨rfl, hb9⟩
  rw [← HSP.out]
  have B0 := Lib.hid (below_of B0.out hb9)
  have hg9 := g.below B0.out
  clear hb9 hm
  go_wp2_with (first | (go_at_call 13; refine (num_any _ _).mono ?_; rintro e wn ⟨rfl, rfl⟩) | (go_at_call 7; refine (known_any _ hg9).mono ?_; rintro e wk ⟨rfl, hbk⟩))
  go_ret
  exact ⟨rfl, below_of B0.out hbk⟩
set_option maxHeartbeats 4000000 in
set_option maxRecDepth 100000 in
theorem addrs_yyn (a b : Nat) (m : Int) (s : ByteArray) (A : Int) (pA pN : Int) (w : World) (g : Gl w) (ha : a < 4294967296) (hb : b < 4294967296) (hs : s.size ≤ 9000) (h1 : ACase s A 0 true) (h2 : PCase s pA pN 0 true) (h3 : Wp.mayB (b : Int) m = false) :
    Calls Tryd.prog 4 #[.int .u32 (a : Int), .agg #[.int .u32 (b : Int), .int .i64 m], .string s] w fun e w' => e = .returned (.bool true) ∧ Below w.heap.size w w' := by
  have H1 := Lib.hid h1
  have H2 := Lib.hid h2
  have H3 := Lib.hid h3
  have HA := Lib.hid ha
  have HB := Lib.hid hb
  have g0 : (s.size : Int) ≤ 9000 := by omega
  have Hs := Lib.hid (show s.size ≤ 1000000 by omega)
  obtain ⟨sA, hsA⟩ : ∃ x : ByteArray, x = ⟨(addrT a).toArray⟩ := ⟨_, rfl⟩
  have HSA := Lib.hid hsA
  have R0 := Lib.hid (Res.new w b m)
  have B0 : Hid (Below w.heap.size w (w.alloc (.cells #[.int .u32 (b : Int), .int .i64 m] 40))) := (Below.refl _ _).alloc (Nat.le_refl _) _
  clear h1 h2 h3 ha hb hs hsA
  go_enter Tryd.func4, Tryd.ntmps4
  go_wp2_with fail
  refine (addrW_case s Hs.out _ _ H1.out.1 H1.out.2.1 _ (g.below B0.out)).mono ?_
  rintro e w1 ⟨rfl, hb1⟩
  have R0 := Lib.hid (R0.out.later hb1)
  have B0 := Lib.hid (below_of B0.out hb1)
  clear hb1
  go_wp2_with fail
  refine (addrR_case s Hs.out _ _ H1.out.1 H1.out.2.2 _).mono ?_
  rintro e w2 ⟨rfl, hb2⟩
  have R0 := Lib.hid (R0.out.later hb2)
  have B0 := Lib.hid (below_of B0.out hb2)
  clear hb2
  go_wp2_with fail
  refine (prefW_case s Hs.out _ _ _ H2.out.1 H2.out.2.1 H2.out.2.2.1 _ (g.below B0.out)).mono ?_
  rintro e w3 ⟨rfl, hb3⟩
  have R0 := Lib.hid ((R0.out.later hb3).alloc (.cells #[.int .u32 pA, .int .i64 pN] 40))
  have R1 := Lib.hid (Res.new w3 pA pN)
  have B0 := Lib.hid ((below_of B0.out hb3).alloc (below_of B0.out hb3).size (.cells #[.int .u32 pA, .int .i64 pN] 40))
  clear hb3
  go_wp2_with fail
  refine (prefR_case s Hs.out _ _ _ H2.out.1 H2.out.2.1 H2.out.2.2.2 _).mono ?_
  rintro e w4 ⟨rfl, hb4⟩
  have R0w := Lib.hid (R0.out.later hb4)
  have R1 := Lib.hid ((R1.out.later hb4).alloc (.cells #[.int .u32 pA, .int .i64 pN] 40))
  have R0 := Lib.hid (R0w.out.alloc (.cells #[.int .u32 pA, .int .i64 pN] 40))
  have R2 := Lib.hid (Res.new w4 pA pN)
  have B0 := Lib.hid ((below_of B0.out hb4).alloc (below_of B0.out hb4).size (.cells #[.int .u32 pA, .int .i64 pN] 40))
  clear hb4
  obtain ⟨c0, c1, f0, f1, lt⟩ := R0w.out
  go_wp2_with fail
  refine (prefixText_no (b : Int) m H3.out _).mono ?_
  rintro e w5 ⟨rfl, hb5⟩
  have R0 := Lib.hid (R0.out.later hb5)
  have R1 := Lib.hid (R1.out.later hb5)
  have R2 := Lib.hid (R2.out.later hb5)
  have B0 := Lib.hid (below_of B0.out hb5)
  clear hb5 c0 c1 f0 f1 lt
  go_wp2_with fail
  refine (addrText_any (a : Int) (by omega) (by have := HA.out; omega) _ (g.below B0.out)).mono ?_
  rintro e w6 ⟨rfl, hb6⟩
  rw [← HSA.out]
  have R0 := Lib.hid (R0.out.later hb6)
  have R1 := Lib.hid (R1.out.later hb6)
  have R2 := Lib.hid (R2.out.later hb6)
  have B0 := Lib.hid (below_of B0.out hb6)
  clear hb6
  go_wp2_with fail
  refine (addrTextR_any a HA.out _ (g.below B0.out)).mono ?_
  rintro e w7 ⟨rfl, hb7⟩
  rw [← HSA.out]
  have R0 := Lib.hid (R0.out.later hb7)
  have R1 := Lib.hid (R1.out.later hb7)
  have R2 := Lib.hid (R2.out.later hb7)
  have B0 := Lib.hid (below_of B0.out hb7)
  clear hb7
  obtain ⟨c0, c1, f0, f1, lt⟩ := R0.out
  obtain ⟨d0, d1, _, _, dl⟩ := R1.out
  obtain ⟨e0, e1, _, _, el⟩ := R2.out
  go_wp2_with (go_at_call 13; refine (num_any _ _).mono ?_; rintro e wn ⟨rfl, rfl⟩)
  refine (mayR_any (b : Int) m _ (by omega) (by have := HB.out; omega)).mono ?_
  rintro e w8 ⟨rfl, hb8⟩
  rw [H3.out]
  have R0 := Lib.hid (R0.out.later hb8)
  have B0 := Lib.hid (below_of B0.out hb8)
  clear hb8 c0 c1 f0 f1 lt d0 d1 dl e0 e1 el
  obtain ⟨c0, c1, f0, f1, lt⟩ := R0.out
  have hg8 := g.below B0.out
  go_wp2_with (first | (go_at_call 13; refine (num_any _ _).mono ?_; rintro e wn ⟨rfl, rfl⟩) | (go_at_call 7; refine (known_any _ hg8).mono ?_; rintro e wk ⟨rfl, hbk⟩))
  go_ret
  exact ⟨rfl, below_of B0.out hbk⟩
set_option maxHeartbeats 4000000 in
set_option maxRecDepth 100000 in
theorem addrs_yny (a b : Nat) (m : Int) (s : ByteArray) (A : Int) (w : World) (g : Gl w) (ha : a < 4294967296) (hb : b < 4294967296) (hs : s.size ≤ 9000) (h1 : ACase s A 0 true) (h2 : PCase s 0 0 4 false) (h3 : Wp.mayB (b : Int) m = true) :
    Calls Tryd.prog 4 #[.int .u32 (a : Int), .agg #[.int .u32 (b : Int), .int .i64 m], .string s] w fun e w' => e = .returned (.bool true) ∧ Below w.heap.size w w' := by
  have H1 := Lib.hid h1
  have H2 := Lib.hid h2
  have H3 := Lib.hid h3
  have HA := Lib.hid ha
  have HB := Lib.hid hb
  have g0 : (s.size : Int) ≤ 9000 := by omega
  have Hs := Lib.hid (show s.size ≤ 1000000 by omega)
  obtain ⟨sA, hsA⟩ : ∃ x : ByteArray, x = ⟨(addrT a).toArray⟩ := ⟨_, rfl⟩
  have HSA := Lib.hid hsA
  have R0 := Lib.hid (Res.new w b m)
  have B0 : Hid (Below w.heap.size w (w.alloc (.cells #[.int .u32 (b : Int), .int .i64 m] 40))) := (Below.refl _ _).alloc (Nat.le_refl _) _
  clear h1 h2 h3 ha hb hs hsA
  go_enter Tryd.func4, Tryd.ntmps4
  go_wp2_with fail
  refine (addrW_case s Hs.out _ _ H1.out.1 H1.out.2.1 _ (g.below B0.out)).mono ?_
  rintro e w1 ⟨rfl, hb1⟩
  have R0 := Lib.hid (R0.out.later hb1)
  have B0 := Lib.hid (below_of B0.out hb1)
  clear hb1
  go_wp2_with fail
  refine (addrR_case s Hs.out _ _ H1.out.1 H1.out.2.2 _).mono ?_
  rintro e w2 ⟨rfl, hb2⟩
  have R0 := Lib.hid (R0.out.later hb2)
  have B0 := Lib.hid (below_of B0.out hb2)
  clear hb2
  go_wp2_with fail
  refine (prefW_case s Hs.out _ _ _ H2.out.1 H2.out.2.1 H2.out.2.2.1 _ (g.below B0.out)).mono ?_
  rintro e w3 ⟨rfl, hb3⟩
  have R0 := Lib.hid ((R0.out.later hb3).alloc (.cells #[.int .u32 0, .int .i64 0] 40))
  have R1 := Lib.hid (Res.new w3 0 0)
  have B0 := Lib.hid ((below_of B0.out hb3).alloc (below_of B0.out hb3).size (.cells #[.int .u32 0, .int .i64 0] 40))
  clear hb3
  go_wp2_with fail
  refine (prefR_case s Hs.out _ _ _ H2.out.1 H2.out.2.1 H2.out.2.2.2 _).mono ?_
  rintro e w4 ⟨rfl, hb4⟩
  have R0w := Lib.hid (R0.out.later hb4)
  have R1 := Lib.hid ((R1.out.later hb4).alloc (.cells #[.int .u32 0, .int .i64 0] 40))
  have R0 := Lib.hid (R0w.out.alloc (.cells #[.int .u32 0, .int .i64 0] 40))
  have R2 := Lib.hid (Res.new w4 0 0)
  have B0 := Lib.hid ((below_of B0.out hb4).alloc (below_of B0.out hb4).size (.cells #[.int .u32 0, .int .i64 0] 40))
  clear hb4
  obtain ⟨c0, c1, f0, f1, lt⟩ := R0w.out
  go_wp2_with fail
  refine (prefixText_yes (b : Int) m (by omega) (by have := HB.out; omega) H3.out _ (g.below B0.out)).mono ?_
  rintro e w5 ⟨rfl, hb5⟩
  obtain ⟨sP, hsP⟩ : ∃ x : ByteArray, x = ⟨(pfT b m).toArray⟩ := ⟨_, rfl⟩
  rw [← hsP]
  have HSP := Lib.hid hsP
  clear hsP
  have R0 := Lib.hid (R0.out.later hb5)
  have R1 := Lib.hid (R1.out.later hb5)
  have R2 := Lib.hid (R2.out.later hb5)
  have B0 := Lib.hid (below_of B0.out hb5)
  clear hb5 c0 c1 f0 f1 lt
  go_wp2_with fail
  refine (addrText_any (a : Int) (by omega) (by have := HA.out; omega) _ (g.below B0.out)).mono ?_
  rintro e w6 ⟨rfl, hb6⟩
  rw [← HSA.out]
  have R0 := Lib.hid (R0.out.later hb6)
  have R1 := Lib.hid (R1.out.later hb6)
  have R2 := Lib.hid (R2.out.later hb6)
  have B0 := Lib.hid (below_of B0.out hb6)
  clear hb6
  go_wp2_with fail
  refine (addrTextR_any a HA.out _ (g.below B0.out)).mono ?_
  rintro e w7 ⟨rfl, hb7⟩
  rw [← HSA.out]
  have R0 := Lib.hid (R0.out.later hb7)
  have R1 := Lib.hid (R1.out.later hb7)
  have R2 := Lib.hid (R2.out.later hb7)
  have B0 := Lib.hid (below_of B0.out hb7)
  clear hb7
  obtain ⟨c0, c1, f0, f1, lt⟩ := R0.out
  obtain ⟨d0, d1, _, _, dl⟩ := R1.out
  obtain ⟨e0, e1, _, _, el⟩ := R2.out
  go_wp2_with (go_at_call 13; refine (num_any _ _).mono ?_; rintro e wn ⟨rfl, rfl⟩)
  refine (mayR_any (b : Int) m _ (by omega) (by have := HB.out; omega)).mono ?_
  rintro e w8 ⟨rfl, hb8⟩
  rw [H3.out]
  have R0 := Lib.hid (R0.out.later hb8)
  have B0 := Lib.hid (below_of B0.out hb8)
  clear hb8 c0 c1 f0 f1 lt d0 d1 dl e0 e1 el
  obtain ⟨c0, c1, f0, f1, lt⟩ := R0.out
  have hg8 := g.below B0.out
  have hm : 0 ≤ m ∧ m ≤ 32 := by
    have h := H3.out
    simp [Wp.mayB] at h
    exact ⟨h.1, h.2.1⟩
  go_wp2_with fail
  refine (prefixTextR_any b m HB.out (by omega) (by omega) _ hg8).mono ?_
  rintro e w9 ⟨rfl, hb9⟩
  rw [← HSP.out]
  have B0 := Lib.hid (below_of B0.out hb9)
  have hg9 := g.below B0.out
  clear hb9 hm
  go_wp2_with (first | (go_at_call 13; refine (num_any _ _).mono ?_; rintro e wn ⟨rfl, rfl⟩) | (go_at_call 7; refine (known_any _ hg9).mono ?_; rintro e wk ⟨rfl, hbk⟩))
  go_ret
  exact ⟨rfl, below_of B0.out hbk⟩
set_option maxHeartbeats 4000000 in
set_option maxRecDepth 100000 in
theorem addrs_ynn (a b : Nat) (m : Int) (s : ByteArray) (A : Int) (w : World) (g : Gl w) (ha : a < 4294967296) (hb : b < 4294967296) (hs : s.size ≤ 9000) (h1 : ACase s A 0 true) (h2 : PCase s 0 0 4 false) (h3 : Wp.mayB (b : Int) m = false) :
    Calls Tryd.prog 4 #[.int .u32 (a : Int), .agg #[.int .u32 (b : Int), .int .i64 m], .string s] w fun e w' => e = .returned (.bool true) ∧ Below w.heap.size w w' := by
  have H1 := Lib.hid h1
  have H2 := Lib.hid h2
  have H3 := Lib.hid h3
  have HA := Lib.hid ha
  have HB := Lib.hid hb
  have g0 : (s.size : Int) ≤ 9000 := by omega
  have Hs := Lib.hid (show s.size ≤ 1000000 by omega)
  obtain ⟨sA, hsA⟩ : ∃ x : ByteArray, x = ⟨(addrT a).toArray⟩ := ⟨_, rfl⟩
  have HSA := Lib.hid hsA
  have R0 := Lib.hid (Res.new w b m)
  have B0 : Hid (Below w.heap.size w (w.alloc (.cells #[.int .u32 (b : Int), .int .i64 m] 40))) := (Below.refl _ _).alloc (Nat.le_refl _) _
  clear h1 h2 h3 ha hb hs hsA
  go_enter Tryd.func4, Tryd.ntmps4
  go_wp2_with fail
  refine (addrW_case s Hs.out _ _ H1.out.1 H1.out.2.1 _ (g.below B0.out)).mono ?_
  rintro e w1 ⟨rfl, hb1⟩
  have R0 := Lib.hid (R0.out.later hb1)
  have B0 := Lib.hid (below_of B0.out hb1)
  clear hb1
  go_wp2_with fail
  refine (addrR_case s Hs.out _ _ H1.out.1 H1.out.2.2 _).mono ?_
  rintro e w2 ⟨rfl, hb2⟩
  have R0 := Lib.hid (R0.out.later hb2)
  have B0 := Lib.hid (below_of B0.out hb2)
  clear hb2
  go_wp2_with fail
  refine (prefW_case s Hs.out _ _ _ H2.out.1 H2.out.2.1 H2.out.2.2.1 _ (g.below B0.out)).mono ?_
  rintro e w3 ⟨rfl, hb3⟩
  have R0 := Lib.hid ((R0.out.later hb3).alloc (.cells #[.int .u32 0, .int .i64 0] 40))
  have R1 := Lib.hid (Res.new w3 0 0)
  have B0 := Lib.hid ((below_of B0.out hb3).alloc (below_of B0.out hb3).size (.cells #[.int .u32 0, .int .i64 0] 40))
  clear hb3
  go_wp2_with fail
  refine (prefR_case s Hs.out _ _ _ H2.out.1 H2.out.2.1 H2.out.2.2.2 _).mono ?_
  rintro e w4 ⟨rfl, hb4⟩
  have R0w := Lib.hid (R0.out.later hb4)
  have R1 := Lib.hid ((R1.out.later hb4).alloc (.cells #[.int .u32 0, .int .i64 0] 40))
  have R0 := Lib.hid (R0w.out.alloc (.cells #[.int .u32 0, .int .i64 0] 40))
  have R2 := Lib.hid (Res.new w4 0 0)
  have B0 := Lib.hid ((below_of B0.out hb4).alloc (below_of B0.out hb4).size (.cells #[.int .u32 0, .int .i64 0] 40))
  clear hb4
  obtain ⟨c0, c1, f0, f1, lt⟩ := R0w.out
  go_wp2_with fail
  refine (prefixText_no (b : Int) m H3.out _).mono ?_
  rintro e w5 ⟨rfl, hb5⟩
  have R0 := Lib.hid (R0.out.later hb5)
  have R1 := Lib.hid (R1.out.later hb5)
  have R2 := Lib.hid (R2.out.later hb5)
  have B0 := Lib.hid (below_of B0.out hb5)
  clear hb5 c0 c1 f0 f1 lt
  go_wp2_with fail
  refine (addrText_any (a : Int) (by omega) (by have := HA.out; omega) _ (g.below B0.out)).mono ?_
  rintro e w6 ⟨rfl, hb6⟩
  rw [← HSA.out]
  have R0 := Lib.hid (R0.out.later hb6)
  have R1 := Lib.hid (R1.out.later hb6)
  have R2 := Lib.hid (R2.out.later hb6)
  have B0 := Lib.hid (below_of B0.out hb6)
  clear hb6
  go_wp2_with fail
  refine (addrTextR_any a HA.out _ (g.below B0.out)).mono ?_
  rintro e w7 ⟨rfl, hb7⟩
  rw [← HSA.out]
  have R0 := Lib.hid (R0.out.later hb7)
  have R1 := Lib.hid (R1.out.later hb7)
  have R2 := Lib.hid (R2.out.later hb7)
  have B0 := Lib.hid (below_of B0.out hb7)
  clear hb7
  obtain ⟨c0, c1, f0, f1, lt⟩ := R0.out
  obtain ⟨d0, d1, _, _, dl⟩ := R1.out
  obtain ⟨e0, e1, _, _, el⟩ := R2.out
  go_wp2_with (go_at_call 13; refine (num_any _ _).mono ?_; rintro e wn ⟨rfl, rfl⟩)
  refine (mayR_any (b : Int) m _ (by omega) (by have := HB.out; omega)).mono ?_
  rintro e w8 ⟨rfl, hb8⟩
  rw [H3.out]
  have R0 := Lib.hid (R0.out.later hb8)
  have B0 := Lib.hid (below_of B0.out hb8)
  clear hb8 c0 c1 f0 f1 lt d0 d1 dl e0 e1 el
  obtain ⟨c0, c1, f0, f1, lt⟩ := R0.out
  have hg8 := g.below B0.out
  go_wp2_with (first | (go_at_call 13; refine (num_any _ _).mono ?_; rintro e wn ⟨rfl, rfl⟩) | (go_at_call 7; refine (known_any _ hg8).mono ?_; rintro e wk ⟨rfl, hbk⟩))
  go_ret
  exact ⟨rfl, below_of B0.out hbk⟩
set_option maxHeartbeats 4000000 in
set_option maxRecDepth 100000 in
theorem addrs_nyy (a b : Nat) (m : Int) (s : ByteArray) (pA pN : Int) (w : World) (g : Gl w) (ha : a < 4294967296) (hb : b < 4294967296) (hs : s.size ≤ 9000) (h1 : ACase s 0 4 false) (h2 : PCase s pA pN 0 true) (h3 : Wp.mayB (b : Int) m = true) :
    Calls Tryd.prog 4 #[.int .u32 (a : Int), .agg #[.int .u32 (b : Int), .int .i64 m], .string s] w fun e w' => e = .returned (.bool true) ∧ Below w.heap.size w w' := by
  have H1 := Lib.hid h1
  have H2 := Lib.hid h2
  have H3 := Lib.hid h3
  have HA := Lib.hid ha
  have HB := Lib.hid hb
  have g0 : (s.size : Int) ≤ 9000 := by omega
  have Hs := Lib.hid (show s.size ≤ 1000000 by omega)
  obtain ⟨sA, hsA⟩ : ∃ x : ByteArray, x = ⟨(addrT a).toArray⟩ := ⟨_, rfl⟩
  have HSA := Lib.hid hsA
  have R0 := Lib.hid (Res.new w b m)
  have B0 : Hid (Below w.heap.size w (w.alloc (.cells #[.int .u32 (b : Int), .int .i64 m] 40))) := (Below.refl _ _).alloc (Nat.le_refl _) _
  clear h1 h2 h3 ha hb hs hsA
  go_enter Tryd.func4, Tryd.ntmps4
  go_wp2_with fail
  refine (addrW_case s Hs.out _ _ H1.out.1 H1.out.2.1 _ (g.below B0.out)).mono ?_
  rintro e w1 ⟨rfl, hb1⟩
  have R0 := Lib.hid (R0.out.later hb1)
  have B0 := Lib.hid (below_of B0.out hb1)
  clear hb1
  go_wp2_with fail
  refine (addrR_case s Hs.out _ _ H1.out.1 H1.out.2.2 _).mono ?_
  rintro e w2 ⟨rfl, hb2⟩
  have R0 := Lib.hid (R0.out.later hb2)
  have B0 := Lib.hid (below_of B0.out hb2)
  clear hb2
  go_wp2_with fail
  refine (prefW_case s Hs.out _ _ _ H2.out.1 H2.out.2.1 H2.out.2.2.1 _ (g.below B0.out)).mono ?_
  rintro e w3 ⟨rfl, hb3⟩
  have R0 := Lib.hid ((R0.out.later hb3).alloc (.cells #[.int .u32 pA, .int .i64 pN] 40))
  have R1 := Lib.hid (Res.new w3 pA pN)
  have B0 := Lib.hid ((below_of B0.out hb3).alloc (below_of B0.out hb3).size (.cells #[.int .u32 pA, .int .i64 pN] 40))
  clear hb3
  go_wp2_with fail
  refine (prefR_case s Hs.out _ _ _ H2.out.1 H2.out.2.1 H2.out.2.2.2 _).mono ?_
  rintro e w4 ⟨rfl, hb4⟩
  have R0w := Lib.hid (R0.out.later hb4)
  have R1 := Lib.hid ((R1.out.later hb4).alloc (.cells #[.int .u32 pA, .int .i64 pN] 40))
  have R0 := Lib.hid (R0w.out.alloc (.cells #[.int .u32 pA, .int .i64 pN] 40))
  have R2 := Lib.hid (Res.new w4 pA pN)
  have B0 := Lib.hid ((below_of B0.out hb4).alloc (below_of B0.out hb4).size (.cells #[.int .u32 pA, .int .i64 pN] 40))
  clear hb4
  obtain ⟨c0, c1, f0, f1, lt⟩ := R0w.out
  go_wp2_with fail
  refine (prefixText_yes (b : Int) m (by omega) (by have := HB.out; omega) H3.out _ (g.below B0.out)).mono ?_
  rintro e w5 ⟨rfl, hb5⟩
  obtain ⟨sP, hsP⟩ : ∃ x : ByteArray, x = ⟨(pfT b m).toArray⟩ := ⟨_, rfl⟩
  rw [← hsP]
  have HSP := Lib.hid hsP
  clear hsP
  have R0 := Lib.hid (R0.out.later hb5)
  have R1 := Lib.hid (R1.out.later hb5)
  have R2 := Lib.hid (R2.out.later hb5)
  have B0 := Lib.hid (below_of B0.out hb5)
  clear hb5 c0 c1 f0 f1 lt
  go_wp2_with fail
  refine (addrText_any (a : Int) (by omega) (by have := HA.out; omega) _ (g.below B0.out)).mono ?_
  rintro e w6 ⟨rfl, hb6⟩
  rw [← HSA.out]
  have R0 := Lib.hid (R0.out.later hb6)
  have R1 := Lib.hid (R1.out.later hb6)
  have R2 := Lib.hid (R2.out.later hb6)
  have B0 := Lib.hid (below_of B0.out hb6)
  clear hb6
  go_wp2_with fail
  refine (addrTextR_any a HA.out _ (g.below B0.out)).mono ?_
  rintro e w7 ⟨rfl, hb7⟩
  rw [← HSA.out]
  have R0 := Lib.hid (R0.out.later hb7)
  have R1 := Lib.hid (R1.out.later hb7)
  have R2 := Lib.hid (R2.out.later hb7)
  have B0 := Lib.hid (below_of B0.out hb7)
  clear hb7
  obtain ⟨c0, c1, f0, f1, lt⟩ := R0.out
  obtain ⟨d0, d1, _, _, dl⟩ := R1.out
  obtain ⟨e0, e1, _, _, el⟩ := R2.out
  go_wp2_with (go_at_call 13; refine (num_any _ _).mono ?_; rintro e wn ⟨rfl, rfl⟩)
  refine (mayR_any (b : Int) m _ (by omega) (by have := HB.out; omega)).mono ?_
  rintro e w8 ⟨rfl, hb8⟩
  rw [H3.out]
  have R0 := Lib.hid (R0.out.later hb8)
  have B0 := Lib.hid (below_of B0.out hb8)
  clear hb8 c0 c1 f0 f1 lt d0 d1 dl e0 e1 el
  obtain ⟨c0, c1, f0, f1, lt⟩ := R0.out
  have hg8 := g.below B0.out
  have hm : 0 ≤ m ∧ m ≤ 32 := by
    have h := H3.out
    simp [Wp.mayB] at h
    exact ⟨h.1, h.2.1⟩
  go_wp2_with fail
  refine (prefixTextR_any b m HB.out (by omega) (by omega) _ hg8).mono ?_
  rintro e w9 ⟨rfl, hb9⟩
  rw [← HSP.out]
  have B0 := Lib.hid (below_of B0.out hb9)
  have hg9 := g.below B0.out
  clear hb9 hm
  go_wp2_with (first | (go_at_call 13; refine (num_any _ _).mono ?_; rintro e wn ⟨rfl, rfl⟩) | (go_at_call 7; refine (known_any _ hg9).mono ?_; rintro e wk ⟨rfl, hbk⟩))
  go_ret
  exact ⟨rfl, below_of B0.out hbk⟩
set_option maxHeartbeats 4000000 in
set_option maxRecDepth 100000 in
theorem addrs_nyn (a b : Nat) (m : Int) (s : ByteArray) (pA pN : Int) (w : World) (g : Gl w) (ha : a < 4294967296) (hb : b < 4294967296) (hs : s.size ≤ 9000) (h1 : ACase s 0 4 false) (h2 : PCase s pA pN 0 true) (h3 : Wp.mayB (b : Int) m = false) :
    Calls Tryd.prog 4 #[.int .u32 (a : Int), .agg #[.int .u32 (b : Int), .int .i64 m], .string s] w fun e w' => e = .returned (.bool true) ∧ Below w.heap.size w w' := by
  have H1 := Lib.hid h1
  have H2 := Lib.hid h2
  have H3 := Lib.hid h3
  have HA := Lib.hid ha
  have HB := Lib.hid hb
  have g0 : (s.size : Int) ≤ 9000 := by omega
  have Hs := Lib.hid (show s.size ≤ 1000000 by omega)
  obtain ⟨sA, hsA⟩ : ∃ x : ByteArray, x = ⟨(addrT a).toArray⟩ := ⟨_, rfl⟩
  have HSA := Lib.hid hsA
  have R0 := Lib.hid (Res.new w b m)
  have B0 : Hid (Below w.heap.size w (w.alloc (.cells #[.int .u32 (b : Int), .int .i64 m] 40))) := (Below.refl _ _).alloc (Nat.le_refl _) _
  clear h1 h2 h3 ha hb hs hsA
  go_enter Tryd.func4, Tryd.ntmps4
  go_wp2_with fail
  refine (addrW_case s Hs.out _ _ H1.out.1 H1.out.2.1 _ (g.below B0.out)).mono ?_
  rintro e w1 ⟨rfl, hb1⟩
  have R0 := Lib.hid (R0.out.later hb1)
  have B0 := Lib.hid (below_of B0.out hb1)
  clear hb1
  go_wp2_with fail
  refine (addrR_case s Hs.out _ _ H1.out.1 H1.out.2.2 _).mono ?_
  rintro e w2 ⟨rfl, hb2⟩
  have R0 := Lib.hid (R0.out.later hb2)
  have B0 := Lib.hid (below_of B0.out hb2)
  clear hb2
  go_wp2_with fail
  refine (prefW_case s Hs.out _ _ _ H2.out.1 H2.out.2.1 H2.out.2.2.1 _ (g.below B0.out)).mono ?_
  rintro e w3 ⟨rfl, hb3⟩
  have R0 := Lib.hid ((R0.out.later hb3).alloc (.cells #[.int .u32 pA, .int .i64 pN] 40))
  have R1 := Lib.hid (Res.new w3 pA pN)
  have B0 := Lib.hid ((below_of B0.out hb3).alloc (below_of B0.out hb3).size (.cells #[.int .u32 pA, .int .i64 pN] 40))
  clear hb3
  go_wp2_with fail
  refine (prefR_case s Hs.out _ _ _ H2.out.1 H2.out.2.1 H2.out.2.2.2 _).mono ?_
  rintro e w4 ⟨rfl, hb4⟩
  have R0w := Lib.hid (R0.out.later hb4)
  have R1 := Lib.hid ((R1.out.later hb4).alloc (.cells #[.int .u32 pA, .int .i64 pN] 40))
  have R0 := Lib.hid (R0w.out.alloc (.cells #[.int .u32 pA, .int .i64 pN] 40))
  have R2 := Lib.hid (Res.new w4 pA pN)
  have B0 := Lib.hid ((below_of B0.out hb4).alloc (below_of B0.out hb4).size (.cells #[.int .u32 pA, .int .i64 pN] 40))
  clear hb4
  obtain ⟨c0, c1, f0, f1, lt⟩ := R0w.out
  go_wp2_with fail
  refine (prefixText_no (b : Int) m H3.out _).mono ?_
  rintro e w5 ⟨rfl, hb5⟩
  have R0 := Lib.hid (R0.out.later hb5)
  have R1 := Lib.hid (R1.out.later hb5)
  have R2 := Lib.hid (R2.out.later hb5)
  have B0 := Lib.hid (below_of B0.out hb5)
  clear hb5 c0 c1 f0 f1 lt
  go_wp2_with fail
  refine (addrText_any (a : Int) (by omega) (by have := HA.out; omega) _ (g.below B0.out)).mono ?_
  rintro e w6 ⟨rfl, hb6⟩
  rw [← HSA.out]
  have R0 := Lib.hid (R0.out.later hb6)
  have R1 := Lib.hid (R1.out.later hb6)
  have R2 := Lib.hid (R2.out.later hb6)
  have B0 := Lib.hid (below_of B0.out hb6)
  clear hb6
  go_wp2_with fail
  refine (addrTextR_any a HA.out _ (g.below B0.out)).mono ?_
  rintro e w7 ⟨rfl, hb7⟩
  rw [← HSA.out]
  have R0 := Lib.hid (R0.out.later hb7)
  have R1 := Lib.hid (R1.out.later hb7)
  have R2 := Lib.hid (R2.out.later hb7)
  have B0 := Lib.hid (below_of B0.out hb7)
  clear hb7
  obtain ⟨c0, c1, f0, f1, lt⟩ := R0.out
  obtain ⟨d0, d1, _, _, dl⟩ := R1.out
  obtain ⟨e0, e1, _, _, el⟩ := R2.out
  go_wp2_with (go_at_call 13; refine (num_any _ _).mono ?_; rintro e wn ⟨rfl, rfl⟩)
  refine (mayR_any (b : Int) m _ (by omega) (by have := HB.out; omega)).mono ?_
  rintro e w8 ⟨rfl, hb8⟩
  rw [H3.out]
  have R0 := Lib.hid (R0.out.later hb8)
  have B0 := Lib.hid (below_of B0.out hb8)
  clear hb8 c0 c1 f0 f1 lt d0 d1 dl e0 e1 el
  obtain ⟨c0, c1, f0, f1, lt⟩ := R0.out
  have hg8 := g.below B0.out
  go_wp2_with (first | (go_at_call 13; refine (num_any _ _).mono ?_; rintro e wn ⟨rfl, rfl⟩) | (go_at_call 7; refine (known_any _ hg8).mono ?_; rintro e wk ⟨rfl, hbk⟩))
  go_ret
  exact ⟨rfl, below_of B0.out hbk⟩
set_option maxHeartbeats 4000000 in
set_option maxRecDepth 100000 in
theorem addrs_nny (a b : Nat) (m : Int) (s : ByteArray) (w : World) (g : Gl w) (ha : a < 4294967296) (hb : b < 4294967296) (hs : s.size ≤ 9000) (h1 : ACase s 0 4 false) (h2 : PCase s 0 0 4 false) (h3 : Wp.mayB (b : Int) m = true) :
    Calls Tryd.prog 4 #[.int .u32 (a : Int), .agg #[.int .u32 (b : Int), .int .i64 m], .string s] w fun e w' => e = .returned (.bool true) ∧ Below w.heap.size w w' := by
  have H1 := Lib.hid h1
  have H2 := Lib.hid h2
  have H3 := Lib.hid h3
  have HA := Lib.hid ha
  have HB := Lib.hid hb
  have g0 : (s.size : Int) ≤ 9000 := by omega
  have Hs := Lib.hid (show s.size ≤ 1000000 by omega)
  obtain ⟨sA, hsA⟩ : ∃ x : ByteArray, x = ⟨(addrT a).toArray⟩ := ⟨_, rfl⟩
  have HSA := Lib.hid hsA
  have R0 := Lib.hid (Res.new w b m)
  have B0 : Hid (Below w.heap.size w (w.alloc (.cells #[.int .u32 (b : Int), .int .i64 m] 40))) := (Below.refl _ _).alloc (Nat.le_refl _) _
  clear h1 h2 h3 ha hb hs hsA
  go_enter Tryd.func4, Tryd.ntmps4
  go_wp2_with fail
  refine (addrW_case s Hs.out _ _ H1.out.1 H1.out.2.1 _ (g.below B0.out)).mono ?_
  rintro e w1 ⟨rfl, hb1⟩
  have R0 := Lib.hid (R0.out.later hb1)
  have B0 := Lib.hid (below_of B0.out hb1)
  clear hb1
  go_wp2_with fail
  refine (addrR_case s Hs.out _ _ H1.out.1 H1.out.2.2 _).mono ?_
  rintro e w2 ⟨rfl, hb2⟩
  have R0 := Lib.hid (R0.out.later hb2)
  have B0 := Lib.hid (below_of B0.out hb2)
  clear hb2
  go_wp2_with fail
  refine (prefW_case s Hs.out _ _ _ H2.out.1 H2.out.2.1 H2.out.2.2.1 _ (g.below B0.out)).mono ?_
  rintro e w3 ⟨rfl, hb3⟩
  have R0 := Lib.hid ((R0.out.later hb3).alloc (.cells #[.int .u32 0, .int .i64 0] 40))
  have R1 := Lib.hid (Res.new w3 0 0)
  have B0 := Lib.hid ((below_of B0.out hb3).alloc (below_of B0.out hb3).size (.cells #[.int .u32 0, .int .i64 0] 40))
  clear hb3
  go_wp2_with fail
  refine (prefR_case s Hs.out _ _ _ H2.out.1 H2.out.2.1 H2.out.2.2.2 _).mono ?_
  rintro e w4 ⟨rfl, hb4⟩
  have R0w := Lib.hid (R0.out.later hb4)
  have R1 := Lib.hid ((R1.out.later hb4).alloc (.cells #[.int .u32 0, .int .i64 0] 40))
  have R0 := Lib.hid (R0w.out.alloc (.cells #[.int .u32 0, .int .i64 0] 40))
  have R2 := Lib.hid (Res.new w4 0 0)
  have B0 := Lib.hid ((below_of B0.out hb4).alloc (below_of B0.out hb4).size (.cells #[.int .u32 0, .int .i64 0] 40))
  clear hb4
  obtain ⟨c0, c1, f0, f1, lt⟩ := R0w.out
  go_wp2_with fail
  refine (prefixText_yes (b : Int) m (by omega) (by have := HB.out; omega) H3.out _ (g.below B0.out)).mono ?_
  rintro e w5 ⟨rfl, hb5⟩
  obtain ⟨sP, hsP⟩ : ∃ x : ByteArray, x = ⟨(pfT b m).toArray⟩ := ⟨_, rfl⟩
  rw [← hsP]
  have HSP := Lib.hid hsP
  clear hsP
  have R0 := Lib.hid (R0.out.later hb5)
  have R1 := Lib.hid (R1.out.later hb5)
  have R2 := Lib.hid (R2.out.later hb5)
  have B0 := Lib.hid (below_of B0.out hb5)
  clear hb5 c0 c1 f0 f1 lt
  go_wp2_with fail
  refine (addrText_any (a : Int) (by omega) (by have := HA.out; omega) _ (g.below B0.out)).mono ?_
  rintro e w6 ⟨rfl, hb6⟩
  rw [← HSA.out]
  have R0 := Lib.hid (R0.out.later hb6)
  have R1 := Lib.hid (R1.out.later hb6)
  have R2 := Lib.hid (R2.out.later hb6)
  have B0 := Lib.hid (below_of B0.out hb6)
  clear hb6
  go_wp2_with fail
  refine (addrTextR_any a HA.out _ (g.below B0.out)).mono ?_
  rintro e w7 ⟨rfl, hb7⟩
  rw [← HSA.out]
  have R0 := Lib.hid (R0.out.later hb7)
  have R1 := Lib.hid (R1.out.later hb7)
  have R2 := Lib.hid (R2.out.later hb7)
  have B0 := Lib.hid (below_of B0.out hb7)
  clear hb7
  obtain ⟨c0, c1, f0, f1, lt⟩ := R0.out
  obtain ⟨d0, d1, _, _, dl⟩ := R1.out
  obtain ⟨e0, e1, _, _, el⟩ := R2.out
  go_wp2_with (go_at_call 13; refine (num_any _ _).mono ?_; rintro e wn ⟨rfl, rfl⟩)
  refine (mayR_any (b : Int) m _ (by omega) (by have := HB.out; omega)).mono ?_
  rintro e w8 ⟨rfl, hb8⟩
  rw [H3.out]
  have R0 := Lib.hid (R0.out.later hb8)
  have B0 := Lib.hid (below_of B0.out hb8)
  clear hb8 c0 c1 f0 f1 lt d0 d1 dl e0 e1 el
  obtain ⟨c0, c1, f0, f1, lt⟩ := R0.out
  have hg8 := g.below B0.out
  have hm : 0 ≤ m ∧ m ≤ 32 := by
    have h := H3.out
    simp [Wp.mayB] at h
    exact ⟨h.1, h.2.1⟩
  go_wp2_with fail
  refine (prefixTextR_any b m HB.out (by omega) (by omega) _ hg8).mono ?_
  rintro e w9 ⟨rfl, hb9⟩
  rw [← HSP.out]
  have B0 := Lib.hid (below_of B0.out hb9)
  have hg9 := g.below B0.out
  clear hb9 hm
  go_wp2_with (first | (go_at_call 13; refine (num_any _ _).mono ?_; rintro e wn ⟨rfl, rfl⟩) | (go_at_call 7; refine (known_any _ hg9).mono ?_; rintro e wk ⟨rfl, hbk⟩))
  go_ret
  exact ⟨rfl, below_of B0.out hbk⟩
set_option maxHeartbeats 4000000 in
set_option maxRecDepth 100000 in
theorem addrs_nnn (a b : Nat) (m : Int) (s : ByteArray) (w : World) (g : Gl w) (ha : a < 4294967296) (hb : b < 4294967296) (hs : s.size ≤ 9000) (h1 : ACase s 0 4 false) (h2 : PCase s 0 0 4 false) (h3 : Wp.mayB (b : Int) m = false) :
    Calls Tryd.prog 4 #[.int .u32 (a : Int), .agg #[.int .u32 (b : Int), .int .i64 m], .string s] w fun e w' => e = .returned (.bool true) ∧ Below w.heap.size w w' := by
  have H1 := Lib.hid h1
  have H2 := Lib.hid h2
  have H3 := Lib.hid h3
  have HA := Lib.hid ha
  have HB := Lib.hid hb
  have g0 : (s.size : Int) ≤ 9000 := by omega
  have Hs := Lib.hid (show s.size ≤ 1000000 by omega)
  obtain ⟨sA, hsA⟩ : ∃ x : ByteArray, x = ⟨(addrT a).toArray⟩ := ⟨_, rfl⟩
  have HSA := Lib.hid hsA
  have R0 := Lib.hid (Res.new w b m)
  have B0 : Hid (Below w.heap.size w (w.alloc (.cells #[.int .u32 (b : Int), .int .i64 m] 40))) := (Below.refl _ _).alloc (Nat.le_refl _) _
  clear h1 h2 h3 ha hb hs hsA
  go_enter Tryd.func4, Tryd.ntmps4
  go_wp2_with fail
  refine (addrW_case s Hs.out _ _ H1.out.1 H1.out.2.1 _ (g.below B0.out)).mono ?_
  rintro e w1 ⟨rfl, hb1⟩
  have R0 := Lib.hid (R0.out.later hb1)
  have B0 := Lib.hid (below_of B0.out hb1)
  clear hb1
  go_wp2_with fail
  refine (addrR_case s Hs.out _ _ H1.out.1 H1.out.2.2 _).mono ?_
  rintro e w2 ⟨rfl, hb2⟩
  have R0 := Lib.hid (R0.out.later hb2)
  have B0 := Lib.hid (below_of B0.out hb2)
  clear hb2
  go_wp2_with fail
  refine (prefW_case s Hs.out _ _ _ H2.out.1 H2.out.2.1 H2.out.2.2.1 _ (g.below B0.out)).mono ?_
  rintro e w3 ⟨rfl, hb3⟩
  have R0 := Lib.hid ((R0.out.later hb3).alloc (.cells #[.int .u32 0, .int .i64 0] 40))
  have R1 := Lib.hid (Res.new w3 0 0)
  have B0 := Lib.hid ((below_of B0.out hb3).alloc (below_of B0.out hb3).size (.cells #[.int .u32 0, .int .i64 0] 40))
  clear hb3
  go_wp2_with fail
  refine (prefR_case s Hs.out _ _ _ H2.out.1 H2.out.2.1 H2.out.2.2.2 _).mono ?_
  rintro e w4 ⟨rfl, hb4⟩
  have R0w := Lib.hid (R0.out.later hb4)
  have R1 := Lib.hid ((R1.out.later hb4).alloc (.cells #[.int .u32 0, .int .i64 0] 40))
  have R0 := Lib.hid (R0w.out.alloc (.cells #[.int .u32 0, .int .i64 0] 40))
  have R2 := Lib.hid (Res.new w4 0 0)
  have B0 := Lib.hid ((below_of B0.out hb4).alloc (below_of B0.out hb4).size (.cells #[.int .u32 0, .int .i64 0] 40))
  clear hb4
  obtain ⟨c0, c1, f0, f1, lt⟩ := R0w.out
  go_wp2_with fail
  refine (prefixText_no (b : Int) m H3.out _).mono ?_
  rintro e w5 ⟨rfl, hb5⟩
  have R0 := Lib.hid (R0.out.later hb5)
  have R1 := Lib.hid (R1.out.later hb5)
  have R2 := Lib.hid (R2.out.later hb5)
  have B0 := Lib.hid (below_of B0.out hb5)
  clear hb5 c0 c1 f0 f1 lt
  go_wp2_with fail
  refine (addrText_any (a : Int) (by omega) (by have := HA.out; omega) _ (g.below B0.out)).mono ?_
  rintro e w6 ⟨rfl, hb6⟩
  rw [← HSA.out]
  have R0 := Lib.hid (R0.out.later hb6)
  have R1 := Lib.hid (R1.out.later hb6)
  have R2 := Lib.hid (R2.out.later hb6)
  have B0 := Lib.hid (below_of B0.out hb6)
  clear hb6
  go_wp2_with fail
  refine (addrTextR_any a HA.out _ (g.below B0.out)).mono ?_
  rintro e w7 ⟨rfl, hb7⟩
  rw [← HSA.out]
  have R0 := Lib.hid (R0.out.later hb7)
  have R1 := Lib.hid (R1.out.later hb7)
  have R2 := Lib.hid (R2.out.later hb7)
  have B0 := Lib.hid (below_of B0.out hb7)
  clear hb7
  obtain ⟨c0, c1, f0, f1, lt⟩ := R0.out
  obtain ⟨d0, d1, _, _, dl⟩ := R1.out
  obtain ⟨e0, e1, _, _, el⟩ := R2.out
  go_wp2_with (go_at_call 13; refine (num_any _ _).mono ?_; rintro e wn ⟨rfl, rfl⟩)
  refine (mayR_any (b : Int) m _ (by omega) (by have := HB.out; omega)).mono ?_
  rintro e w8 ⟨rfl, hb8⟩
  rw [H3.out]
  have R0 := Lib.hid (R0.out.later hb8)
  have B0 := Lib.hid (below_of B0.out hb8)
  clear hb8 c0 c1 f0 f1 lt d0 d1 dl e0 e1 el
  obtain ⟨c0, c1, f0, f1, lt⟩ := R0.out
  have hg8 := g.below B0.out
  go_wp2_with (first | (go_at_call 13; refine (num_any _ _).mono ?_; rintro e wn ⟨rfl, rfl⟩) | (go_at_call 7; refine (known_any _ hg8).mono ?_; rintro e wk ⟨rfl, hbk⟩))
  go_ret
  exact ⟨rfl, below_of B0.out hbk⟩
set_option maxHeartbeats 1000000 in
theorem addrs_great (a b m : Int) (s : ByteArray) (w : World) (g : Gl w) (h : 9000 < s.size) :
    Calls Tryd.prog 4 #[.int .u32 a, .agg #[.int .u32 b, .int .i64 m], .string s] w fun e w' => e = .returned (.bool true) ∧ Below w.heap.size w w' := by
  have g0 : (9000 : Int) < s.size := by omega
  have hB : Below w.heap.size w (w.alloc (.cells #[.int .u32 b, .int .i64 m] 40)) := (Below.refl _ _).alloc (Nat.le_refl _) _
  have B0 := Lib.hid hB
  clear h hB
  go_enter Tryd.func4, Tryd.ntmps4
  go_wp2_with fail
  refine (known_any _ (g.below B0.out)).mono ?_
  rintro e wk ⟨rfl, hbk⟩
  go_wp2_with fail
  go_ret
  exact ⟨rfl, below_of B0.out hbk⟩
theorem wireAddrs_walk (a b m : Int) (s : ByteArray) (w : World) (g : Gl w) (ha : 0 ≤ a) (ha2 : a < 4294967296) (hb : 0 ≤ b) (hb2 : b < 4294967296) (_hs : s.size ≤ 9223372036854775807) :
    Calls Tryd.prog 4 #[.int .u32 a, .agg #[.int .u32 b, .int .i64 m], .string s] w fun e w' => e = .returned (.bool true) ∧ Below w.heap.size w w' := by
  obtain ⟨a, rfl⟩ := Int.eq_ofNat_of_zero_le ha
  obtain ⟨b, rfl⟩ := Int.eq_ofNat_of_zero_le hb
  by_cases h : 9000 < s.size
  · exact addrs_great _ _ _ s w g h
  · have hA : ACase s (addrI s.data.toList) 0 true ∨ ACase s 0 4 false := by
      cases hf : addrF 4 0 s.data.toList with
      | none => right; exact ⟨(addr_none hf).1, (addr_none hf).2, by rw [hf]; rfl⟩
      | some v => left; exact ⟨rfl, (addr_some hf).2, by rw [hf]; rfl⟩
    have hP : PCase s (pfA s.data.toList) (pfN s.data.toList) 0 true ∨ PCase s 0 0 4 false := by
      cases hf : pfOk s.data.toList with
      | false => right; exact ⟨(pf_no hf).1, (pf_no hf).2.1, (pf_no hf).2.2, hf⟩
      | true => left; exact ⟨rfl, rfl, (pf_yes hf).2.2, hf⟩
    rcases hA with hA | hA <;> rcases hP with hP | hP <;> cases hM : Wp.mayB (b : Int) m
    · exact addrs_yyn a b m s _ _ _ w g (by omega) (by omega) (by omega) hA hP hM
    · exact addrs_yyy a b m s _ _ _ w g (by omega) (by omega) (by omega) hA hP hM
    · exact addrs_ynn a b m s _ w g (by omega) (by omega) (by omega) hA hP hM
    · exact addrs_yny a b m s _ w g (by omega) (by omega) (by omega) hA hP hM
    · exact addrs_nyn a b m s _ _ w g (by omega) (by omega) (by omega) hA hP hM
    · exact addrs_nyy a b m s _ _ w g (by omega) (by omega) (by omega) hA hP hM
    · exact addrs_nnn a b m s w g (by omega) (by omega) (by omega) hA hP hM
    · exact addrs_nny a b m s w g (by omega) (by omega) (by omega) hA hP hM
end Go.Proofs.YtlgdmfbpkmokaaaDoor
