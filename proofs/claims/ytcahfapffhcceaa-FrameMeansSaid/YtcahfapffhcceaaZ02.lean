/- The walks of the reference's Room, Put and Get.
   May an update be, how far it is by a neighbour: the walks, the program's and the reference's.
   Walks of the reference's looks at prefixes, of Within and of both orders.
   A number's bytes read again; plain mathematics.
   The walks of Put and Get, and of the reference's.
   Walks of small functions of the layer wire and of its reference: what they return, and that they leave memory alone but for new blocks.
   Plain numbers of the layer wire: prefixes, their order; no program in it.
   frame.Same and ref06.Same of any two frames. -/
import Derived.Lib.AtoiAll
import Derived.Lib.ItoaNum
import Derived.Lib.IndexMore
import Derived.Test.YtcahfapffhcceaaZ01

set_option linter.unusedSimpArgs false
set_option linter.unusedVariables false
namespace Go.Proofs.Ytcahfapffhcceaa
open Go.RowKit
attribute [local go_sem ↓] Go.wp_at_zero Go.wp_at_succ

def sameT (a b c d : Nat) : Bool := decide (a = c) && decide (b = d)
/-- Are two frames the same, but for Body? -/
def sameFr (f g : Fr) : Bool := (f.k == g.k) && ((f.n == g.n) && (sameT f.mb f.mt g.mb g.mt && (sameT f.tb f.tt g.tb g.tt && (((f.s : Int) == (g.s : Int)) && ((f.a : Int) == (g.a : Int))))))
def sameF (f g : Fr) (B C : List UInt8) : Bool := sameFr f g && (B == C)
theorem sameT_iff {a b c d : Nat} : sameT a b c d = true ↔ a = c ∧ b = d := by simp [sameT]
theorem eqT_ite (a b c d : Nat) (W : World) : (if (a : Int) = (c : Int) then if (b : Int) = (d : Int) then Result.ok (Next.value (Value.bool true)) W else Result.ok (Next.value (Value.bool false)) W else Result.ok (Next.value (Value.bool false)) W) = Result.ok (Next.value (Value.bool (sameT a b c d))) W := by
  unfold sameT
  by_cases h1 : a = c
  · subst h1
    by_cases h2 : b = d
    · subst h2; simp
    · have h2' : ¬ (b : Int) = (d : Int) := by omega
      rw [if_pos rfl, if_neg h2']; simp [h2]
  · have h1' : ¬ (a : Int) = (c : Int) := by omega
    rw [if_neg h1', decide_eq_false h1]; rfl
def EqT (a b c d : Nat) (r : Bool) : Prop := ∀ W : World, (if (a : Int) = (c : Int) then if (b : Int) = (d : Int) then Result.ok (Next.value (Value.bool true)) W else Result.ok (Next.value (Value.bool false)) W else Result.ok (Next.value (Value.bool false)) W) = Result.ok (Next.value (Value.bool r)) W
theorem eqT_of {a b c d : Nat} {r : Bool} (h : sameT a b c d = r) : EqT a b c d r := fun W => by rw [← h]; exact eqT_ite a b c d W
theorem sameF_refl (f : Fr) (B : List UInt8) : sameF f f B B = true := by simp [sameF, sameFr, sameT]
theorem sameF_iff {f g : Fr} {B C : List UInt8} : sameF f g B C = true ↔ f = g ∧ B = C := by
  constructor
  · intro h
    simp only [sameF, sameFr, sameT, Bool.and_eq_true, beq_iff_eq, decide_eq_true_eq] at h
    obtain ⟨⟨h1, h2, ⟨h3, h4⟩, ⟨h5, h6⟩, h7, h8⟩, h9⟩ := h
    cases f; cases g
    simp only [Fr.mk.injEq]
    simp only at h1 h2 h3 h4 h5 h6 h7 h8
    exact ⟨⟨h1, h2, h3, h4, h5, h6, by omega, by omega⟩, h9⟩
  · rintro ⟨rfl, rfl⟩
    exact sameF_refl f B
theorem equal_by (u v : Value) (l m : List UInt8) (w : World) (hu : Bytes w u l) (hv : Bytes w v m) :
    Calls Try.prog 39 #[u, v] w fun e w' => e = .returned (.bool (l == m)) ∧ w' = w := by
  refine (Try.bytes_Equal_strs u v _ _ w (hu.str Try.underlying26 Try.underlying5 Try.underlying9) (hv.str Try.underlying26 Try.underlying5 Try.underlying9)).mono ?_
  rintro e w' ⟨rfl, rfl⟩
  exact ⟨ret_b (by simp), rfl⟩
set_option maxHeartbeats 4000000 in
set_option maxRecDepth 100000 in
theorem sfW0 (f g : Fr) (a a' : Option Addr) (c c' k n : Nat) (w : World) (t0 : (f.k == g.k) = false) :
    Calls Try.prog 23 #[.agg #[.int .i64 f.k, .int .i64 f.n, .int .u64 (f.mb : Nat), .int .u64 (f.mt : Nat), .int .u64 (f.tb : Nat), .int .u64 (f.tt : Nat), .int .u64 (f.s : Nat), .int .u64 (f.a : Nat), .slice a k c], .agg #[.int .i64 g.k, .int .i64 g.n, .int .u64 (g.mb : Nat), .int .u64 (g.mt : Nat), .int .u64 (g.tb : Nat), .int .u64 (g.tt : Nat), .int .u64 (g.s : Nat), .int .u64 (g.a : Nat), .slice a' n c']] w fun e w' => e = .returned (.bool false) ∧ Below w.heap.size w w' := by
  go_enter Try.func23, Try.ntmps23
  go_wp2_with fail
  go_ret
  exact ⟨rfl, by go_grown⟩
set_option maxHeartbeats 4000000 in
set_option maxRecDepth 100000 in
theorem sfW1 (f g : Fr) (a a' : Option Addr) (c c' k n : Nat) (w : World) (t0 : (f.k == g.k) = true) (t1 : (f.n == g.n) = false) :
    Calls Try.prog 23 #[.agg #[.int .i64 f.k, .int .i64 f.n, .int .u64 (f.mb : Nat), .int .u64 (f.mt : Nat), .int .u64 (f.tb : Nat), .int .u64 (f.tt : Nat), .int .u64 (f.s : Nat), .int .u64 (f.a : Nat), .slice a k c], .agg #[.int .i64 g.k, .int .i64 g.n, .int .u64 (g.mb : Nat), .int .u64 (g.mt : Nat), .int .u64 (g.tb : Nat), .int .u64 (g.tt : Nat), .int .u64 (g.s : Nat), .int .u64 (g.a : Nat), .slice a' n c']] w fun e w' => e = .returned (.bool false) ∧ Below w.heap.size w w' := by
  go_enter Try.func23, Try.ntmps23
  go_wp2_with fail
  go_ret
  exact ⟨rfl, by go_grown⟩
set_option maxHeartbeats 4000000 in
set_option maxRecDepth 100000 in
theorem sfW2 (f g : Fr) (a a' : Option Addr) (c c' k n : Nat) (w : World) (t0 : (f.k == g.k) = true) (t1 : (f.n == g.n) = true) (t2 : sameT f.mb f.mt g.mb g.mt = false) :
    Calls Try.prog 23 #[.agg #[.int .i64 f.k, .int .i64 f.n, .int .u64 (f.mb : Nat), .int .u64 (f.mt : Nat), .int .u64 (f.tb : Nat), .int .u64 (f.tt : Nat), .int .u64 (f.s : Nat), .int .u64 (f.a : Nat), .slice a k c], .agg #[.int .i64 g.k, .int .i64 g.n, .int .u64 (g.mb : Nat), .int .u64 (g.mt : Nat), .int .u64 (g.tb : Nat), .int .u64 (g.tt : Nat), .int .u64 (g.s : Nat), .int .u64 (g.a : Nat), .slice a' n c']] w fun e w' => e = .returned (.bool false) ∧ Below w.heap.size w w' := by
  have q2 := eqT_of t2
  unfold EqT at q2
  clear t2
  go_enter Try.func23, Try.ntmps23
  go_wp2_with fail
  go_ret
  exact ⟨rfl, by go_grown⟩
set_option maxHeartbeats 4000000 in
set_option maxRecDepth 100000 in
theorem sfW3 (f g : Fr) (a a' : Option Addr) (c c' k n : Nat) (w : World) (t0 : (f.k == g.k) = true) (t1 : (f.n == g.n) = true) (t2 : sameT f.mb f.mt g.mb g.mt = true) (t3 : sameT f.tb f.tt g.tb g.tt = false) :
    Calls Try.prog 23 #[.agg #[.int .i64 f.k, .int .i64 f.n, .int .u64 (f.mb : Nat), .int .u64 (f.mt : Nat), .int .u64 (f.tb : Nat), .int .u64 (f.tt : Nat), .int .u64 (f.s : Nat), .int .u64 (f.a : Nat), .slice a k c], .agg #[.int .i64 g.k, .int .i64 g.n, .int .u64 (g.mb : Nat), .int .u64 (g.mt : Nat), .int .u64 (g.tb : Nat), .int .u64 (g.tt : Nat), .int .u64 (g.s : Nat), .int .u64 (g.a : Nat), .slice a' n c']] w fun e w' => e = .returned (.bool false) ∧ Below w.heap.size w w' := by
  have q2 := eqT_of t2
  unfold EqT at q2
  clear t2
  have q3 := eqT_of t3
  unfold EqT at q3
  clear t3
  go_enter Try.func23, Try.ntmps23
  go_wp2_with fail
  go_ret
  exact ⟨rfl, by go_grown⟩
set_option maxHeartbeats 4000000 in
set_option maxRecDepth 100000 in
theorem sfW4 (f g : Fr) (a a' : Option Addr) (c c' k n : Nat) (w : World) (t0 : (f.k == g.k) = true) (t1 : (f.n == g.n) = true) (t2 : sameT f.mb f.mt g.mb g.mt = true) (t3 : sameT f.tb f.tt g.tb g.tt = true) (t4 : ((f.s : Int) == (g.s : Int)) = false) :
    Calls Try.prog 23 #[.agg #[.int .i64 f.k, .int .i64 f.n, .int .u64 (f.mb : Nat), .int .u64 (f.mt : Nat), .int .u64 (f.tb : Nat), .int .u64 (f.tt : Nat), .int .u64 (f.s : Nat), .int .u64 (f.a : Nat), .slice a k c], .agg #[.int .i64 g.k, .int .i64 g.n, .int .u64 (g.mb : Nat), .int .u64 (g.mt : Nat), .int .u64 (g.tb : Nat), .int .u64 (g.tt : Nat), .int .u64 (g.s : Nat), .int .u64 (g.a : Nat), .slice a' n c']] w fun e w' => e = .returned (.bool false) ∧ Below w.heap.size w w' := by
  have q2 := eqT_of t2
  unfold EqT at q2
  clear t2
  have q3 := eqT_of t3
  unfold EqT at q3
  clear t3
  go_enter Try.func23, Try.ntmps23
  go_wp2_with fail
  go_ret
  exact ⟨rfl, by go_grown⟩
set_option maxHeartbeats 4000000 in
set_option maxRecDepth 100000 in
theorem sfW5 (f g : Fr) (a a' : Option Addr) (c c' k n : Nat) (w : World) (t0 : (f.k == g.k) = true) (t1 : (f.n == g.n) = true) (t2 : sameT f.mb f.mt g.mb g.mt = true) (t3 : sameT f.tb f.tt g.tb g.tt = true) (t4 : ((f.s : Int) == (g.s : Int)) = true) (t5 : ((f.a : Int) == (g.a : Int)) = false) :
    Calls Try.prog 23 #[.agg #[.int .i64 f.k, .int .i64 f.n, .int .u64 (f.mb : Nat), .int .u64 (f.mt : Nat), .int .u64 (f.tb : Nat), .int .u64 (f.tt : Nat), .int .u64 (f.s : Nat), .int .u64 (f.a : Nat), .slice a k c], .agg #[.int .i64 g.k, .int .i64 g.n, .int .u64 (g.mb : Nat), .int .u64 (g.mt : Nat), .int .u64 (g.tb : Nat), .int .u64 (g.tt : Nat), .int .u64 (g.s : Nat), .int .u64 (g.a : Nat), .slice a' n c']] w fun e w' => e = .returned (.bool false) ∧ Below w.heap.size w w' := by
  have q2 := eqT_of t2
  unfold EqT at q2
  clear t2
  have q3 := eqT_of t3
  unfold EqT at q3
  clear t3
  go_enter Try.func23, Try.ntmps23
  go_wp2_with fail
  go_ret
  exact ⟨rfl, by go_grown⟩
set_option maxHeartbeats 4000000 in
set_option maxRecDepth 100000 in
theorem sfW6 (f g : Fr) (a a' : Option Addr) (c c' k n : Nat) (B C : List UInt8) (w : World) (t0 : (f.k == g.k) = true) (t1 : (f.n == g.n) = true) (t2 : sameT f.mb f.mt g.mb g.mt = true) (t3 : sameT f.tb f.tt g.tb g.tt = true) (t4 : ((f.s : Int) == (g.s : Int)) = true) (t5 : ((f.a : Int) == (g.a : Int)) = true) (hu : Bytes w (.slice a k c) B) (hv : Bytes w (.slice a' n c') C) :
    Calls Try.prog 23 #[.agg #[.int .i64 f.k, .int .i64 f.n, .int .u64 (f.mb : Nat), .int .u64 (f.mt : Nat), .int .u64 (f.tb : Nat), .int .u64 (f.tt : Nat), .int .u64 (f.s : Nat), .int .u64 (f.a : Nat), .slice a k c], .agg #[.int .i64 g.k, .int .i64 g.n, .int .u64 (g.mb : Nat), .int .u64 (g.mt : Nat), .int .u64 (g.tb : Nat), .int .u64 (g.tt : Nat), .int .u64 (g.s : Nat), .int .u64 (g.a : Nat), .slice a' n c']] w fun e w' => e = .returned (.bool (B == C)) ∧ Below w.heap.size w w' := by
  have hb : Below w.heap.size w ((w.alloc (.cells #[.int .i64 f.k, .int .i64 f.n, .int .u64 (f.mb : Nat), .int .u64 (f.mt : Nat), .int .u64 (f.tb : Nat), .int .u64 (f.tt : Nat), .int .u64 (f.s : Nat), .int .u64 (f.a : Nat), .slice a k c] 28)).alloc (.cells #[.int .i64 g.k, .int .i64 g.n, .int .u64 (g.mb : Nat), .int .u64 (g.mt : Nat), .int .u64 (g.tb : Nat), .int .u64 (g.tt : Nat), .int .u64 (g.s : Nat), .int .u64 (g.a : Nat), .slice a' n c'] 28)) := by go_grown
  have HQ := Lib.hid (equal_by _ _ B C _ (hu.later hb) (hv.later hb))
  have HB := Lib.hid hb
  clear hu hv hb
  have q2 := eqT_of t2
  unfold EqT at q2
  clear t2
  have q3 := eqT_of t3
  unfold EqT at q3
  clear t3
  go_enter Try.func23, Try.ntmps23
  go_wp2_with fail
  refine HQ.out.mono ?_
  rintro e w1 ⟨rfl, rfl⟩
  go_wp2_with fail
  go_ret
  exact ⟨rfl, HB.out⟩
theorem sameFW_any (f g : Fr) (u v : Value) (B C : List UInt8) (w : World) (hu : Bytes w u B) (hv : Bytes w v C) :
    Calls Try.prog 23 #[.agg #[.int .i64 f.k, .int .i64 f.n, .int .u64 (f.mb : Nat), .int .u64 (f.mt : Nat), .int .u64 (f.tb : Nat), .int .u64 (f.tt : Nat), .int .u64 (f.s : Nat), .int .u64 (f.a : Nat), u], .agg #[.int .i64 g.k, .int .i64 g.n, .int .u64 (g.mb : Nat), .int .u64 (g.mt : Nat), .int .u64 (g.tb : Nat), .int .u64 (g.tt : Nat), .int .u64 (g.s : Nat), .int .u64 (g.a : Nat), v]] w fun e w' => e = .returned (.bool (sameF f g B C)) ∧ Below w.heap.size w w' := by
  obtain ⟨a, c, rfl⟩ := hu.form
  obtain ⟨a', c', rfl⟩ := hv.form
  cases e0 : (f.k == g.k) with
  | false =>
    refine (sfW0 f g a a' c c' _ _ w e0).mono ?_
    rintro e w' ⟨rfl, hb⟩
    exact ⟨ret_b (by unfold sameF sameFr; rw [e0]; simp), hb⟩
  | true =>
  cases e1 : (f.n == g.n) with
  | false =>
    refine (sfW1 f g a a' c c' _ _ w e0 e1).mono ?_
    rintro e w' ⟨rfl, hb⟩
    exact ⟨ret_b (by unfold sameF sameFr; rw [e0, e1]; simp), hb⟩
  | true =>
  cases e2 : sameT f.mb f.mt g.mb g.mt with
  | false =>
    refine (sfW2 f g a a' c c' _ _ w e0 e1 e2).mono ?_
    rintro e w' ⟨rfl, hb⟩
    exact ⟨ret_b (by unfold sameF sameFr; rw [e0, e1, e2]; simp), hb⟩
  | true =>
  cases e3 : sameT f.tb f.tt g.tb g.tt with
  | false =>
    refine (sfW3 f g a a' c c' _ _ w e0 e1 e2 e3).mono ?_
    rintro e w' ⟨rfl, hb⟩
    exact ⟨ret_b (by unfold sameF sameFr; rw [e0, e1, e2, e3]; simp), hb⟩
  | true =>
  cases e4 : ((f.s : Int) == (g.s : Int)) with
  | false =>
    refine (sfW4 f g a a' c c' _ _ w e0 e1 e2 e3 e4).mono ?_
    rintro e w' ⟨rfl, hb⟩
    exact ⟨ret_b (by unfold sameF sameFr; rw [e0, e1, e2, e3, e4]; simp), hb⟩
  | true =>
  cases e5 : ((f.a : Int) == (g.a : Int)) with
  | false =>
    refine (sfW5 f g a a' c c' _ _ w e0 e1 e2 e3 e4 e5).mono ?_
    rintro e w' ⟨rfl, hb⟩
    exact ⟨ret_b (by unfold sameF sameFr; rw [e0, e1, e2, e3, e4, e5]; simp), hb⟩
  | true =>
  refine (sfW6 f g a a' c c' _ _ B C w e0 e1 e2 e3 e4 e5 hu hv).mono ?_
  rintro e w' ⟨rfl, hb⟩
  exact ⟨ret_b (by unfold sameF sameFr; rw [e0, e1, e2, e3, e4, e5]; simp), hb⟩
set_option maxHeartbeats 4000000 in
set_option maxRecDepth 100000 in
theorem sfR0 (f g : Fr) (a a' : Option Addr) (c c' k n : Nat) (w : World) (t0 : (f.k == g.k) = false) :
    Calls Try.prog 16 #[.agg #[.int .i64 f.k, .int .i64 f.n, .int .u64 (f.mb : Nat), .int .u64 (f.mt : Nat), .int .u64 (f.tb : Nat), .int .u64 (f.tt : Nat), .int .u64 (f.s : Nat), .int .u64 (f.a : Nat), .slice a k c], .agg #[.int .i64 g.k, .int .i64 g.n, .int .u64 (g.mb : Nat), .int .u64 (g.mt : Nat), .int .u64 (g.tb : Nat), .int .u64 (g.tt : Nat), .int .u64 (g.s : Nat), .int .u64 (g.a : Nat), .slice a' n c']] w fun e w' => e = .returned (.bool false) ∧ Below w.heap.size w w' := by
  go_enter Try.func16, Try.ntmps16
  go_wp2_with fail
  go_ret
  exact ⟨rfl, by go_grown⟩
set_option maxHeartbeats 4000000 in
set_option maxRecDepth 100000 in
theorem sfR1 (f g : Fr) (a a' : Option Addr) (c c' k n : Nat) (w : World) (t0 : (f.k == g.k) = true) (t1 : (f.n == g.n) = false) :
    Calls Try.prog 16 #[.agg #[.int .i64 f.k, .int .i64 f.n, .int .u64 (f.mb : Nat), .int .u64 (f.mt : Nat), .int .u64 (f.tb : Nat), .int .u64 (f.tt : Nat), .int .u64 (f.s : Nat), .int .u64 (f.a : Nat), .slice a k c], .agg #[.int .i64 g.k, .int .i64 g.n, .int .u64 (g.mb : Nat), .int .u64 (g.mt : Nat), .int .u64 (g.tb : Nat), .int .u64 (g.tt : Nat), .int .u64 (g.s : Nat), .int .u64 (g.a : Nat), .slice a' n c']] w fun e w' => e = .returned (.bool false) ∧ Below w.heap.size w w' := by
  go_enter Try.func16, Try.ntmps16
  go_wp2_with fail
  go_ret
  exact ⟨rfl, by go_grown⟩
set_option maxHeartbeats 4000000 in
set_option maxRecDepth 100000 in
theorem sfR2 (f g : Fr) (a a' : Option Addr) (c c' k n : Nat) (w : World) (t0 : (f.k == g.k) = true) (t1 : (f.n == g.n) = true) (t2 : sameT f.mb f.mt g.mb g.mt = false) :
    Calls Try.prog 16 #[.agg #[.int .i64 f.k, .int .i64 f.n, .int .u64 (f.mb : Nat), .int .u64 (f.mt : Nat), .int .u64 (f.tb : Nat), .int .u64 (f.tt : Nat), .int .u64 (f.s : Nat), .int .u64 (f.a : Nat), .slice a k c], .agg #[.int .i64 g.k, .int .i64 g.n, .int .u64 (g.mb : Nat), .int .u64 (g.mt : Nat), .int .u64 (g.tb : Nat), .int .u64 (g.tt : Nat), .int .u64 (g.s : Nat), .int .u64 (g.a : Nat), .slice a' n c']] w fun e w' => e = .returned (.bool false) ∧ Below w.heap.size w w' := by
  have q2 := eqT_of t2
  unfold EqT at q2
  clear t2
  go_enter Try.func16, Try.ntmps16
  go_wp2_with fail
  go_ret
  exact ⟨rfl, by go_grown⟩
set_option maxHeartbeats 4000000 in
set_option maxRecDepth 100000 in
theorem sfR3 (f g : Fr) (a a' : Option Addr) (c c' k n : Nat) (w : World) (t0 : (f.k == g.k) = true) (t1 : (f.n == g.n) = true) (t2 : sameT f.mb f.mt g.mb g.mt = true) (t3 : sameT f.tb f.tt g.tb g.tt = false) :
    Calls Try.prog 16 #[.agg #[.int .i64 f.k, .int .i64 f.n, .int .u64 (f.mb : Nat), .int .u64 (f.mt : Nat), .int .u64 (f.tb : Nat), .int .u64 (f.tt : Nat), .int .u64 (f.s : Nat), .int .u64 (f.a : Nat), .slice a k c], .agg #[.int .i64 g.k, .int .i64 g.n, .int .u64 (g.mb : Nat), .int .u64 (g.mt : Nat), .int .u64 (g.tb : Nat), .int .u64 (g.tt : Nat), .int .u64 (g.s : Nat), .int .u64 (g.a : Nat), .slice a' n c']] w fun e w' => e = .returned (.bool false) ∧ Below w.heap.size w w' := by
  have q2 := eqT_of t2
  unfold EqT at q2
  clear t2
  have q3 := eqT_of t3
  unfold EqT at q3
  clear t3
  go_enter Try.func16, Try.ntmps16
  go_wp2_with fail
  go_ret
  exact ⟨rfl, by go_grown⟩
set_option maxHeartbeats 4000000 in
set_option maxRecDepth 100000 in
theorem sfR4 (f g : Fr) (a a' : Option Addr) (c c' k n : Nat) (w : World) (t0 : (f.k == g.k) = true) (t1 : (f.n == g.n) = true) (t2 : sameT f.mb f.mt g.mb g.mt = true) (t3 : sameT f.tb f.tt g.tb g.tt = true) (t4 : ((f.s : Int) == (g.s : Int)) = false) :
    Calls Try.prog 16 #[.agg #[.int .i64 f.k, .int .i64 f.n, .int .u64 (f.mb : Nat), .int .u64 (f.mt : Nat), .int .u64 (f.tb : Nat), .int .u64 (f.tt : Nat), .int .u64 (f.s : Nat), .int .u64 (f.a : Nat), .slice a k c], .agg #[.int .i64 g.k, .int .i64 g.n, .int .u64 (g.mb : Nat), .int .u64 (g.mt : Nat), .int .u64 (g.tb : Nat), .int .u64 (g.tt : Nat), .int .u64 (g.s : Nat), .int .u64 (g.a : Nat), .slice a' n c']] w fun e w' => e = .returned (.bool false) ∧ Below w.heap.size w w' := by
  have q2 := eqT_of t2
  unfold EqT at q2
  clear t2
  have q3 := eqT_of t3
  unfold EqT at q3
  clear t3
  go_enter Try.func16, Try.ntmps16
  go_wp2_with fail
  go_ret
  exact ⟨rfl, by go_grown⟩
set_option maxHeartbeats 4000000 in
set_option maxRecDepth 100000 in
theorem sfR5 (f g : Fr) (a a' : Option Addr) (c c' k n : Nat) (w : World) (t0 : (f.k == g.k) = true) (t1 : (f.n == g.n) = true) (t2 : sameT f.mb f.mt g.mb g.mt = true) (t3 : sameT f.tb f.tt g.tb g.tt = true) (t4 : ((f.s : Int) == (g.s : Int)) = true) (t5 : ((f.a : Int) == (g.a : Int)) = false) :
    Calls Try.prog 16 #[.agg #[.int .i64 f.k, .int .i64 f.n, .int .u64 (f.mb : Nat), .int .u64 (f.mt : Nat), .int .u64 (f.tb : Nat), .int .u64 (f.tt : Nat), .int .u64 (f.s : Nat), .int .u64 (f.a : Nat), .slice a k c], .agg #[.int .i64 g.k, .int .i64 g.n, .int .u64 (g.mb : Nat), .int .u64 (g.mt : Nat), .int .u64 (g.tb : Nat), .int .u64 (g.tt : Nat), .int .u64 (g.s : Nat), .int .u64 (g.a : Nat), .slice a' n c']] w fun e w' => e = .returned (.bool false) ∧ Below w.heap.size w w' := by
  have q2 := eqT_of t2
  unfold EqT at q2
  clear t2
  have q3 := eqT_of t3
  unfold EqT at q3
  clear t3
  go_enter Try.func16, Try.ntmps16
  go_wp2_with fail
  go_ret
  exact ⟨rfl, by go_grown⟩
set_option maxHeartbeats 4000000 in
set_option maxRecDepth 100000 in
theorem sfR6 (f g : Fr) (a a' : Option Addr) (c c' k n : Nat) (B C : List UInt8) (w : World) (t0 : (f.k == g.k) = true) (t1 : (f.n == g.n) = true) (t2 : sameT f.mb f.mt g.mb g.mt = true) (t3 : sameT f.tb f.tt g.tb g.tt = true) (t4 : ((f.s : Int) == (g.s : Int)) = true) (t5 : ((f.a : Int) == (g.a : Int)) = true) (hu : Bytes w (.slice a k c) B) (hv : Bytes w (.slice a' n c') C) :
    Calls Try.prog 16 #[.agg #[.int .i64 f.k, .int .i64 f.n, .int .u64 (f.mb : Nat), .int .u64 (f.mt : Nat), .int .u64 (f.tb : Nat), .int .u64 (f.tt : Nat), .int .u64 (f.s : Nat), .int .u64 (f.a : Nat), .slice a k c], .agg #[.int .i64 g.k, .int .i64 g.n, .int .u64 (g.mb : Nat), .int .u64 (g.mt : Nat), .int .u64 (g.tb : Nat), .int .u64 (g.tt : Nat), .int .u64 (g.s : Nat), .int .u64 (g.a : Nat), .slice a' n c']] w fun e w' => e = .returned (.bool (B == C)) ∧ Below w.heap.size w w' := by
  have hb : Below w.heap.size w ((w.alloc (.cells #[.int .i64 f.k, .int .i64 f.n, .int .u64 (f.mb : Nat), .int .u64 (f.mt : Nat), .int .u64 (f.tb : Nat), .int .u64 (f.tt : Nat), .int .u64 (f.s : Nat), .int .u64 (f.a : Nat), .slice a k c] 28)).alloc (.cells #[.int .i64 g.k, .int .i64 g.n, .int .u64 (g.mb : Nat), .int .u64 (g.mt : Nat), .int .u64 (g.tb : Nat), .int .u64 (g.tt : Nat), .int .u64 (g.s : Nat), .int .u64 (g.a : Nat), .slice a' n c'] 28)) := by go_grown
  have hq1 := (hu.later hb).str (P := Try.prog) (src := 26) (dst := 9) Try.underlying26 Try.underlying5 Try.underlying9
  have hq2 := (hv.later hb).str (P := Try.prog) (src := 26) (dst := 9) Try.underlying26 Try.underlying5 Try.underlying9
  have HB := Lib.hid hb
  clear hu hv hb
  have q2 := eqT_of t2
  unfold EqT at q2
  clear t2
  have q3 := eqT_of t3
  unfold EqT at q3
  clear t3
  go_enter Try.func16, Try.ntmps16
  go_wp2_with fail
  go_ret
  exact ⟨ret_b (by simp), HB.out⟩
theorem sameFR_any (f g : Fr) (u v : Value) (B C : List UInt8) (w : World) (hu : Bytes w u B) (hv : Bytes w v C) :
    Calls Try.prog 16 #[.agg #[.int .i64 f.k, .int .i64 f.n, .int .u64 (f.mb : Nat), .int .u64 (f.mt : Nat), .int .u64 (f.tb : Nat), .int .u64 (f.tt : Nat), .int .u64 (f.s : Nat), .int .u64 (f.a : Nat), u], .agg #[.int .i64 g.k, .int .i64 g.n, .int .u64 (g.mb : Nat), .int .u64 (g.mt : Nat), .int .u64 (g.tb : Nat), .int .u64 (g.tt : Nat), .int .u64 (g.s : Nat), .int .u64 (g.a : Nat), v]] w fun e w' => e = .returned (.bool (sameF f g B C)) ∧ Below w.heap.size w w' := by
  obtain ⟨a, c, rfl⟩ := hu.form
  obtain ⟨a', c', rfl⟩ := hv.form
  cases e0 : (f.k == g.k) with
  | false =>
    refine (sfR0 f g a a' c c' _ _ w e0).mono ?_
    rintro e w' ⟨rfl, hb⟩
    exact ⟨ret_b (by unfold sameF sameFr; rw [e0]; simp), hb⟩
  | true =>
  cases e1 : (f.n == g.n) with
  | false =>
    refine (sfR1 f g a a' c c' _ _ w e0 e1).mono ?_
    rintro e w' ⟨rfl, hb⟩
    exact ⟨ret_b (by unfold sameF sameFr; rw [e0, e1]; simp), hb⟩
  | true =>
  cases e2 : sameT f.mb f.mt g.mb g.mt with
  | false =>
    refine (sfR2 f g a a' c c' _ _ w e0 e1 e2).mono ?_
    rintro e w' ⟨rfl, hb⟩
    exact ⟨ret_b (by unfold sameF sameFr; rw [e0, e1, e2]; simp), hb⟩
  | true =>
  cases e3 : sameT f.tb f.tt g.tb g.tt with
  | false =>
    refine (sfR3 f g a a' c c' _ _ w e0 e1 e2 e3).mono ?_
    rintro e w' ⟨rfl, hb⟩
    exact ⟨ret_b (by unfold sameF sameFr; rw [e0, e1, e2, e3]; simp), hb⟩
  | true =>
  cases e4 : ((f.s : Int) == (g.s : Int)) with
  | false =>
    refine (sfR4 f g a a' c c' _ _ w e0 e1 e2 e3 e4).mono ?_
    rintro e w' ⟨rfl, hb⟩
    exact ⟨ret_b (by unfold sameF sameFr; rw [e0, e1, e2, e3, e4]; simp), hb⟩
  | true =>
  cases e5 : ((f.a : Int) == (g.a : Int)) with
  | false =>
    refine (sfR5 f g a a' c c' _ _ w e0 e1 e2 e3 e4 e5).mono ?_
    rintro e w' ⟨rfl, hb⟩
    exact ⟨ret_b (by unfold sameF sameFr; rw [e0, e1, e2, e3, e4, e5]; simp), hb⟩
  | true =>
  refine (sfR6 f g a a' c c' _ _ B C w e0 e1 e2 e3 e4 e5 hu hv).mono ?_
  rintro e w' ⟨rfl, hb⟩
  exact ⟨ret_b (by unfold sameF sameFr; rw [e0, e1, e2, e3, e4, e5]; simp), hb⟩
end Go.Proofs.Ytcahfapffhcceaa

namespace Go.Proofs.Ytcahfapffhcceaa
namespace Wp

/-- The first n of 32 bits, the others noughts. -/
def fst (a n : Int) : Int := a / 2 ^ (32 - n).toNat * 2 ^ (32 - n).toNat
/-- A prefix that may be. -/
def mayB (a n : Int) : Bool := decide (0 ≤ n) && (decide (n ≤ 32) && decide (fst a n = a))
def hasB (a n b : Int) : Bool := mayB a n && decide (fst b n = a)
def inB (a n b m : Int) : Bool := mayB a n && (mayB b m && (decide (n ≤ m) && decide (fst b n = a)))
def cmpI (a n b m : Int) : Int := if a < b then -1 else if b < a then 1 else if n < m then -1 else if m < n then 1 else 0

theorem pow_pos' (k : Nat) : (0 : Int) < 2 ^ k := Int.pow_pos (by decide)

theorem fst_nonneg {a n : Int} (h : 0 ≤ a) : 0 ≤ fst a n := by
  unfold fst
  exact Int.mul_nonneg (Int.ediv_nonneg h (Int.le_of_lt (pow_pos' _))) (Int.le_of_lt (pow_pos' _))
theorem fst_le {a n : Int} : fst a n ≤ a := by
  unfold fst
  exact Int.ediv_mul_le a (Int.ne_of_gt (pow_pos' _))

/-- The shift to the left leaves nothing: the bits behind the first n are noughts. -/
theorem shl_zero {a n : Int} (hn : 0 ≤ n) (hn2 : n ≤ 32) : (a * 2 ^ n.toNat % 4294967296 == 0) = decide (fst a n = a) := by
  have e : (4294967296 : Int) = 2 ^ (32 - n).toNat * 2 ^ n.toNat := by
    rw [← Int.pow_add]
    have : (32 - n).toNat + n.toNat = 32 := by omega
    rw [this]; decide
  have hp := pow_pos' n.toNat
  rw [Bool.eq_iff_iff]
  simp only [beq_iff_eq, decide_eq_true_eq]
  rw [e, Int.mul_comm a, Int.mul_comm (2 ^ (32 - n).toNat : Int), Int.mul_emod_mul_of_pos _ _ hp]
  constructor
  · intro h
    have h2 : a % 2 ^ (32 - n).toNat = 0 := by
      rcases Int.mul_eq_zero.1 h with h | h
      · omega
      · exact h
    unfold fst
    have := Int.mul_ediv_add_emod a (2 ^ (32 - n).toNat)
    rw [h2] at this
    rw [Int.mul_comm]; omega
  · intro h
    unfold fst at h
    have := Int.mul_ediv_add_emod a (2 ^ (32 - n).toNat)
    rw [Int.mul_comm] at h
    have h2 : a % 2 ^ (32 - n).toNat = 0 := by omega
    rw [h2]; simp


theorem div_lo (a : Int) (k : Nat) (h : 0 ≤ a) : 0 ≤ a / 2 ^ k := Int.ediv_nonneg h (Int.le_of_lt (pow_pos' _))
theorem div_hi (a : Int) (k : Nat) (h : 0 ≤ a) (h2 : a < 4294967296) : a / 2 ^ k < 4294967296 := by
  have := Int.ediv_le_self (2 ^ k) h
  omega
theorem div_succ (a : Int) (k : Nat) : a / 2 ^ (k + 1) = a / 2 ^ k / 2 := by
  rw [Int.pow_succ, Int.ediv_ediv_of_nonneg (Int.le_of_lt (pow_pos' _))]

theorem nat_xor_self_iff (a b : Nat) : a ^^^ b = 0 ↔ a = b := by
  constructor
  · intro h
    have h2 : a ^^^ b ^^^ b = 0 ^^^ b := by rw [h]
    rw [Nat.xor_assoc, Nat.xor_self, Nat.xor_zero, Nat.zero_xor] at h2
    exact h2
  · rintro rfl; exact Nat.xor_self a
theorem nat_xor_zero (a b k : Nat) : ((a ^^^ b) / 2 ^ k = 0) ↔ a / 2 ^ k = b / 2 ^ k := by
  rw [← Nat.shiftRight_eq_div_pow, ← Nat.shiftRight_eq_div_pow, ← Nat.shiftRight_eq_div_pow, Nat.shiftRight_xor_distrib]
  exact nat_xor_self_iff _ _
theorem fst_nat (a k : Nat) (n : Int) (hk : (32 - n).toNat = k) : fst (a : Int) n = ((a / 2 ^ k * 2 ^ k : Nat) : Int) := by
  unfold fst; rw [hk]; simp
theorem xor_fst (a b k : Nat) (n : Int) (hk : (32 - n).toNat = k) (h : fst (a : Int) n = a) : ((((a ^^^ b : Nat) : Int) / 2 ^ k) == 0) = decide (fst (b : Int) n = (a : Int)) := by
  rw [Bool.eq_iff_iff, decide_eq_true_eq, beq_iff_eq]
  rw [fst_nat b k n hk]
  rw [fst_nat a k n hk] at h
  have e : ((((a ^^^ b : Nat) : Int) / 2 ^ k) = 0) ↔ ((a ^^^ b) / 2 ^ k = 0) := by
    constructor
    · intro h2
      have : (((a ^^^ b) / 2 ^ k : Nat) : Int) = 0 := by simpa using h2
      omega
    · intro h2
      have : (((a ^^^ b) / 2 ^ k : Nat) : Int) = 0 := by rw [h2]; rfl
      simpa using this
  rw [e, nat_xor_zero]
  have hp : 0 < 2 ^ k := Nat.pow_pos (by decide)
  constructor
  · intro h2; rw [← h2]; exact h
  · intro h2
    have h3 : a / 2 ^ k * 2 ^ k = b / 2 ^ k * 2 ^ k := by omega
    exact Nat.eq_of_mul_eq_mul_right hp h3

theorem mul_lo (a : Int) (m k : Nat) (h : 0 ≤ a) : 0 ≤ a / 2 ^ m * 2 ^ k := Int.mul_nonneg (div_lo a m h) (Int.le_of_lt (pow_pos' _))
theorem mul_hi (a : Int) (m k : Nat) (h : 0 ≤ a) (h2 : a < 4294967296) (hk : k ≤ m) : a / 2 ^ m * 2 ^ k < 4294967296 := by
  have h3 : a / 2 ^ m * 2 ^ k ≤ a / 2 ^ m * 2 ^ m := by
    refine Int.mul_le_mul_of_nonneg_left ?_ (div_lo a m h)
    have := Nat.pow_le_pow_right (n := 2) (by decide) hk
    exact_mod_cast this
  have h4 := Int.ediv_mul_le a (Int.ne_of_gt (pow_pos' m))
  omega
theorem mul_succ' (a : Int) (m k : Nat) : a / 2 ^ m * 2 ^ (k + 1) = a / 2 ^ m * 2 ^ k * 2 := by
  rw [Int.pow_succ, Int.mul_assoc]
theorem mul_hi2 (a : Int) (m k : Nat) (h : 0 ≤ a) (h2 : a < 4294967296) (hk : k + 1 ≤ m) : a / 2 ^ m * 2 ^ k * 2 < 4294967296 := by
  rw [← mul_succ']; exact mul_hi a m (k + 1) h h2 hk

theorem inB_has (a n b m : Int) : inB a n b m = (mayB b m && (decide (n ≤ m) && hasB a n b)) := by
  unfold inB hasB
  cases mayB a n <;> cases mayB b m <;> cases decide (n ≤ m) <;> simp

theorem atoi_range {l : List UInt8} {v : Int} (h : Lib.atoiAll l = .ok v) : -9223372036854775808 ≤ v ∧ v ≤ 9223372036854775807 := by
  unfold Lib.atoiAll at h
  split at h
  · cases h
  · dsimp only at h
    split at h
    · cases h
    · cases h
    · split at h
      · cases h
      · split at h
        · cases h
        · split at h <;> (injection h with h; omega)

theorem cut_len (l sep : List UInt8) : (Lib.cut l sep).1.length ≤ l.length ∧ (Lib.cut l sep).2.1.length ≤ l.length := by
  unfold Lib.cut
  split
  · simp; omega
  · simp
theorem bsize (t : ByteArray) : t.size = t.data.toList.length := by
  show t.data.size = _
  rw [Array.length_toList]
theorem cut_left {t p : ByteArray} {sep : List UInt8} (h : p.data.toList = (Lib.cut t.data.toList sep).1) (ht : t.size ≤ 1000000) : p.size ≤ 1000000 := by
  have h1 := (cut_len t.data.toList sep).1
  rw [← h] at h1
  have e1 := bsize p
  have e2 := bsize t
  omega
theorem cut_right {t p : ByteArray} {sep : List UInt8} (h : p.data.toList = (Lib.cut t.data.toList sep).2.1) (ht : t.size ≤ 1000000) : p.size ≤ 1000000 := by
  have h1 := (cut_len t.data.toList sep).2
  rw [← h] at h1
  have e1 := bsize p
  have e2 := bsize t
  omega
theorem pow256 {k : Nat} (h : k ≤ 3) : (256 : Int) ^ k ≤ 16777216 := by
  have : k = 0 ∨ k = 1 ∨ k = 2 ∨ k = 3 := by omega
  rcases this with rfl | rfl | rfl | rfl <;> decide

theorem pow256_succ {x n : Int} {k : Nat} (h : x < 256 ^ k) (hn : n ≤ 255) : x * 256 + n < 256 ^ (k + 1) := by
  rw [Int.pow_succ]; omega

end Wp
end Go.Proofs.Ytcahfapffhcceaa

namespace Go.Proofs.Ytcahfapffhcceaa
open Go.RowKit
set_option maxHeartbeats 400000 in
theorem mayW_any (a n : Int) (w : World) :
    Calls Try.prog 60 #[.agg #[.int .u32 a, .int .i64 n]] w fun e w' => e = .returned (.bool (Wp.mayB a n)) ∧ Below w.heap.size w w' := by
  go_enter Try.func60, Try.ntmps60
  go_wp2
  · have h1 : 0 ≤ n := by assumption
    have h2 : n ≤ 32 := by assumption
    go_ret
    exact ⟨ret_b (by rw [Wp.shl_zero h1 h2]; simp [Wp.mayB, h1, h2]), by go_grown⟩
  · have h1 : 0 ≤ n := by assumption
    have h2 : ¬ n ≤ 32 := by omega
    go_ret
    exact ⟨ret_b (by simp [Wp.mayB, h2]), by go_grown⟩
  · have h1 : ¬ 0 ≤ n := by omega
    go_ret
    exact ⟨ret_b (by simp [Wp.mayB, h1]), by go_grown⟩

theorem xor_shr {a b n : Int} (ha : 0 ≤ a) (ha2 : a < 4294967296) (hb : 0 ≤ b) (hb2 : b < 4294967296) (h : Wp.fst a n = a) :
    (bits BinOp.xor IntKind.u32 a b / 2 ^ (32 - n).toNat == 0) = decide (Wp.fst b n = a) := by
  rw [u32_xor a b ha ha2 hb hb2]
  obtain ⟨a', rfl⟩ := Int.eq_ofNat_of_zero_le ha
  obtain ⟨b', rfl⟩ := Int.eq_ofNat_of_zero_le hb
  exact Wp.xor_fst a' b' _ n rfl h

end Go.Proofs.Ytcahfapffhcceaa

namespace Go.Proofs.Ytcahfapffhcceaa
open Go.RowKit
attribute [local go_sem ↓] Go.wp_at_zero Go.wp_at_succ

/-- The last k bytes of a number, the highest first. -/
def putL (n : Nat) : Nat → List UInt8
  | 0 => []
  | k + 1 => UInt8.ofNat (n / 256 ^ k) :: putL n k
theorem putL_length (n : Nat) : ∀ k, (putL n k).length = k
  | 0 => rfl
  | k + 1 => by simp [putL, putL_length n k]
/-- Has a number room in so many bytes? -/
def room (n : Nat) (size : Int) : Bool := decide (1 ≤ size) && (decide (size ≤ 8) && decide (n < 256 ^ size.toNat))
theorem room_div {n m : Nat} (h1 : 1 ≤ (m : Int)) (h2 : (m : Int) ≤ 8) : room n (m : Int) = decide (n / 256 ^ m = 0) := by
  have e1 : decide (1 ≤ (m : Int)) = true := by simpa using h1
  have e2 : decide ((m : Int) ≤ 8) = true := by simpa using h2
  unfold room
  rw [e1, e2, Int.toNat_natCast, Bool.true_and, Bool.true_and]
  congr 1
  rw [eq_iff_iff, Nat.div_eq_zero_iff]
  have : 0 < 256 ^ m := Nat.pow_pos (by decide)
  omega
/-- What a row of so many noughts is behind k stores from its end on. -/
def putR (n size k : Nat) : List UInt8 := List.replicate (size - k) 0 ++ putL n k
theorem putR_set (n size k : Nat) (h : k < size) : (bv (putR n size k)).set (size - 1 - k) (.int .u8 ((UInt8.ofNat (n / 256 ^ k)).toNat : Int)) = bv (putR n size (k + 1)) := by
  have e : size - k = (size - 1 - k) + 1 := by omega
  have e2 : size - (k + 1) = size - 1 - k := by omega
  unfold putR bv
  rw [e, e2, List.replicate_succ']
  simp only [List.map_append, List.append_assoc, List.map_cons, List.cons_append, List.nil_append, putL]
  rw [List.set_append_right _ _ (by simp)]
  simp

/-- An answer of bytes and an error's number, in new memory. -/
def AnsB (l : List UInt8) (n : Int) (w : World) (e : Ending) (w' : World) : Prop := ∃ v, e = .returned (.tuple #[v, .int .i64 n]) ∧ Bytes w' v l ∧ Below w.heap.size w w'

theorem byte_of (n k : Nat) : (n : Int) / 2 ^ (8 * k) % 256 = ((UInt8.ofNat (n / 256 ^ k)).toNat : Int) := by
  have e : (2 : Nat) ^ (8 * k) = 256 ^ k := by rw [Nat.pow_mul]
  have e2 : (n : Int) / 2 ^ (8 * k) = ((n / 2 ^ (8 * k) : Nat) : Int) := by simp
  rw [e2, e, UInt8.toNat_ofNat']
  simp
theorem shr_zero {n size : Nat} (h : n < 256 ^ size) : ((n : Int) / 2 ^ (8 * size) != 0) = false := by
  have e : (2 : Nat) ^ (8 * size) = 256 ^ size := by rw [Nat.pow_mul]
  have : (n : Int) / 2 ^ (8 * size) = ((n / 2 ^ (8 * size) : Nat) : Int) := by simp
  rw [this, e, Nat.div_eq_of_lt h]; rfl
theorem shr_some {n size : Nat} (h : ¬ n < 256 ^ size) : ((n : Int) / 2 ^ (8 * size) != 0) = true := by
  have e : (2 : Nat) ^ (8 * size) = 256 ^ size := by rw [Nat.pow_mul]
  have e2 : (n : Int) / 2 ^ (8 * size) = ((n / 2 ^ (8 * size) : Nat) : Int) := by simp
  have h3 : 0 < n / 256 ^ size := Nat.div_pos (by omega) (Nat.pow_pos (by decide))
  rw [e2, e, bne_iff_ne]; omega
theorem own_cell {w : World} {base g n cap : Nat} {e : TypeId} {xs : List Value} (h : w.ownsRow base e 1 (.slice (some ⟨g, 0, none⟩) n cap) n xs) (hl : xs.length = n) {j : Nat} (hj : j < n) : ∃ u, w.cell? ⟨g, j, none⟩ = some u := by
  rw [h.cellAt j (by omega)]
  exact ⟨xs[j], List.getElem?_eq_getElem (by omega)⟩

set_option maxHeartbeats 1000000 in
set_option maxRecDepth 100000 in
theorem putW_yes (n size : Nat) (w : World) (h1 : 1 ≤ size) (h2 : size ≤ 8) (h3 : n < 256 ^ size) :
    Calls Try.prog 48 #[.int .u64 (n : Int), .int .i64 (size : Int)] w (AnsB (putL n size) 0 w) := by
  have hi5 : (Try.prog.info? 5).map (fun i => (i.zero, i.size, i.bytes)) = some (some (.int .u8 0), 1, 1) := by kernel_rfl
  obtain ⟨i0, hi, hx⟩ := Option.map_eq_some_iff.1 hi5
  simp only [Prod.mk.injEq] at hx
  obtain ⟨hz0, hz1, hz2⟩ := hx
  obtain ⟨w1, hmk, hown0, hg0⟩ := run_make_full (P := Try.prog) (w := w) w.heap.size 26 5 i0 (.int .u8 0) 1 Try.underlying26 hi hz0 hz1 .i64 .i64 size (by rw [hz2]; omega) (by unfold maxLen; omega) (Nat.le_refl _)
  clear hi5
  have ht : ((n : Int) / 2 ^ (8 * size) != 0) = false := shr_zero h3
  have HU := Lib.hid (show Below w.heap.size w w1 from (Below.refl _ _).grown hg0 (Nat.le_refl _) (by simp))
  have hm : (madeCells (Value.int IntKind.u8 0).cells (size * 1)).toList = bv (putR n size 0) := by
    rw [Nat.mul_one]; show (madeCells #[.int .u8 0] size).toList = _
    rw [toList_madeCells_one]; simp [putR, putL, bv]
  rw [hm] at hown0
  have HO := Lib.hid hown0
  clear h3 hm hown0 hg0
  go_enter Try.func48, Try.ntmps48
  go_wp2
  clear hmk
  go_loopw [24] (fun i wr => ∃ k : Nat, k ≤ size ∧ i = .int .i64 k ∧ Hid (wr.ownsRow w.heap.size 5 1 (.slice (some ⟨w.heap.size, 0, none⟩) size size) size (bv (putR n size k))) ∧ Hid (Below w.heap.size w wr)) (fun i _ => size - (intOf i).toNat)
  case atStart => exact ⟨0, Nat.zero_le _, rfl, HO.out, HU⟩
  case round =>
    obtain ⟨k, hk, rfl, HW, HB⟩ := hrel
    by_cases hlt : k < size
    · obtain ⟨u, hu⟩ := own_cell HW.out (by simp [bv, putR, putL_length]; omega) (j := size - 1 - k) (by omega)
      have hf := HW.out.frozenAt (size - 1 - k)
      go_wp2
      have hst := (HW.out.stored (size - 1 - k) (.int .u8 ((UInt8.ofNat (n / 256 ^ k)).toNat : Int)))
      rw [putR_set n size k hlt] at hst
      rw [byte_of n k]
      exact ⟨⟨k + 1, by omega, by go_num, hst.1, HB.out.setCell (Nat.le_refl _) _⟩, by simp [intOf]; omega⟩
    · have hk2 : k = size := by omega
      subst hk2
      go_wp2
      go_ret2
      refine ⟨_, rfl, Bytes.of_own (base := w.heap.size) (e := 5) (n := k) ?_, HB.out⟩
      have := HW.out
      rwa [show putR n k k = putL n k from by simp [putR]] at this

theorem ret_ansE {n : Int} {w w' : World} (h : Below w.heap.size w w') : AnsB [] n w (.returned (.tuple #[.slice none 0 0, .int .i64 n])) w' := ⟨_, rfl, Bytes.nil _ _ _, h⟩

set_option maxHeartbeats 1000000 in
theorem putW_no (n : Nat) (size : Int) (w : World) (h : room n size = false) :
    Calls Try.prog 48 #[.int .u64 (n : Int), .int .i64 size] w (AnsB [] 2 w) := by
  by_cases h1 : 1 ≤ size
  · by_cases h2 : size ≤ 8
    · obtain ⟨k, rfl⟩ := Int.eq_ofNat_of_zero_le (show 0 ≤ size by omega)
      have h3 : ¬ n < 256 ^ k := by
        intro h3
        have hd : decide (n < 256 ^ k) = true := by simpa using h3
        have e1 : decide (1 ≤ (k : Int)) = true := by simpa using h1
        have e2 : decide ((k : Int) ≤ 8) = true := by simpa using h2
        unfold room at h
        rw [Int.toNat_natCast, hd, e1, e2] at h
        cases h
      have ht : ((n : Int) / 2 ^ (8 * k) != 0) = true := shr_some h3
      clear h h3
      go_enter Try.func48, Try.ntmps48
      go_wp2
      go_ret2
      exact ret_ansE (Below.refl _ _)
    · clear h
      go_enter Try.func48, Try.ntmps48
      go_wp2
      go_ret2
      exact ret_ansE (Below.refl _ _)
  · clear h
    go_enter Try.func48, Try.ntmps48
    go_wp2
    go_ret2
    exact ret_ansE (Below.refl _ _)

/-- The number that bytes are. -/
def getL (l : List UInt8) : Nat := l.foldl (fun n b => n * 256 + b.toNat) 0
theorem getL_snoc (l : List UInt8) (b : UInt8) : getL (l ++ [b]) = getL l * 256 + b.toNat := by simp [getL]
theorem getL_lt : ∀ (k : Nat) (l : List UInt8), l.length = k → getL l < 256 ^ k := by
  intro k
  induction k with
  | zero => intro l h; have := List.eq_nil_of_length_eq_zero h; subst this; decide
  | succ k ih =>
    intro l h
    obtain ⟨r, b, rfl⟩ : ∃ r b, l = r ++ [b] := ⟨l.dropLast, l.getLast (by intro e; subst e; simp at h), (List.dropLast_concat_getLast _).symm⟩
    have hr := ih r (by simp at h; omega)
    rw [getL_snoc, Nat.pow_succ]
    have := b.toNat_lt
    omega
theorem getL_take (l : List UInt8) (k : Nat) (h : k < l.length) : getL (l.take (k + 1)) = getL (l.take k) * 256 + l[k].toNat := by
  rw [List.take_succ_eq_append_getElem h, getL_snoc]
theorem getL_take_lt (l : List UInt8) {k : Nat} (h : k ≤ l.length) (h2 : k ≤ 7) : getL (l.take k) < 72057594037927936 := by
  have h1 := getL_lt k (l.take k) (by simp; omega)
  have h3 : 256 ^ k ≤ 256 ^ 7 := Nat.pow_le_pow_right (by decide) h2
  omega
theorem shl_or64 {a n : Nat} (h : a < 72057594037927936) (h2 : n < 256) : bits .or .u64 ((a : Int) * 256) (n : Int) = ((a * 256 + n : Nat) : Int) := by
  have e : (a : Int) * 256 = ((a * 256 : Nat) : Int) := by omega
  rw [e, u64_or_nat _ _ (by omega) (by omega), nat_join 8 _ _ (by omega) (by omega)]

def getE (l : List UInt8) : Int := if 1 ≤ l.length ∧ l.length ≤ 8 then 0 else 2
def getN (l : List UInt8) : Int := if 1 ≤ l.length ∧ l.length ≤ 8 then (getL l : Int) else 0
theorem get_no {l : List UInt8} (h : ¬ (1 ≤ l.length ∧ l.length ≤ 8)) : getN l = 0 ∧ getE l = 2 := by simp [getN, getE, h]
theorem get_yes {l : List UInt8} (h : 1 ≤ l.length) (h2 : l.length ≤ 8) : getN l = getL l ∧ getE l = 0 := by simp [getN, getE, h, h2]

set_option maxHeartbeats 1000000 in
theorem getW_any (v : Value) (l : List UInt8) (w : World) (hv : Bytes w v l) (hl : l.length ≤ 9223372036854775807) :
    Calls Try.prog 46 #[v] w fun e w' => e = .returned (.tuple #[.int .u64 (getN l), .int .i64 (getE l)]) ∧ w = w' := by
  rcases hv with ⟨rfl, a, c, rfl, _⟩ | ⟨b, o, c, rfl, hb, _, hc⟩
  · go_enter Try.func46, Try.ntmps46
    go_wp2
    go_ret2
    exact ⟨rfl, rfl⟩
  · by_cases h1 : 1 ≤ l.length
    · by_cases h2 : l.length ≤ 8
      · have hG := Lib.hid (get_yes h1 h2)
        have HC := Lib.hid hc
        clear hc
        have c1 : (1 : Int) ≤ l.length := by omega
        have c2 : (l.length : Int) ≤ 8 := by omega
        go_enter Try.func46, Try.ntmps46
        go_wp2
        go_loop [4, 16] (fun x i => ∃ k : Nat, k ≤ l.length ∧ i = .int .i64 k ∧ x = .int .u64 ((getL (l.take k) : Nat) : Int)) (fun _ i => l.length - (intOf i).toNat)
        case atStart => exact ⟨0, Nat.zero_le _, rfl, by simp [getL]⟩
        case round =>
          obtain ⟨k, hk, rfl, rfl⟩ := hrel
          obtain ⟨y, hy⟩ : ∃ y : Nat, y = getL (l.take k) := ⟨_, rfl⟩
          by_cases hlt : k < l.length
          · have hyn : y < 72057594037927936 := by rw [hy]; exact getL_take_lt l (by omega) (by omega)
            have hs := getL_take l k hlt
            have hcell := HC.out k l[k] (List.getElem?_eq_getElem hlt)
            obtain ⟨z, hz⟩ : ∃ z : Nat, z = l[k].toNat := ⟨_, rfl⟩
            have hzn : z < 256 := by rw [hz]; exact l[k].toNat_lt
            rw [← hy]
            rw [← hy, ← hz] at hs
            rw [← hz] at hcell
            have Hs := Lib.hid hs
            clear hs hy hz
            go_wp2
            go_round
            case rel => exact ⟨k + 1, by omega, by go_num, by rw [shl_or64 hyn hzn, Hs.out]⟩
            case measure => simp [intOf]; omega
          · have hk2 : k = l.length := by omega
            subst hk2
            rw [← hy]
            have Hy : Hid (y = getL l) := by rw [List.take_length] at hy; exact hy
            clear hy
            go_wp2
            go_ret2
            exact ⟨ret_ii (by rw [hG.out.1, ← Hy.out]) hG.out.2.symm, rfl⟩
      · have hG := Lib.hid (get_no (l := l) (by omega))
        go_enter Try.func46, Try.ntmps46
        go_wp2
        go_ret2
        exact ⟨ret_ii hG.out.1.symm hG.out.2.symm, rfl⟩
    · have hG := Lib.hid (get_no (l := l) (by omega))
      go_enter Try.func46, Try.ntmps46
      go_wp2
      go_ret2
      exact ⟨ret_ii hG.out.1.symm hG.out.2.symm, rfl⟩

end Go.Proofs.Ytcahfapffhcceaa

namespace Go.Proofs.Ytcahfapffhcceaa
open Go.RowKit

theorem getL_from (l : List UInt8) : ∀ x : Nat, l.foldl (fun n b => n * 256 + b.toNat) x = x * 256 ^ l.length + getL l := by
  induction l with
  | nil => intro x; simp [getL]
  | cons b l ih =>
    intro x
    simp only [List.foldl_cons, getL, List.length_cons]
    rw [ih, ih (0 * 256 + b.toNat), Nat.pow_succ]
    rw [Nat.zero_mul, Nat.zero_add, Nat.add_mul, Nat.mul_comm (256 ^ l.length) 256, Nat.mul_assoc]
    omega
theorem get_put (n : Nat) : ∀ k : Nat, getL (putL n k) = n % 256 ^ k
  | 0 => by simp [getL, putL, Nat.mod_one]
  | k + 1 => by
    show (UInt8.ofNat (n / 256 ^ k) :: putL n k).foldl (fun n b => n * 256 + b.toNat) 0 = _
    rw [List.foldl_cons, getL_from, putL_length, get_put n k, Nat.mod_pow_succ, UInt8.toNat_ofNat', Nat.zero_mul, Nat.zero_add]
    rw [show (2 : Nat) ^ 8 = 256 from rfl, Nat.mul_comm]
    omega

end Go.Proofs.Ytcahfapffhcceaa

namespace Go.Proofs.Ytcahfapffhcceaa
open Go.RowKit


set_option maxHeartbeats 400000 in
theorem first_any (a n : Int) (w : World) (ha : 0 ≤ a) (ha2 : a < 4294967296) (hn : 0 ≤ n) (hn2 : n ≤ 32) :
    Calls Try.prog 54 #[.int .u32 a, .int .i64 n] w fun e w' => e = .returned (.int .u32 (Wp.fst a n)) ∧ w = w' := by
  go_enter Try.func54, Try.ntmps54
  go_wp2
  go_loop [0, 5] (fun x i => ∃ k : Nat, k ≤ (32 - n).toNat ∧ i = .int .i64 k ∧ x = .int .u32 (a / 2 ^ k)) (fun _ i => (32 - n).toNat - (intOf i).toNat)
  case atStart => exact ⟨0, Nat.zero_le _, rfl, by simp⟩
  case round =>
    obtain ⟨k, hk, rfl, rfl⟩ := hrel
    have p1 := Wp.div_lo a k ha
    have p2 := Wp.div_hi a k ha ha2
    have hs := Wp.div_succ a k
    have Hs := Lib.hid hs
    clear hs
    by_cases hlt : (k : Int) < 32 - n
    · go_wp2
      go_round
      case rel => exact ⟨k + 1, by omega, by go_num, by rw [Hs.out]⟩
      case measure => simp [intOf]; omega
    · have hk2 : k = (32 - n).toNat := by omega
      subst hk2
      go_wp2
      go_loop [0, 6] (fun x i => ∃ k : Nat, k ≤ (32 - n).toNat ∧ i = .int .i64 k ∧ x = .int .u32 (a / 2 ^ (32 - n).toNat * 2 ^ k)) (fun _ i => (32 - n).toNat - (intOf i).toNat)
      case atStart => exact ⟨0, Nat.zero_le _, rfl, by simp⟩
      case round =>
        obtain ⟨k, hk, rfl, rfl⟩ := hrel
        have q1 := Wp.mul_lo a (32 - n).toNat k ha
        have q2 := Wp.mul_hi a (32 - n).toNat k ha ha2 hk
        by_cases hlt : (k : Int) < 32 - n
        · have q3 := Wp.mul_hi2 a (32 - n).toNat k ha ha2 (by omega)
          have Hs := Lib.hid (Wp.mul_succ' a (32 - n).toNat k)
          go_wp2
          go_round
          case rel => exact ⟨k + 1, by omega, by go_num, by rw [Hs.out]⟩
          case measure => simp [intOf]; omega
        · have hk2 : k = (32 - n).toNat := by omega
          subst hk2
          go_wp2
          go_ret
          exact ⟨rfl, rfl⟩
theorem quiet_same {P : Program} {f : FuncId} {args : Array Value} {w : World} {n : Nat} {v : Value}
    (h : Calls P f args (w.drewN n) fun e w' => e = .returned v ∧ w.drewN n = w') : Calls P f args (w.drewN n) fun e w'' => e = .returned v ∧ ∃ m, w'' = w.drewN m :=
  h.mono fun _ _ ⟨he, hm⟩ => ⟨he, n, hm.symm⟩

set_option maxHeartbeats 400000 in
theorem mayR_any (a n : Int) (w : World) (ha : 0 ≤ a) (ha2 : a < 4294967296) :
    Calls Try.prog 42 #[.agg #[.int .u32 a, .int .i64 n]] w fun e w' => e = .returned (.bool (Wp.mayB a n)) ∧ Below w.heap.size w w' := by
  by_cases h1 : 0 ≤ n
  · by_cases h2 : n ≤ 32
    · have hd1 : decide (0 ≤ n) = true := by simpa using h1
      have hd2 : decide (n ≤ 32) = true := by simpa using h2
      have hf : Wp.mayB a n = (Wp.fst a n == a) := by simp [Wp.mayB, h1, h2]; rfl
      have Hf := Lib.hid hf
      clear hf
      go_enter Try.func42, Try.ntmps42
      go_wp2_with fail
      go_quiet ((go_at_call 54; exact quiet_same (first_any _ _ _ ha ha2 h1 h2)))
      go_wp2
      go_ret
      exact ⟨ret_b Hf.out.symm, below_drewN ((Below.refl _ _).alloc (Nat.le_refl _) _) _⟩
    · have hd1 : decide (0 ≤ n) = true := by simpa using h1
      have hd2 : decide (n ≤ 32) = false := by simpa using h2
      have hf : Wp.mayB a n = false := by simp [Wp.mayB, h2]
      have Hf := Lib.hid hf
      clear hf
      go_enter Try.func42, Try.ntmps42
      go_wp2_with fail
      go_quiet (fail)
      go_wp2
      go_ret
      exact ⟨ret_b Hf.out.symm, below_drewN ((Below.refl _ _).alloc (Nat.le_refl _) _) _⟩
  · have hd1 : decide (0 ≤ n) = false := by simpa using h1
    have hf : Wp.mayB a n = false := by simp [Wp.mayB, h1]
    have Hf := Lib.hid hf
    clear hf
    go_enter Try.func42, Try.ntmps42
    go_wp2_with fail
    go_quiet (fail)
    go_wp2
    go_ret
    exact ⟨ret_b Hf.out.symm, below_drewN ((Below.refl _ _).alloc (Nat.le_refl _) _) _⟩

end Go.Proofs.Ytcahfapffhcceaa

namespace Go.Proofs.Ytcahfapffhcceaa
open Go.RowKit
attribute [local go_sem ↓] Go.wp_at_zero Go.wp_at_succ

/-- May an update be? -/
def mayU (a n d : Int) : Bool := Wp.mayB a n && (decide (0 ≤ d) && decide (d ≤ 255))
theorem mayU_of {a n d : Int} (h : mayU a n d = true) : Wp.mayB a n = true ∧ 0 ≤ d ∧ d ≤ 255 := by
  simpa [mayU] using h
theorem mayU_mk {a n d : Int} (h : Wp.mayB a n = true) (h0 : 0 ≤ d) (h1 : d ≤ 255) : mayU a n d = true := by
  simp [mayU, h, h0, h1]
/-- How far it is by a neighbour. -/
def farI (d c : Int) : Int := if 0 ≤ d ∧ d ≤ 255 ∧ 1 ≤ c ∧ c ≤ 50 then min (d + c) 255 else 255
theorem far_yes {d c : Int} (h : 0 ≤ d) (h1 : d ≤ 255) (h2 : 1 ≤ c) (h3 : c ≤ 50) : farI d c = min (d + c) 255 := if_pos ⟨h, h1, h2, h3⟩
theorem far_no {d c : Int} (h : ¬ (0 ≤ d ∧ d ≤ 255 ∧ 1 ≤ c ∧ c ≤ 50)) : farI d c = 255 := if_neg h

theorem mayD_any (d : Int) (w : World) : Calls Try.prog 61 #[.int .i64 d] w fun e w' => e = .returned (.bool (decide (0 ≤ d) && decide (d ≤ 255))) ∧ w = w' := by
  by_cases h1 : 0 ≤ d
  · by_cases h2 : d ≤ 255
    · go_enter Try.func61, Try.ntmps61
      go_wp2
      go_ret
      exact ⟨ret_b (by simp [h1, h2]), rfl⟩
    · go_enter Try.func61, Try.ntmps61
      go_wp2
      go_ret
      exact ⟨ret_b (by simp [h1, h2]), rfl⟩
  · go_enter Try.func61, Try.ntmps61
    go_wp2
    go_ret
    exact ⟨ret_b (by rw [decide_eq_false (show ¬ 0 ≤ d by omega)]; rfl), rfl⟩

set_option maxHeartbeats 1000000 in
theorem mayUW_any (a n d : Int) (w : World) :
    Calls Try.prog 53 #[.agg #[.int .u32 a, .int .i64 n, .int .i64 d]] w fun e w' => e = .returned (.bool (mayU a n d)) ∧ Below w.heap.size w w' := by
  have hf : mayU a n d = (Wp.mayB a n && (decide (0 ≤ d) && decide (d ≤ 255))) := rfl
  rcases hm : Wp.mayB a n with _ | _
  · rw [hm] at hf
    have Hf := Lib.hid hf
    have Hm := Lib.hid hm
    clear hm hf
    go_enter Try.func53, Try.ntmps53
    go_wp2_with fail
    refine (mayW_any _ _ _).mono ?_
    rintro e w1 ⟨rfl, hb1⟩
    rw [Hm.out]
    obtain ⟨hc, hfz⟩ := bcell hb1
    go_wp2_with fail
    go_ret
    exact ⟨ret_b (by rw [Hf.out]; rfl), ((Below.refl _ _).alloc (Nat.le_refl _) _).trans (hb1.mono (by simp))⟩
  · rw [hm] at hf
    have Hf := Lib.hid hf
    have Hm := Lib.hid hm
    clear hm hf
    go_enter Try.func53, Try.ntmps53
    go_wp2_with fail
    refine (mayW_any _ _ _).mono ?_
    rintro e w1 ⟨rfl, hb1⟩
    rw [Hm.out]
    obtain ⟨hc, hfz⟩ := bcell hb1
    go_wp2_with fail
    refine (mayD_any _ _).mono ?_
    rintro e w2 ⟨rfl, rfl⟩
    go_wp2_with fail
    go_ret
    exact ⟨ret_b (by rw [Hf.out]; rfl), ((Below.refl _ _).alloc (Nat.le_refl _) _).trans (hb1.mono (by simp))⟩

set_option maxHeartbeats 1000000 in
theorem mayUR_any (a n d : Int) (w : World) (ha : 0 ≤ a) (ha2 : a < 4294967296) :
    Calls Try.prog 24 #[.agg #[.int .u32 a, .int .i64 n, .int .i64 d]] w fun e w' => e = .returned (.bool (mayU a n d)) ∧ Below w.heap.size w w' := by
  have hf : mayU a n d = (Wp.mayB a n && (decide (0 ≤ d) && decide (d ≤ 255))) := rfl
  rcases hm : Wp.mayB a n with _ | _
  · rw [hm] at hf
    have Hf := Lib.hid hf
    have Hm := Lib.hid hm
    clear hm hf
    go_enter Try.func24, Try.ntmps24
    go_wp2_with fail
    refine (mayR_any _ _ _ ha ha2).mono ?_
    rintro e w1 ⟨rfl, hb1⟩
    rw [Hm.out]
    obtain ⟨hc, hfz⟩ := bcell hb1
    go_wp2_with fail
    go_ret
    exact ⟨ret_b (by rw [Hf.out]; rfl), ((Below.refl _ _).alloc (Nat.le_refl _) _).trans (hb1.mono (by simp))⟩
  · rw [hm] at hf
    have Hf := Lib.hid hf
    have Hm := Lib.hid hm
    clear hm hf
    by_cases h1 : 0 ≤ d
    · go_enter Try.func24, Try.ntmps24
      go_wp2_with fail
      refine (mayR_any _ _ _ ha ha2).mono ?_
      rintro e w1 ⟨rfl, hb1⟩
      rw [Hm.out]
      obtain ⟨hc, hfz⟩ := bcell hb1
      go_wp2_with fail
      go_ret
      exact ⟨ret_b (by rw [Hf.out]; simp [h1]), ((Below.refl _ _).alloc (Nat.le_refl _) _).trans (hb1.mono (by simp))⟩
    · go_enter Try.func24, Try.ntmps24
      go_wp2_with fail
      refine (mayR_any _ _ _ ha ha2).mono ?_
      rintro e w1 ⟨rfl, hb1⟩
      rw [Hm.out]
      obtain ⟨hc, hfz⟩ := bcell hb1
      go_wp2_with fail
      go_ret
      exact ⟨ret_b (by rw [Hf.out, decide_eq_false (show ¬ 0 ≤ d by omega)]; rfl), ((Below.refl _ _).alloc (Nat.le_refl _) _).trans (hb1.mono (by simp))⟩

theorem minI (x : Int) : min x 255 = if x ≤ 255 then x else 255 := by omega
end Go.Proofs.Ytcahfapffhcceaa

namespace Go.Proofs.Ytcahfapffhcceaa
open Go.RowKit
def AnsV (l : List UInt8) (w : World) (e : Ending) (w' : World) : Prop := ∃ v, e = .returned v ∧ Bytes w' v l ∧ Below w.heap.size w w'

theorem byte_of2 {n k : Nat} : ((n / 256 ^ k : Nat) : Int) % 256 = ((UInt8.ofNat (n / 256 ^ k)).toNat : Int) := by
  rw [UInt8.toNat_ofNat']; simp

set_option maxHeartbeats 1000000 in
set_option maxRecDepth 100000 in
theorem putRO_any (n size : Nat) (w : World) (hn : n < 18446744073709551616) (h2 : size ≤ 8) :
    Calls Try.prog 36 #[.int .u64 (n : Int), .int .i64 (size : Int)] w fun e w' => ∃ v, e = .returned v ∧ w'.ownsRow w.heap.size 5 1 v (putL n size).length (bv (putL n size)) ∧ Below w.heap.size w w' := by
  have hi5 : (Try.prog.info? 5).map (fun i => (i.zero, i.size, i.bytes)) = some (some (.int .u8 0), 1, 1) := by kernel_rfl
  obtain ⟨i0, hi, hx⟩ := Option.map_eq_some_iff.1 hi5
  simp only [Prod.mk.injEq] at hx
  obtain ⟨hz0, hz1, hz2⟩ := hx
  obtain ⟨w1, hmk, hown0, hg0⟩ := run_make_full (P := Try.prog) (w := w) w.heap.size 26 5 i0 (.int .u8 0) 1 Try.underlying26 hi hz0 hz1 .i64 .i64 size (by rw [hz2]; omega) (by unfold maxLen; omega) (Nat.le_refl _)
  clear hi5
  have HU := Lib.hid (show Below w.heap.size w w1 from (Below.refl _ _).grown hg0 (Nat.le_refl _) (by simp))
  have hm : (madeCells (Value.int IntKind.u8 0).cells (size * 1)).toList = bv (putR n size 0) := by
    rw [Nat.mul_one]; show (madeCells #[.int .u8 0] size).toList = _
    rw [toList_madeCells_one]; simp [putR, putL, bv]
  rw [hm] at hown0
  have HO := Lib.hid hown0
  clear hm hown0 hg0
  go_enter Try.func36, Try.ntmps36
  go_wp2
  clear hmk
  go_loopw [0, 6] (fun x i wr => ∃ k : Nat, k ≤ size ∧ i = .int .i64 ((size : Int) - 1 - k) ∧ x = .int .u64 ((n / 256 ^ k : Nat) : Int) ∧ Hid (wr.ownsRow w.heap.size 5 1 (.slice (some ⟨w.heap.size, 0, none⟩) size size) size (bv (putR n size k))) ∧ Hid (Below w.heap.size w wr)) (fun _ i _ => (intOf i + 1).toNat)
  case atStart => exact ⟨0, Nat.zero_le _, by simp, by simp, HO.out, HU⟩
  case round =>
    obtain ⟨k, hk, rfl, rfl, HW, HB⟩ := hrel
    obtain ⟨y, hy⟩ : ∃ y : Nat, y = n / 256 ^ k := ⟨_, rfl⟩
    have hyn : y < 18446744073709551616 := by rw [hy]; exact Nat.lt_of_le_of_lt (Nat.div_le_self _ _) hn
    rw [← hy]
    have Hy := Lib.hid hy
    clear hy
    by_cases hlt : k < size
    · obtain ⟨u, hu⟩ := own_cell HW.out (by simp [bv, putR, putL_length]; omega) (j := size - 1 - k) (by omega)
      have hf := HW.out.frozenAt (size - 1 - k)
      have hnat : ((size : Int) - 1 - k).toNat = size - 1 - k := by omega
      go_wp2
      have hst := (HW.out.stored (size - 1 - k) (.int .u8 ((UInt8.ofNat (n / 256 ^ k)).toNat : Int)))
      rw [putR_set n size k hlt] at hst
      rw [Hy.out, byte_of2 (n := n) (k := k)]
      exact ⟨⟨k + 1, by omega, congrArg (Value.int .i64) (by omega), by rw [Nat.pow_succ, ← Nat.div_div_eq_div_mul]; simp, hst.1, HB.out.setCell (Nat.le_refl _) _⟩, by simp [intOf]; omega⟩
    · have hk2 : k = size := by omega
      subst hk2
      go_wp2
      go_ret
      refine ⟨_, rfl, ?_, HB.out⟩
      have := HW.out
      rw [show putR n k k = putL n k from by simp [putR]] at this
      rw [putL_length]
      exact this
theorem putR_any (n size : Nat) (w : World) (hn : n < 18446744073709551616) (h2 : size ≤ 8) :
    Calls Try.prog 36 #[.int .u64 (n : Int), .int .i64 (size : Int)] w (AnsV (putL n size) w) :=
  (putRO_any n size w hn h2).mono fun _ _ ⟨v, h1, h2, h3⟩ => ⟨v, h1, Bytes.of_own h2, h3⟩

set_option maxHeartbeats 1000000 in
theorem getR_any (v : Value) (l : List UInt8) (w : World) (hv : Bytes w v l) (hl : l.length ≤ 8) :
    Calls Try.prog 40 #[v] w fun e w' => e = .returned (.int .u64 ((getL l : Nat) : Int)) ∧ w = w' := by
  rcases hv with ⟨rfl, a, c, rfl, _⟩ | ⟨b, o, c, rfl, hb, _, hc⟩
  · go_enter Try.func40, Try.ntmps40
    go_wp2
    go_rounds 1
    go_ret
    exact ⟨rfl, rfl⟩
  · have HC := Lib.hid hc
    clear hc
    go_enter Try.func40, Try.ntmps40
    go_wp2
    go_loop [3, 4] (fun x i => ∃ k : Nat, k ≤ l.length ∧ i = .int .i64 k ∧ x = .int .u64 ((getL (l.take k) : Nat) : Int)) (fun _ i => l.length - (intOf i).toNat)
    case atStart => exact ⟨0, Nat.zero_le _, rfl, by simp [getL]⟩
    case round =>
      obtain ⟨k, hk, rfl, rfl⟩ := hrel
      obtain ⟨y, hy⟩ : ∃ y : Nat, y = getL (l.take k) := ⟨_, rfl⟩
      by_cases hlt : k < l.length
      · have hyn : y < 72057594037927936 := by rw [hy]; exact getL_take_lt l (by omega) (by omega)
        have hs := getL_take l k hlt
        have hcell := HC.out k l[k] (List.getElem?_eq_getElem hlt)
        obtain ⟨z, hz⟩ : ∃ z : Nat, z = l[k].toNat := ⟨_, rfl⟩
        have hzn : z < 256 := by rw [hz]; exact l[k].toNat_lt
        rw [← hy]
        rw [← hy, ← hz] at hs
        rw [← hz] at hcell
        have Hs := Lib.hid hs
        clear hs hy hz
        go_wp2
        go_round
        case rel => exact ⟨k + 1, by omega, by go_num, by rw [Hs.out]; simp⟩
        case measure => simp [intOf]; omega
      · have hk2 : k = l.length := by omega
        subst hk2
        rw [← hy]
        have Hy : Hid (y = getL l) := by rw [List.take_length] at hy; exact hy
        clear hy
        go_wp2
        go_ret
        exact ⟨ret_i (by rw [← Hy.out]), rfl⟩
end Go.Proofs.Ytcahfapffhcceaa
