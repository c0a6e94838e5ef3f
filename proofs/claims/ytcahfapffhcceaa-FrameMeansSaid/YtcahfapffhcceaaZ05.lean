/- Plain numbers of the layer sum: sums of words with carry; no program in it.
   frame.mayNamed, frame.May: the walks.
   frame.unnamed, frame.mayMessage: the walks. -/
import Derived.Test.YtcahfapffhcceaaZ02
import Derived.Test.YtcahfapffhcceaaZ04

set_option linter.unusedSimpArgs false
set_option linter.unusedVariables false
namespace Go.Proofs.Ytcahfapffhcceaa
open Go.RowKit
attribute [local go_sem ↓] Go.wp_at_zero Go.wp_at_succ

/-- The frame of noughts. -/
def Fr.zero : Fr := ⟨0, 0, 0, 0, 0, 0, 0, 0⟩
def FZ : Value := .agg #[.int .i64 0, .int .i64 0, .int .u64 0, .int .u64 0, .int .u64 0, .int .u64 0, .int .u64 0, .int .u64 0, .slice none 0 0]
theorem sameZ_any (g : Fr) (u : Value) (C : List UInt8) (w : World) (hu : Bytes w u C) :
    Calls Try.prog 23 #[.agg #[.int .i64 g.k, .int .i64 g.n, .int .u64 (g.mb : Nat), .int .u64 (g.mt : Nat), .int .u64 (g.tb : Nat), .int .u64 (g.tt : Nat), .int .u64 (g.s : Nat), .int .u64 (g.a : Nat), u], .agg #[.int .i64 0, .int .i64 0, .int .u64 0, .int .u64 0, .int .u64 0, .int .u64 0, .int .u64 0, .int .u64 0, .slice none 0 0]] w fun e w' => e = .returned (.bool (sameF g Fr.zero C [])) ∧ Below w.heap.size w w' :=
  sameFW_any g Fr.zero u (.slice none 0 0) C [] w hu (Bytes.nil _ _ _)
/-- What frame.unnamed leaves, held against noughts. -/
def unnB (f : Fr) (B : List UInt8) : Bool :=
  if f.k = 2 then true else if f.k = 3 then decide (f.s = 0) && decide (f.a = 0) else if f.k = 1 then decide (f.s = 0) && (decide (f.a = 0) && decide (B = [])) else sameF f Fr.zero B []
def UnA (f : Fr) (B : List UInt8) (w : World) (e : Ending) (w' : World) : Prop :=
  ∃ (g : Fr) (u : Value) (C : List UInt8), e = .returned (.agg #[.int .i64 g.k, .int .i64 g.n, .int .u64 (g.mb : Nat), .int .u64 (g.mt : Nat), .int .u64 (g.tb : Nat), .int .u64 (g.tt : Nat), .int .u64 (g.s : Nat), .int .u64 (g.a : Nat), u]) ∧ Bytes w' u C ∧ sameF g Fr.zero C [] = unnB f B ∧ Below w.heap.size w w'

set_option maxHeartbeats 4000000 in
set_option maxRecDepth 100000 in
theorem unn2 (f : Fr) (a : Option Addr) (n c : Nat) (B : List UInt8) (w : World) (h : f.k = 2) : Calls Try.prog 32 #[.agg #[.int .i64 f.k, .int .i64 f.n, .int .u64 (f.mb : Nat), .int .u64 (f.mt : Nat), .int .u64 (f.tb : Nat), .int .u64 (f.tt : Nat), .int .u64 (f.s : Nat), .int .u64 (f.a : Nat), .slice a n c]] w (UnA f B w) := by
  have HE : Hid (unnB f B = true) := by show unnB f B = true; unfold unnB; rw [if_pos h]
  go_enter Try.func32, Try.ntmps32
  go_wp2_with fail
  exact bodyPost_ret (v := FZ) (by simp [results, Try.results32, go_sem, FZ]) rfl ⟨Fr.zero, .slice none 0 0, [], rfl, Bytes.nil _ _ _, (sameF_refl _ _).trans HE.out.symm, by go_grown⟩
set_option maxHeartbeats 4000000 in
set_option maxRecDepth 100000 in
theorem unn3 (f : Fr) (a : Option Addr) (n c : Nat) (B : List UInt8) (w : World) (h : f.k = 3) : Calls Try.prog 32 #[.agg #[.int .i64 f.k, .int .i64 f.n, .int .u64 (f.mb : Nat), .int .u64 (f.mt : Nat), .int .u64 (f.tb : Nat), .int .u64 (f.tt : Nat), .int .u64 (f.s : Nat), .int .u64 (f.a : Nat), .slice a n c]] w (UnA f B w) := by
  have HE : Hid (sameF ⟨0, 0, 0, 0, 0, 0, f.s, f.a⟩ Fr.zero [] [] = unnB f B) := by
    show _ = unnB f B
    unfold unnB; rw [if_neg (by omega), if_pos h, Bool.eq_iff_iff, sameF_iff]; simp [Fr.zero]
  go_enter Try.func32, Try.ntmps32
  go_wp2_with fail
  exact bodyPost_ret (v := .agg #[.int .i64 0, .int .i64 0, .int .u64 0, .int .u64 0, .int .u64 0, .int .u64 0, .int .u64 (f.s : Nat), .int .u64 (f.a : Nat), .slice none 0 0]) (by simp [results, Try.results32, go_sem]) rfl ⟨⟨0, 0, 0, 0, 0, 0, f.s, f.a⟩, .slice none 0 0, [], rfl, Bytes.nil _ _ _, HE.out, by go_grown⟩
set_option maxHeartbeats 4000000 in
set_option maxRecDepth 100000 in
theorem unn1 (f : Fr) (a : Option Addr) (n c : Nat) (B : List UInt8) (w : World) (h : f.k = 1) (hB : Bytes w (.slice a n c) B) : Calls Try.prog 32 #[.agg #[.int .i64 f.k, .int .i64 f.n, .int .u64 (f.mb : Nat), .int .u64 (f.mt : Nat), .int .u64 (f.tb : Nat), .int .u64 (f.tt : Nat), .int .u64 (f.s : Nat), .int .u64 (f.a : Nat), .slice a n c]] w (UnA f B w) := by
  have HE : Hid (sameF ⟨0, 0, 0, 0, 0, 0, f.s, f.a⟩ Fr.zero B [] = unnB f B) := by
    show _ = unnB f B
    unfold unnB; rw [if_neg (by omega), if_neg (by omega), if_pos h, Bool.eq_iff_iff, sameF_iff]; simp [Fr.zero, and_assoc]
  have HB := Lib.hid hB
  clear hB
  go_enter Try.func32, Try.ntmps32
  go_wp2_with fail
  exact bodyPost_ret (v := .agg #[.int .i64 0, .int .i64 0, .int .u64 0, .int .u64 0, .int .u64 0, .int .u64 0, .int .u64 (f.s : Nat), .int .u64 (f.a : Nat), .slice a n c]) (by simp [results, Try.results32, go_sem]) rfl ⟨⟨0, 0, 0, 0, 0, 0, f.s, f.a⟩, .slice a n c, B, rfl, Bytes.later HB.out (by go_grown), HE.out, by go_grown⟩
set_option maxHeartbeats 4000000 in
set_option maxRecDepth 100000 in
theorem unn0 (f : Fr) (a : Option Addr) (n c : Nat) (B : List UInt8) (w : World) (h1 : f.k ≠ 1) (h2 : f.k ≠ 2) (h3 : f.k ≠ 3) (hB : Bytes w (.slice a n c) B) : Calls Try.prog 32 #[.agg #[.int .i64 f.k, .int .i64 f.n, .int .u64 (f.mb : Nat), .int .u64 (f.mt : Nat), .int .u64 (f.tb : Nat), .int .u64 (f.tt : Nat), .int .u64 (f.s : Nat), .int .u64 (f.a : Nat), .slice a n c]] w (UnA f B w) := by
  have HE : Hid (sameF f Fr.zero B [] = unnB f B) := by
    show _ = unnB f B
    unfold unnB; rw [if_neg h2, if_neg h3, if_neg h1]
  have HB := Lib.hid hB
  have k1 : (f.k == 1) = false := by simp [h1]
  have k2 : (f.k == 2) = false := by simp [h2]
  have k3 : (f.k == 3) = false := by simp [h3]
  clear hB h1 h2 h3
  go_enter Try.func32, Try.ntmps32
  go_wp2_with fail
  exact bodyPost_ret (v := .agg #[.int .i64 f.k, .int .i64 f.n, .int .u64 (f.mb : Nat), .int .u64 (f.mt : Nat), .int .u64 (f.tb : Nat), .int .u64 (f.tt : Nat), .int .u64 (f.s : Nat), .int .u64 (f.a : Nat), .slice a n c]) (by simp [results, Try.results32, go_sem]) rfl ⟨f, .slice a n c, B, rfl, Bytes.later HB.out (by go_grown), HE.out, by go_grown⟩
theorem unn_any (f : Fr) (v : Value) (B : List UInt8) (w : World) (hB : Bytes w v B) : Calls Try.prog 32 #[.agg #[.int .i64 f.k, .int .i64 f.n, .int .u64 (f.mb : Nat), .int .u64 (f.mt : Nat), .int .u64 (f.tb : Nat), .int .u64 (f.tt : Nat), .int .u64 (f.s : Nat), .int .u64 (f.a : Nat), v]] w (UnA f B w) := by
  obtain ⟨a, c, rfl⟩ := hB.form
  by_cases h2 : f.k = 2
  · exact unn2 f _ _ _ B w h2
  · by_cases h3 : f.k = 3
    · exact unn3 f _ _ _ B w h3
    · by_cases h1 : f.k = 1
      · exact unn1 f _ _ _ B w h1 hB
      · exact unn0 f _ _ _ B w h1 h2 h3 hB

/-- May a control frame's Seq and Body be? -/
def msgB (s : Nat) (B : List UInt8) : Bool := if B.length = 0 then decide (s = 0) else decide (1 ≤ s) && ofB B
set_option maxHeartbeats 4000000 in
set_option maxRecDepth 100000 in
theorem msg_any (s : Nat) (v : Value) (B : List UInt8) (w : World) (hB : Bytes w v B) (hl : B.length ≤ 9223372036854775807) : Calls Try.prog 50 #[.int .u64 (s : Nat), v] w fun e w' => e = .returned (.bool (msgB s B)) ∧ Below w.heap.size w w' := by
  obtain ⟨a, c, rfl⟩ := hB.form
  by_cases h0 : B.length = 0
  · have HE : Hid (decide (s = 0) = msgB s B) := by show _ = msgB s B; unfold msgB; rw [if_pos h0]
    have h0' : ((B.length : Int) == 0) = true := beq_iff_eq.2 (by omega)
    obtain ⟨m, hm⟩ : ∃ m, m = B.length := ⟨_, rfl⟩
    rw [← hm] at h0' ⊢
    clear hB hl h0 hm
    go_enter Try.func50, Try.ntmps50
    go_wp2_with fail
    go_ret
    exact ⟨ret_b (by rw [← HE.out, Bool.eq_iff_iff]; simp), by go_grown⟩
  · have HE : Hid ((decide (1 ≤ s) && ofB B) = msgB s B) := by show _ = msgB s B; unfold msgB; rw [if_neg h0]
    have HO := Lib.hid (fun W h => of5W_any _ B W (hB.later h) hl)
    have h0' : ((B.length : Int) == 0) = false := beq_eq_false_iff_ne.2 (by omega)
    have HOE : Hid (ofE B = if ofB B = true then 0 else 4) := rfl
    obtain ⟨ox, hox⟩ : ∃ x, x = ofE B := ⟨_, rfl⟩
    rw [← hox] at HOE HO
    obtain ⟨m, hm⟩ : ∃ m, m = B.length := ⟨_, rfl⟩
    rw [← hm] at h0' HO ⊢
    clear hB hl h0 hm hox
    by_cases h1 : 1 ≤ s
    · have k1 : (1 : Int) ≤ s := by omega
      go_enter Try.func50, Try.ntmps50
      go_wp2_with fail
      refine (HO.out _ (Below.refl _ _)).mono ?_
      rintro e w1 ⟨rfl, hb⟩
      have HB := Lib.hid hb
      clear hb
      go_wp2_with fail
      go_ret
      refine ⟨ret_b ?_, (HB.out).alloc HB.out.size _⟩
      rw [← HE.out, decide_eq_true h1, HOE.out]
      cases ofB B <;> rfl
    · have k1 : (s : Int) < 1 := by omega
      go_enter Try.func50, Try.ntmps50
      go_wp2_with fail
      refine (HO.out _ (Below.refl _ _)).mono ?_
      rintro e w1 ⟨rfl, hb⟩
      have HB := Lib.hid hb
      clear hb
      go_wp2_with fail
      go_ret
      refine ⟨ret_b ?_, (HB.out).alloc HB.out.size _⟩
      rw [← HE.out, decide_eq_false h1]; rfl
end Go.Proofs.Ytcahfapffhcceaa

namespace Go.Proofs.Ytcahfapffhcceaa
open Go.RowKit
attribute [local go_sem ↓] Go.wp_at_zero Go.wp_at_succ

theorem blk9 {t : TypeId} {g : Nat} {w : World} {x0 x1 x2 x3 x4 x5 x6 x7 x8 : Value} (h : BlkAt t g [x0, x1, x2, x3, x4, x5, x6, x7, x8] w) :
    w.cell? ⟨g, 0, none⟩ = some x0 ∧ w.cell? ⟨g, 1, none⟩ = some x1 ∧ w.cell? ⟨g, 2, none⟩ = some x2 ∧ w.cell? ⟨g, 3, none⟩ = some x3 ∧ w.cell? ⟨g, 4, none⟩ = some x4 ∧ w.cell? ⟨g, 5, none⟩ = some x5 ∧ w.cell? ⟨g, 6, none⟩ = some x6 ∧ w.cell? ⟨g, 7, none⟩ = some x7 ∧ w.cell? ⟨g, 8, none⟩ = some x8 :=
  ⟨h.cell rfl, h.cell rfl, h.cell rfl, h.cell rfl, h.cell rfl, h.cell rfl, h.cell rfl, h.cell rfl, h.cell rfl⟩
/-- What frame.mayNamed says. -/
def namW (f : Fr) (B : List UInt8) : Bool :=
  if f.k = 2 then !noneB f.tb f.tt && msgB f.s B else if f.k = 3 then !noneB f.tb f.tt && (decide (1 ≤ B.length) && decide (B.length ≤ 2048)) else true
set_option maxHeartbeats 4000000 in
set_option maxRecDepth 100000 in
theorem nm2a (f : Fr) (a : Option Addr) (c m : Nat) (B : List UInt8) (w : World) (hk : f.k = 2) (hn : noneB f.tb f.tt = true) (hm : m = B.length) (hB : Bytes w (.slice a B.length c) B) (hl : B.length ≤ 9000) :
    Calls Try.prog 33 #[.agg #[.int .i64 f.k, .int .i64 f.n, .int .u64 (f.mb : Nat), .int .u64 (f.mt : Nat), .int .u64 (f.tb : Nat), .int .u64 (f.tt : Nat), .int .u64 (f.s : Nat), .int .u64 (f.a : Nat), .slice a m c]] w fun e w' => e = .returned (.bool (namW f B)) ∧ Below w.heap.size w w' := by
  obtain ⟨w1, hw1⟩ : ∃ w1, w1 = w.alloc (.cells #[.int .i64 f.k, .int .i64 f.n, .int .u64 (f.mb : Nat), .int .u64 (f.mt : Nat), .int .u64 (f.tb : Nat), .int .u64 (f.tt : Nat), .int .u64 (f.s : Nat), .int .u64 (f.a : Nat), .slice a m c] 28) := ⟨_, rfl⟩
  have HB : Hid (Below w.heap.size w w1) := by rw [hw1]; exact (Below.refl _ _).alloc (Nat.le_refl _) _
  have HR : Hid (BlkAt 28 w.heap.size [.int .i64 f.k, .int .i64 f.n, .int .u64 (f.mb : Nat), .int .u64 (f.mt : Nat), .int .u64 (f.tb : Nat), .int .u64 (f.tt : Nat), .int .u64 (f.s : Nat), .int .u64 (f.a : Nat), .slice a m c] w1) := by rw [hw1]; exact BlkAt.new w _
  have k2 : (f.k == 2) = true := by simp [hk]
  have HN := Lib.hid hn
  have HE : Hid (namW f B = false) := by show _ = false; unfold namW; rw [if_pos hk, hn]; rfl
  have HM := Lib.hid (fun W h => msg_any f.s _ B W (hB.later h) (by omega))
  rw [← hm] at HM
  clear hk hn hm hB hl
  go_enter Try.func33, Try.ntmps33
  go_wp2_with fail
  rw [← hw1]
  clear hw1
  obtain ⟨c0, c1, c2, c3, c4, c5, c6, c7, c8⟩ := blk9 HR.out
  go_wp2_with fail
  refine (noneW_any _ _ _).mono ?_
  rintro e w' ⟨rfl, hb⟩
  rw [HN.out]
  have HB := Lib.hid (below_of HB.out hb)
  have HR := Lib.hid (HR.out.later hb)
  clear hb
  clear c0 c1 c2 c3 c4 c5 c6 c7 c8
  obtain ⟨c0, c1, c2, c3, c4, c5, c6, c7, c8⟩ := blk9 HR.out
  go_wp2_with fail
  go_ret
  exact ⟨ret_b (by rw [HE.out]), HB.out⟩
set_option maxHeartbeats 4000000 in
set_option maxRecDepth 100000 in
theorem nm2b (f : Fr) (a : Option Addr) (c m : Nat) (B : List UInt8) (w : World) (hk : f.k = 2) (hn : noneB f.tb f.tt = false) (hm : m = B.length) (hB : Bytes w (.slice a B.length c) B) (hl : B.length ≤ 9000) :
    Calls Try.prog 33 #[.agg #[.int .i64 f.k, .int .i64 f.n, .int .u64 (f.mb : Nat), .int .u64 (f.mt : Nat), .int .u64 (f.tb : Nat), .int .u64 (f.tt : Nat), .int .u64 (f.s : Nat), .int .u64 (f.a : Nat), .slice a m c]] w fun e w' => e = .returned (.bool (namW f B)) ∧ Below w.heap.size w w' := by
  obtain ⟨w1, hw1⟩ : ∃ w1, w1 = w.alloc (.cells #[.int .i64 f.k, .int .i64 f.n, .int .u64 (f.mb : Nat), .int .u64 (f.mt : Nat), .int .u64 (f.tb : Nat), .int .u64 (f.tt : Nat), .int .u64 (f.s : Nat), .int .u64 (f.a : Nat), .slice a m c] 28) := ⟨_, rfl⟩
  have HB : Hid (Below w.heap.size w w1) := by rw [hw1]; exact (Below.refl _ _).alloc (Nat.le_refl _) _
  have HR : Hid (BlkAt 28 w.heap.size [.int .i64 f.k, .int .i64 f.n, .int .u64 (f.mb : Nat), .int .u64 (f.mt : Nat), .int .u64 (f.tb : Nat), .int .u64 (f.tt : Nat), .int .u64 (f.s : Nat), .int .u64 (f.a : Nat), .slice a m c] w1) := by rw [hw1]; exact BlkAt.new w _
  have k2 : (f.k == 2) = true := by simp [hk]
  have HN := Lib.hid hn
  have HE : Hid (namW f B = msgB f.s B) := by show _ = msgB f.s B; unfold namW; rw [if_pos hk, hn]; rfl
  have HM := Lib.hid (fun W h => msg_any f.s _ B W (hB.later h) (by omega))
  rw [← hm] at HM
  clear hk hn hm hB hl
  go_enter Try.func33, Try.ntmps33
  go_wp2_with fail
  rw [← hw1]
  clear hw1
  obtain ⟨c0, c1, c2, c3, c4, c5, c6, c7, c8⟩ := blk9 HR.out
  go_wp2_with fail
  refine (noneW_any _ _ _).mono ?_
  rintro e w' ⟨rfl, hb⟩
  rw [HN.out]
  have HB := Lib.hid (below_of HB.out hb)
  have HR := Lib.hid (HR.out.later hb)
  clear hb
  clear c0 c1 c2 c3 c4 c5 c6 c7 c8
  obtain ⟨c0, c1, c2, c3, c4, c5, c6, c7, c8⟩ := blk9 HR.out
  go_wp2_with fail
  refine (HM.out _ HB.out).mono ?_
  rintro e w' ⟨rfl, hb⟩
  have HB := Lib.hid (below_of HB.out hb)
  clear hb c0 c1 c2 c3 c4 c5 c6 c7 c8
  go_wp2_with fail
  go_ret
  exact ⟨ret_b (by rw [HE.out]), HB.out⟩
set_option maxHeartbeats 4000000 in
set_option maxRecDepth 100000 in
theorem nm3a (f : Fr) (a : Option Addr) (c m : Nat) (B : List UInt8) (w : World) (hk : f.k = 3) (hn : noneB f.tb f.tt = true) (hm : m = B.length) :
    Calls Try.prog 33 #[.agg #[.int .i64 f.k, .int .i64 f.n, .int .u64 (f.mb : Nat), .int .u64 (f.mt : Nat), .int .u64 (f.tb : Nat), .int .u64 (f.tt : Nat), .int .u64 (f.s : Nat), .int .u64 (f.a : Nat), .slice a m c]] w fun e w' => e = .returned (.bool (namW f B)) ∧ Below w.heap.size w w' := by
  obtain ⟨w1, hw1⟩ : ∃ w1, w1 = w.alloc (.cells #[.int .i64 f.k, .int .i64 f.n, .int .u64 (f.mb : Nat), .int .u64 (f.mt : Nat), .int .u64 (f.tb : Nat), .int .u64 (f.tt : Nat), .int .u64 (f.s : Nat), .int .u64 (f.a : Nat), .slice a m c] 28) := ⟨_, rfl⟩
  have HB : Hid (Below w.heap.size w w1) := by rw [hw1]; exact (Below.refl _ _).alloc (Nat.le_refl _) _
  have HR : Hid (BlkAt 28 w.heap.size [.int .i64 f.k, .int .i64 f.n, .int .u64 (f.mb : Nat), .int .u64 (f.mt : Nat), .int .u64 (f.tb : Nat), .int .u64 (f.tt : Nat), .int .u64 (f.s : Nat), .int .u64 (f.a : Nat), .slice a m c] w1) := by rw [hw1]; exact BlkAt.new w _
  have k2 : (f.k == 2) = false := by simp [hk]
  have k3 : (f.k == 3) = true := by simp [hk]
  have HN := Lib.hid hn
  have HE : Hid (namW f B = false) := by show _ = false; unfold namW; rw [if_neg (by omega), if_pos hk, hn]; simp
  clear hk hn hm
  go_enter Try.func33, Try.ntmps33
  go_wp2_with fail
  rw [← hw1]
  clear hw1
  obtain ⟨c0, c1, c2, c3, c4, c5, c6, c7, c8⟩ := blk9 HR.out
  go_wp2_with fail
  refine (noneW_any _ _ _).mono ?_
  rintro e w' ⟨rfl, hb⟩
  rw [HN.out]
  have HB := Lib.hid (below_of HB.out hb)
  have HR := Lib.hid (HR.out.later hb)
  clear hb
  clear c0 c1 c2 c3 c4 c5 c6 c7 c8
  obtain ⟨c0, c1, c2, c3, c4, c5, c6, c7, c8⟩ := blk9 HR.out
  go_wp2_with fail
  go_ret
  exact ⟨ret_b (by rw [HE.out]; (try simp); try omega), HB.out⟩
set_option maxHeartbeats 4000000 in
set_option maxRecDepth 100000 in
theorem nm3b (f : Fr) (a : Option Addr) (c m : Nat) (B : List UInt8) (w : World) (hk : f.k = 3) (hn : noneB f.tb f.tt = false) (hm : m = B.length) (h1 : m < 1) :
    Calls Try.prog 33 #[.agg #[.int .i64 f.k, .int .i64 f.n, .int .u64 (f.mb : Nat), .int .u64 (f.mt : Nat), .int .u64 (f.tb : Nat), .int .u64 (f.tt : Nat), .int .u64 (f.s : Nat), .int .u64 (f.a : Nat), .slice a m c]] w fun e w' => e = .returned (.bool (namW f B)) ∧ Below w.heap.size w w' := by
  obtain ⟨w1, hw1⟩ : ∃ w1, w1 = w.alloc (.cells #[.int .i64 f.k, .int .i64 f.n, .int .u64 (f.mb : Nat), .int .u64 (f.mt : Nat), .int .u64 (f.tb : Nat), .int .u64 (f.tt : Nat), .int .u64 (f.s : Nat), .int .u64 (f.a : Nat), .slice a m c] 28) := ⟨_, rfl⟩
  have HB : Hid (Below w.heap.size w w1) := by rw [hw1]; exact (Below.refl _ _).alloc (Nat.le_refl _) _
  have HR : Hid (BlkAt 28 w.heap.size [.int .i64 f.k, .int .i64 f.n, .int .u64 (f.mb : Nat), .int .u64 (f.mt : Nat), .int .u64 (f.tb : Nat), .int .u64 (f.tt : Nat), .int .u64 (f.s : Nat), .int .u64 (f.a : Nat), .slice a m c] w1) := by rw [hw1]; exact BlkAt.new w _
  have k2 : (f.k == 2) = false := by simp [hk]
  have k3 : (f.k == 3) = true := by simp [hk]
  have HN := Lib.hid hn
  have HE : Hid (namW f B = false) := by show _ = false; unfold namW; rw [if_neg (by omega), if_pos hk, hn]; simp; omega
  have q1 : (m : Int) < 1 := by omega
  clear hk hn hm h1
  go_enter Try.func33, Try.ntmps33
  go_wp2_with fail
  rw [← hw1]
  clear hw1
  obtain ⟨c0, c1, c2, c3, c4, c5, c6, c7, c8⟩ := blk9 HR.out
  go_wp2_with fail
  refine (noneW_any _ _ _).mono ?_
  rintro e w' ⟨rfl, hb⟩
  rw [HN.out]
  have HB := Lib.hid (below_of HB.out hb)
  have HR := Lib.hid (HR.out.later hb)
  clear hb
  clear c0 c1 c2 c3 c4 c5 c6 c7 c8
  obtain ⟨c0, c1, c2, c3, c4, c5, c6, c7, c8⟩ := blk9 HR.out
  go_wp2_with fail
  go_ret
  exact ⟨ret_b (by rw [HE.out]; (try simp); try omega), HB.out⟩
set_option maxHeartbeats 4000000 in
set_option maxRecDepth 100000 in
theorem nm3c (f : Fr) (a : Option Addr) (c m : Nat) (B : List UInt8) (w : World) (hk : f.k = 3) (hn : noneB f.tb f.tt = false) (hm : m = B.length) (h1 : 1 ≤ m) (h2 : 2048 < m) :
    Calls Try.prog 33 #[.agg #[.int .i64 f.k, .int .i64 f.n, .int .u64 (f.mb : Nat), .int .u64 (f.mt : Nat), .int .u64 (f.tb : Nat), .int .u64 (f.tt : Nat), .int .u64 (f.s : Nat), .int .u64 (f.a : Nat), .slice a m c]] w fun e w' => e = .returned (.bool (namW f B)) ∧ Below w.heap.size w w' := by
  obtain ⟨w1, hw1⟩ : ∃ w1, w1 = w.alloc (.cells #[.int .i64 f.k, .int .i64 f.n, .int .u64 (f.mb : Nat), .int .u64 (f.mt : Nat), .int .u64 (f.tb : Nat), .int .u64 (f.tt : Nat), .int .u64 (f.s : Nat), .int .u64 (f.a : Nat), .slice a m c] 28) := ⟨_, rfl⟩
  have HB : Hid (Below w.heap.size w w1) := by rw [hw1]; exact (Below.refl _ _).alloc (Nat.le_refl _) _
  have HR : Hid (BlkAt 28 w.heap.size [.int .i64 f.k, .int .i64 f.n, .int .u64 (f.mb : Nat), .int .u64 (f.mt : Nat), .int .u64 (f.tb : Nat), .int .u64 (f.tt : Nat), .int .u64 (f.s : Nat), .int .u64 (f.a : Nat), .slice a m c] w1) := by rw [hw1]; exact BlkAt.new w _
  have k2 : (f.k == 2) = false := by simp [hk]
  have k3 : (f.k == 3) = true := by simp [hk]
  have HN := Lib.hid hn
  have HE : Hid (namW f B = false) := by show _ = false; unfold namW; rw [if_neg (by omega), if_pos hk, hn]; simp; omega
  have q1 : (1 : Int) ≤ m := by omega
  have q2 : (2048 : Int) < m := by omega
  clear hk hn hm h1 h2
  go_enter Try.func33, Try.ntmps33
  go_wp2_with fail
  rw [← hw1]
  clear hw1
  obtain ⟨c0, c1, c2, c3, c4, c5, c6, c7, c8⟩ := blk9 HR.out
  go_wp2_with fail
  refine (noneW_any _ _ _).mono ?_
  rintro e w' ⟨rfl, hb⟩
  rw [HN.out]
  have HB := Lib.hid (below_of HB.out hb)
  have HR := Lib.hid (HR.out.later hb)
  clear hb
  clear c0 c1 c2 c3 c4 c5 c6 c7 c8
  obtain ⟨c0, c1, c2, c3, c4, c5, c6, c7, c8⟩ := blk9 HR.out
  go_wp2_with fail
  go_ret
  exact ⟨ret_b (by rw [HE.out]; (try simp); try omega), HB.out⟩
set_option maxHeartbeats 4000000 in
set_option maxRecDepth 100000 in
theorem nm3d (f : Fr) (a : Option Addr) (c m : Nat) (B : List UInt8) (w : World) (hk : f.k = 3) (hn : noneB f.tb f.tt = false) (hm : m = B.length) (h1 : 1 ≤ m) (h2 : m ≤ 2048) :
    Calls Try.prog 33 #[.agg #[.int .i64 f.k, .int .i64 f.n, .int .u64 (f.mb : Nat), .int .u64 (f.mt : Nat), .int .u64 (f.tb : Nat), .int .u64 (f.tt : Nat), .int .u64 (f.s : Nat), .int .u64 (f.a : Nat), .slice a m c]] w fun e w' => e = .returned (.bool (namW f B)) ∧ Below w.heap.size w w' := by
  obtain ⟨w1, hw1⟩ : ∃ w1, w1 = w.alloc (.cells #[.int .i64 f.k, .int .i64 f.n, .int .u64 (f.mb : Nat), .int .u64 (f.mt : Nat), .int .u64 (f.tb : Nat), .int .u64 (f.tt : Nat), .int .u64 (f.s : Nat), .int .u64 (f.a : Nat), .slice a m c] 28) := ⟨_, rfl⟩
  have HB : Hid (Below w.heap.size w w1) := by rw [hw1]; exact (Below.refl _ _).alloc (Nat.le_refl _) _
  have HR : Hid (BlkAt 28 w.heap.size [.int .i64 f.k, .int .i64 f.n, .int .u64 (f.mb : Nat), .int .u64 (f.mt : Nat), .int .u64 (f.tb : Nat), .int .u64 (f.tt : Nat), .int .u64 (f.s : Nat), .int .u64 (f.a : Nat), .slice a m c] w1) := by rw [hw1]; exact BlkAt.new w _
  have k2 : (f.k == 2) = false := by simp [hk]
  have k3 : (f.k == 3) = true := by simp [hk]
  have HN := Lib.hid hn
  have HE : Hid (namW f B = true) := by show _ = true; unfold namW; rw [if_neg (by omega), if_pos hk, hn]; simp; omega
  have q1 : (1 : Int) ≤ m := by omega
  have q2 : (m : Int) ≤ 2048 := by omega
  clear hk hn hm h1 h2
  go_enter Try.func33, Try.ntmps33
  go_wp2_with fail
  rw [← hw1]
  clear hw1
  obtain ⟨c0, c1, c2, c3, c4, c5, c6, c7, c8⟩ := blk9 HR.out
  go_wp2_with fail
  refine (noneW_any _ _ _).mono ?_
  rintro e w' ⟨rfl, hb⟩
  rw [HN.out]
  have HB := Lib.hid (below_of HB.out hb)
  have HR := Lib.hid (HR.out.later hb)
  clear hb
  clear c0 c1 c2 c3 c4 c5 c6 c7 c8
  obtain ⟨c0, c1, c2, c3, c4, c5, c6, c7, c8⟩ := blk9 HR.out
  go_wp2_with fail
  go_ret
  exact ⟨ret_b (by rw [HE.out]; (try simp); try omega), HB.out⟩
set_option maxHeartbeats 4000000 in
set_option maxRecDepth 100000 in
theorem nm0 (f : Fr) (a : Option Addr) (c m : Nat) (B : List UInt8) (w : World) (h2 : f.k ≠ 2) (h3 : f.k ≠ 3) :
    Calls Try.prog 33 #[.agg #[.int .i64 f.k, .int .i64 f.n, .int .u64 (f.mb : Nat), .int .u64 (f.mt : Nat), .int .u64 (f.tb : Nat), .int .u64 (f.tt : Nat), .int .u64 (f.s : Nat), .int .u64 (f.a : Nat), .slice a m c]] w fun e w' => e = .returned (.bool (namW f B)) ∧ Below w.heap.size w w' := by
  obtain ⟨w1, hw1⟩ : ∃ w1, w1 = w.alloc (.cells #[.int .i64 f.k, .int .i64 f.n, .int .u64 (f.mb : Nat), .int .u64 (f.mt : Nat), .int .u64 (f.tb : Nat), .int .u64 (f.tt : Nat), .int .u64 (f.s : Nat), .int .u64 (f.a : Nat), .slice a m c] 28) := ⟨_, rfl⟩
  have HB : Hid (Below w.heap.size w w1) := by rw [hw1]; exact (Below.refl _ _).alloc (Nat.le_refl _) _
  have HR : Hid (BlkAt 28 w.heap.size [.int .i64 f.k, .int .i64 f.n, .int .u64 (f.mb : Nat), .int .u64 (f.mt : Nat), .int .u64 (f.tb : Nat), .int .u64 (f.tt : Nat), .int .u64 (f.s : Nat), .int .u64 (f.a : Nat), .slice a m c] w1) := by rw [hw1]; exact BlkAt.new w _
  have k2 : (f.k == 2) = false := by simp [h2]
  have k3 : (f.k == 3) = false := by simp [h3]
  have HE : Hid (namW f B = true) := by show _ = true; unfold namW; rw [if_neg h2, if_neg h3]
  clear h2 h3
  go_enter Try.func33, Try.ntmps33
  go_wp2_with fail
  rw [← hw1]
  clear hw1
  obtain ⟨c0, c1, c2, c3, c4, c5, c6, c7, c8⟩ := blk9 HR.out
  go_wp2_with fail
  go_ret
  exact ⟨ret_b (by rw [HE.out]), HB.out⟩
theorem named_any (f : Fr) (v : Value) (B : List UInt8) (w : World) (hB : Bytes w v B) (hl : B.length ≤ 9000) : Calls Try.prog 33 #[.agg #[.int .i64 f.k, .int .i64 f.n, .int .u64 (f.mb : Nat), .int .u64 (f.mt : Nat), .int .u64 (f.tb : Nat), .int .u64 (f.tt : Nat), .int .u64 (f.s : Nat), .int .u64 (f.a : Nat), v]] w fun e w' => e = .returned (.bool (namW f B)) ∧ Below w.heap.size w w' := by
  obtain ⟨a, c, rfl⟩ := hB.form
  by_cases h2 : f.k = 2
  · cases hn : noneB f.tb f.tt with
    | true => exact nm2a f a c _ B w h2 hn rfl hB hl
    | false => exact nm2b f a c _ B w h2 hn rfl hB hl
  · by_cases h3 : f.k = 3
    · cases hn : noneB f.tb f.tt with
      | true => exact nm3a f a c _ B w h3 hn rfl
      | false =>
        rcases Nat.lt_or_ge B.length 1 with h | h
        · exact nm3b f a c _ B w h3 hn rfl h
        · rcases Nat.lt_or_ge 2048 B.length with h' | h'
          · exact nm3c f a c _ B w h3 hn rfl h h'
          · exact nm3d f a c _ B w h3 hn rfl h h'
    · exact nm0 f a c _ B w h2 h3
/-- May a frame be? -/
def namB (f : Fr) (B : List UInt8) : Bool :=
  if f.k = 1 then decide (f.s = 0) && (decide (f.a = 0) && decide (B.length = 0))
  else if f.k = 2 then !noneB f.tb f.tt && ((ofB B && decide (f.s ≠ 0)) || (decide (B.length = 0) && decide (f.s = 0)))
  else if f.k = 3 then !noneB f.tb f.tt && (decide (f.s = 0) && (decide (f.a = 0) && (decide (0 < B.length) && decide (B.length ≤ 2048))))
  else false
def mayF (f : Fr) (B : List UInt8) : Bool := decide (1 ≤ f.n) && (decide (f.n ≤ 16) && (tagB f.mb f.mt && (tagB f.tb f.tt && (!noneB f.mb f.mt && namB f B))))
theorem may_eq (f : Fr) (B : List UInt8) : (decide (1 ≤ f.n) && (decide (f.n ≤ 16) && (tagB f.mb f.mt && (!noneB f.mb f.mt && (tagB f.tb f.tt && (unnB f B && namW f B)))))) = mayF f B := by
  by_cases h1 : 1 ≤ f.n
  · have e : (unnB f B && namW f B) = namB f B := by
      unfold unnB namW namB
      by_cases k1 : f.k = 1
      · rw [if_neg (by omega), if_neg (by omega), if_pos k1, if_neg (by omega), if_neg (by omega), if_pos k1]; simp
      · by_cases k2 : f.k = 2
        · rw [if_pos k2, if_pos k2, if_neg k1, if_pos k2]
          unfold msgB
          by_cases hl : B.length = 0
          · rw [if_pos hl]
            have : ofB B = false := by unfold ofB; rw [decide_eq_false (by omega)]; rfl
            simp [hl, this]
          · rw [if_neg hl, Bool.eq_iff_iff]
            simp [hl]
            intro _
            rw [and_comm]
            have : 1 ≤ f.s ↔ ¬ f.s = 0 := by omega
            rw [this]
        · by_cases k3 : f.k = 3
          · rw [if_neg k2, if_pos k3, if_neg k2, if_pos k3, if_neg k1, if_neg k2, if_pos k3, Bool.eq_iff_iff]
            simp
            constructor
            · rintro ⟨⟨h1, h2⟩, h3, h4, h5⟩; exact ⟨h3, h1, h2, by omega, h5⟩
            · rintro ⟨h3, h1, h2, h4, h5⟩; exact ⟨⟨h1, h2⟩, h3, by omega, h5⟩
          · simp only [if_neg k1, if_neg k2, if_neg k3]
            have : sameF f Fr.zero B [] = false := by
              cases hs : sameF f Fr.zero B [] with
              | false => rfl
              | true => have := (sameF_iff.1 hs).1; rw [this] at h1; simp [Fr.zero] at h1
            rw [this]; rfl
    rw [e]
    unfold mayF
    cases tagB f.mb f.mt <;> cases tagB f.tb f.tt <;> cases noneB f.mb f.mt <;> rfl
  · unfold mayF; rw [decide_eq_false h1]; rfl
set_option maxHeartbeats 4000000 in
set_option maxRecDepth 100000 in
theorem my0 (f : Fr) (a : Option Addr) (c m : Nat) (B : List UInt8) (w : World) (t0 : decide (1 ≤ f.n) = false) :
    Calls Try.prog 10 #[.agg #[.int .i64 f.k, .int .i64 f.n, .int .u64 (f.mb : Nat), .int .u64 (f.mt : Nat), .int .u64 (f.tb : Nat), .int .u64 (f.tt : Nat), .int .u64 (f.s : Nat), .int .u64 (f.a : Nat), .slice a m c]] w fun e w' => e = .returned (.bool (mayF f B)) ∧ Below w.heap.size w w' := by
  obtain ⟨w1, hw1⟩ : ∃ w1, w1 = w.alloc (.cells #[.int .i64 f.k, .int .i64 f.n, .int .u64 (f.mb : Nat), .int .u64 (f.mt : Nat), .int .u64 (f.tb : Nat), .int .u64 (f.tt : Nat), .int .u64 (f.s : Nat), .int .u64 (f.a : Nat), .slice a m c] 28) := ⟨_, rfl⟩
  have HB : Hid (Below w.heap.size w w1) := by rw [hw1]; exact (Below.refl _ _).alloc (Nat.le_refl _) _
  have HR : Hid (BlkAt 28 w.heap.size [.int .i64 f.k, .int .i64 f.n, .int .u64 (f.mb : Nat), .int .u64 (f.mt : Nat), .int .u64 (f.tb : Nat), .int .u64 (f.tt : Nat), .int .u64 (f.s : Nat), .int .u64 (f.a : Nat), .slice a m c] w1) := by rw [hw1]; exact BlkAt.new w _
  have q0 : f.n < 1 := by simpa using t0
  have HE : Hid (mayF f B = false) := by show _ = false; rw [← may_eq, t0]; try simp
  clear t0
  go_enter Try.func10, Try.ntmps10
  go_wp2_with fail
  rw [← hw1]
  clear hw1
  obtain ⟨c0, c1, c2, c3, c4, c5, c6, c7, c8⟩ := blk9 HR.out
  go_wp2_with fail
  go_ret
  exact ⟨ret_b (by rw [HE.out]; try simp), HB.out⟩
set_option maxHeartbeats 4000000 in
set_option maxRecDepth 100000 in
theorem my1 (f : Fr) (a : Option Addr) (c m : Nat) (B : List UInt8) (w : World) (t0 : decide (1 ≤ f.n) = true) (t1 : decide (f.n ≤ 16) = false) :
    Calls Try.prog 10 #[.agg #[.int .i64 f.k, .int .i64 f.n, .int .u64 (f.mb : Nat), .int .u64 (f.mt : Nat), .int .u64 (f.tb : Nat), .int .u64 (f.tt : Nat), .int .u64 (f.s : Nat), .int .u64 (f.a : Nat), .slice a m c]] w fun e w' => e = .returned (.bool (mayF f B)) ∧ Below w.heap.size w w' := by
  obtain ⟨w1, hw1⟩ : ∃ w1, w1 = w.alloc (.cells #[.int .i64 f.k, .int .i64 f.n, .int .u64 (f.mb : Nat), .int .u64 (f.mt : Nat), .int .u64 (f.tb : Nat), .int .u64 (f.tt : Nat), .int .u64 (f.s : Nat), .int .u64 (f.a : Nat), .slice a m c] 28) := ⟨_, rfl⟩
  have HB : Hid (Below w.heap.size w w1) := by rw [hw1]; exact (Below.refl _ _).alloc (Nat.le_refl _) _
  have HR : Hid (BlkAt 28 w.heap.size [.int .i64 f.k, .int .i64 f.n, .int .u64 (f.mb : Nat), .int .u64 (f.mt : Nat), .int .u64 (f.tb : Nat), .int .u64 (f.tt : Nat), .int .u64 (f.s : Nat), .int .u64 (f.a : Nat), .slice a m c] w1) := by rw [hw1]; exact BlkAt.new w _
  have q0 : (1 : Int) ≤ f.n := by simpa using t0
  have q1 : (16 : Int) < f.n := by simpa using t1
  have HE : Hid (mayF f B = false) := by show _ = false; rw [← may_eq, t0, t1]; try simp
  clear t0 t1
  go_enter Try.func10, Try.ntmps10
  go_wp2_with fail
  rw [← hw1]
  clear hw1
  obtain ⟨c0, c1, c2, c3, c4, c5, c6, c7, c8⟩ := blk9 HR.out
  go_wp2_with fail
  go_ret
  exact ⟨ret_b (by rw [HE.out]; try simp), HB.out⟩
set_option maxHeartbeats 4000000 in
set_option maxRecDepth 100000 in
theorem my2 (f : Fr) (a : Option Addr) (c m : Nat) (B : List UInt8) (w : World) (t0 : decide (1 ≤ f.n) = true) (t1 : decide (f.n ≤ 16) = true) (t2 : tagB f.mb f.mt = false) :
    Calls Try.prog 10 #[.agg #[.int .i64 f.k, .int .i64 f.n, .int .u64 (f.mb : Nat), .int .u64 (f.mt : Nat), .int .u64 (f.tb : Nat), .int .u64 (f.tt : Nat), .int .u64 (f.s : Nat), .int .u64 (f.a : Nat), .slice a m c]] w fun e w' => e = .returned (.bool (mayF f B)) ∧ Below w.heap.size w w' := by
  obtain ⟨w1, hw1⟩ : ∃ w1, w1 = w.alloc (.cells #[.int .i64 f.k, .int .i64 f.n, .int .u64 (f.mb : Nat), .int .u64 (f.mt : Nat), .int .u64 (f.tb : Nat), .int .u64 (f.tt : Nat), .int .u64 (f.s : Nat), .int .u64 (f.a : Nat), .slice a m c] 28) := ⟨_, rfl⟩
  have HB : Hid (Below w.heap.size w w1) := by rw [hw1]; exact (Below.refl _ _).alloc (Nat.le_refl _) _
  have HR : Hid (BlkAt 28 w.heap.size [.int .i64 f.k, .int .i64 f.n, .int .u64 (f.mb : Nat), .int .u64 (f.mt : Nat), .int .u64 (f.tb : Nat), .int .u64 (f.tt : Nat), .int .u64 (f.s : Nat), .int .u64 (f.a : Nat), .slice a m c] w1) := by rw [hw1]; exact BlkAt.new w _
  have q0 : (1 : Int) ≤ f.n := by simpa using t0
  have q1 : f.n ≤ (16 : Int) := by simpa using t1
  have H2 := Lib.hid t2
  have HE : Hid (mayF f B = false) := by show _ = false; rw [← may_eq, t0, t1, t2]; try simp
  clear t0 t1 t2
  go_enter Try.func10, Try.ntmps10
  go_wp2_with fail
  rw [← hw1]
  clear hw1
  obtain ⟨c0, c1, c2, c3, c4, c5, c6, c7, c8⟩ := blk9 HR.out
  go_wp2_with fail
  refine (tagW_any _ _ _).mono ?_
  rintro e w' ⟨rfl, hb⟩
  rw [H2.out]
  have HB := Lib.hid (below_of HB.out hb)
  have HR := Lib.hid (HR.out.later hb)
  clear hb
  clear c0 c1 c2 c3 c4 c5 c6 c7 c8
  obtain ⟨c0, c1, c2, c3, c4, c5, c6, c7, c8⟩ := blk9 HR.out
  go_wp2_with fail
  go_ret
  exact ⟨ret_b (by rw [HE.out]; try simp), HB.out⟩
set_option maxHeartbeats 4000000 in
set_option maxRecDepth 100000 in
theorem my3 (f : Fr) (a : Option Addr) (c m : Nat) (B : List UInt8) (w : World) (t0 : decide (1 ≤ f.n) = true) (t1 : decide (f.n ≤ 16) = true) (t2 : tagB f.mb f.mt = true) (t3 : noneB f.mb f.mt = true) :
    Calls Try.prog 10 #[.agg #[.int .i64 f.k, .int .i64 f.n, .int .u64 (f.mb : Nat), .int .u64 (f.mt : Nat), .int .u64 (f.tb : Nat), .int .u64 (f.tt : Nat), .int .u64 (f.s : Nat), .int .u64 (f.a : Nat), .slice a m c]] w fun e w' => e = .returned (.bool (mayF f B)) ∧ Below w.heap.size w w' := by
  obtain ⟨w1, hw1⟩ : ∃ w1, w1 = w.alloc (.cells #[.int .i64 f.k, .int .i64 f.n, .int .u64 (f.mb : Nat), .int .u64 (f.mt : Nat), .int .u64 (f.tb : Nat), .int .u64 (f.tt : Nat), .int .u64 (f.s : Nat), .int .u64 (f.a : Nat), .slice a m c] 28) := ⟨_, rfl⟩
  have HB : Hid (Below w.heap.size w w1) := by rw [hw1]; exact (Below.refl _ _).alloc (Nat.le_refl _) _
  have HR : Hid (BlkAt 28 w.heap.size [.int .i64 f.k, .int .i64 f.n, .int .u64 (f.mb : Nat), .int .u64 (f.mt : Nat), .int .u64 (f.tb : Nat), .int .u64 (f.tt : Nat), .int .u64 (f.s : Nat), .int .u64 (f.a : Nat), .slice a m c] w1) := by rw [hw1]; exact BlkAt.new w _
  have q0 : (1 : Int) ≤ f.n := by simpa using t0
  have q1 : f.n ≤ (16 : Int) := by simpa using t1
  have H2 := Lib.hid t2
  have H3 := Lib.hid t3
  have HE : Hid (mayF f B = false) := by show _ = false; rw [← may_eq, t0, t1, t2, t3]; try simp
  clear t0 t1 t2 t3
  go_enter Try.func10, Try.ntmps10
  go_wp2_with fail
  rw [← hw1]
  clear hw1
  obtain ⟨c0, c1, c2, c3, c4, c5, c6, c7, c8⟩ := blk9 HR.out
  go_wp2_with fail
  refine (tagW_any _ _ _).mono ?_
  rintro e w' ⟨rfl, hb⟩
  rw [H2.out]
  have HB := Lib.hid (below_of HB.out hb)
  have HR := Lib.hid (HR.out.later hb)
  clear hb
  clear c0 c1 c2 c3 c4 c5 c6 c7 c8
  obtain ⟨c0, c1, c2, c3, c4, c5, c6, c7, c8⟩ := blk9 HR.out
  go_wp2_with fail
  refine (noneW_any _ _ _).mono ?_
  rintro e w' ⟨rfl, hb⟩
  rw [H3.out]
  have HB := Lib.hid (below_of HB.out hb)
  have HR := Lib.hid (HR.out.later hb)
  clear hb
  clear c0 c1 c2 c3 c4 c5 c6 c7 c8
  obtain ⟨c0, c1, c2, c3, c4, c5, c6, c7, c8⟩ := blk9 HR.out
  go_wp2_with fail
  go_ret
  exact ⟨ret_b (by rw [HE.out]; try simp), HB.out⟩
set_option maxHeartbeats 4000000 in
set_option maxRecDepth 100000 in
theorem my4 (f : Fr) (a : Option Addr) (c m : Nat) (B : List UInt8) (w : World) (t0 : decide (1 ≤ f.n) = true) (t1 : decide (f.n ≤ 16) = true) (t2 : tagB f.mb f.mt = true) (t3 : noneB f.mb f.mt = false) (t4 : tagB f.tb f.tt = false) :
    Calls Try.prog 10 #[.agg #[.int .i64 f.k, .int .i64 f.n, .int .u64 (f.mb : Nat), .int .u64 (f.mt : Nat), .int .u64 (f.tb : Nat), .int .u64 (f.tt : Nat), .int .u64 (f.s : Nat), .int .u64 (f.a : Nat), .slice a m c]] w fun e w' => e = .returned (.bool (mayF f B)) ∧ Below w.heap.size w w' := by
  obtain ⟨w1, hw1⟩ : ∃ w1, w1 = w.alloc (.cells #[.int .i64 f.k, .int .i64 f.n, .int .u64 (f.mb : Nat), .int .u64 (f.mt : Nat), .int .u64 (f.tb : Nat), .int .u64 (f.tt : Nat), .int .u64 (f.s : Nat), .int .u64 (f.a : Nat), .slice a m c] 28) := ⟨_, rfl⟩
  have HB : Hid (Below w.heap.size w w1) := by rw [hw1]; exact (Below.refl _ _).alloc (Nat.le_refl _) _
  have HR : Hid (BlkAt 28 w.heap.size [.int .i64 f.k, .int .i64 f.n, .int .u64 (f.mb : Nat), .int .u64 (f.mt : Nat), .int .u64 (f.tb : Nat), .int .u64 (f.tt : Nat), .int .u64 (f.s : Nat), .int .u64 (f.a : Nat), .slice a m c] w1) := by rw [hw1]; exact BlkAt.new w _
  have q0 : (1 : Int) ≤ f.n := by simpa using t0
  have q1 : f.n ≤ (16 : Int) := by simpa using t1
  have H2 := Lib.hid t2
  have H3 := Lib.hid t3
  have H4 := Lib.hid t4
  have HE : Hid (mayF f B = false) := by show _ = false; rw [← may_eq, t0, t1, t2, t3, t4]; try simp
  clear t0 t1 t2 t3 t4
  go_enter Try.func10, Try.ntmps10
  go_wp2_with fail
  rw [← hw1]
  clear hw1
  obtain ⟨c0, c1, c2, c3, c4, c5, c6, c7, c8⟩ := blk9 HR.out
  go_wp2_with fail
  refine (tagW_any _ _ _).mono ?_
  rintro e w' ⟨rfl, hb⟩
  rw [H2.out]
  have HB := Lib.hid (below_of HB.out hb)
  have HR := Lib.hid (HR.out.later hb)
  clear hb
  clear c0 c1 c2 c3 c4 c5 c6 c7 c8
  obtain ⟨c0, c1, c2, c3, c4, c5, c6, c7, c8⟩ := blk9 HR.out
  go_wp2_with fail
  refine (noneW_any _ _ _).mono ?_
  rintro e w' ⟨rfl, hb⟩
  rw [H3.out]
  have HB := Lib.hid (below_of HB.out hb)
  have HR := Lib.hid (HR.out.later hb)
  clear hb
  clear c0 c1 c2 c3 c4 c5 c6 c7 c8
  obtain ⟨c0, c1, c2, c3, c4, c5, c6, c7, c8⟩ := blk9 HR.out
  go_wp2_with fail
  refine (tagW_any _ _ _).mono ?_
  rintro e w' ⟨rfl, hb⟩
  rw [H4.out]
  have HB := Lib.hid (below_of HB.out hb)
  have HR := Lib.hid (HR.out.later hb)
  clear hb
  clear c0 c1 c2 c3 c4 c5 c6 c7 c8
  obtain ⟨c0, c1, c2, c3, c4, c5, c6, c7, c8⟩ := blk9 HR.out
  go_wp2_with fail
  go_ret
  exact ⟨ret_b (by rw [HE.out]; try simp), HB.out⟩
set_option maxHeartbeats 4000000 in
set_option maxRecDepth 100000 in
theorem my5 (f : Fr) (a : Option Addr) (c m : Nat) (B : List UInt8) (w : World) (t0 : decide (1 ≤ f.n) = true) (t1 : decide (f.n ≤ 16) = true) (t2 : tagB f.mb f.mt = true) (t3 : noneB f.mb f.mt = false) (t4 : tagB f.tb f.tt = true) (t5 : unnB f B = false) (hm : m = B.length) (hB : Bytes w (.slice a B.length c) B) (hl : B.length ≤ 9000) :
    Calls Try.prog 10 #[.agg #[.int .i64 f.k, .int .i64 f.n, .int .u64 (f.mb : Nat), .int .u64 (f.mt : Nat), .int .u64 (f.tb : Nat), .int .u64 (f.tt : Nat), .int .u64 (f.s : Nat), .int .u64 (f.a : Nat), .slice a m c]] w fun e w' => e = .returned (.bool (mayF f B)) ∧ Below w.heap.size w w' := by
  obtain ⟨w1, hw1⟩ : ∃ w1, w1 = w.alloc (.cells #[.int .i64 f.k, .int .i64 f.n, .int .u64 (f.mb : Nat), .int .u64 (f.mt : Nat), .int .u64 (f.tb : Nat), .int .u64 (f.tt : Nat), .int .u64 (f.s : Nat), .int .u64 (f.a : Nat), .slice a m c] 28) := ⟨_, rfl⟩
  have HB : Hid (Below w.heap.size w w1) := by rw [hw1]; exact (Below.refl _ _).alloc (Nat.le_refl _) _
  have HR : Hid (BlkAt 28 w.heap.size [.int .i64 f.k, .int .i64 f.n, .int .u64 (f.mb : Nat), .int .u64 (f.mt : Nat), .int .u64 (f.tb : Nat), .int .u64 (f.tt : Nat), .int .u64 (f.s : Nat), .int .u64 (f.a : Nat), .slice a m c] w1) := by rw [hw1]; exact BlkAt.new w _
  have q0 : (1 : Int) ≤ f.n := by simpa using t0
  have q1 : f.n ≤ (16 : Int) := by simpa using t1
  have H2 := Lib.hid t2
  have H3 := Lib.hid t3
  have H4 := Lib.hid t4
  have H5 := Lib.hid t5
  have HE : Hid (mayF f B = false) := by show _ = false; rw [← may_eq, t0, t1, t2, t3, t4, t5]; try simp
  have HU := Lib.hid (fun W h => unn_any f _ B W (hB.later h))
  rw [← hm] at HU
  clear t0 t1 t2 t3 t4 t5 hm hB hl
  go_enter Try.func10, Try.ntmps10
  go_wp2_with fail
  rw [← hw1]
  clear hw1
  obtain ⟨c0, c1, c2, c3, c4, c5, c6, c7, c8⟩ := blk9 HR.out
  go_wp2_with fail
  refine (tagW_any _ _ _).mono ?_
  rintro e w' ⟨rfl, hb⟩
  rw [H2.out]
  have HB := Lib.hid (below_of HB.out hb)
  have HR := Lib.hid (HR.out.later hb)
  clear hb
  clear c0 c1 c2 c3 c4 c5 c6 c7 c8
  obtain ⟨c0, c1, c2, c3, c4, c5, c6, c7, c8⟩ := blk9 HR.out
  go_wp2_with fail
  refine (noneW_any _ _ _).mono ?_
  rintro e w' ⟨rfl, hb⟩
  rw [H3.out]
  have HB := Lib.hid (below_of HB.out hb)
  have HR := Lib.hid (HR.out.later hb)
  clear hb
  clear c0 c1 c2 c3 c4 c5 c6 c7 c8
  obtain ⟨c0, c1, c2, c3, c4, c5, c6, c7, c8⟩ := blk9 HR.out
  go_wp2_with fail
  refine (tagW_any _ _ _).mono ?_
  rintro e w' ⟨rfl, hb⟩
  rw [H4.out]
  have HB := Lib.hid (below_of HB.out hb)
  have HR := Lib.hid (HR.out.later hb)
  clear hb
  clear c0 c1 c2 c3 c4 c5 c6 c7 c8
  obtain ⟨c0, c1, c2, c3, c4, c5, c6, c7, c8⟩ := blk9 HR.out
  go_wp2_with fail
  refine (HU.out _ HB.out).mono ?_
  rintro e w' ⟨g, u, C, rfl, hu, hs, hb⟩
  have HB := Lib.hid (below_of HB.out hb)
  have HR := Lib.hid (HR.out.later hb)
  have HS := Lib.hid hs
  have HZ := Lib.hid hu
  clear hb hs hu
  clear c0 c1 c2 c3 c4 c5 c6 c7 c8
  go_wp2_with fail
  refine (sameZ_any g u C _ HZ.out).mono ?_
  rintro e w' ⟨rfl, hb⟩
  rw [HS.out, H5.out]
  have HB := Lib.hid (below_of HB.out hb)
  have HR := Lib.hid (HR.out.later hb)
  clear hb
  obtain ⟨c0, c1, c2, c3, c4, c5, c6, c7, c8⟩ := blk9 HR.out
  go_wp2_with fail
  go_ret
  exact ⟨ret_b (by rw [HE.out]; try simp), HB.out⟩
set_option maxHeartbeats 4000000 in
set_option maxRecDepth 100000 in
theorem my6 (f : Fr) (a : Option Addr) (c m : Nat) (B : List UInt8) (w : World) (t0 : decide (1 ≤ f.n) = true) (t1 : decide (f.n ≤ 16) = true) (t2 : tagB f.mb f.mt = true) (t3 : noneB f.mb f.mt = false) (t4 : tagB f.tb f.tt = true) (t5 : unnB f B = true) (t6 : namW f B = false) (hm : m = B.length) (hB : Bytes w (.slice a B.length c) B) (hl : B.length ≤ 9000) :
    Calls Try.prog 10 #[.agg #[.int .i64 f.k, .int .i64 f.n, .int .u64 (f.mb : Nat), .int .u64 (f.mt : Nat), .int .u64 (f.tb : Nat), .int .u64 (f.tt : Nat), .int .u64 (f.s : Nat), .int .u64 (f.a : Nat), .slice a m c]] w fun e w' => e = .returned (.bool (mayF f B)) ∧ Below w.heap.size w w' := by
  obtain ⟨w1, hw1⟩ : ∃ w1, w1 = w.alloc (.cells #[.int .i64 f.k, .int .i64 f.n, .int .u64 (f.mb : Nat), .int .u64 (f.mt : Nat), .int .u64 (f.tb : Nat), .int .u64 (f.tt : Nat), .int .u64 (f.s : Nat), .int .u64 (f.a : Nat), .slice a m c] 28) := ⟨_, rfl⟩
  have HB : Hid (Below w.heap.size w w1) := by rw [hw1]; exact (Below.refl _ _).alloc (Nat.le_refl _) _
  have HR : Hid (BlkAt 28 w.heap.size [.int .i64 f.k, .int .i64 f.n, .int .u64 (f.mb : Nat), .int .u64 (f.mt : Nat), .int .u64 (f.tb : Nat), .int .u64 (f.tt : Nat), .int .u64 (f.s : Nat), .int .u64 (f.a : Nat), .slice a m c] w1) := by rw [hw1]; exact BlkAt.new w _
  have q0 : (1 : Int) ≤ f.n := by simpa using t0
  have q1 : f.n ≤ (16 : Int) := by simpa using t1
  have H2 := Lib.hid t2
  have H3 := Lib.hid t3
  have H4 := Lib.hid t4
  have H5 := Lib.hid t5
  have H6 := Lib.hid t6
  have HE : Hid (mayF f B = false) := by show _ = false; rw [← may_eq, t0, t1, t2, t3, t4, t5, t6]; try simp
  have HU := Lib.hid (fun W h => unn_any f _ B W (hB.later h))
  rw [← hm] at HU
  have HM := Lib.hid (fun W h => named_any f _ B W (hB.later h) hl)
  rw [← hm] at HM
  clear t0 t1 t2 t3 t4 t5 t6 hm hB hl
  go_enter Try.func10, Try.ntmps10
  go_wp2_with fail
  rw [← hw1]
  clear hw1
  obtain ⟨c0, c1, c2, c3, c4, c5, c6, c7, c8⟩ := blk9 HR.out
  go_wp2_with fail
  refine (tagW_any _ _ _).mono ?_
  rintro e w' ⟨rfl, hb⟩
  rw [H2.out]
  have HB := Lib.hid (below_of HB.out hb)
  have HR := Lib.hid (HR.out.later hb)
  clear hb
  clear c0 c1 c2 c3 c4 c5 c6 c7 c8
  obtain ⟨c0, c1, c2, c3, c4, c5, c6, c7, c8⟩ := blk9 HR.out
  go_wp2_with fail
  refine (noneW_any _ _ _).mono ?_
  rintro e w' ⟨rfl, hb⟩
  rw [H3.out]
  have HB := Lib.hid (below_of HB.out hb)
  have HR := Lib.hid (HR.out.later hb)
  clear hb
  clear c0 c1 c2 c3 c4 c5 c6 c7 c8
  obtain ⟨c0, c1, c2, c3, c4, c5, c6, c7, c8⟩ := blk9 HR.out
  go_wp2_with fail
  refine (tagW_any _ _ _).mono ?_
  rintro e w' ⟨rfl, hb⟩
  rw [H4.out]
  have HB := Lib.hid (below_of HB.out hb)
  have HR := Lib.hid (HR.out.later hb)
  clear hb
  clear c0 c1 c2 c3 c4 c5 c6 c7 c8
  obtain ⟨c0, c1, c2, c3, c4, c5, c6, c7, c8⟩ := blk9 HR.out
  go_wp2_with fail
  refine (HU.out _ HB.out).mono ?_
  rintro e w' ⟨g, u, C, rfl, hu, hs, hb⟩
  have HB := Lib.hid (below_of HB.out hb)
  have HR := Lib.hid (HR.out.later hb)
  have HS := Lib.hid hs
  have HZ := Lib.hid hu
  clear hb hs hu
  clear c0 c1 c2 c3 c4 c5 c6 c7 c8
  go_wp2_with fail
  refine (sameZ_any g u C _ HZ.out).mono ?_
  rintro e w' ⟨rfl, hb⟩
  rw [HS.out, H5.out]
  have HB := Lib.hid (below_of HB.out hb)
  have HR := Lib.hid (HR.out.later hb)
  clear hb
  obtain ⟨c0, c1, c2, c3, c4, c5, c6, c7, c8⟩ := blk9 HR.out
  go_wp2_with fail
  refine (HM.out _ HB.out).mono ?_
  rintro e w' ⟨rfl, hb⟩
  rw [H6.out]
  have HB := Lib.hid (below_of HB.out hb)
  clear hb c0 c1 c2 c3 c4 c5 c6 c7 c8
  go_wp2_with fail
  go_ret
  exact ⟨ret_b (by rw [HE.out]; try simp), HB.out⟩
set_option maxHeartbeats 4000000 in
set_option maxRecDepth 100000 in
theorem my7 (f : Fr) (a : Option Addr) (c m : Nat) (B : List UInt8) (w : World) (t0 : decide (1 ≤ f.n) = true) (t1 : decide (f.n ≤ 16) = true) (t2 : tagB f.mb f.mt = true) (t3 : noneB f.mb f.mt = false) (t4 : tagB f.tb f.tt = true) (t5 : unnB f B = true) (t6 : namW f B = true) (hm : m = B.length) (hB : Bytes w (.slice a B.length c) B) (hl : B.length ≤ 9000) :
    Calls Try.prog 10 #[.agg #[.int .i64 f.k, .int .i64 f.n, .int .u64 (f.mb : Nat), .int .u64 (f.mt : Nat), .int .u64 (f.tb : Nat), .int .u64 (f.tt : Nat), .int .u64 (f.s : Nat), .int .u64 (f.a : Nat), .slice a m c]] w fun e w' => e = .returned (.bool (mayF f B)) ∧ Below w.heap.size w w' := by
  obtain ⟨w1, hw1⟩ : ∃ w1, w1 = w.alloc (.cells #[.int .i64 f.k, .int .i64 f.n, .int .u64 (f.mb : Nat), .int .u64 (f.mt : Nat), .int .u64 (f.tb : Nat), .int .u64 (f.tt : Nat), .int .u64 (f.s : Nat), .int .u64 (f.a : Nat), .slice a m c] 28) := ⟨_, rfl⟩
  have HB : Hid (Below w.heap.size w w1) := by rw [hw1]; exact (Below.refl _ _).alloc (Nat.le_refl _) _
  have HR : Hid (BlkAt 28 w.heap.size [.int .i64 f.k, .int .i64 f.n, .int .u64 (f.mb : Nat), .int .u64 (f.mt : Nat), .int .u64 (f.tb : Nat), .int .u64 (f.tt : Nat), .int .u64 (f.s : Nat), .int .u64 (f.a : Nat), .slice a m c] w1) := by rw [hw1]; exact BlkAt.new w _
  have q0 : (1 : Int) ≤ f.n := by simpa using t0
  have q1 : f.n ≤ (16 : Int) := by simpa using t1
  have H2 := Lib.hid t2
  have H3 := Lib.hid t3
  have H4 := Lib.hid t4
  have H5 := Lib.hid t5
  have H6 := Lib.hid t6
  have HE : Hid (mayF f B = true) := by show _ = true; rw [← may_eq, t0, t1, t2, t3, t4, t5, t6]; try simp
  have HU := Lib.hid (fun W h => unn_any f _ B W (hB.later h))
  rw [← hm] at HU
  have HM := Lib.hid (fun W h => named_any f _ B W (hB.later h) hl)
  rw [← hm] at HM
  clear t0 t1 t2 t3 t4 t5 t6 hm hB hl
  go_enter Try.func10, Try.ntmps10
  go_wp2_with fail
  rw [← hw1]
  clear hw1
  obtain ⟨c0, c1, c2, c3, c4, c5, c6, c7, c8⟩ := blk9 HR.out
  go_wp2_with fail
  refine (tagW_any _ _ _).mono ?_
  rintro e w' ⟨rfl, hb⟩
  rw [H2.out]
  have HB := Lib.hid (below_of HB.out hb)
  have HR := Lib.hid (HR.out.later hb)
  clear hb
  clear c0 c1 c2 c3 c4 c5 c6 c7 c8
  obtain ⟨c0, c1, c2, c3, c4, c5, c6, c7, c8⟩ := blk9 HR.out
  go_wp2_with fail
  refine (noneW_any _ _ _).mono ?_
  rintro e w' ⟨rfl, hb⟩
  rw [H3.out]
  have HB := Lib.hid (below_of HB.out hb)
  have HR := Lib.hid (HR.out.later hb)
  clear hb
  clear c0 c1 c2 c3 c4 c5 c6 c7 c8
  obtain ⟨c0, c1, c2, c3, c4, c5, c6, c7, c8⟩ := blk9 HR.out
  go_wp2_with fail
  refine (tagW_any _ _ _).mono ?_
  rintro e w' ⟨rfl, hb⟩
  rw [H4.out]
  have HB := Lib.hid (below_of HB.out hb)
  have HR := Lib.hid (HR.out.later hb)
  clear hb
  clear c0 c1 c2 c3 c4 c5 c6 c7 c8
  obtain ⟨c0, c1, c2, c3, c4, c5, c6, c7, c8⟩ := blk9 HR.out
  go_wp2_with fail
  refine (HU.out _ HB.out).mono ?_
  rintro e w' ⟨g, u, C, rfl, hu, hs, hb⟩
  have HB := Lib.hid (below_of HB.out hb)
  have HR := Lib.hid (HR.out.later hb)
  have HS := Lib.hid hs
  have HZ := Lib.hid hu
  clear hb hs hu
  clear c0 c1 c2 c3 c4 c5 c6 c7 c8
  go_wp2_with fail
  refine (sameZ_any g u C _ HZ.out).mono ?_
  rintro e w' ⟨rfl, hb⟩
  rw [HS.out, H5.out]
  have HB := Lib.hid (below_of HB.out hb)
  have HR := Lib.hid (HR.out.later hb)
  clear hb
  obtain ⟨c0, c1, c2, c3, c4, c5, c6, c7, c8⟩ := blk9 HR.out
  go_wp2_with fail
  refine (HM.out _ HB.out).mono ?_
  rintro e w' ⟨rfl, hb⟩
  rw [H6.out]
  have HB := Lib.hid (below_of HB.out hb)
  clear hb c0 c1 c2 c3 c4 c5 c6 c7 c8
  go_wp2_with fail
  go_ret
  exact ⟨ret_b (by rw [HE.out]; try simp), HB.out⟩
theorem mayW6_any (f : Fr) (v : Value) (B : List UInt8) (w : World) (hB : Bytes w v B) (hl : B.length ≤ 9000) : Calls Try.prog 10 #[.agg #[.int .i64 f.k, .int .i64 f.n, .int .u64 (f.mb : Nat), .int .u64 (f.mt : Nat), .int .u64 (f.tb : Nat), .int .u64 (f.tt : Nat), .int .u64 (f.s : Nat), .int .u64 (f.a : Nat), v]] w fun e w' => e = .returned (.bool (mayF f B)) ∧ Below w.heap.size w w' := by
  obtain ⟨a, c, rfl⟩ := hB.form
  cases e0 : decide (1 ≤ f.n) with
  | false => exact my0 f a c _ B w e0
  | true =>
  cases e1 : decide (f.n ≤ 16) with
  | false => exact my1 f a c _ B w e0 e1
  | true =>
  cases e2 : tagB f.mb f.mt with
  | false => exact my2 f a c _ B w e0 e1 e2
  | true =>
  cases e3 : noneB f.mb f.mt with
  | true => exact my3 f a c _ B w e0 e1 e2 e3
  | false =>
  cases e4 : tagB f.tb f.tt with
  | false => exact my4 f a c _ B w e0 e1 e2 e3 e4
  | true =>
  cases e5 : unnB f B with
  | false => exact my5 f a c _ B w e0 e1 e2 e3 e4 e5 rfl hB hl
  | true =>
  cases e6 : namW f B with
  | false => exact my6 f a c _ B w e0 e1 e2 e3 e4 e5 e6 rfl hB hl
  | true =>
  exact my7 f a c _ B w e0 e1 e2 e3 e4 e5 e6 rfl hB hl
end Go.Proofs.Ytcahfapffhcceaa

namespace Go.Proofs.Ytcahfapffhcceaa
namespace Sm

/-- x + y with carry, of words. -/
def addC (x y : Nat) : Nat := if x + y < 65536 then x + y else x + y - 65535
/-- A number's words, summed with carry. -/
def canon (n : Nat) : Nat := if n = 0 then 0 else (n - 1) % 65535 + 1

theorem addC_lt {x y : Nat} (hx : x < 65536) (hy : y < 65536) : addC x y < 65536 := by unfold addC; split <;> omega
theorem canon_lt (n : Nat) : canon n < 65536 := by unfold canon; split <;> omega
theorem addC_canon (n w : Nat) (hw : w < 65536) : addC (canon n) w = canon (n + w) := by
  unfold addC canon
  by_cases h : n = 0
  · subst h
    by_cases h2 : w = 0
    · subst h2; rfl
    · simp only [if_true]; rw [if_neg (by omega : ¬ 0 + w = 0)]; split <;> omega
  · simp only [if_neg h, if_neg (show ¬ n + w = 0 by omega)]
    split <;> omega
theorem canon_id {n : Nat} (h : n < 65536) : canon n = n := by unfold canon; split <;> omega
theorem addC_canon2 (n m : Nat) : addC (canon n) (canon m) = canon (n + m) := by
  rw [addC_canon _ _ (canon_lt m)]
  unfold canon
  by_cases h : m = 0
  · subst h; simp
  · rw [if_neg h, if_neg (by omega : ¬ n + ((m - 1) % 65535 + 1) = 0), if_neg (by omega : ¬ n + m = 0)]; omega
theorem addC_comm (x y : Nat) : addC x y = addC y x := by unfold addC; rw [Nat.add_comm]
theorem addC_zero {x : Nat} (h : x < 65536) : addC x 0 = x := by unfold addC; rw [if_pos (by omega)]; rfl
theorem addC_rest {x : Nat} (h : x < 65536) : addC x (65535 - x) = 65535 := by unfold addC; split <;> omega
theorem addC_assoc {x y z : Nat} (hx : x < 65536) (hy : y < 65536) (hz : z < 65536) : addC (addC x y) z = addC x (addC y z) := by
  unfold addC; (repeat' split) <;> omega

/-- The byte at a place, a nought behind the end. -/
def at0 (l : List UInt8) (i : Nat) : Nat := (l[i]?.map UInt8.toNat).getD 0
theorem at0_lt (l : List UInt8) (i : Nat) : at0 l i < 256 := by
  unfold at0
  cases h : l[i]? with
  | none => simp
  | some x => simp; exact x.toNat_lt
/-- Word k. -/
def word (l : List UInt8) (k : Nat) : Nat := 256 * at0 l (2 * k) + at0 l (2 * k + 1)
theorem word_lt (l : List UInt8) (k : Nat) : word l k < 65536 := by
  unfold word; have := at0_lt l (2 * k); have := at0_lt l (2 * k + 1); omega
/-- The sum of the first k words, without carry. -/
def upto (l : List UInt8) : Nat → Nat
  | 0 => 0
  | k + 1 => upto l k + word l k
/-- The sum of bytes. -/
def tot (l : List UInt8) : Nat := canon (upto l ((l.length + 1) / 2))
theorem tot_lt (l : List UInt8) : tot l < 65536 := canon_lt _
theorem step (l : List UInt8) (k : Nat) : addC (canon (upto l k)) (word l k) = canon (upto l (k + 1)) := addC_canon _ _ (word_lt l k)

theorem at0_zero {l : List UInt8} {i : Nat} (h : l.length ≤ i) : at0 l i = 0 := by
  unfold at0; rw [List.getElem?_eq_none h]; rfl
theorem upto_more (l : List UInt8) : ∀ d : Nat, upto l ((l.length + 1) / 2 + d) = upto l ((l.length + 1) / 2)
  | 0 => rfl
  | d + 1 => by
    show upto l ((l.length + 1) / 2 + d) + word l ((l.length + 1) / 2 + d) = _
    rw [upto_more l d]
    unfold word
    rw [at0_zero (by omega), at0_zero (by omega)]
    rfl
theorem upto_any (l : List UInt8) {k : Nat} (h : (l.length + 1) / 2 ≤ k) : upto l k = upto l ((l.length + 1) / 2) := by
  have := upto_more l (k - (l.length + 1) / 2)
  rwa [show (l.length + 1) / 2 + (k - (l.length + 1) / 2) = k by omega] at this

theorem at0_left {a b : List UInt8} {i : Nat} (h : i < a.length) : at0 (a ++ b) i = at0 a i := by
  unfold at0; rw [List.getElem?_append_left h]
theorem at0_right {a b : List UInt8} {i : Nat} (h : a.length ≤ i) : at0 (a ++ b) i = at0 b (i - a.length) := by
  unfold at0; rw [List.getElem?_append_right h]
theorem upto_left {a b : List UInt8} : ∀ k : Nat, 2 * k ≤ a.length → upto (a ++ b) k = upto a k
  | 0, _ => rfl
  | k + 1, h => by
    show upto (a ++ b) k + word (a ++ b) k = upto a k + word a k
    rw [upto_left k (by omega)]
    unfold word
    rw [at0_left (by omega), at0_left (by omega)]
theorem upto_right {a b : List UInt8} {n : Nat} (h : a.length = 2 * n) : ∀ k : Nat, upto (a ++ b) (n + k) = upto a n + upto b k
  | 0 => by rw [Nat.add_zero, upto_left n (by omega)]; rfl
  | k + 1 => by
    show upto (a ++ b) (n + k) + word (a ++ b) (n + k) = upto a n + (upto b k + word b k)
    rw [upto_right h k]
    unfold word
    rw [at0_right (by omega), at0_right (by omega), h, show 2 * (n + k) - 2 * n = 2 * k by omega, show 2 * (n + k) + 1 - 2 * n = 2 * k + 1 by omega]
    omega
/-- All words' sum, without carry. -/
def all (l : List UInt8) : Nat := upto l ((l.length + 1) / 2)
theorem tot_all (l : List UInt8) : tot l = canon (all l) := rfl
theorem all_append {a b : List UInt8} {n : Nat} (h : a.length = 2 * n) : all (a ++ b) = all a + all b := by
  unfold all
  rw [List.length_append, show (a.length + b.length + 1) / 2 = n + (b.length + 1) / 2 by omega, upto_right h, show (a.length + 1) / 2 = n by omega]
theorem tot_append {a b : List UInt8} {n : Nat} (h : a.length = 2 * n) : tot (a ++ b) = addC (tot a) (tot b) := by
  rw [tot_all, tot_all, tot_all, addC_canon2, all_append h]
theorem all_pair (x y : UInt8) : all [x, y] = 256 * x.toNat + y.toNat := by
  simp [all, upto, word, at0]
theorem all_zeros2 : all [0, 0] = 0 := by rw [all_pair]; rfl
/-- Turned at an even place. -/
theorem tot_turned {l : List UInt8} {n : Nat} (h : 2 * n ≤ l.length) (he : l.length % 2 = 0) : tot (l.drop (2 * n) ++ l.take (2 * n)) = tot l := by
  have h1 : (l.take (2 * n)).length = 2 * n := by simp; omega
  have h2 : (l.drop (2 * n)).length = 2 * ((l.length - 2 * n) / 2) := by simp; omega
  rw [tot_append h2, addC_comm, ← tot_append h1, List.take_append_drop]
theorem tot_wide {l : List UInt8} {n : Nat} (h : 2 * n ≤ l.length) : tot (l.take (2 * n) ++ [0, 0] ++ l.drop (2 * n)) = tot l := by
  have h1 : (l.take (2 * n)).length = 2 * n := by simp; omega
  have h3 : (l.take (2 * n) ++ [0, 0]).length = 2 * (n + 1) := by simp; omega
  rw [tot_all, all_append h3, all_append h1, all_zeros2, Nat.add_zero, ← all_append h1, List.take_append_drop]
  rfl
theorem tot_parts {l : List UInt8} {n : Nat} (h : 2 * n ≤ l.length) : tot l = addC (tot (l.take (2 * n))) (tot (l.drop (2 * n))) := by
  have h1 : (l.take (2 * n)).length = 2 * n := by simp; omega
  rw [← tot_append h1, List.take_append_drop]
/-- With their checksum behind them they are good. -/
theorem tot_good {l : List UInt8} {n : Nat} (h : l.length = 2 * n) {x y : UInt8} (hx : x.toNat = (65535 - tot l) / 256) (hy : y.toNat = (65535 - tot l) % 256) : tot (l ++ [x, y]) = 65535 := by
  have := tot_lt l
  rw [tot_append h, tot_all [x, y], all_pair, canon_id (by omega), hx, hy]
  have e : 256 * ((65535 - tot l) / 256) + (65535 - tot l) % 256 = 65535 - tot l := by omega
  rw [e]
  exact addC_rest this
/-- The words are changed by one: the sums go along. -/
theorem all_change {a b : List UInt8} {n : Nat} (h : a.length = 2 * n) (x y x' y' : UInt8) :
    all (a ++ [x', y'] ++ b) + (256 * x.toNat + y.toNat) = all (a ++ [x, y] ++ b) + (256 * x'.toNat + y'.toNat) := by
  have h1 : (a ++ [x, y]).length = 2 * (n + 1) := by simp; omega
  have h2 : (a ++ [x', y']).length = 2 * (n + 1) := by simp; omega
  rw [all_append h1, all_append h2, all_append h, all_append h, all_pair, all_pair]
  omega
theorem all_zero_iff : ∀ (l : List UInt8), all l = 0 ↔ ∀ i < l.length, at0 l i = 0 := by
  intro l
  have key : ∀ k, upto l k = 0 ↔ ∀ i < 2 * k, at0 l i = 0 := by
    intro k
    induction k with
    | zero => simp [upto]
    | succ k ih =>
      show upto l k + word l k = 0 ↔ _
      constructor
      · intro h i hi
        have h1 : upto l k = 0 := by omega
        have h2 : word l k = 0 := by omega
        unfold word at h2
        rcases Nat.lt_or_ge i (2 * k) with h3 | h3
        · exact ih.1 h1 i h3
        · rcases (show i = 2 * k ∨ i = 2 * k + 1 by omega) with rfl | rfl <;> omega
      · intro h
        have h1 := ih.2 (fun i hi => h i (by omega))
        unfold word
        rw [h1, h (2 * k) (by omega), h (2 * k + 1) (by omega)]
  unfold all
  rw [key]
  constructor
  · intro h i hi; exact h i (by omega)
  · intro h i hi
    rcases Nat.lt_or_ge i l.length with h1 | h1
    · exact h i h1
    · exact at0_zero h1
/-- The changed checksum. -/
def changed (c m n : Nat) : Nat := 65535 - addC (addC (65535 - c) (65535 - m)) n
theorem canon_pos {n : Nat} (h : 0 < n) : canon (n + 65535) = canon n := by
  unfold canon; rw [if_neg (by omega), if_neg (by omega)]; omega
theorem changed_of {S S' m n : Nat} (hm : m < 65536) (hn : n < 65536) (hS : S' + m = S + n) :
    65535 - canon S' = changed (65535 - canon S) m n ∨ S' = 0 ∧ 65535 - canon S' = 65535 ∧ changed (65535 - canon S) m n = 0 := by
  have hc := canon_lt S
  have e : changed (65535 - canon S) m n = 65535 - canon (S' + 65535) := by
    unfold changed
    rw [show 65535 - (65535 - canon S) = canon S by omega, addC_canon _ _ (by omega), addC_canon _ _ hn]
    congr 2
    omega
  rw [e]
  rcases Nat.eq_zero_or_pos S' with h | h
  · right; subst h; exact ⟨rfl, rfl, rfl⟩
  · left; rw [canon_pos h]

end Sm
end Go.Proofs.Ytcahfapffhcceaa
