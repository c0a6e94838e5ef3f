/- The walk of wire.PrefixOf. -/
import Derived.Test.YtlgdmfbpkmokaaaDoorWe
namespace Go.Proofs.YtlgdmfbpkmokaaaDoor
open Go.RowKit
attribute [local go_sem ↓] Go.wp_at_zero Go.wp_at_succ

def pfOk (l : List UInt8) : Bool :=
  decide (addrE (Lib.cut l [47]).1 = 0) && (numB (Lib.cut l [47]).2.1 32 && Wp.mayB (addrI (Lib.cut l [47]).1) (numI (Lib.cut l [47]).2.1 32))
def pfA (l : List UInt8) : Int := if pfOk l = true then addrI (Lib.cut l [47]).1 else 0
def pfN (l : List UInt8) : Int := if pfOk l = true then numI (Lib.cut l [47]).2.1 32 else 0
def pfE (l : List UInt8) : Int := if pfOk l = true then 0 else 4
theorem pf_no {l : List UInt8} (h : pfOk l = false) : pfA l = 0 ∧ pfN l = 0 ∧ pfE l = 4 := by simp [pfA, pfN, pfE, h]
theorem pf_yes {l : List UInt8} (h : pfOk l = true) : pfA l = addrI (Lib.cut l [47]).1 ∧ pfN l = numI (Lib.cut l [47]).2.1 32 ∧ pfE l = 0 := by simp [pfA, pfN, pfE, h]
theorem addrE_or (l : List UInt8) : addrE l = 0 ∨ addrE l = 4 := by unfold addrE; split <;> simp
theorem ret_pf {a a' n n' e e' : Int} (h : a = a') (h2 : n = n') (h3 : e = e') : Ending.returned (.tuple #[.agg #[.int .u32 a, .int .i64 n], .int .i64 e]) = .returned (.tuple #[.agg #[.int .u32 a', .int .i64 n'], .int .i64 e']) := by rw [h, h2, h3]

theorem below3 {a b c d : World} (h : Below a.heap.size a b) (h2 : Below b.heap.size b c) (h3 : Below c.heap.size c d) : Below a.heap.size a d :=
  h.trans ((h2.trans (h3.mono h2.size)).mono h.size)

/-- The result's own block, behind the calls and one block more. -/
theorem res_cells {w w3 : World} (h : Below (w.alloc (.cells #[.int .u32 0, .int .i64 0] 40)).heap.size (w.alloc (.cells #[.int .u32 0, .int .i64 0] 40)) w3) :
    (∀ o, (w3.alloc o).cell? ⟨w.heap.size, 0, none⟩ = some (.int .u32 0)) ∧ (∀ o, (w3.alloc o).cell? ⟨w.heap.size, 1, none⟩ = some (.int .i64 0)) ∧
    (∀ o, (w3.alloc o).frozen? ⟨w.heap.size, 0, none⟩ = false) ∧ (∀ o, (w3.alloc o).frozen? ⟨w.heap.size, 1, none⟩ = false) := by
  have hz := h.size
  simp only [World.size_alloc] at hz
  have hA := fun o => (Below.refl w3.heap.size w3).alloc (Nat.le_refl _) o
  refine ⟨fun o => ?_, fun o => ?_, fun o => ?_, fun o => ?_⟩
  · exact cell_later (hA o) (cell_later h (by simp))
  · exact cell_later (hA o) (cell_later h (by simp))
  · rw [(hA o).frozen (p := ⟨w.heap.size, 0, none⟩) (by show w.heap.size < _; omega), h.frozen (p := ⟨w.heap.size, 0, none⟩) (by simp)]; simp
  · rw [(hA o).frozen (p := ⟨w.heap.size, 1, none⟩) (by show w.heap.size < _; omega), h.frozen (p := ⟨w.heap.size, 1, none⟩) (by simp)]; simp

theorem res_cells4 {w w3 w4 : World} {a n : Int} (h : Below (w3.alloc (.cells #[.int .u32 a, .int .i64 n] 40)).heap.size (w3.alloc (.cells #[.int .u32 a, .int .i64 n] 40)) w4)
    (hz : w.heap.size + 1 ≤ w3.heap.size) (hc0 : ∀ o, (w3.alloc o).cell? ⟨w.heap.size, 0, none⟩ = some (.int .u32 0)) (hc1 : ∀ o, (w3.alloc o).cell? ⟨w.heap.size, 1, none⟩ = some (.int .i64 0))
    (hf0 : ∀ o, (w3.alloc o).frozen? ⟨w.heap.size, 0, none⟩ = false) (hf1 : ∀ o, (w3.alloc o).frozen? ⟨w.heap.size, 1, none⟩ = false) :
    w4.cell? ⟨w.heap.size, 0, none⟩ = some (.int .u32 0) ∧ w4.cell? ⟨w.heap.size, 1, none⟩ = some (.int .i64 0) ∧ w4.frozen? ⟨w.heap.size, 0, none⟩ = false ∧ w4.frozen? ⟨w.heap.size, 1, none⟩ = false ∧
    w4.cell? ⟨w3.heap.size, 0, none⟩ = some (.int .u32 a) ∧ w4.cell? ⟨w3.heap.size, 1, none⟩ = some (.int .i64 n) ∧ w3.heap.size + 1 ≤ w4.heap.size := by
  refine ⟨cell_later h (hc0 _), cell_later h (hc1 _), ?_, ?_, cell_later h (by simp), cell_later h (by simp), ?_⟩
  · rw [h.frozen (p := ⟨w.heap.size, 0, none⟩) (by show w.heap.size < _; simp; omega)]; exact hf0 _
  · rw [h.frozen (p := ⟨w.heap.size, 1, none⟩) (by show w.heap.size < _; simp; omega)]; exact hf1 _
  · have := h.size; simp only [World.size_alloc] at this; exact this
theorem below_end {w w3 w4 : World} {o o2 : Obj} (h : Below (w.alloc o).heap.size (w.alloc o) w3) (hz : w.heap.size + 1 ≤ w3.heap.size) (h4 : Below (w3.alloc o2).heap.size (w3.alloc o2) w4) : Below w.heap.size w w4 :=
  ((((Below.refl _ _).alloc (Nat.le_refl _) _).trans (h.mono (by simp))).alloc (by omega) _).trans (h4.mono (by simp; omega))

set_option maxHeartbeats 1000000 in
theorem prefixOf_any (s : ByteArray) (hs : s.size ≤ 1000000) (w : World) (g : Gl w) :
    Calls Tryd.prog 16 #[.string s] w fun e w' => e = .returned (.tuple #[.agg #[.int .u32 (pfA s.data.toList), .int .i64 (pfN s.data.toList)], .int .i64 (pfE s.data.toList)]) ∧ Below w.heap.size w w' := by
  obtain ⟨p, hp⟩ : ∃ p : ByteArray, p.data.toList = (Lib.cut s.data.toList [47]).1 := ⟨⟨(Lib.cut s.data.toList [47]).1.toArray⟩, by simp⟩
  obtain ⟨b, hb⟩ : ∃ b : ByteArray, b.data.toList = (Lib.cut s.data.toList [47]).2.1 := ⟨⟨(Lib.cut s.data.toList [47]).2.1.toArray⟩, by simp⟩
  obtain ⟨f, hf⟩ : ∃ f : Bool, f = (Lib.cut s.data.toList [47]).2.2 := ⟨_, rfl⟩
  have hpl : p.size ≤ 1000000 := Wp.cut_left (by rw [hp]) hs
  have hbl : b.size ≤ 1000000 := Wp.cut_right (by rw [hb]) hs
  have hdot : ([47] : List UInt8) = (⟨#[47]⟩ : ByteArray).data.toList := rfl
  have hok : pfOk s.data.toList = (decide (addrE p.data.toList = 0) && (numB b.data.toList 32 && Wp.mayB (addrI p.data.toList) (numI b.data.toList 32))) := by
    rw [hp, hb]; rfl
  have hy : pfOk s.data.toList = true → pfA s.data.toList = addrI p.data.toList ∧ pfN s.data.toList = numI b.data.toList 32 ∧ pfE s.data.toList = 0 := by
    intro h; rw [hp, hb]; exact pf_yes h
  rw [hdot] at hp hb hf
  have Hp := Lib.hid hp
  have Hb := Lib.hid hb
  have Hf := Lib.hid hf
  clear hp hb hf hdot
  have hE := addrE_or p.data.toList
  rcases hE with hE | hE
  · rcases hN : numB b.data.toList 32 with _ | _
    · have HY := Lib.hid (pf_no (by rw [hok, hE, hN]; rfl))
      have HE := Lib.hid hE
      have HN := Lib.hid hN
      clear hok hy hE hN
      go_enter Tryd.func16, Tryd.ntmps16
      go_wp2_with (first | (go_at_call 30; refine (cut_at _ _ p b f Hp.out Hb.out Hf.out hs _ (g.alloc _)).mono ?_; rintro e w1 ⟨rfl, hb1⟩) | (go_at_call 14; refine (addrOf_any p hpl _ ((g.alloc _).below hb1)).mono ?_; rintro e w2 ⟨rfl, hb2⟩; rw [HE.out]) | (go_at_call 31; refine (number_any b 32 hbl _ (((g.alloc _).below hb1).below hb2)).mono ?_; rintro e w3 ⟨rfl, hb3⟩; rw [HN.out]; have hB := Lib.hid (below3 hb1 hb2 hb3); have hz := hB.out.size; simp only [World.size_alloc] at hz; obtain ⟨hc0, hc1, hf0, hf1⟩ := res_cells hB.out))
      refine bodyPost_ret (v := .tuple #[.agg #[.int .u32 0, .int .i64 0], .int .i64 4]) (by simp [results, Tryd.results16, go_sem, hc0, hc1]) rfl ?_
      refine ⟨ret_pf HY.out.1.symm HY.out.2.1.symm HY.out.2.2.symm, ?_⟩
      exact ((((((Below.refl _ _).alloc (Nat.le_refl _) _).trans (hB.out.mono (by simp))).alloc (by omega) _).setCell (Nat.le_refl _) _).setCell (Nat.le_refl _) _)
    · rcases hM : Wp.mayB (addrI p.data.toList) (numI b.data.toList 32) with _ | _
      · have HY := Lib.hid (pf_no (by rw [hok, hE, hN, hM]; rfl))
        have HE := Lib.hid hE
        have HN := Lib.hid hN
        have HM := Lib.hid hM
        clear hok hy hE hN hM
        go_enter Tryd.func16, Tryd.ntmps16
        go_wp2_with (first | (go_at_call 30; refine (cut_at _ _ p b f Hp.out Hb.out Hf.out hs _ (g.alloc _)).mono ?_; rintro e w1 ⟨rfl, hb1⟩) | (go_at_call 14; refine (addrOf_any p hpl _ ((g.alloc _).below hb1)).mono ?_; rintro e w2 ⟨rfl, hb2⟩; rw [HE.out]) | (go_at_call 31; refine (number_any b 32 hbl _ (((g.alloc _).below hb1).below hb2)).mono ?_; rintro e w3 ⟨rfl, hb3⟩; rw [HN.out]; have hB := Lib.hid (below3 hb1 hb2 hb3); have hz := hB.out.size; simp only [World.size_alloc] at hz; obtain ⟨hc0, hc1, hf0, hf1⟩ := res_cells hB.out) | (go_at_call 34; refine (mayW_any _ _ _).mono ?_; rintro e w4 ⟨rfl, hb4⟩; rw [HM.out]; have HB4 := Lib.hid hb4; obtain ⟨h40, h41, h42, h43, h44, h45, hz4⟩ := res_cells4 hb4 hz hc0 hc1 hf0 hf1; clear hb4))
        refine bodyPost_ret (v := .tuple #[.agg #[.int .u32 0, .int .i64 0], .int .i64 4]) (by simp [results, Tryd.results16, go_sem, h40, h41]) rfl ?_
        refine ⟨ret_pf HY.out.1.symm HY.out.2.1.symm HY.out.2.2.symm, ?_⟩
        exact ((below_end hB.out hz HB4.out).setCell (Nat.le_refl _) _).setCell (Nat.le_refl _) _
      · have HY := Lib.hid (hy (by rw [hok, hE, hN, hM]; rfl))
        have HE := Lib.hid hE
        have HN := Lib.hid hN
        have HM := Lib.hid hM
        clear hok hy hE hN hM
        go_enter Tryd.func16, Tryd.ntmps16
        go_wp2_with (first | (go_at_call 30; refine (cut_at _ _ p b f Hp.out Hb.out Hf.out hs _ (g.alloc _)).mono ?_; rintro e w1 ⟨rfl, hb1⟩) | (go_at_call 14; refine (addrOf_any p hpl _ ((g.alloc _).below hb1)).mono ?_; rintro e w2 ⟨rfl, hb2⟩; rw [HE.out]) | (go_at_call 31; refine (number_any b 32 hbl _ (((g.alloc _).below hb1).below hb2)).mono ?_; rintro e w3 ⟨rfl, hb3⟩; rw [HN.out]; have hB := Lib.hid (below3 hb1 hb2 hb3); have hz := hB.out.size; simp only [World.size_alloc] at hz; obtain ⟨hc0, hc1, hf0, hf1⟩ := res_cells hB.out) | (go_at_call 34; refine (mayW_any _ _ _).mono ?_; rintro e w4 ⟨rfl, hb4⟩; rw [HM.out]; have HB4 := Lib.hid hb4; obtain ⟨h40, h41, h42, h43, h44, h45, hz4⟩ := res_cells4 hb4 hz hc0 hc1 hf0 hf1; clear hb4))
        refine bodyPost_ret (v := .tuple #[.agg #[.int .u32 (addrI p.data.toList), .int .i64 (numI b.data.toList 32)], .int .i64 0]) (by simp [results, Tryd.results16, go_sem, h40, h41]) rfl ?_
        refine ⟨ret_pf HY.out.1.symm HY.out.2.1.symm HY.out.2.2.symm, ?_⟩
        exact ((below_end hB.out hz HB4.out).setCell (Nat.le_refl _) _).setCell (Nat.le_refl _) _
  · have HY := Lib.hid (pf_no (by rw [hok, hE]; rfl))
    have HE := Lib.hid hE
    clear hok hy hE
    go_enter Tryd.func16, Tryd.ntmps16
    go_wp2_with (first | (go_at_call 30; refine (cut_at _ _ p b f Hp.out Hb.out Hf.out hs _ (g.alloc _)).mono ?_; rintro e w1 ⟨rfl, hb1⟩) | (go_at_call 14; refine (addrOf_any p hpl _ ((g.alloc _).below hb1)).mono ?_; rintro e w2 ⟨rfl, hb2⟩; rw [HE.out]) | (go_at_call 31; refine (number_any b 32 hbl _ (((g.alloc _).below hb1).below hb2)).mono ?_; rintro e w3 ⟨rfl, hb3⟩; have hB := Lib.hid (below3 hb1 hb2 hb3); have hz := hB.out.size; simp only [World.size_alloc] at hz; obtain ⟨hc0, hc1, hf0, hf1⟩ := res_cells hB.out))
    refine bodyPost_ret (v := .tuple #[.agg #[.int .u32 0, .int .i64 0], .int .i64 4]) (by simp [results, Tryd.results16, go_sem, hc0, hc1]) rfl ?_
    refine ⟨ret_pf HY.out.1.symm HY.out.2.1.symm HY.out.2.2.symm, ?_⟩
    exact ((((((Below.refl _ _).alloc (Nat.le_refl _) _).trans (hB.out.mono (by simp))).alloc (by omega) _).setCell (Nat.le_refl _) _).setCell (Nat.le_refl _) _)
end Go.Proofs.YtlgdmfbpkmokaaaDoor
