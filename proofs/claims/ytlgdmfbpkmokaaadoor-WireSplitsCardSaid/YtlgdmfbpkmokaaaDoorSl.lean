/- The walk of the reference's SameLists, of two that read alike. -/
import Derived.Test.YtlgdmfbpkmokaaaDoorLs0
namespace Go.Proofs.YtlgdmfbpkmokaaaDoor
open Go.RowKit
attribute [local go_sem ↓] Go.wp_at_zero Go.wp_at_succ

set_option maxHeartbeats 2000000 in
set_option maxRecDepth 100000 in
theorem same_some (a b : Option Addr) (c d : Nat) (P : List (List UInt8)) (w : World) (ha : Lists w (.slice a P.length c) P) (hb : Lists w (.slice b P.length d) P) (hP : P.length ≤ 20000) :
    Calls Tryd.prog 12 #[.slice a P.length c, .slice b P.length d] w fun e w' => e = .returned (.bool true) ∧ Below w.heap.size w w' := by
  have HA := Lib.hid ha
  have HB := Lib.hid hb
  have hp2 : (P.length : Int) ≤ 20000 := by omega
  clear ha hb hP
  go_enter Tryd.func12, Tryd.ntmps12
  go_wp2_with fail
  go_loopw [5] (fun i wr => ∃ k : Nat, k ≤ P.length ∧ i = .int .i64 k ∧ Hid (Below w.heap.size w wr)) (fun i _ => P.length - (intOf i).toNat)
  case atStart => exact ⟨0, Nat.zero_le _, rfl, Below.refl _ _⟩
  case round =>
    obtain ⟨k, hk, rfl, HW⟩ := hrel
    rcases Nat.lt_or_ge k P.length with hlt | hge
    · have g1 : (k : Int) < P.length := by omega
      obtain ⟨b1, o1, rfl, hb1, x1, d1, he1, hx1⟩ := HA.out.at hlt
      obtain ⟨b2, o2, rfl, hb2, x2, d2, he2, hx2⟩ := HB.out.at hlt
      have he1' := cell_later' HW.out hb1 he1
      have he2' := cell_later' HW.out hb2 he2
      have hs1 : ∀ n, (convert 23 9 (.slice x1 P[k].length d1)).run Tryd.prog (wr.drewN n) = .ok (.string ⟨P[k].toArray⟩) (wr.drewN n) := fun n => (hx1.later (HW.out.trans (below_dr0 _ _ n))).str Tryd.underlying23 Tryd.underlying5 Tryd.underlying9
      have hs2 : ∀ n, (convert 23 9 (.slice x2 P[k].length d2)).run Tryd.prog (wr.drewN n) = .ok (.string ⟨P[k].toArray⟩) (wr.drewN n) := fun n => (hx2.later (HW.out.trans (below_dr0 _ _ n))).str Tryd.underlying23 Tryd.underlying5 Tryd.underlying9
      obtain ⟨m, hm⟩ : ∃ m, m = P[k].length := ⟨_, rfl⟩
      obtain ⟨s, hs⟩ : ∃ s : ByteArray, s = ⟨P[k].toArray⟩ := ⟨_, rfl⟩
      rw [← hm] at he1' he2'
      rw [← hm, ← hs] at hs1 hs2
      have q1 : b1 < wr.heap.size := World.block_lt_of_cell? _ _ he1'
      have q2 : b2 < wr.heap.size := World.block_lt_of_cell? _ _ he2'
      clear hm hs he1 he2 hx1 hx2
      go_wp2_with fail
      go_quiet (fail)
      rename_i nq
      have HB2 : Hid (Below w.heap.size w (wr.drewN nq)) := HW.out.trans (below_dr0 _ _ nq)
      go_wp2_with fail
      go_roundw
      case rel => exact ⟨k + 1, by omega, by go_num, HB2⟩
      case measure => simp [intOf]; omega
    · have e : k = P.length := by omega
      subst e
      go_wp2_with fail
      go_ret
      exact ⟨rfl, HW.out⟩
theorem same_any (u v : Value) (P : List (List UInt8)) (w : World) (ha : Lists w u P) (hb : Lists w v P) (hP : P.length ≤ 20000) :
    Calls Tryd.prog 12 #[u, v] w fun e w' => e = .returned (.bool true) ∧ Below w.heap.size w w' := by
  obtain ⟨a, c, rfl⟩ := ha.form
  obtain ⟨b, d, rfl⟩ := hb.form
  exact same_some a b c d P w ha hb hP
end Go.Proofs.YtlgdmfbpkmokaaaDoor
