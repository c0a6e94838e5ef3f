/- What the closure that reads numbers leaves as it was; the closure that reads a tag: the walk.
   frame.Bytes: the walk.
   The walks of sum.Total, sum.Check, sum.Good, for longer bytes. -/
import Derived.Test.YtcahfapffhcceaaZ01
import Derived.Test.YtcahfapffhcceaaZ03
import Derived.Test.YtcahfapffhcceaaZ06

set_option linter.unusedSimpArgs false
set_option linter.unusedVariables false
namespace Go.Proofs.Ytcahfapffhcceaa
open Go.RowKit
attribute [local go_sem ↓] Go.wp_at_zero Go.wp_at_succ

set_option maxHeartbeats 1000000 in
theorem totalW_someB (w : World) (c : Nat) (b : Option Addr) (L : List (List UInt8)) (hv : Lists w (.slice b L.length c) L) (hL : L.length ≤ 100000) (hS : L.flatten.length ≤ 100000) :
    Calls Try.prog 49 #[.slice b L.length c] w fun e w' => e = .returned (.int .u16 (Sm.tot L.flatten : Nat)) ∧ Below w.heap.size w w' := by
  go_enter Try.func49, Try.ntmps49
  go_wp2_with fail
  go_loop [3, 12] (fun s i => ∃ k : Nat, k ≤ L.length ∧ i = .int .i64 k ∧ s = .int .i64 (sizes L k)) (fun _ i => L.length - (intOf i).toNat)
  case atStart => exact ⟨0, Nat.zero_le _, rfl, rfl⟩
  case round =>
    obtain ⟨k, hk, rfl, rfl⟩ := hrel
    have hsz := sizes_le (L := L) (k := k)
    obtain ⟨z, hz⟩ : ∃ z, z = sizes L k := ⟨_, rfl⟩
    rw [← hz] at hsz ⊢
    have Hz := Lib.hid hz
    clear hz
    rcases Nat.lt_or_ge k L.length with hlt | hge
    · obtain ⟨bl, bo, rfl, hbl, x, d, he, hbe⟩ := hv.at hlt
      have hs2 := sizes_succ hlt
      rw [← Hz.out] at hs2
      have hsz2 := sizes_le (L := L) (k := k + 1)
      obtain ⟨m, hm⟩ : ∃ m, m = L[k].length := ⟨_, rfl⟩
      rw [← hm] at he hs2
      have hm2 : m ≤ 100000 := by omega
      have Hs2 := Lib.hid hs2
      have HV := Lib.hid hv
      have g1 : (k : Int) < L.length := by omega
      clear hm hs2 hv hbe hsz2
      go_wp2_with fail
      go_round
      case rel => exact ⟨k + 1, by omega, by go_num, by rw [Hs2.out]; go_num⟩
      case measure => simp [intOf]; omega
    · have e : k = L.length := by omega
      subst e
      have HV := Lib.hid hv
      clear hv
      have hz1 := Hz.out
      rw [sizes_all] at hz1
      have Hz2 := Lib.hid hz1
      clear hz1
      have hS2 : ∀ l ∈ L, l.length ≤ 100000 := fun l h => Nat.le_trans (mem_le h) hS
      go_wp2_with (go_in)
      go_loopw [7, 26] (fun t j wr => ∃ k i' a' : Nat, k ≤ (z + 1) / 2 ∧ j = .int .i64 k ∧ t = .int .u16 (Sm.canon (Sm.upto L.flatten k) : Nat) ∧ Hid (Nx w w.heap.size i' a' (.slice b L.length c) wr) ∧ i' ≤ L.length ∧ (∀ h : i' < L.length, a' ≤ L[i'].length) ∧ Hid (rest L i' a' = L.flatten.drop (2 * k))) (fun _ j _ => (z + 1) / 2 - (intOf j).toNat)
      case atStart => exact ⟨0, 0, 0, Nat.zero_le _, rfl, rfl, Nx.start w _, Nat.zero_le _, fun _ => Nat.zero_le _, rfl⟩
      case round =>
        obtain ⟨k, i', a', hk, rfl, rfl, HN, hi', ha', HR⟩ := hrel
        rcases Nat.lt_or_ge k ((z + 1) / 2) with hlt | hge
        · have g1 : (k : Int) < ((z : Int) + 1) / 2 := by omega
          go_wp2_with fail
          refine (next_anyB w wr w.heap.size i' a' c b L HV.out HN.out hi' ha' hL hS2).mono ?_
          rintro e w1 ⟨i1, a1, rfl, hn1, hi1, ha1, hr1⟩
          have HN1 := Lib.hid hn1
          have HR1 := Lib.hid hr1
          clear hn1 hr1
          go_wp2_with fail
          refine (next_anyB w w1 w.heap.size i1 a1 c b L HV.out HN1.out hi1 ha1 hL hS2).mono ?_
          rintro e w2 ⟨i2, a2, rfl, hn2, hi2, ha2, hr2⟩
          have hq1 : Sm.at0 (rest L i' a') 0 = Sm.at0 L.flatten (2 * k) := by rw [HR.out, at0_drop]; rfl
          have hq2 : Sm.at0 (rest L i1 a1) 0 = Sm.at0 L.flatten (2 * k + 1) := by rw [HR1.out, HR.out, List.drop_drop, at0_drop]
          have hr3 : rest L i2 a2 = L.flatten.drop (2 * (k + 1)) := by rw [hr2, HR1.out, HR.out, List.drop_drop, List.drop_drop]; rfl
          rw [hq1, hq2]
          have HN2 := Lib.hid hn2
          have HR3 := Lib.hid hr3
          have b1 := Sm.at0_lt L.flatten (2 * k)
          have b2 := Sm.at0_lt L.flatten (2 * k + 1)
          obtain ⟨x, hx⟩ : ∃ x, x = Sm.at0 L.flatten (2 * k) := ⟨_, rfl⟩
          obtain ⟨y, hy⟩ : ∃ y, y = Sm.at0 L.flatten (2 * k + 1) := ⟨_, rfl⟩
          rw [← hx] at b1 ⊢
          rw [← hy] at b2 ⊢
          have hwd : Sm.word L.flatten k = 256 * x + y := by rw [hx, hy]; rfl
          have HW := Lib.hid hwd
          have HO := Lib.hid (or_word x y b1 b2)
          clear hn2 hr2 hr3 hq1 hq2 hx hy hwd
          have c1 := Sm.canon_lt (Sm.upto L.flatten k)
          go_wp2_with fail
          rw [HO.out]
          refine (addW_int _ _ _ (by omega) (by omega) (by omega) (by omega) (Sm.canon (Sm.upto L.flatten (k + 1)) : Nat) (by rw [Int.toNat_natCast, Int.toNat_natCast, ← HW.out, Sm.step])).mono ?_
          rintro e w3 ⟨rfl, rfl⟩
          go_wp2_with fail
          go_roundw
          case rel => exact ⟨k + 1, i2, a2, by omega, by go_num, rfl, HN2, hi2, ha2, HR3⟩
          case measure => simp [intOf]; omega
        · have e : k = (z + 1) / 2 := by omega
          have E := Lib.hid e
          have g1 : ((z : Int) + 1) / 2 ≤ (k : Int) := by omega
          clear e
          go_wp2_with fail
          go_ret
          refine ⟨ret_i ?_, HN.out.bel⟩
          rw [E.out, Hz2.out]; rfl

/-- What a list of lists comes to. -/
theorem totalW_anyB (w : World) (v : Value) (L : List (List UInt8)) (hv : Lists w v L) (hL : L.length ≤ 100000) (hS : L.flatten.length ≤ 100000) :
    Calls Try.prog 49 #[v] w fun e w' => e = .returned (.int .u16 (Sm.tot L.flatten : Nat)) ∧ Below w.heap.size w w' := by
  obtain ⟨b, c, rfl⟩ := hv.form
  exact totalW_someB w c b L hv hL hS
theorem checkW_anyB (w : World) (v : Value) (L : List (List UInt8)) (hv : Lists w v L) (hL : L.length ≤ 100000) (hS : L.flatten.length ≤ 100000) :
    Calls Try.prog 30 #[v] w fun e w' => e = .returned (.int .u16 (65535 - Sm.tot L.flatten : Nat)) ∧ Below w.heap.size w w' := by
  have hb := Sm.tot_lt L.flatten
  have HV := Lib.hid hv
  clear hv
  go_enter Try.func30, Try.ntmps30
  go_wp2_with fail
  refine (totalW_anyB w v L HV.out hL hS).mono ?_
  rintro e w1 ⟨rfl, hb1⟩
  go_wp2_with fail
  go_ret
  exact ⟨ret_i (by omega), hb1⟩
theorem total_oneB (w : World) (v : Value) (l : List UInt8) (h : Bytes w v l) (hl : l.length ≤ 100000) :
    Calls Try.prog 49 #[.slice (some ⟨w.heap.size, 0, none⟩) 1 1] (w.alloc (.cells #[v] 26)) fun e w' => e = .returned (.int .u16 (Sm.tot l : Nat)) ∧ Below w.heap.size w w' := by
  refine (totalW_anyB _ _ [l] (lists_one h) (by simp) (by simpa using hl)).mono ?_
  rintro e w1 ⟨rfl, hb⟩
  refine ⟨by simp, ?_⟩
  exact ((Below.refl _ _).alloc (Nat.le_refl _) _).trans (hb.mono (by simp))
theorem check_oneB (w : World) (v : Value) (l : List UInt8) (h : Bytes w v l) (hl : l.length ≤ 100000) :
    Calls Try.prog 30 #[.slice (some ⟨w.heap.size, 0, none⟩) 1 1] (w.alloc (.cells #[v] 26)) fun e w' => e = .returned (.int .u16 (65535 - Sm.tot l : Nat)) ∧ Below w.heap.size w w' := by
  refine (checkW_anyB _ _ [l] (lists_one h) (by simp) (by simpa using hl)).mono ?_
  rintro e w1 ⟨rfl, hb⟩
  refine ⟨by simp, ?_⟩
  exact ((Below.refl _ _).alloc (Nat.le_refl _) _).trans (hb.mono (by simp))
end Go.Proofs.Ytcahfapffhcceaa

namespace Go.Proofs.Ytcahfapffhcceaa
open Go.RowKit
attribute [local go_sem ↓] Go.wp_at_zero Go.wp_at_succ

/-- What stands in memory while a frame's bytes are written: so many are there, the others are noughts. -/
structure PS (wm : World) (f : Fr) (u : Value) (N g cap S : Nat) (B A : List UInt8) (w : World) : Prop where
  bel : Below wm.heap.size wm w
  bx : BlkAt 28 wm.heap.size [.int .i64 f.k, .int .i64 f.n, .int .u64 (f.mb : Nat), .int .u64 (f.mt : Nat), .int .u64 (f.tb : Nat), .int .u64 (f.tt : Nat), .int .u64 (f.s : Nat), .int .u64 (f.a : Nat), u] w
  nm : Nm N A.length (.slice (some ⟨g, 0, none⟩) S cap) w
  own : OwnB w wm.heap.size (.slice (some ⟨g, 0, none⟩) S cap) (A ++ (List.replicate (54 - A.length) 0 ++ B))
  ne : g ≠ wm.heap.size
  gN : g < N
  lt : wm.heap.size < N
  len : S = 54 + B.length
theorem PS.later {wm : World} {f : Fr} {u : Value} {N g cap S : Nat} {B A : List UInt8} {w w' : World} (h : PS wm f u N g cap S B A w) (hb : Below w.heap.size w w') : PS wm f u N g cap S B A w' :=
  ⟨below_of h.bel hb, h.bx.later hb, h.nm.below hb, h.own.later hb, h.ne, h.gN, h.lt, h.len⟩
theorem putS {wm : World} {f : Fr} {u : Value} {N g cap S : Nat} {B A : List UInt8} {w : World} (h : PS wm f u N g cap S B A w) (n size : Nat) (h1 : 1 ≤ size) (h8 : size ≤ 8) (hn : n < 256 ^ size) (hA : A.length + size ≤ 54) (hB : B.length ≤ 5000) :
    Calls Try.prog 47 #[.int .u64 (n : Nat), .int .i64 (size : Int), .pointer (some ⟨N + 2, 0, none⟩)] w fun e w' => (∃ v, e = .returned v) ∧ PS wm f u N g cap S B (A ++ putL n size) w' := by
  obtain ⟨bel, bx, nm, own, ne, gN, lt, rfl⟩ := h
  have hl : (A ++ (List.replicate (54 - A.length) 0 ++ B)).length = 54 + B.length := by simp; omega
  rw [← hl] at nm own
  refine (putF_any N A.length size g cap wm.heap.size n _ w nm own gN h1 h8 hn (by rw [hl]; omega) (by rw [hl]; omega)).mono ?_
  rintro e w' ⟨hv, hnm, how, hb, hk⟩
  have hf := spl_fill A (putL n size) B (54 - A.length) A.length rfl (by rw [putL_length]; omega)
  have hz : 54 - A.length - (putL n size).length = 54 - (A ++ putL n size).length := by simp [putL_length]; omega
  rw [hf, hz, hl] at how
  rw [hl] at hnm
  refine ⟨hv, bel.trans hb, ?_, ?_, how, ne, gN, lt, rfl⟩
  · exact (hk _ lt (Ne.symm ne)).trans bx
  · rw [List.length_append, putL_length]; exact hnm

theorem ix6_0 (x0 x1 x2 x3 x4 x5 : Value) (w : World) : (Instr.index 65 (.agg #[x0, x1, x2, x3, x4, x5]) (.int .i64 0)).run Try.prog w = .ok x0 w := by kernel_rfl
theorem ix6_1 (x0 x1 x2 x3 x4 x5 : Value) (w : World) : (Instr.index 65 (.agg #[x0, x1, x2, x3, x4, x5]) (.int .i64 1)).run Try.prog w = .ok x1 w := by kernel_rfl
theorem ix6_2 (x0 x1 x2 x3 x4 x5 : Value) (w : World) : (Instr.index 65 (.agg #[x0, x1, x2, x3, x4, x5]) (.int .i64 2)).run Try.prog w = .ok x2 w := by kernel_rfl
theorem ix6_3 (x0 x1 x2 x3 x4 x5 : Value) (w : World) : (Instr.index 65 (.agg #[x0, x1, x2, x3, x4, x5]) (.int .i64 3)).run Try.prog w = .ok x3 w := by kernel_rfl
theorem ix6_4 (x0 x1 x2 x3 x4 x5 : Value) (w : World) : (Instr.index 65 (.agg #[x0, x1, x2, x3, x4, x5]) (.int .i64 4)).run Try.prog w = .ok x4 w := by kernel_rfl
theorem ix6_5 (x0 x1 x2 x3 x4 x5 : Value) (w : World) : (Instr.index 65 (.agg #[x0, x1, x2, x3, x4, x5]) (.int .i64 5)).run Try.prog w = .ok x5 w := by kernel_rfl

set_option maxHeartbeats 8000000 in
set_option maxRecDepth 100000 in
theorem bytesF_no (f : Fr) (v : Value) (B : List UInt8) (wm : World) (hB : Bytes wm v B) (hl : B.length ≤ 9000) (h : mayF f B = false) :
    Calls Try.prog 9 #[.agg #[.int .i64 f.k, .int .i64 f.n, .int .u64 (f.mb : Nat), .int .u64 (f.mt : Nat), .int .u64 (f.tb : Nat), .int .u64 (f.tt : Nat), .int .u64 (f.s : Nat), .int .u64 (f.a : Nat), v]] wm fun e w' => e = .returned (.tuple #[.slice none 0 0, .int .i64 2]) ∧ Below wm.heap.size wm w' := by
  obtain ⟨a, c, rfl⟩ := hB.form
  obtain ⟨m, hm⟩ : ∃ m, m = B.length := ⟨_, rfl⟩
  obtain ⟨w, hw⟩ : ∃ w, w = wm.alloc (.cells #[.int .i64 f.k, .int .i64 f.n, .int .u64 (f.mb : Nat), .int .u64 (f.mt : Nat), .int .u64 (f.tb : Nat), .int .u64 (f.tt : Nat), .int .u64 (f.s : Nat), .int .u64 (f.a : Nat), .slice a m c] 28) := ⟨_, rfl⟩
  have HBM : Hid (Below wm.heap.size wm w) := by rw [hw]; exact (Below.refl _ _).alloc (Nat.le_refl _) _
  have HMY : Hid (∀ W, Below wm.heap.size wm W → Calls Try.prog 10 #[.agg #[.int .i64 f.k, .int .i64 f.n, .int .u64 (f.mb : Nat), .int .u64 (f.mt : Nat), .int .u64 (f.tb : Nat), .int .u64 (f.tt : Nat), .int .u64 (f.s : Nat), .int .u64 (f.a : Nat), .slice a m c]] W fun e w' => e = .returned (.bool false) ∧ Below W.heap.size W w') := fun W hW => by
    have h9 := mayW6_any f _ B W (hB.later hW) hl
    rw [h, ← hm] at h9; exact h9
  rw [← hm]
  clear hB hl h hm
  go_enter Try.func9, Try.ntmps9
  go_wp2_with fail
  rw [← hw]
  clear hw
  refine (HMY.out _ HBM.out).mono ?_
  rintro e w1 ⟨rfl, hb⟩
  have HB := Lib.hid (below_of HBM.out hb)
  clear hb
  go_wp2_with fail
  go_ret2
  exact ⟨rfl, HB.out⟩

set_option maxHeartbeats 16000000 in
set_option maxRecDepth 100000 in
theorem bytesF_yes (f : Fr) (ho : f.Ok) (v : Value) (B : List UInt8) (wm : World) (hB : Bytes wm v B) (h : mayF f B = true) :
    Calls Try.prog 9 #[.agg #[.int .i64 f.k, .int .i64 f.n, .int .u64 (f.mb : Nat), .int .u64 (f.mt : Nat), .int .u64 (f.tb : Nat), .int .u64 (f.tt : Nat), .int .u64 (f.s : Nat), .int .u64 (f.a : Nat), v]] wm fun e w' => ∃ v, e = .returned (.tuple #[v, .int .i64 0]) ∧ OwnB w' wm.heap.size v (frL f B) ∧ Below wm.heap.size wm w' := by
  obtain ⟨a, c, rfl⟩ := hB.form
  obtain ⟨⟨n1, n2⟩, ⟨k1, k2⟩, hl⟩ := may_of6 h
  obtain ⟨k0, hk0⟩ : ∃ k0, k0 = f.k.toNat := ⟨_, rfl⟩
  obtain ⟨n0, hn0⟩ : ∃ n0, n0 = f.n.toNat := ⟨_, rfl⟩
  have u1 : IntKind.u64.wrap f.k = (k0 : Int) := by rw [IntWalk.u64_in _ ⟨by omega, by omega⟩]; omega
  have u2 : IntKind.u64.wrap f.n = (n0 : Int) := by rw [IntWalk.u64_in _ ⟨by omega, by omega⟩]; omega
  obtain ⟨m, hm⟩ : ∃ m, m = B.length := ⟨_, rfl⟩
  obtain ⟨w, hw⟩ : ∃ w, w = wm.alloc (.cells #[.int .i64 f.k, .int .i64 f.n, .int .u64 (f.mb : Nat), .int .u64 (f.mt : Nat), .int .u64 (f.tb : Nat), .int .u64 (f.tt : Nat), .int .u64 (f.s : Nat), .int .u64 (f.a : Nat), .slice a m c] 28) := ⟨_, rfl⟩
  have HBM : Hid (Below wm.heap.size wm w) := by rw [hw]; exact (Below.refl _ _).alloc (Nat.le_refl _) _
  have HBX : Hid (BlkAt 28 wm.heap.size [.int .i64 f.k, .int .i64 f.n, .int .u64 (f.mb : Nat), .int .u64 (f.mt : Nat), .int .u64 (f.tb : Nat), .int .u64 (f.tt : Nat), .int .u64 (f.s : Nat), .int .u64 (f.a : Nat), .slice a m c] w) := by rw [hw]; exact BlkAt.new wm _
  have HMY : Hid (∀ W, Below wm.heap.size wm W → Calls Try.prog 10 #[.agg #[.int .i64 f.k, .int .i64 f.n, .int .u64 (f.mb : Nat), .int .u64 (f.mt : Nat), .int .u64 (f.tb : Nat), .int .u64 (f.tt : Nat), .int .u64 (f.s : Nat), .int .u64 (f.a : Nat), .slice a m c]] W fun e w' => e = .returned (.bool true) ∧ Below W.heap.size W w') := fun W hW => by
    have h9 := mayW6_any f _ B W (hB.later hW) (by omega)
    rw [h, ← hm] at h9; exact h9
  have HB : Hid (∀ W, Below wm.heap.size wm W → Bytes W (.slice a m c) B) := fun W hW => by rw [hm]; exact hB.later hW
  have HH : Hid (m = B.length ∧ B.length ≤ 2048 ∧ k0 = f.k.toNat ∧ n0 = f.n.toNat ∧ k0 < 256 ∧ n0 < 256) := ⟨hm, hl, hk0, hn0, by omega, by omega⟩
  have HO := Lib.hid ho
  have km : (m : Int) ≤ 2048 := by omega
  rw [← hm]
  clear hB hl h hm n1 n2 k1 k2 hk0 hn0 ho
  go_enter Try.func9, Try.ntmps9
  go_wp2_with fail
  rw [← hw]
  clear hw
  refine (HMY.out _ HBM.out).mono ?_
  rintro e w1 ⟨rfl, hb⟩
  have HBX := Lib.hid (BlkAt.later HBX.out hb)
  have HBM := Lib.hid (below_of HBM.out hb)
  clear hb
  go_wp2_with fail
  (refine wp_region_held_drew (S := (fun w' => Below w1.heap.size w1 w')) (by kernel_rfl) ?_ (fun hHeld => ?_); (focus ((try dsimp only); (exact (Below.refl _ _).drew))))
  (try dsimp only at hHeld)
  obtain ⟨w0, hw0⟩ : ∃ w4, w4 = World.drew w1 := ⟨_, rfl⟩
  rw [← hw0]
  rw [← hw0] at hHeld
  clear hw0
  obtain ⟨w2, hmk, hoz, hbz⟩ : ∃ w2, (Instr.makeSlice 26 (.int .i64 54) (.int .i64 54)).run Try.prog w0 = .ok (.slice (some ⟨w0.heap.size, 0, none⟩) 54 54) w2 ∧ OwnB w2 w0.heap.size (.slice (some ⟨w0.heap.size, 0, none⟩) 54 54) (List.replicate 54 0) ∧ Below w0.heap.size w0 w2 := make_zeros 54 w0 (by omega)
  (refine wpAnyH_take (i := 1) (v := ?_) rfl (by kernel_rfl) (by kernel_rfl) (by kernel_rfl) (fun _ _ _ h => h) (Or.inl ⟨by rfl, ?_⟩) hHeld ?_; rotate_left; (focus (intro w hSw; (try dsimp only at hSw); go_simp; try with_reducible rfl)); (try simp only [Act.put, List.setIfInBounds_toArray, List.set_cons_zero, List.set_cons_succ, List.getElem_toArray, List.getElem_cons_zero, List.getElem_cons_succ]))
  (refine wpAnyH_take (i := 2) (v := ?_) rfl (by kernel_rfl) (by kernel_rfl) (by kernel_rfl) (fun _ _ _ h => h) (Or.inl ⟨by rfl, ?_⟩) hHeld ?_; rotate_left; (focus (intro w hSw; (try dsimp only at hSw); go_simp; (have hcc := (HBX.out.later hSw).cell (j := 8) rfl; go_simp; try with_reducible rfl))); (try simp only [Act.put, List.setIfInBounds_toArray, List.set_cons_zero, List.set_cons_succ, List.getElem_toArray, List.getElem_cons_zero, List.getElem_cons_succ]))
  (refine wpAnyH_ready (rs := [0]) (by kernel_rfl) (by simp) ?_; refine AllReadyH.cons rfl (fun K hK => ?_) AllReadyH.nil; go_simp; skip; refine hK.out _ _ ?_ (fun hHeldN => ?_); (focus ((try dsimp only); (exact hHeld.trans (hbz.mono hHeld.size)))); clear hK K hHeld; have hHeld := hHeldN; clear hHeldN; (try simp only [Act.put, List.setIfInBounds_toArray, List.set_cons_zero, List.set_cons_succ, List.getElem_toArray, List.getElem_cons_zero]))
  clear hmk hbz
  (refine wpAnyH_ready (rs := [3]) (by kernel_rfl) (by simp) ?_; refine AllReadyH.cons rfl (fun K hK => ?_) AllReadyH.nil; go_simp; skip; refine hK.out _ _ ?_ (fun hHeldN => ?_); (focus ((try dsimp only); (exact hHeld.alloc hHeld.size _))); clear hK K hHeld; have hHeld := hHeldN; clear hHeldN; (try simp only [Act.put, List.setIfInBounds_toArray, List.set_cons_zero, List.set_cons_succ, List.getElem_toArray, List.getElem_cons_zero, List.getElem_cons_succ]))
  (refine wpAnyH_ready (rs := [4]) (by kernel_rfl) (by simp) ?_; refine AllReadyH.cons rfl (fun K hK => ?_) AllReadyH.nil; go_simp; refine (joinW_own _ [List.replicate 54 0, B] _ (lists_two3 (hoz.bytes.later ((Below.refl _ _).alloc (Nat.le_refl _) _)) (HB.out _ (below_of HBM.out hHeld)) (by simp) (by simp) (by simp)) (by simp) (by have := HH.out; simp; omega)).mono ?_; rintro e w3 ⟨v2, rfl, ho2, hb2⟩; have ho2 := OwnB.weak ho2 (Nat.le_trans HBM.out.size hHeld.size); refine hK.out _ _ ?_ (fun hHeldN => ?_); (focus ((try dsimp only); (exact hHeld.trans (hb2.mono hHeld.size)))); clear hK K hHeld; have hHeld := hHeldN; clear hHeldN; (try simp only [Act.put, List.setIfInBounds_toArray, List.set_cons_zero, List.set_cons_succ, List.getElem_toArray, List.getElem_cons_zero, List.getElem_cons_succ]))
  (refine wpAnyH_take (i := 5) (v := ?_) rfl (by kernel_rfl) (by kernel_rfl) (by kernel_rfl) (fun _ _ _ h => h) (Or.inl ⟨by rfl, ?_⟩) hHeld ?_; rotate_left; (focus (intro w hSw; (try dsimp only at hSw); go_simp; try with_reducible rfl)); (try simp only [Act.put, List.setIfInBounds_toArray, List.set_cons_zero, List.set_cons_succ, List.getElem_toArray, List.getElem_cons_zero, List.getElem_cons_succ]))
  refine wpAnyH_done (by kernel_rfl) ?_ _
  have hfl : [List.replicate 54 (0 : UInt8), B].flatten = List.replicate 54 0 ++ B := by simp
  rw [hfl] at ho2
  obtain ⟨g, cap, cur, rfl, hbg, hg, hnc, _⟩ := ho2.row (by simp)
  have hne : g ≠ wm.heap.size := BlkAt.ne_own (HBX.out.later hHeld) (by decide) ho2 rfl
  have hgl : g < w3.heap.size := (Array.getElem?_eq_some_iff.1 hg).1
  obtain ⟨S, hS⟩ : ∃ S, S = 54 + B.length := ⟨_, rfl⟩
  have hl : (List.replicate 54 (0 : UInt8) ++ B).length = S := by simp; omega
  rw [hl] at ho2 ⊢
  have HBX := Lib.hid (BlkAt.later HBX.out hHeld)
  have HBM := Lib.hid (below_of HBM.out hHeld)
  have HO2 := Lib.hid ho2
  obtain ⟨N, hN⟩ : ∃ N, N = w3.heap.size := ⟨_, rfl⟩
  have HG : Hid (g ≠ wm.heap.size ∧ g < N ∧ N = w3.heap.size ∧ S = 54 + B.length ∧ wm.heap.size < N) := ⟨hne, by omega, hN, hS, by rw [hN]; exact Nat.lt_of_lt_of_le (BlkAt.lt HBX.out) (Nat.le_refl _)⟩
  clear ho2 hg hbg hnc hne hgl hS hl hfl hb2 hHeld hoz hN
  go_wp2_with fail
  refine (numbersF_any _ _ _ _).mono ?_
  rintro e w4 ⟨rfl, hnm, hb4⟩
  rw [← HG.out.2.2.1] at hnm ⊢
  have HP : Hid (PS wm f (.slice a m c) N g cap S B [] w4) := ⟨below_of HBM.out hb4, HBX.out.later hb4, hnm, OwnB.later HO2.out hb4, HG.out.1, HG.out.2.1, HG.out.2.2.2.2, HG.out.2.2.2.1⟩
  clear hnm hb4 HBX HBM HO2
  obtain ⟨c0, c1, c2, c3, c4, c5, c6, c7, c8⟩ := blk9 HP.out.bx
  go_wp2_with fail
  refine (putS HP.out k0 1 (by omega) (by omega) (by have := HH.out; omega) (by simp) (by have := HH.out; omega)).mono ?_
  rintro e w5 ⟨⟨v, rfl⟩, hp⟩
  have HP := Lib.hid hp
  clear hp c0 c1 c2 c3 c4 c5 c6 c7 c8
  obtain ⟨c0, c1, c2, c3, c4, c5, c6, c7, c8⟩ := blk9 HP.out.bx
  go_wp2_with fail
  refine (putS HP.out n0 1 (by omega) (by omega) (by have := HH.out; omega) (by simp [putL_length]) (by have := HH.out; omega)).mono ?_
  rintro e w5 ⟨⟨v, rfl⟩, hp⟩
  have HP : Hid (PS wm f (.slice a m c) N g cap S B (fhd f 0) w5) := by
    have hA : ([] ++ putL k0 1) ++ putL n0 1 = fhd f 0 := by rw [HH.out.2.2.1, HH.out.2.2.2.1]; simp [fhd, putL]
    rw [hA] at hp; exact hp
  clear hp c0 c1 c2 c3 c4 c5 c6 c7 c8
  obtain ⟨c0, c1, c2, c3, c4, c5, c6, c7, c8⟩ := blk9 HP.out.bx
  go_wp2_with fail
  clear c0 c1 c2 c3 c4 c5 c6 c7 c8
  go_loopw [49] (fun i wr => ∃ k : Nat, k ≤ 6 ∧ i = .int .i64 k ∧ Hid (PS wm f (.slice a m c) N g cap S B (fhd f k) wr)) (fun i _ => 6 - (intOf i).toNat)
  case atStart => exact ⟨0, by omega, rfl, HP.out⟩
  case round =>
    obtain ⟨k, hk, rfl, HP⟩ := hrel
    rcases Nat.lt_or_ge k 6 with hlt | hge
    · have HF := Lib.hid (fhd_succ f hlt)
      have HFL := Lib.hid (fhd_length f hk)
      obtain rfl | rfl | rfl | rfl | rfl | rfl : k = 0 ∨ k = 1 ∨ k = 2 ∨ k = 3 ∨ k = 4 ∨ k = 5 := by omega
      · have hix := fun W => ix6_0 (.int .u64 (f.mb : Nat)) (.int .u64 (f.mt : Nat)) (.int .u64 (f.tb : Nat)) (.int .u64 (f.tt : Nat)) (.int .u64 (f.s : Nat)) (.int .u64 (f.a : Nat)) W
        go_wp2_with fail
        refine (putS HP.out f.mb 8 (by omega) (by omega) (by have := HO.out.mb; omega) (by rw [HFL.out]; omega) (by have := HH.out; omega)).mono ?_
        rintro e w6 ⟨⟨v, rfl⟩, hp⟩
        have HP : Hid (PS wm f (.slice a m c) N g cap S B (fhd f 1) w6) := by
          rw [show putL f.mb 8 = putL (f.nums[0]'(by simp [Fr.nums])) 8 from rfl, ← HF.out] at hp; exact hp
        clear hp
        go_wp2_with fail
        go_roundw
        case rel => exact ⟨1, by omega, by go_num, HP.out⟩
        case measure => simp [intOf]
      · have hix := fun W => ix6_1 (.int .u64 (f.mb : Nat)) (.int .u64 (f.mt : Nat)) (.int .u64 (f.tb : Nat)) (.int .u64 (f.tt : Nat)) (.int .u64 (f.s : Nat)) (.int .u64 (f.a : Nat)) W
        go_wp2_with fail
        refine (putS HP.out f.mt 8 (by omega) (by omega) (by have := HO.out.mt; omega) (by rw [HFL.out]; omega) (by have := HH.out; omega)).mono ?_
        rintro e w6 ⟨⟨v, rfl⟩, hp⟩
        have HP : Hid (PS wm f (.slice a m c) N g cap S B (fhd f 2) w6) := by
          rw [show putL f.mt 8 = putL (f.nums[1]'(by simp [Fr.nums])) 8 from rfl, ← HF.out] at hp; exact hp
        clear hp
        go_wp2_with fail
        go_roundw
        case rel => exact ⟨2, by omega, by go_num, HP.out⟩
        case measure => simp [intOf]
      · have hix := fun W => ix6_2 (.int .u64 (f.mb : Nat)) (.int .u64 (f.mt : Nat)) (.int .u64 (f.tb : Nat)) (.int .u64 (f.tt : Nat)) (.int .u64 (f.s : Nat)) (.int .u64 (f.a : Nat)) W
        go_wp2_with fail
        refine (putS HP.out f.tb 8 (by omega) (by omega) (by have := HO.out.tb; omega) (by rw [HFL.out]; omega) (by have := HH.out; omega)).mono ?_
        rintro e w6 ⟨⟨v, rfl⟩, hp⟩
        have HP : Hid (PS wm f (.slice a m c) N g cap S B (fhd f 3) w6) := by
          rw [show putL f.tb 8 = putL (f.nums[2]'(by simp [Fr.nums])) 8 from rfl, ← HF.out] at hp; exact hp
        clear hp
        go_wp2_with fail
        go_roundw
        case rel => exact ⟨3, by omega, by go_num, HP.out⟩
        case measure => simp [intOf]
      · have hix := fun W => ix6_3 (.int .u64 (f.mb : Nat)) (.int .u64 (f.mt : Nat)) (.int .u64 (f.tb : Nat)) (.int .u64 (f.tt : Nat)) (.int .u64 (f.s : Nat)) (.int .u64 (f.a : Nat)) W
        go_wp2_with fail
        refine (putS HP.out f.tt 8 (by omega) (by omega) (by have := HO.out.tt; omega) (by rw [HFL.out]; omega) (by have := HH.out; omega)).mono ?_
        rintro e w6 ⟨⟨v, rfl⟩, hp⟩
        have HP : Hid (PS wm f (.slice a m c) N g cap S B (fhd f 4) w6) := by
          rw [show putL f.tt 8 = putL (f.nums[3]'(by simp [Fr.nums])) 8 from rfl, ← HF.out] at hp; exact hp
        clear hp
        go_wp2_with fail
        go_roundw
        case rel => exact ⟨4, by omega, by go_num, HP.out⟩
        case measure => simp [intOf]
      · have hix := fun W => ix6_4 (.int .u64 (f.mb : Nat)) (.int .u64 (f.mt : Nat)) (.int .u64 (f.tb : Nat)) (.int .u64 (f.tt : Nat)) (.int .u64 (f.s : Nat)) (.int .u64 (f.a : Nat)) W
        go_wp2_with fail
        refine (putS HP.out f.s 8 (by omega) (by omega) (by have := HO.out.s; omega) (by rw [HFL.out]; omega) (by have := HH.out; omega)).mono ?_
        rintro e w6 ⟨⟨v, rfl⟩, hp⟩
        have HP : Hid (PS wm f (.slice a m c) N g cap S B (fhd f 5) w6) := by
          rw [show putL f.s 8 = putL (f.nums[4]'(by simp [Fr.nums])) 8 from rfl, ← HF.out] at hp; exact hp
        clear hp
        go_wp2_with fail
        go_roundw
        case rel => exact ⟨5, by omega, by go_num, HP.out⟩
        case measure => simp [intOf]
      · have hix := fun W => ix6_5 (.int .u64 (f.mb : Nat)) (.int .u64 (f.mt : Nat)) (.int .u64 (f.tb : Nat)) (.int .u64 (f.tt : Nat)) (.int .u64 (f.s : Nat)) (.int .u64 (f.a : Nat)) W
        go_wp2_with fail
        refine (putS HP.out f.a 8 (by omega) (by omega) (by have := HO.out.a; omega) (by rw [HFL.out]; omega) (by have := HH.out; omega)).mono ?_
        rintro e w6 ⟨⟨v, rfl⟩, hp⟩
        have HP : Hid (PS wm f (.slice a m c) N g cap S B (fhd f 6) w6) := by
          rw [show putL f.a 8 = putL (f.nums[5]'(by simp [Fr.nums])) 8 from rfl, ← HF.out] at hp; exact hp
        clear hp
        go_wp2_with fail
        go_roundw
        case rel => exact ⟨6, by omega, by go_num, HP.out⟩
        case measure => simp [intOf]
    · have e : k = 6 := by omega
      subst e
      have HFL := Lib.hid (fhd_length f (Nat.le_refl 6))
      obtain ⟨c0, c1, c2, c3, c4, c5, c6, c7, c8⟩ := blk9 HP.out.bx
      have u3 : IntKind.u64.wrap (m : Int) = (m : Int) := IntWalk.u64_in _ ⟨by omega, by omega⟩
      go_wp2_with fail
      refine (putS HP.out m 2 (by omega) (by omega) (by have := HH.out; omega) (by rw [HFL.out]; omega) (by have := HH.out; omega)).mono ?_
      rintro e w7 ⟨⟨v, rfl⟩, hp⟩
      have hA : fhd f 6 ++ putL m 2 = fh52 f B.length := by rw [HH.out.1]; rfl
      rw [hA] at hp
      have HP := Lib.hid hp
      have hby := hp.own.bytes
      rw [fh52_length] at hby
      have hz : fh52 f B.length ++ (List.replicate (54 - 52) 0 ++ B) = frC f B 0 := rfl
      rw [hz] at hby
      have hck := check_oneB w7 _ _ hby (by rw [frC_length]; have := HH.out; omega)
      obtain ⟨ck, hck0⟩ : ∃ k, k = 65535 - Sm.tot (frC f B 0) := ⟨_, rfl⟩
      rw [← hck0] at hck
      have HCK := Lib.hid hck
      have HC : Hid (ck = 65535 - Sm.tot (frC f B 0) ∧ ck < 65536) := ⟨hck0, by omega⟩
      have u4 : IntKind.u64.wrap (ck : Int) = (ck : Int) := IntWalk.u64_in _ ⟨by omega, by omega⟩
      clear hp hby hck hck0 hz hA c0 c1 c2 c3 c4 c5 c6 c7 c8
      go_wp2_with fail
      refine HCK.out.mono ?_
      rintro e w8 ⟨rfl, hb8⟩
      have HP := Lib.hid (PS.later HP.out hb8)
      clear hb8
      go_wp2_with fail
      refine (putS HP.out ck 2 (by omega) (by omega) (by have := HC.out; omega) (by rw [fh52_length]; omega) (by have := HH.out; omega)).mono ?_
      rintro e w9 ⟨⟨v, rfl⟩, hp⟩
      have HE : Hid (OwnB w9 wm.heap.size (.slice (some ⟨g, 0, none⟩) S cap) (frL f B)) := by
        have h9 := hp.own
        have e1 : (fh52 f B.length ++ putL ck 2).length = 54 := by simp [fh52_length, putL_length]
        have e2 : fh52 f B.length ++ putL ck 2 ++ (List.replicate (54 - 54) 0 ++ B) = frL f B := by
          rw [HC.out.1]; unfold frL frC; simp
        rw [e1, e2] at h9; exact h9
      have HB := Lib.hid hp.bel
      clear hp
      go_wp2_with fail
      go_ret2
      exact ⟨_, rfl, HE.out, HB.out⟩
end Go.Proofs.Ytcahfapffhcceaa

namespace Go.Proofs.Ytcahfapffhcceaa
open Go.RowKit
attribute [local go_sem ↓] Go.wp_at_zero Go.wp_at_succ

/-- All but one block stands as it was. -/
structure Mv (N : Nat) (w w' : World) : Prop where
  low : Below (N + 1) w w'
  rest : ∀ b, b < w.heap.size → b ≠ N + 1 → w'.heap[b]? = w.heap[b]?
theorem Mv.refl (N : Nat) (w : World) : Mv N w w := ⟨Below.refl _ _, fun _ _ _ => rfl⟩
theorem Mv.size {N : Nat} {w w' : World} (h : Mv N w w') : w.heap.size ≤ w'.heap.size := h.low.size
theorem Mv.trans {N : Nat} {w w' w'' : World} (h : Mv N w w') (h' : Mv N w' w'') : Mv N w w'' :=
  ⟨h.low.trans h'.low, fun b hb hn => (h'.rest b (Nat.lt_of_lt_of_le hb h.size) hn).trans (h.rest b hb hn)⟩
theorem Mv.of_below {N : Nat} {w w' : World} (h : Below w.heap.size w w') (hN : N + 1 ≤ w.heap.size) : Mv N w w' := ⟨h.mono hN, fun b hb _ => h.block b hb⟩
theorem Mv.set (N : Nat) (w : World) (x : Value) : Mv N w (w.setCell ⟨N + 1, 0, none⟩ x) :=
  ⟨(Below.refl _ _).setCell (by simp) _, fun b _ hn => Below.heap_setCell _ _ _ _ (by simpa using hn)⟩
theorem Mv.drew {N : Nat} {w w' : World} (h : Mv N w w') : Mv N w w'.drew := ⟨h.low.drew, h.rest⟩
theorem Mv.below {N : Nat} {w w' : World} (h : Mv N w w') {B : Nat} (hB : B ≤ N + 1) : Below B w w' := h.low.mono hB
theorem Mv.bytes {N p : Nat} {v u : Value} {l : List UInt8} {w w' : World} (hm : Mv N w w') (h : Nm N p v w) (hu : Bytes w u l) : Bytes w' u l := by
  rcases hu with hu | ⟨b, o, c, rfl, hb, hc, hx⟩
  · exact .inl hu
  · by_cases hl : l = []
    · subst hl; exact .inl ⟨rfl, _, _, rfl, by simp⟩
    · have hne : b ≠ N + 1 := by
        intro e
        obtain ⟨y, r, rfl⟩ := List.exists_cons_of_ne_nil hl
        have h0 := hx 0 y rfl
        rw [e, cell_of_row w (N + 1) (o + 0) _ _ (0, 0) h.c1] at h0
        cases o with
        | zero => simp at h0
        | succ o => simp at h0
      exact .inr ⟨b, o, c, rfl, Nat.lt_of_lt_of_le hb hm.size, hc, fun j y hj => (cell_block (hm.rest b hb hne)).trans (hx j y hj)⟩
theorem Mv.blk {N : Nat} {w w' : World} (hm : Mv N w w') {t : TypeId} {g : Nat} {cs : List Value} (h : BlkAt t g cs w) (hg : g ≠ N + 1) : BlkAt t g cs w' := (hm.rest g h.lt hg).trans h
theorem Nm.lt {N p : Nat} {v : Value} {w : World} (h : Nm N p v w) : N + 2 < w.heap.size := (Array.getElem?_eq_some_iff.1 h.c2).1

/-- What holds while numbers are read. -/
structure RS (N p b o n c : Nat) (l : List UInt8) (w : World) : Prop where
  nm : Nm N p (.slice (some ⟨b, o, none⟩) n c) w
  by_ : Bytes w (.slice (some ⟨b, o, none⟩) n c) l
  bN : b < N
  len : n = l.length
  le : n ≤ 100000
theorem RS.later {N p b o n c : Nat} {l : List UInt8} {w w' : World} (h : RS N p b o n c l w) (hb : Below w.heap.size w w') : RS N p b o n c l w' := ⟨h.nm.below hb, h.by_.later hb, h.bN, h.len, h.le⟩
theorem getS {N p b o n c : Nat} {l : List UInt8} {w : World} (h : RS N p b o n c l w) (size : Nat) (h1 : 1 ≤ size) (h8 : size ≤ 8) (h2 : p + size ≤ n) :
    Calls Try.prog 45 #[.int .i64 (size : Int), .pointer (some ⟨N + 2, 0, none⟩)] w fun e w' => e = .returned (.int .u64 (fld l p size : Nat)) ∧ RS N (p + size) b o n c l w' ∧ Mv N w w' :=
  (getF_any N p size n c b o l w h.nm h.by_ h.bN h.len h1 h8 h2 h.le).mono fun _ w' ⟨e1, e2, _, e4⟩ => by
    have hm : Mv N w w' := by rw [e4]; exact Mv.set N w _
    exact ⟨e1, ⟨e2, hm.bytes h.nm h.by_, h.bN, h.len, h.le⟩, hm⟩

/-- The closure that reads a number. -/
def gtF (N : Nat) : Value := .func (.func 45) #[] #[.pointer (some ⟨N + 2, 0, none⟩)]
set_option maxHeartbeats 2000000 in
set_option maxRecDepth 100000 in
theorem tagS {N p b o n c : Nat} {l : List UInt8} {w : World} (h : RS N p b o n c l w) (h2 : p + 16 ≤ n) (G : Nat) (hG : BlkAt 61 G [gtF N] w) :
    Calls Try.prog 38 #[.pointer (some ⟨G, 0, none⟩)] w fun e w' => e = .returned (.agg #[.int .u64 (fld l p 8 : Nat), .int .u64 (fld l (p + 8) 8 : Nat)]) ∧ RS N (p + 16) b o n c l w' ∧ Mv N w w' := by
  have hGN : G ≠ N + 1 := by
    intro e; subst e
    have := h.nm.c1
    rw [show w.heap[N + 1]? = _ from hG] at this
    simp [gtF] at this
  obtain ⟨w1, hw1⟩ : ∃ w1, w1 = w.alloc (.cells #[.int .u64 0, .int .u64 0] 25) := ⟨_, rfl⟩
  have hb1 : Below w.heap.size w w1 := by rw [hw1]; exact (Below.refl _ _).alloc (Nat.le_refl _) _
  have HR : Hid (BlkAt 25 w.heap.size [.int .u64 0, .int .u64 0] w1) := by rw [hw1]; exact BlkAt.new w _
  have HS := Lib.hid (h.later hb1)
  have HG := Lib.hid hG
  have HM := Lib.hid (Mv.of_below (N := N) hb1 (by have := h.nm.lt; omega))
  have HH : Hid (p + 16 ≤ n ∧ G ≠ N + 1 ∧ w.heap.size ≠ N + 1 ∧ N + 2 < w.heap.size) := ⟨h2, hGN, by have := h.nm.lt; omega, h.nm.lt⟩
  clear h hG hGN hb1 h2
  go_enter Try.func38, Try.ntmps38
  go_wp2_with fail
  rw [← hw1]
  clear hw1
  (refine wp_region_held_drew (S := (fun w' => Mv N w w')) (by kernel_rfl) ?_ (fun hHeld => ?_); (focus ((try dsimp only); (exact HM.out.drew))))
  (try dsimp only at hHeld)
  obtain ⟨w0, hw0⟩ : ∃ w4, w4 = World.drew w1 := ⟨_, rfl⟩
  have HS := Lib.hid (show RS N p b o n c l w0 by rw [hw0]; exact HS.out.later (Below.refl _ _).drew)
  have HR := Lib.hid (show BlkAt 25 w.heap.size [.int .u64 0, .int .u64 0] w0 by rw [hw0]; exact HR.out)
  rw [← hw0]
  rw [← hw0] at hHeld
  clear hw0
  (refine wpAnyH_take (i := 0) (v := ?_) rfl (by kernel_rfl) (by kernel_rfl) (by kernel_rfl) (fun _ _ _ h => h) (Or.inl ⟨by rfl, ?_⟩) hHeld ?_; rotate_left; (focus (intro w hSw; (try dsimp only at hSw); go_simp; (have hcc := (hSw.blk HG.out HH.out.2.1).cell (j := 0) rfl; unfold gtF at hcc; go_simp; try with_reducible rfl))); (try simp only [Act.put, List.setIfInBounds_toArray, List.set_cons_zero, List.set_cons_succ, List.getElem_toArray, List.getElem_cons_zero]))
  (refine wpAnyH_take (i := 2) (v := ?_) rfl (by kernel_rfl) (by kernel_rfl) (by kernel_rfl) (fun _ _ _ h => h) (Or.inl ⟨by rfl, ?_⟩) hHeld ?_; rotate_left; (focus (intro w hSw; (try dsimp only at hSw); go_simp; (have hcc := (hSw.blk HG.out HH.out.2.1).cell (j := 0) rfl; unfold gtF at hcc; go_simp; try with_reducible rfl))); (try simp only [Act.put, List.setIfInBounds_toArray, List.set_cons_zero, List.set_cons_succ, List.getElem_toArray, List.getElem_cons_zero, List.getElem_cons_succ]))
  (refine wpAnyH_ready (rs := [1]) (by kernel_rfl) (by simp) ?_; refine AllReadyH.cons rfl (fun K hK => ?_) AllReadyH.nil; go_simp; refine (getS HS.out 8 (by omega) (by omega) (by have := HH.out; omega)).mono ?_; rintro e w2 ⟨rfl, hs2, hm2⟩; have HS := Lib.hid hs2; have HR := Lib.hid (hm2.blk HR.out HH.out.2.2.1); clear hs2; refine hK.out _ _ ?_ (fun hHeldN => ?_); (focus ((try dsimp only); (exact hHeld.trans hm2))); clear hK K hHeld; have hHeld := hHeldN; clear hHeldN; (try simp only [Act.put, List.setIfInBounds_toArray, List.set_cons_zero, List.set_cons_succ, List.getElem_toArray, List.getElem_cons_zero, List.getElem_cons_succ]))
  clear hm2
  (refine wpAnyH_ready (rs := [3]) (by kernel_rfl) (by simp) ?_; refine AllReadyH.cons rfl (fun K hK => ?_) AllReadyH.nil; go_simp; refine (getS HS.out 8 (by omega) (by omega) (by have := HH.out; omega)).mono ?_; rintro e w3 ⟨rfl, hs3, hm3⟩; have HS := Lib.hid hs3; have HR := Lib.hid (hm3.blk HR.out HH.out.2.2.1); clear hs3; refine hK.out _ _ ?_ (fun hHeldN => ?_); (focus ((try dsimp only); (exact hHeld.trans hm3))); clear hK K hHeld; have hHeld := hHeldN; clear hHeldN; (try simp only [Act.put, List.setIfInBounds_toArray, List.set_cons_zero, List.set_cons_succ, List.getElem_toArray, List.getElem_cons_zero, List.getElem_cons_succ]))
  clear hm3
  (refine wpAnyH_take (i := 4) (v := ?_) rfl (by kernel_rfl) (by kernel_rfl) (by kernel_rfl) (fun _ _ _ h => h) (Or.inl ⟨by rfl, ?_⟩) hHeld ?_; rotate_left; (focus (intro w hSw; (try dsimp only at hSw); go_simp; try with_reducible rfl)); (try simp only [Act.put, List.setIfInBounds_toArray, List.set_cons_zero, List.set_cons_succ, List.getElem_toArray, List.getElem_cons_zero, List.getElem_cons_succ]))
  refine wpAnyH_ready (rs := [5]) (by kernel_rfl) (by simp) ?_
  refine AllReadyH.cons rfl (fun K hK => ?_) AllReadyH.nil
  obtain ⟨X, hX⟩ : ∃ x, x = fld l p 8 := ⟨_, rfl⟩
  obtain ⟨Y, hY⟩ : ∃ x, x = fld l (p + 8) 8 := ⟨_, rfl⟩
  have c0 := BlkAt.cell HR.out (j := 0) rfl
  have c1 := BlkAt.cell HR.out (j := 1) rfl
  have hfz : ∀ j, w3.frozen? ⟨w.heap.size, j, none⟩ = false := fun j => BlkAt.frozen HR.out j
  have hs := ((BlkAt.set HR.out 0 (.int .u64 (X : Nat))).set 1 (.int .u64 (Y : Nat)))
  have HR2 : Hid (BlkAt 25 w.heap.size [.int .u64 (X : Nat), .int .u64 (Y : Nat)] ((w3.setCell ⟨w.heap.size, 0, none⟩ (.int .u64 (X : Nat))).setCell ⟨w.heap.size, 1, none⟩ (.int .u64 (Y : Nat)))) := hs
  have hne : ∀ b, b ≠ w.heap.size → ((w3.setCell ⟨w.heap.size, 0, none⟩ (.int .u64 (X : Nat))).setCell ⟨w.heap.size, 1, none⟩ (.int .u64 (Y : Nat))).heap[b]? = w3.heap[b]? := fun b hb => by
    rw [Below.heap_setCell _ _ _ _ (by simpa using hb), Below.heap_setCell _ _ _ _ (by simpa using hb)]
  have hlow : Below w.heap.size w3 ((w3.setCell ⟨w.heap.size, 0, none⟩ (.int .u64 (X : Nat))).setCell ⟨w.heap.size, 1, none⟩ (.int .u64 (Y : Nat))) := ((Below.refl _ _).setCell (by simp) _).setCell (by simp) _
  have HM2 : Hid (Mv N w ((w3.setCell ⟨w.heap.size, 0, none⟩ (.int .u64 (X : Nat))).setCell ⟨w.heap.size, 1, none⟩ (.int .u64 (Y : Nat)))) :=
    ⟨hHeld.low.trans (hlow.mono (by have := HH.out; omega)), fun b hb hn => (hne b (by omega)).trans (hHeld.rest b hb hn)⟩
  have HS2 : Hid (RS N (p + 16) b o n c l ((w3.setCell ⟨w.heap.size, 0, none⟩ (.int .u64 (X : Nat))).setCell ⟨w.heap.size, 1, none⟩ (.int .u64 (Y : Nat)))) := by
    obtain ⟨h1, h2, h3, h4, h5⟩ := (show RS N (p + 8 + 8) b o n c l w3 from HS.out)
    refine ⟨⟨(hne _ (by have := HH.out; omega)).trans h1.c0, (hne _ (by have := HH.out; omega)).trans h1.c1, (hne _ (by have := HH.out; omega)).trans h1.c2⟩, ?_, h3, h4, h5⟩
    rcases h2 with h2 | ⟨b', o', c', e, hb, hc, hx⟩
    · exact .inl h2
    · simp only [Value.slice.injEq, Option.some.injEq, Addr.mk.injEq] at e
      obtain ⟨⟨rfl, rfl, _⟩, rfl, rfl⟩ := e
      exact .inr ⟨b, o, c, rfl, Nat.lt_of_lt_of_le hb hlow.size, hc, fun j y hj => (cell_block (hne b (by have := HH.out; omega))).trans (hx j y hj)⟩
  clear hs hne hlow
  subst hX hY
  go_simp
  refine hK.out _ _ HM2.out (fun hHeldN => ?_)
  refine wpAnyH_done (by kernel_rfl) ?_ _
  go_wp2_with fail
  have d0 := BlkAt.cell HR2.out (j := 0) rfl
  have d1 := BlkAt.cell HR2.out (j := 1) rfl
  exact bodyPost_ret (v := .agg #[.int .u64 (fld l p 8 : Nat), .int .u64 (fld l (p + 8) 8 : Nat)]) (by simp [results, Try.results38, go_sem, d0, d1]) rfl ⟨rfl, HS2.out, HM2.out⟩
end Go.Proofs.Ytcahfapffhcceaa
