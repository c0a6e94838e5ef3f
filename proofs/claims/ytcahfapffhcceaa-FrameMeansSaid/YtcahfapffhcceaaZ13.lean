/- ref06.Bytes: the walk. -/
import Derived.Test.YtcahfapffhcceaaZ02
import Derived.Test.YtcahfapffhcceaaZ03
import Derived.Test.YtcahfapffhcceaaZ06
import Derived.Test.YtcahfapffhcceaaZ12

set_option linter.unusedSimpArgs false
set_option linter.unusedVariables false
namespace Go.Proofs.Ytcahfapffhcceaa
open Go.RowKit
attribute [local go_sem ↓] Go.wp_at_zero Go.wp_at_succ

/-- Ten lists, one behind the other in memory. -/
theorem lists_ten {W : World} {u0 u1 u2 u3 u4 u5 u6 u7 u8 u9 : Value} {l0 l1 l2 l3 l4 l5 l6 l7 l8 l9 : List UInt8} {n : Nat} (hn : n < W.heap.size)
    (hc : BlkAt 26 n [u0, u1, u2, u3, u4, u5, u6, u7, u8, u9] W)
    (h0 : Bytes W u0 l0) (h1 : Bytes W u1 l1) (h2 : Bytes W u2 l2) (h3 : Bytes W u3 l3) (h4 : Bytes W u4 l4) (h5 : Bytes W u5 l5) (h6 : Bytes W u6 l6) (h7 : Bytes W u7 l7) (h8 : Bytes W u8 l8) (h9 : Bytes W u9 l9) :
    Lists W (.slice (some ⟨n, 0, none⟩) 10 10) [l0, l1, l2, l3, l4, l5, l6, l7, l8, l9] :=
  .inr ⟨n, 0, 10, rfl, hn, Nat.le_refl _, fun j x hx => by
    match j, hx with
    | 0, hx => simp at hx; subst hx; exact ⟨u0, by simpa using hc.cell (j := 0) rfl, h0⟩
    | 1, hx => simp at hx; subst hx; exact ⟨u1, by simpa using hc.cell (j := 1) rfl, h1⟩
    | 2, hx => simp at hx; subst hx; exact ⟨u2, by simpa using hc.cell (j := 2) rfl, h2⟩
    | 3, hx => simp at hx; subst hx; exact ⟨u3, by simpa using hc.cell (j := 3) rfl, h3⟩
    | 4, hx => simp at hx; subst hx; exact ⟨u4, by simpa using hc.cell (j := 4) rfl, h4⟩
    | 5, hx => simp at hx; subst hx; exact ⟨u5, by simpa using hc.cell (j := 5) rfl, h5⟩
    | 6, hx => simp at hx; subst hx; exact ⟨u6, by simpa using hc.cell (j := 6) rfl, h6⟩
    | 7, hx => simp at hx; subst hx; exact ⟨u7, by simpa using hc.cell (j := 7) rfl, h7⟩
    | 8, hx => simp at hx; subst hx; exact ⟨u8, by simpa using hc.cell (j := 8) rfl, h8⟩
    | 9, hx => simp at hx; subst hx; exact ⟨u9, by simpa using hc.cell (j := 9) rfl, h9⟩⟩

theorem form_put {W : World} {p : Value} {n k : Nat} (h : Bytes W p (putL n k)) : ∃ a c, p = .slice a k c := by
  obtain ⟨a, c, e⟩ := h.form
  rw [putL_length] at e
  exact ⟨a, c, e⟩

theorem cut_both0 (b c lo hi n : Nat) (h1 : lo < hi) (h2 : hi ≤ n) (h3 : n ≤ c) (w : World) : (Instr.slice 26 (.slice (some ⟨b, 0, none⟩) n c) (some (.int .i64 (lo : Int))) (some (.int .i64 (hi : Int))) none).run Try.prog w = .ok (.slice (some ⟨b, lo, none⟩) (hi - lo) (c - lo)) w := by
  have h := cut_both b 0 c lo hi n h1 h2 h3 w
  rw [Nat.zero_add] at h; exact h
theorem spl_frC (f : Fr) (B : List UInt8) (c : Nat) : spl (frC f B 0) 52 (putL c 2) = frC f B c := by
  have h := spl_fill (fh52 f B.length) (putL c 2) B 2 52 (fh52_length f _).symm (by rw [putL_length]; omega)
  rw [show List.replicate 2 0 ++ B = putL 0 2 ++ B from rfl] at h
  have e : fh52 f B.length ++ (putL 0 2 ++ B) = frC f B 0 := rfl
  rw [e] at h
  rw [h]
  unfold frC
  simp [putL_length]

set_option maxHeartbeats 32000000 in
set_option maxRecDepth 100000 in
theorem bytesR6_any (f : Fr) (ho : f.Ok) (v : Value) (B : List UInt8) (wm : World) (hB : Bytes wm v B) (h : mayF f B = true) :
    Calls Try.prog 12 #[.agg #[.int .i64 f.k, .int .i64 f.n, .int .u64 (f.mb : Nat), .int .u64 (f.mt : Nat), .int .u64 (f.tb : Nat), .int .u64 (f.tt : Nat), .int .u64 (f.s : Nat), .int .u64 (f.a : Nat), v]] wm fun e w' => ∃ v, e = .returned v ∧ OwnB w' wm.heap.size v (frL f B) ∧ Below wm.heap.size wm w' := by
  obtain ⟨a, c, rfl⟩ := hB.form
  obtain ⟨⟨n1, n2⟩, ⟨k1, k2⟩, hl⟩ := may_of6 h
  obtain ⟨k0, hk0⟩ : ∃ k0, k0 = f.k.toNat := ⟨_, rfl⟩
  obtain ⟨n0, hn0⟩ : ∃ n0, n0 = f.n.toNat := ⟨_, rfl⟩
  have u1 : IntKind.u8.wrap f.k = (k0 : Int) := by rw [wrap8]; omega
  have u2 : IntKind.u8.wrap f.n = (n0 : Int) := by rw [wrap8]; omega
  obtain ⟨m, hm⟩ : ∃ m, m = B.length := ⟨_, rfl⟩
  have u3 : IntKind.u64.wrap (m : Int) = (m : Int) := IntWalk.u64_in _ ⟨by omega, by omega⟩
  obtain ⟨w, hw⟩ : ∃ w, w = wm.alloc (.cells #[.int .i64 f.k, .int .i64 f.n, .int .u64 (f.mb : Nat), .int .u64 (f.mt : Nat), .int .u64 (f.tb : Nat), .int .u64 (f.tt : Nat), .int .u64 (f.s : Nat), .int .u64 (f.a : Nat), .slice a m c] 28) := ⟨_, rfl⟩
  have HBM : Hid (Below wm.heap.size wm w) := by rw [hw]; exact (Below.refl _ _).alloc (Nat.le_refl _) _
  have HBX : Hid (BlkAt 28 wm.heap.size [.int .i64 f.k, .int .i64 f.n, .int .u64 (f.mb : Nat), .int .u64 (f.mt : Nat), .int .u64 (f.tb : Nat), .int .u64 (f.tt : Nat), .int .u64 (f.s : Nat), .int .u64 (f.a : Nat), .slice a m c] w) := by rw [hw]; exact BlkAt.new wm _
  have HB : Hid (∀ W, Below wm.heap.size wm W → Bytes W (.slice a m c) B) := fun W hW => by rw [hm]; exact hB.later hW
  have HH : Hid (m = B.length ∧ B.length ≤ 2048 ∧ k0 = f.k.toNat ∧ n0 = f.n.toNat ∧ k0 < 256 ∧ n0 < 256) := ⟨hm, hl, hk0, hn0, by omega, by omega⟩
  have HO := Lib.hid ho
  have km : (m : Int) ≤ 2048 := by omega
  rw [← hm]
  clear hB hl h hm n1 n2 k1 k2 hk0 hn0 ho
  go_enter Try.func12, Try.ntmps12
  go_wp2_with fail
  rw [← hw]
  clear hw
  (refine wp_region_held_drew (S := (fun w' => Below w.heap.size w w')) (by kernel_rfl) ?_ (fun hHeld => ?_); (focus ((try dsimp only); (exact (Below.refl _ _).drew))))
  (try dsimp only at hHeld)
  obtain ⟨w0, hw0⟩ : ∃ w4, w4 = World.drew w := ⟨_, rfl⟩
  rw [← hw0]
  rw [← hw0] at hHeld
  clear hw0
  refine wpAnyH_cut #[true, true, true, true, true, true, true, true, true, true, true, true, true, true, true, true, true, true, true, true, true, true, true, true, true, true, true, true, true, true, true, true, true, true, true, true, true, false, false, false] 3 (fun A w1 => ∃ p0 : Value, ∃ p1 : Value, ∃ p2 : Value, ∃ p3 : Value, ∃ p4 : Value, ∃ p5 : Value, ∃ p6 : Value, ∃ g6 : Nat, ∃ g7 : Nat, A = ⟨#[.agg #[.int .i64 f.k, .int .i64 f.n, .int .u64 (f.mb : Nat), .int .u64 (f.mt : Nat), .int .u64 (f.tb : Nat), .int .u64 (f.tt : Nat), .int .u64 (f.s : Nat), .int .u64 (f.a : Nat), .slice a m c], .pointer (some ⟨wm.heap.size, 0, none⟩), .slice none 0 0, undef, .pointer (some ⟨wm.heap.size, 0, none⟩), .int .i64 f.k, .int .u8 (k0 : Nat), .pointer (some ⟨wm.heap.size, 1, none⟩), .int .i64 f.n, .int .u8 (n0 : Nat), .slice (some ⟨g6, 0, none⟩) 2 2, .pointer (some ⟨wm.heap.size, 2, none⟩), .pointer (some ⟨wm.heap.size, 2, none⟩), .int .u64 (f.mb : Nat), p0, .pointer (some ⟨wm.heap.size, 2, none⟩), .pointer (some ⟨wm.heap.size, 3, none⟩), .int .u64 (f.mt : Nat), p1, .pointer (some ⟨wm.heap.size, 4, none⟩), .pointer (some ⟨wm.heap.size, 4, none⟩), .int .u64 (f.tb : Nat), p2, .pointer (some ⟨wm.heap.size, 4, none⟩), .pointer (some ⟨wm.heap.size, 5, none⟩), .int .u64 (f.tt : Nat), p3, .pointer (some ⟨wm.heap.size, 6, none⟩), .int .u64 (f.s : Nat), p4, .pointer (some ⟨wm.heap.size, 7, none⟩), .int .u64 (f.a : Nat), p5, .pointer (some ⟨wm.heap.size, 8, none⟩), .slice a m c, .int .i64 (m : Nat), .int .u64 (m : Nat), p6, .slice (some ⟨g7, 0, none⟩) 2 2, .pointer (some ⟨wm.heap.size, 8, none⟩), .slice a m c, undef, undef, undef, undef, undef, undef, undef, undef, undef, undef], []⟩ ∧ Hid (Bytes w1 p0 (putL f.mb 8)) ∧ Hid (Bytes w1 p1 (putL f.mt 8)) ∧ Hid (Bytes w1 p2 (putL f.tb 8)) ∧ Hid (Bytes w1 p3 (putL f.tt 8)) ∧ Hid (Bytes w1 p4 (putL f.s 8)) ∧ Hid (Bytes w1 p5 (putL f.a 8)) ∧ Hid (Bytes w1 p6 (putL m 2)) ∧ Hid (Bytes w1 (.slice (some ⟨g6, 0, none⟩) 2 2) [UInt8.ofNat k0, UInt8.ofNat n0]) ∧ Hid (Bytes w1 (.slice (some ⟨g7, 0, none⟩) 2 2) [0, 0])) ?_ (fun m0 => ?_)
  · rintro l' A w1 rfl ⟨p0, p1, p2, p3, p4, p5, p6, g6, g7, rfl, P0, P1, P2, P3, P4, P5, P6, Q6, Q7⟩ hHeld
    obtain ⟨a0, d0, rfl⟩ := form_put P0.out
    obtain ⟨a1, d1, rfl⟩ := form_put P1.out
    obtain ⟨a2, d2, rfl⟩ := form_put P2.out
    obtain ⟨a3, d3, rfl⟩ := form_put P3.out
    obtain ⟨a4, d4, rfl⟩ := form_put P4.out
    obtain ⟨a5, d5, rfl⟩ := form_put P5.out
    obtain ⟨a6, d6, rfl⟩ := form_put P6.out
    have HBN := Lib.hid (HB.out _ (below_of HBM.out hHeld))
    (refine wpAnyH_ready (rs := [37]) (by kernel_rfl) (by simp) ?_; refine AllReadyH.cons rfl (fun K hK => ?_) AllReadyH.nil; go_simp; skip; refine hK.out _ _ ?_ (fun hHeldN => ?_); (focus ((try dsimp only); (exact hHeld.alloc hHeld.size _))); clear hK K hHeld; have hHeld := hHeldN; clear hHeldN; (try simp only [Act.put, List.setIfInBounds_toArray, List.set_cons_zero, List.set_cons_succ, List.getElem_toArray, List.getElem_cons_zero, List.getElem_cons_succ]))
    (refine wpAnyH_ready (rs := [38]) (by kernel_rfl) (by simp) ?_; refine AllReadyH.cons rfl (fun K hK => ?_) AllReadyH.nil; go_simp; refine (joinRO_any _ [[UInt8.ofNat k0, UInt8.ofNat n0], putL f.mb 8, putL f.mt 8, putL f.tb 8, putL f.tt 8, putL f.s 8, putL f.a 8, putL m 2, [0, 0], B] _ (lists_ten (by simp) (BlkAt.new w1 _) (Bytes.later Q6.out (ba1 _ _)) (Bytes.later P0.out (ba1 _ _)) (Bytes.later P1.out (ba1 _ _)) (Bytes.later P2.out (ba1 _ _)) (Bytes.later P3.out (ba1 _ _)) (Bytes.later P4.out (ba1 _ _)) (Bytes.later P5.out (ba1 _ _)) (Bytes.later P6.out (ba1 _ _)) (Bytes.later Q7.out (ba1 _ _)) (Bytes.later HBN.out (ba1 _ _))) (by simp) (by have := HH.out; simp [putL_length]; omega)).mono ?_; rintro e w3 ⟨v2, rfl, ho2, hb2⟩; have ho2 := OwnB.weak ho2 (Nat.le_trans HBM.out.size hHeld.size); refine hK.out _ _ ?_ (fun hHeldN => ?_); (focus ((try dsimp only); (exact hHeld.trans (hb2.mono hHeld.size)))); clear hK K hHeld; have hHeld := hHeldN; clear hHeldN; (try simp only [Act.put, List.setIfInBounds_toArray, List.set_cons_zero, List.set_cons_succ, List.getElem_toArray, List.getElem_cons_zero, List.getElem_cons_succ]))
    (refine wpAnyH_take (i := 39) (v := ?_) rfl (by kernel_rfl) (by kernel_rfl) (by kernel_rfl) (fun _ _ _ h => h) (Or.inl ⟨by rfl, ?_⟩) hHeld ?_; rotate_left; (focus (intro w hSw; (try dsimp only at hSw); go_simp; try with_reducible rfl)); (try simp only [Act.put, List.setIfInBounds_toArray, List.set_cons_zero, List.set_cons_succ, List.getElem_toArray, List.getElem_cons_zero, List.getElem_cons_succ]))
    refine wpAnyH_done (by kernel_rfl) ?_ _
    have hfl : [[UInt8.ofNat k0, UInt8.ofNat n0], putL f.mb 8, putL f.mt 8, putL f.tb 8, putL f.tt 8, putL f.s 8, putL f.a 8, putL m 2, [0, 0], B].flatten = frC f B 0 := by
      rw [HH.out.1, HH.out.2.2.1, HH.out.2.2.2.1]; simp [frC, fh52, fhd, Fr.nums, putL]
    rw [hfl] at ho2
    obtain ⟨L0, hL0⟩ : ∃ L0, L0 = frC f B 0 := ⟨_, rfl⟩
    rw [← hL0] at ho2
    have hln : L0.length = 54 + m := by rw [hL0, frC_length, HH.out.1]
    obtain ⟨g, cap, _, rfl, hbg, _, hnc, _⟩ := ho2.row (by omega)
    obtain ⟨S, hS⟩ : ∃ S, S = L0.length := ⟨_, rfl⟩
    have hcut : ∀ W, (Instr.slice 26 (.slice (some ⟨g, 0, none⟩) S cap) (some (.int .i64 52)) (some (.int .i64 54)) none).run Try.prog W = .ok (.slice (some ⟨g, 52, none⟩) 2 (cap - 52)) W := fun W => cut_both0 g cap 52 54 S (by omega) (by omega) (by omega) W
    have HLN : Hid (S = 54 + m ∧ S = L0.length ∧ L0 = frC f B 0 ∧ wm.heap.size ≤ g ∧ L0.length ≤ cap ∧ L0.length ≤ 10000) := ⟨by omega, hS, hL0, hbg, hnc, by have := HH.out; omega⟩
    have HB2 := Lib.hid (HBM.out.trans (hHeld.mono HBM.out.size))
    have HO2 := Lib.hid ho2
    obtain ⟨ck, hck⟩ : ∃ k, k = 65535 - Sm.tot L0 := ⟨_, rfl⟩
    have HCK := Lib.hid hck
    have HC6 : Hid (ck < 65536) := by show ck < 65536; omega
    rw [← hS]
    clear hL0 hln hbg hnc hS hck ho2 hb2 hHeld hfl P0 P1 P2 P3 P4 P5 P6 Q6 Q7 HBN HBX HB
    go_wp2_with fail
    (refine wp_region_held_drew (S := (fun w' => Below wm.heap.size wm w')) (by kernel_rfl) ?_ (fun hHeld => ?_); (focus ((try dsimp only); (exact HB2.out.drew))))
    (try dsimp only at hHeld)
    obtain ⟨w5, hw5⟩ : ∃ w4, w4 = World.drew w3 := ⟨_, rfl⟩
    have HO3 : Hid (OwnB w5 wm.heap.size (.slice (some ⟨g, 0, none⟩) L0.length cap) L0) := by rw [hw5]; exact HO2.out
    rw [← hw5]
    rw [← hw5] at hHeld
    clear hw5
    (refine wpAnyH_take (i := 0) (v := ?_) rfl (by kernel_rfl) (by kernel_rfl) (by kernel_rfl) (fun _ _ _ h => h) (Or.inl ⟨by rfl, ?_⟩) hHeld ?_; rotate_left; (focus (intro w hSw; (try dsimp only at hSw); go_simp; try with_reducible rfl)); (try simp only [Act.put, List.setIfInBounds_toArray, List.set_cons_zero, List.set_cons_succ, List.getElem_toArray, List.getElem_cons_zero])); (refine wpAnyH_take (i := 1) (v := ?_) rfl (by kernel_rfl) (by kernel_rfl) (by kernel_rfl) (fun _ _ _ h => h) (Or.inl ⟨by rfl, ?_⟩) hHeld ?_; rotate_left; (focus (intro w hSw; (try dsimp only at hSw); go_simp; try with_reducible rfl)); (try simp only [Act.put, List.setIfInBounds_toArray, List.set_cons_zero, List.set_cons_succ, List.getElem_toArray, List.getElem_cons_zero, List.getElem_cons_succ])); (refine wpAnyH_take (i := 2) (v := ?_) rfl (by kernel_rfl) (by kernel_rfl) (by kernel_rfl) (fun _ _ _ h => h) (Or.inl ⟨by rfl, ?_⟩) hHeld ?_; rotate_left; (focus (intro w hSw; (try dsimp only at hSw); go_simp; try with_reducible rfl)); (try simp only [Act.put, List.setIfInBounds_toArray, List.set_cons_zero, List.set_cons_succ, List.getElem_toArray, List.getElem_cons_zero, List.getElem_cons_succ]))
    have hby := OwnB.bytes HO3.out
    rw [← HLN.out.2.1] at hby
    have HCH := Lib.hid (checkR_anyB _ L0 w5 hby (by have := HLN.out; omega))
    rw [← HCK.out] at HCH
    clear hby
    (refine wpAnyH_ready (rs := [3]) (by kernel_rfl) (by simp) ?_; refine AllReadyH.cons rfl (fun K hK => ?_) AllReadyH.nil; go_simp; refine HCH.out.mono ?_; rintro e w6 ⟨rfl, hb6⟩; have HO4 := Lib.hid (OwnB.later HO3.out hb6); refine hK.out _ _ ?_ (fun hHeldN => ?_); (focus ((try dsimp only); (exact hHeld.trans (hb6.mono hHeld.size)))); clear hK K hHeld; have hHeld := hHeldN; clear hHeldN; (try simp only [Act.put, List.setIfInBounds_toArray, List.set_cons_zero, List.set_cons_succ, List.getElem_toArray, List.getElem_cons_zero, List.getElem_cons_succ]))
    clear hb6
    have hwc : IntKind.u64.wrap (ck : Int) = (ck : Int) := IntWalk.u64_in _ ⟨by have := HC6.out; omega, by have := HC6.out; omega⟩
    (refine wpAnyH_take (i := 4) (v := ?_) rfl (by kernel_rfl) (by kernel_rfl) (by kernel_rfl) (fun _ _ _ h => h) (Or.inl ⟨by rfl, ?_⟩) hHeld ?_; rotate_left; (focus (intro w hSw; (try dsimp only at hSw); go_simp; try with_reducible rfl)); (try simp only [Act.put, List.setIfInBounds_toArray, List.set_cons_zero, List.set_cons_succ, List.getElem_toArray, List.getElem_cons_zero, List.getElem_cons_succ]))
    (refine wpAnyH_ready (rs := [5]) (by kernel_rfl) (by simp) ?_; refine AllReadyH.cons rfl (fun K hK => ?_) AllReadyH.nil; go_simp; refine (putR_any ck 2 w6 (by have := HC6.out; omega) (by omega)).mono ?_; rintro e w7 ⟨y, rfl, hy, hb7⟩; have HO5 := Lib.hid (OwnB.later HO4.out hb7); refine hK.out _ _ ?_ (fun hHeldN => ?_); (focus ((try dsimp only); (exact hHeld.trans (hb7.mono hHeld.size)))); clear hK K hHeld; have hHeld := hHeldN; clear hHeldN; (try simp only [Act.put, List.setIfInBounds_toArray, List.set_cons_zero, List.set_cons_succ, List.getElem_toArray, List.getElem_cons_zero, List.getElem_cons_succ]))
    clear hb7
    obtain ⟨b5, o5, c5, rfl⟩ : ∃ b o c, y = .slice (some ⟨b, o, none⟩) 2 c := by
      rcases hy with ⟨h0, _⟩ | ⟨b, o, c, e, _⟩
      · have := congrArg List.length h0; rw [putL_length] at this; simp at this
      · rw [putL_length] at e; exact ⟨b, o, c, e⟩
    obtain ⟨gz, cz, cur, e1, hbz, hgc, hnc, hcs⟩ := OwnB.row HO5.out (by have := HLN.out; omega)
    simp only [Value.slice.injEq, Option.some.injEq, Addr.mk.injEq, and_true] at e1
    obtain ⟨rfl, _, rfl⟩ := e1
    have hl2 : (bv (putL ck 2)).length = 2 := by simp [bv, putL_length]
    (refine wpAnyH_ready (rs := [6]) (by kernel_rfl) (by simp) ?_; refine AllReadyH.cons rfl (fun K hK => ?_) AllReadyH.nil; refine step_copy_blk rfl (.tmp 44) (.tmp 48) 26 26 rfl 5 Try.underlying26 (by kernel_rfl) g 52 _ _ ⟨b5, o5, none⟩ _ _ rfl rfl cur.toList 5 (by simpa using hgc) (bv (putL ck 2)) (by rw [hl2]; rfl) (Bytes.news hy) (by rw [hl2]; have := HLN.out; simp; omega) (bv_one _) ?_; intro w8 hg8 hk8 hb8; refine hK.out _ _ ?_ (fun hHeldN => ?_); (focus ((try dsimp only); (exact hHeld.trans (hb8.out _ HLN.out.2.2.2.1)))); clear hK K hHeld; have hHeld := hHeldN; clear hHeldN; (try simp only [Act.put, List.setIfInBounds_toArray, List.set_cons_zero, List.set_cons_succ, List.getElem_toArray, List.getElem_cons_zero, List.getElem_cons_succ]))
    refine wpAnyH_done (by kernel_rfl) ?_ _
    have hO6 : OwnB w8 wm.heap.size (.slice (some ⟨g, 0, none⟩) (spl L0 52 (putL ck 2)).length cap) (spl L0 52 (putL ck 2)) := OwnB.splice HO5.out hgc (by simpa using hg8.out) (by rw [putL_length]; have := HLN.out; omega)
    have HO6 : Hid (OwnB w8 wm.heap.size (.slice (some ⟨g, 0, none⟩) S cap) (frL f B)) := by
      show OwnB _ _ _ _
      have e : spl L0 52 (putL ck 2) = frL f B := by rw [HCK.out, HLN.out.2.2.1]; exact spl_frC f B _
      have e2 : (spl L0 52 (putL ck 2)).length = S := by rw [e, frL_length, HLN.out.1, HH.out.1]
      rw [e2, e] at hO6; exact hO6
    have HB6 := Lib.hid hHeld
    clear hO6 hHeld hg8 hk8 hb8 hgc
    go_wp2_with fail
    go_ret
    exact ⟨_, rfl, HO6.out, HB6.out⟩
  refine wpAnyH_cut #[true, true, true, true, true, true, true, true, true, true, true, true, true, true, true, true, true, true, true, true, true, true, true, true, true, true, true, true, true, true, true, true, true, true, false, true, true, false, false, false] 4 (fun A w1 => ∃ p0 : Value, ∃ p1 : Value, ∃ p2 : Value, ∃ p3 : Value, ∃ p4 : Value, ∃ p5 : Value, ∃ p6 : Value, ∃ g6 : Nat, A = ⟨#[.agg #[.int .i64 f.k, .int .i64 f.n, .int .u64 (f.mb : Nat), .int .u64 (f.mt : Nat), .int .u64 (f.tb : Nat), .int .u64 (f.tt : Nat), .int .u64 (f.s : Nat), .int .u64 (f.a : Nat), .slice a m c], .pointer (some ⟨wm.heap.size, 0, none⟩), .slice none 0 0, undef, .pointer (some ⟨wm.heap.size, 0, none⟩), .int .i64 f.k, .int .u8 (k0 : Nat), .pointer (some ⟨wm.heap.size, 1, none⟩), .int .i64 f.n, .int .u8 (n0 : Nat), .slice (some ⟨g6, 0, none⟩) 2 2, .pointer (some ⟨wm.heap.size, 2, none⟩), .pointer (some ⟨wm.heap.size, 2, none⟩), .int .u64 (f.mb : Nat), p0, .pointer (some ⟨wm.heap.size, 2, none⟩), .pointer (some ⟨wm.heap.size, 3, none⟩), .int .u64 (f.mt : Nat), p1, .pointer (some ⟨wm.heap.size, 4, none⟩), .pointer (some ⟨wm.heap.size, 4, none⟩), .int .u64 (f.tb : Nat), p2, .pointer (some ⟨wm.heap.size, 4, none⟩), .pointer (some ⟨wm.heap.size, 5, none⟩), .int .u64 (f.tt : Nat), p3, .pointer (some ⟨wm.heap.size, 6, none⟩), .int .u64 (f.s : Nat), p4, .pointer (some ⟨wm.heap.size, 7, none⟩), .int .u64 (f.a : Nat), p5, .pointer (some ⟨wm.heap.size, 8, none⟩), .slice a m c, .int .i64 (m : Nat), .int .u64 (m : Nat), p6, undef, .pointer (some ⟨wm.heap.size, 8, none⟩), .slice a m c, undef, undef, undef, undef, undef, undef, undef, undef, undef, undef], []⟩ ∧ Hid (Bytes w1 p0 (putL f.mb 8)) ∧ Hid (Bytes w1 p1 (putL f.mt 8)) ∧ Hid (Bytes w1 p2 (putL f.tb 8)) ∧ Hid (Bytes w1 p3 (putL f.tt 8)) ∧ Hid (Bytes w1 p4 (putL f.s 8)) ∧ Hid (Bytes w1 p5 (putL f.a 8)) ∧ Hid (Bytes w1 p6 (putL m 2)) ∧ Hid (Bytes w1 (.slice (some ⟨g6, 0, none⟩) 2 2) [UInt8.ofNat k0, UInt8.ofNat n0])) ?_ (fun m1 => ?_)
  · rintro l' A w1 rfl ⟨p0, p1, p2, p3, p4, p5, p6, g6, rfl, P0, P1, P2, P3, P4, P5, P6, Q6⟩ hHeld
    refine wpAnyH_ready (rs := [34]) (by kernel_rfl) (by simp) ?_
    refine AllReadyH.cons rfl (fun K hK => ?_) AllReadyH.nil
    · go_simp
      have hs : Below (World.heap w1).size w1 (w1.alloc (.cells #[.int .u8 0, .int .u8 0] 5)) := (Below.refl _ _).alloc (Nat.le_refl _) _
      have Q7 : Hid (Bytes (w1.alloc (.cells #[.int .u8 0, .int .u8 0] 5)) (.slice (some ⟨(World.heap w1).size, 0, none⟩) 2 2) [0, 0]) := two_lit 0 0 (by omega) (by omega) w1
      have P0 := Lib.hid (Bytes.later P0.out hs)
      have P1 := Lib.hid (Bytes.later P1.out hs)
      have P2 := Lib.hid (Bytes.later P2.out hs)
      have P3 := Lib.hid (Bytes.later P3.out hs)
      have P4 := Lib.hid (Bytes.later P4.out hs)
      have P5 := Lib.hid (Bytes.later P5.out hs)
      have P6 := Lib.hid (Bytes.later P6.out hs)
      have Q6 := Lib.hid (Bytes.later Q6.out hs)
      refine hK.out _ _ (hHeld.trans (hs.mono hHeld.size)) (fun hHeldN => ?_)
      exact m0 _ _ _ (by kernel_rfl) ⟨_, _, _, _, _, _, _, _, _, rfl, P0, P1, P2, P3, P4, P5, P6, Q6, Q7⟩ hHeldN
  refine wpAnyH_cut #[true, true, true, true, true, true, false, true, true, true, true, true, true, true, true, true, true, true, true, true, true, true, true, true, true, true, true, true, true, true, true, true, true, true, true, true, true, false, false, false] 4 (fun A w1 => ∃ p0 : Value, ∃ p1 : Value, ∃ p2 : Value, ∃ p3 : Value, ∃ p4 : Value, ∃ p5 : Value, ∃ p6 : Value, ∃ g7 : Nat, A = ⟨#[.agg #[.int .i64 f.k, .int .i64 f.n, .int .u64 (f.mb : Nat), .int .u64 (f.mt : Nat), .int .u64 (f.tb : Nat), .int .u64 (f.tt : Nat), .int .u64 (f.s : Nat), .int .u64 (f.a : Nat), .slice a m c], .pointer (some ⟨wm.heap.size, 0, none⟩), .slice none 0 0, undef, .pointer (some ⟨wm.heap.size, 0, none⟩), .int .i64 f.k, .int .u8 (k0 : Nat), .pointer (some ⟨wm.heap.size, 1, none⟩), .int .i64 f.n, .int .u8 (n0 : Nat), undef, .pointer (some ⟨wm.heap.size, 2, none⟩), .pointer (some ⟨wm.heap.size, 2, none⟩), .int .u64 (f.mb : Nat), p0, .pointer (some ⟨wm.heap.size, 2, none⟩), .pointer (some ⟨wm.heap.size, 3, none⟩), .int .u64 (f.mt : Nat), p1, .pointer (some ⟨wm.heap.size, 4, none⟩), .pointer (some ⟨wm.heap.size, 4, none⟩), .int .u64 (f.tb : Nat), p2, .pointer (some ⟨wm.heap.size, 4, none⟩), .pointer (some ⟨wm.heap.size, 5, none⟩), .int .u64 (f.tt : Nat), p3, .pointer (some ⟨wm.heap.size, 6, none⟩), .int .u64 (f.s : Nat), p4, .pointer (some ⟨wm.heap.size, 7, none⟩), .int .u64 (f.a : Nat), p5, .pointer (some ⟨wm.heap.size, 8, none⟩), .slice a m c, .int .i64 (m : Nat), .int .u64 (m : Nat), p6, .slice (some ⟨g7, 0, none⟩) 2 2, .pointer (some ⟨wm.heap.size, 8, none⟩), .slice a m c, undef, undef, undef, undef, undef, undef, undef, undef, undef, undef], []⟩ ∧ Hid (Bytes w1 p0 (putL f.mb 8)) ∧ Hid (Bytes w1 p1 (putL f.mt 8)) ∧ Hid (Bytes w1 p2 (putL f.tb 8)) ∧ Hid (Bytes w1 p3 (putL f.tt 8)) ∧ Hid (Bytes w1 p4 (putL f.s 8)) ∧ Hid (Bytes w1 p5 (putL f.a 8)) ∧ Hid (Bytes w1 p6 (putL m 2)) ∧ Hid (Bytes w1 (.slice (some ⟨g7, 0, none⟩) 2 2) [0, 0])) ?_ (fun m2 => ?_)
  · rintro l' A w1 rfl ⟨p0, p1, p2, p3, p4, p5, p6, g7, rfl, P0, P1, P2, P3, P4, P5, P6, Q7⟩ hHeld
    refine wpAnyH_ready (rs := [6]) (by kernel_rfl) (by simp) ?_
    refine AllReadyH.cons rfl (fun K hK => ?_) AllReadyH.nil
    · go_simp
      have hs : Below (World.heap w1).size w1 (w1.alloc (.cells #[.int .u8 (k0 : Int), .int .u8 (n0 : Int)] 5)) := (Below.refl _ _).alloc (Nat.le_refl _) _
      have Q6 : Hid (Bytes (w1.alloc (.cells #[.int .u8 (k0 : Int), .int .u8 (n0 : Int)] 5)) (.slice (some ⟨(World.heap w1).size, 0, none⟩) 2 2) [UInt8.ofNat k0, UInt8.ofNat n0]) := two_lit k0 n0 (by have := HH.out; omega) (by have := HH.out; omega) w1
      have P0 := Lib.hid (Bytes.later P0.out hs)
      have P1 := Lib.hid (Bytes.later P1.out hs)
      have P2 := Lib.hid (Bytes.later P2.out hs)
      have P3 := Lib.hid (Bytes.later P3.out hs)
      have P4 := Lib.hid (Bytes.later P4.out hs)
      have P5 := Lib.hid (Bytes.later P5.out hs)
      have P6 := Lib.hid (Bytes.later P6.out hs)
      have Q7 := Lib.hid (Bytes.later Q7.out hs)
      refine hK.out _ _ (hHeld.trans (hs.mono hHeld.size)) (fun hHeldN => ?_)
      exact m0 _ _ _ (by kernel_rfl) ⟨_, _, _, _, _, _, _, _, _, rfl, P0, P1, P2, P3, P4, P5, P6, Q6, Q7⟩ hHeldN
  refine wpAnyH_cut #[true, true, true, true, true, true, false, true, true, true, true, true, true, true, true, true, true, true, true, true, true, true, true, true, true, true, true, true, true, true, true, true, true, true, false, true, true, false, false, false] 5 (fun A w1 => ∃ p0 : Value, ∃ p1 : Value, ∃ p2 : Value, ∃ p3 : Value, ∃ p4 : Value, ∃ p5 : Value, ∃ p6 : Value, A = ⟨#[.agg #[.int .i64 f.k, .int .i64 f.n, .int .u64 (f.mb : Nat), .int .u64 (f.mt : Nat), .int .u64 (f.tb : Nat), .int .u64 (f.tt : Nat), .int .u64 (f.s : Nat), .int .u64 (f.a : Nat), .slice a m c], .pointer (some ⟨wm.heap.size, 0, none⟩), .slice none 0 0, undef, .pointer (some ⟨wm.heap.size, 0, none⟩), .int .i64 f.k, .int .u8 (k0 : Nat), .pointer (some ⟨wm.heap.size, 1, none⟩), .int .i64 f.n, .int .u8 (n0 : Nat), undef, .pointer (some ⟨wm.heap.size, 2, none⟩), .pointer (some ⟨wm.heap.size, 2, none⟩), .int .u64 (f.mb : Nat), p0, .pointer (some ⟨wm.heap.size, 2, none⟩), .pointer (some ⟨wm.heap.size, 3, none⟩), .int .u64 (f.mt : Nat), p1, .pointer (some ⟨wm.heap.size, 4, none⟩), .pointer (some ⟨wm.heap.size, 4, none⟩), .int .u64 (f.tb : Nat), p2, .pointer (some ⟨wm.heap.size, 4, none⟩), .pointer (some ⟨wm.heap.size, 5, none⟩), .int .u64 (f.tt : Nat), p3, .pointer (some ⟨wm.heap.size, 6, none⟩), .int .u64 (f.s : Nat), p4, .pointer (some ⟨wm.heap.size, 7, none⟩), .int .u64 (f.a : Nat), p5, .pointer (some ⟨wm.heap.size, 8, none⟩), .slice a m c, .int .i64 (m : Nat), .int .u64 (m : Nat), p6, undef, .pointer (some ⟨wm.heap.size, 8, none⟩), .slice a m c, undef, undef, undef, undef, undef, undef, undef, undef, undef, undef], []⟩ ∧ Hid (Bytes w1 p0 (putL f.mb 8)) ∧ Hid (Bytes w1 p1 (putL f.mt 8)) ∧ Hid (Bytes w1 p2 (putL f.tb 8)) ∧ Hid (Bytes w1 p3 (putL f.tt 8)) ∧ Hid (Bytes w1 p4 (putL f.s 8)) ∧ Hid (Bytes w1 p5 (putL f.a 8)) ∧ Hid (Bytes w1 p6 (putL m 2))) ?_ (fun m3 => ?_)
  · rintro l' A w1 rfl ⟨p0, p1, p2, p3, p4, p5, p6, rfl, P0, P1, P2, P3, P4, P5, P6⟩ hHeld
    refine wpAnyH_ready (rs := [6, 34]) (by kernel_rfl) (by simp) ?_
    refine AllReadyH.cons rfl (fun K hK => ?_) (AllReadyH.cons rfl (fun K hK => ?_) AllReadyH.nil)
    · go_simp
      have hs : Below (World.heap w1).size w1 (w1.alloc (.cells #[.int .u8 (k0 : Int), .int .u8 (n0 : Int)] 5)) := (Below.refl _ _).alloc (Nat.le_refl _) _
      have Q6 : Hid (Bytes (w1.alloc (.cells #[.int .u8 (k0 : Int), .int .u8 (n0 : Int)] 5)) (.slice (some ⟨(World.heap w1).size, 0, none⟩) 2 2) [UInt8.ofNat k0, UInt8.ofNat n0]) := two_lit k0 n0 (by have := HH.out; omega) (by have := HH.out; omega) w1
      have P0 := Lib.hid (Bytes.later P0.out hs)
      have P1 := Lib.hid (Bytes.later P1.out hs)
      have P2 := Lib.hid (Bytes.later P2.out hs)
      have P3 := Lib.hid (Bytes.later P3.out hs)
      have P4 := Lib.hid (Bytes.later P4.out hs)
      have P5 := Lib.hid (Bytes.later P5.out hs)
      have P6 := Lib.hid (Bytes.later P6.out hs)
      refine hK.out _ _ (hHeld.trans (hs.mono hHeld.size)) (fun hHeldN => ?_)
      exact m1 _ _ _ (by kernel_rfl) ⟨_, _, _, _, _, _, _, _, rfl, P0, P1, P2, P3, P4, P5, P6, Q6⟩ hHeldN
    · go_simp
      have hs : Below (World.heap w1).size w1 (w1.alloc (.cells #[.int .u8 0, .int .u8 0] 5)) := (Below.refl _ _).alloc (Nat.le_refl _) _
      have Q7 : Hid (Bytes (w1.alloc (.cells #[.int .u8 0, .int .u8 0] 5)) (.slice (some ⟨(World.heap w1).size, 0, none⟩) 2 2) [0, 0]) := two_lit 0 0 (by omega) (by omega) w1
      have P0 := Lib.hid (Bytes.later P0.out hs)
      have P1 := Lib.hid (Bytes.later P1.out hs)
      have P2 := Lib.hid (Bytes.later P2.out hs)
      have P3 := Lib.hid (Bytes.later P3.out hs)
      have P4 := Lib.hid (Bytes.later P4.out hs)
      have P5 := Lib.hid (Bytes.later P5.out hs)
      have P6 := Lib.hid (Bytes.later P6.out hs)
      refine hK.out _ _ (hHeld.trans (hs.mono hHeld.size)) (fun hHeldN => ?_)
      exact m2 _ _ _ (by kernel_rfl) ⟨_, _, _, _, _, _, _, _, rfl, P0, P1, P2, P3, P4, P5, P6, Q7⟩ hHeldN
  refine wpAnyH_cut #[true, true, true, true, true, true, true, true, true, true, true, true, true, true, true, true, true, true, true, true, true, true, true, true, true, true, true, true, true, true, true, true, true, false, true, true, true, false, false, false] 4 (fun A w1 => ∃ p0 : Value, ∃ p1 : Value, ∃ p2 : Value, ∃ p3 : Value, ∃ p4 : Value, ∃ p5 : Value, ∃ g6 : Nat, ∃ g7 : Nat, A = ⟨#[.agg #[.int .i64 f.k, .int .i64 f.n, .int .u64 (f.mb : Nat), .int .u64 (f.mt : Nat), .int .u64 (f.tb : Nat), .int .u64 (f.tt : Nat), .int .u64 (f.s : Nat), .int .u64 (f.a : Nat), .slice a m c], .pointer (some ⟨wm.heap.size, 0, none⟩), .slice none 0 0, undef, .pointer (some ⟨wm.heap.size, 0, none⟩), .int .i64 f.k, .int .u8 (k0 : Nat), .pointer (some ⟨wm.heap.size, 1, none⟩), .int .i64 f.n, .int .u8 (n0 : Nat), .slice (some ⟨g6, 0, none⟩) 2 2, .pointer (some ⟨wm.heap.size, 2, none⟩), .pointer (some ⟨wm.heap.size, 2, none⟩), .int .u64 (f.mb : Nat), p0, .pointer (some ⟨wm.heap.size, 2, none⟩), .pointer (some ⟨wm.heap.size, 3, none⟩), .int .u64 (f.mt : Nat), p1, .pointer (some ⟨wm.heap.size, 4, none⟩), .pointer (some ⟨wm.heap.size, 4, none⟩), .int .u64 (f.tb : Nat), p2, .pointer (some ⟨wm.heap.size, 4, none⟩), .pointer (some ⟨wm.heap.size, 5, none⟩), .int .u64 (f.tt : Nat), p3, .pointer (some ⟨wm.heap.size, 6, none⟩), .int .u64 (f.s : Nat), p4, .pointer (some ⟨wm.heap.size, 7, none⟩), .int .u64 (f.a : Nat), p5, .pointer (some ⟨wm.heap.size, 8, none⟩), .slice a m c, .int .i64 (m : Nat), .int .u64 (m : Nat), undef, .slice (some ⟨g7, 0, none⟩) 2 2, .pointer (some ⟨wm.heap.size, 8, none⟩), .slice a m c, undef, undef, undef, undef, undef, undef, undef, undef, undef, undef], []⟩ ∧ Hid (Bytes w1 p0 (putL f.mb 8)) ∧ Hid (Bytes w1 p1 (putL f.mt 8)) ∧ Hid (Bytes w1 p2 (putL f.tb 8)) ∧ Hid (Bytes w1 p3 (putL f.tt 8)) ∧ Hid (Bytes w1 p4 (putL f.s 8)) ∧ Hid (Bytes w1 p5 (putL f.a 8)) ∧ Hid (Bytes w1 (.slice (some ⟨g6, 0, none⟩) 2 2) [UInt8.ofNat k0, UInt8.ofNat n0]) ∧ Hid (Bytes w1 (.slice (some ⟨g7, 0, none⟩) 2 2) [0, 0])) ?_ (fun m4 => ?_)
  · rintro l' A w1 rfl ⟨p0, p1, p2, p3, p4, p5, g6, g7, rfl, P0, P1, P2, P3, P4, P5, Q6, Q7⟩ hHeld
    refine wpAnyH_ready (rs := [33]) (by kernel_rfl) (by simp) ?_
    refine AllReadyH.cons rfl (fun K hK => ?_) AllReadyH.nil
    · go_simp
      refine (putR_any m 2 _ (by have := HH.out; omega) (by omega)).mono ?_
      rintro e w_n ⟨p6, rfl, hp0, hs⟩
      simp only []
      have P6 := Lib.hid hp0
      have P0 := Lib.hid (Bytes.later P0.out hs)
      have P1 := Lib.hid (Bytes.later P1.out hs)
      have P2 := Lib.hid (Bytes.later P2.out hs)
      have P3 := Lib.hid (Bytes.later P3.out hs)
      have P4 := Lib.hid (Bytes.later P4.out hs)
      have P5 := Lib.hid (Bytes.later P5.out hs)
      have Q6 := Lib.hid (Bytes.later Q6.out hs)
      have Q7 := Lib.hid (Bytes.later Q7.out hs)
      refine hK.out _ _ (hHeld.trans (hs.mono hHeld.size)) (fun hHeldN => ?_)
      try simp only [Act.put, List.setIfInBounds_toArray, List.set_cons_zero, List.set_cons_succ, List.getElem_toArray, List.getElem_cons_zero, List.getElem_cons_succ]
      exact m0 _ _ _ (by kernel_rfl) ⟨_, _, _, _, _, _, _, _, _, rfl, P0, P1, P2, P3, P4, P5, P6, Q6, Q7⟩ hHeldN
  refine wpAnyH_cut #[true, true, true, true, true, true, true, true, true, true, true, true, true, true, true, true, true, true, true, true, true, true, true, true, true, true, true, true, true, true, true, true, true, false, false, true, true, false, false, false] 5 (fun A w1 => ∃ p0 : Value, ∃ p1 : Value, ∃ p2 : Value, ∃ p3 : Value, ∃ p4 : Value, ∃ p5 : Value, ∃ g6 : Nat, A = ⟨#[.agg #[.int .i64 f.k, .int .i64 f.n, .int .u64 (f.mb : Nat), .int .u64 (f.mt : Nat), .int .u64 (f.tb : Nat), .int .u64 (f.tt : Nat), .int .u64 (f.s : Nat), .int .u64 (f.a : Nat), .slice a m c], .pointer (some ⟨wm.heap.size, 0, none⟩), .slice none 0 0, undef, .pointer (some ⟨wm.heap.size, 0, none⟩), .int .i64 f.k, .int .u8 (k0 : Nat), .pointer (some ⟨wm.heap.size, 1, none⟩), .int .i64 f.n, .int .u8 (n0 : Nat), .slice (some ⟨g6, 0, none⟩) 2 2, .pointer (some ⟨wm.heap.size, 2, none⟩), .pointer (some ⟨wm.heap.size, 2, none⟩), .int .u64 (f.mb : Nat), p0, .pointer (some ⟨wm.heap.size, 2, none⟩), .pointer (some ⟨wm.heap.size, 3, none⟩), .int .u64 (f.mt : Nat), p1, .pointer (some ⟨wm.heap.size, 4, none⟩), .pointer (some ⟨wm.heap.size, 4, none⟩), .int .u64 (f.tb : Nat), p2, .pointer (some ⟨wm.heap.size, 4, none⟩), .pointer (some ⟨wm.heap.size, 5, none⟩), .int .u64 (f.tt : Nat), p3, .pointer (some ⟨wm.heap.size, 6, none⟩), .int .u64 (f.s : Nat), p4, .pointer (some ⟨wm.heap.size, 7, none⟩), .int .u64 (f.a : Nat), p5, .pointer (some ⟨wm.heap.size, 8, none⟩), .slice a m c, .int .i64 (m : Nat), .int .u64 (m : Nat), undef, undef, .pointer (some ⟨wm.heap.size, 8, none⟩), .slice a m c, undef, undef, undef, undef, undef, undef, undef, undef, undef, undef], []⟩ ∧ Hid (Bytes w1 p0 (putL f.mb 8)) ∧ Hid (Bytes w1 p1 (putL f.mt 8)) ∧ Hid (Bytes w1 p2 (putL f.tb 8)) ∧ Hid (Bytes w1 p3 (putL f.tt 8)) ∧ Hid (Bytes w1 p4 (putL f.s 8)) ∧ Hid (Bytes w1 p5 (putL f.a 8)) ∧ Hid (Bytes w1 (.slice (some ⟨g6, 0, none⟩) 2 2) [UInt8.ofNat k0, UInt8.ofNat n0])) ?_ (fun m5 => ?_)
  · rintro l' A w1 rfl ⟨p0, p1, p2, p3, p4, p5, g6, rfl, P0, P1, P2, P3, P4, P5, Q6⟩ hHeld
    refine wpAnyH_ready (rs := [33, 34]) (by kernel_rfl) (by simp) ?_
    refine AllReadyH.cons rfl (fun K hK => ?_) (AllReadyH.cons rfl (fun K hK => ?_) AllReadyH.nil)
    · go_simp
      refine (putR_any m 2 _ (by have := HH.out; omega) (by omega)).mono ?_
      rintro e w_n ⟨p6, rfl, hp0, hs⟩
      simp only []
      have P6 := Lib.hid hp0
      have P0 := Lib.hid (Bytes.later P0.out hs)
      have P1 := Lib.hid (Bytes.later P1.out hs)
      have P2 := Lib.hid (Bytes.later P2.out hs)
      have P3 := Lib.hid (Bytes.later P3.out hs)
      have P4 := Lib.hid (Bytes.later P4.out hs)
      have P5 := Lib.hid (Bytes.later P5.out hs)
      have Q6 := Lib.hid (Bytes.later Q6.out hs)
      refine hK.out _ _ (hHeld.trans (hs.mono hHeld.size)) (fun hHeldN => ?_)
      try simp only [Act.put, List.setIfInBounds_toArray, List.set_cons_zero, List.set_cons_succ, List.getElem_toArray, List.getElem_cons_zero, List.getElem_cons_succ]
      exact m1 _ _ _ (by kernel_rfl) ⟨_, _, _, _, _, _, _, _, rfl, P0, P1, P2, P3, P4, P5, P6, Q6⟩ hHeldN
    · go_simp
      have hs : Below (World.heap w1).size w1 (w1.alloc (.cells #[.int .u8 0, .int .u8 0] 5)) := (Below.refl _ _).alloc (Nat.le_refl _) _
      have Q7 : Hid (Bytes (w1.alloc (.cells #[.int .u8 0, .int .u8 0] 5)) (.slice (some ⟨(World.heap w1).size, 0, none⟩) 2 2) [0, 0]) := two_lit 0 0 (by omega) (by omega) w1
      have P0 := Lib.hid (Bytes.later P0.out hs)
      have P1 := Lib.hid (Bytes.later P1.out hs)
      have P2 := Lib.hid (Bytes.later P2.out hs)
      have P3 := Lib.hid (Bytes.later P3.out hs)
      have P4 := Lib.hid (Bytes.later P4.out hs)
      have P5 := Lib.hid (Bytes.later P5.out hs)
      have Q6 := Lib.hid (Bytes.later Q6.out hs)
      refine hK.out _ _ (hHeld.trans (hs.mono hHeld.size)) (fun hHeldN => ?_)
      exact m4 _ _ _ (by kernel_rfl) ⟨_, _, _, _, _, _, _, _, rfl, P0, P1, P2, P3, P4, P5, Q6, Q7⟩ hHeldN
  refine wpAnyH_cut #[true, true, true, true, true, true, false, true, true, true, true, true, true, true, true, true, true, true, true, true, true, true, true, true, true, true, true, true, true, true, true, true, true, false, true, true, true, false, false, false] 5 (fun A w1 => ∃ p0 : Value, ∃ p1 : Value, ∃ p2 : Value, ∃ p3 : Value, ∃ p4 : Value, ∃ p5 : Value, ∃ g7 : Nat, A = ⟨#[.agg #[.int .i64 f.k, .int .i64 f.n, .int .u64 (f.mb : Nat), .int .u64 (f.mt : Nat), .int .u64 (f.tb : Nat), .int .u64 (f.tt : Nat), .int .u64 (f.s : Nat), .int .u64 (f.a : Nat), .slice a m c], .pointer (some ⟨wm.heap.size, 0, none⟩), .slice none 0 0, undef, .pointer (some ⟨wm.heap.size, 0, none⟩), .int .i64 f.k, .int .u8 (k0 : Nat), .pointer (some ⟨wm.heap.size, 1, none⟩), .int .i64 f.n, .int .u8 (n0 : Nat), undef, .pointer (some ⟨wm.heap.size, 2, none⟩), .pointer (some ⟨wm.heap.size, 2, none⟩), .int .u64 (f.mb : Nat), p0, .pointer (some ⟨wm.heap.size, 2, none⟩), .pointer (some ⟨wm.heap.size, 3, none⟩), .int .u64 (f.mt : Nat), p1, .pointer (some ⟨wm.heap.size, 4, none⟩), .pointer (some ⟨wm.heap.size, 4, none⟩), .int .u64 (f.tb : Nat), p2, .pointer (some ⟨wm.heap.size, 4, none⟩), .pointer (some ⟨wm.heap.size, 5, none⟩), .int .u64 (f.tt : Nat), p3, .pointer (some ⟨wm.heap.size, 6, none⟩), .int .u64 (f.s : Nat), p4, .pointer (some ⟨wm.heap.size, 7, none⟩), .int .u64 (f.a : Nat), p5, .pointer (some ⟨wm.heap.size, 8, none⟩), .slice a m c, .int .i64 (m : Nat), .int .u64 (m : Nat), undef, .slice (some ⟨g7, 0, none⟩) 2 2, .pointer (some ⟨wm.heap.size, 8, none⟩), .slice a m c, undef, undef, undef, undef, undef, undef, undef, undef, undef, undef], []⟩ ∧ Hid (Bytes w1 p0 (putL f.mb 8)) ∧ Hid (Bytes w1 p1 (putL f.mt 8)) ∧ Hid (Bytes w1 p2 (putL f.tb 8)) ∧ Hid (Bytes w1 p3 (putL f.tt 8)) ∧ Hid (Bytes w1 p4 (putL f.s 8)) ∧ Hid (Bytes w1 p5 (putL f.a 8)) ∧ Hid (Bytes w1 (.slice (some ⟨g7, 0, none⟩) 2 2) [0, 0])) ?_ (fun m6 => ?_)
  · rintro l' A w1 rfl ⟨p0, p1, p2, p3, p4, p5, g7, rfl, P0, P1, P2, P3, P4, P5, Q7⟩ hHeld
    refine wpAnyH_ready (rs := [6, 33]) (by kernel_rfl) (by simp) ?_
    refine AllReadyH.cons rfl (fun K hK => ?_) (AllReadyH.cons rfl (fun K hK => ?_) AllReadyH.nil)
    · go_simp
      have hs : Below (World.heap w1).size w1 (w1.alloc (.cells #[.int .u8 (k0 : Int), .int .u8 (n0 : Int)] 5)) := (Below.refl _ _).alloc (Nat.le_refl _) _
      have Q6 : Hid (Bytes (w1.alloc (.cells #[.int .u8 (k0 : Int), .int .u8 (n0 : Int)] 5)) (.slice (some ⟨(World.heap w1).size, 0, none⟩) 2 2) [UInt8.ofNat k0, UInt8.ofNat n0]) := two_lit k0 n0 (by have := HH.out; omega) (by have := HH.out; omega) w1
      have P0 := Lib.hid (Bytes.later P0.out hs)
      have P1 := Lib.hid (Bytes.later P1.out hs)
      have P2 := Lib.hid (Bytes.later P2.out hs)
      have P3 := Lib.hid (Bytes.later P3.out hs)
      have P4 := Lib.hid (Bytes.later P4.out hs)
      have P5 := Lib.hid (Bytes.later P5.out hs)
      have Q7 := Lib.hid (Bytes.later Q7.out hs)
      refine hK.out _ _ (hHeld.trans (hs.mono hHeld.size)) (fun hHeldN => ?_)
      exact m4 _ _ _ (by kernel_rfl) ⟨_, _, _, _, _, _, _, _, rfl, P0, P1, P2, P3, P4, P5, Q6, Q7⟩ hHeldN
    · go_simp
      refine (putR_any m 2 _ (by have := HH.out; omega) (by omega)).mono ?_
      rintro e w_n ⟨p6, rfl, hp0, hs⟩
      simp only []
      have P6 := Lib.hid hp0
      have P0 := Lib.hid (Bytes.later P0.out hs)
      have P1 := Lib.hid (Bytes.later P1.out hs)
      have P2 := Lib.hid (Bytes.later P2.out hs)
      have P3 := Lib.hid (Bytes.later P3.out hs)
      have P4 := Lib.hid (Bytes.later P4.out hs)
      have P5 := Lib.hid (Bytes.later P5.out hs)
      have Q7 := Lib.hid (Bytes.later Q7.out hs)
      refine hK.out _ _ (hHeld.trans (hs.mono hHeld.size)) (fun hHeldN => ?_)
      try simp only [Act.put, List.setIfInBounds_toArray, List.set_cons_zero, List.set_cons_succ, List.getElem_toArray, List.getElem_cons_zero, List.getElem_cons_succ]
      exact m2 _ _ _ (by kernel_rfl) ⟨_, _, _, _, _, _, _, _, rfl, P0, P1, P2, P3, P4, P5, P6, Q7⟩ hHeldN
  refine wpAnyH_cut #[true, true, true, true, true, true, false, true, true, true, true, true, true, true, true, true, true, true, true, true, true, true, true, true, true, true, true, true, true, true, true, true, true, false, false, true, true, false, false, false] 6 (fun A w1 => ∃ p0 : Value, ∃ p1 : Value, ∃ p2 : Value, ∃ p3 : Value, ∃ p4 : Value, ∃ p5 : Value, A = ⟨#[.agg #[.int .i64 f.k, .int .i64 f.n, .int .u64 (f.mb : Nat), .int .u64 (f.mt : Nat), .int .u64 (f.tb : Nat), .int .u64 (f.tt : Nat), .int .u64 (f.s : Nat), .int .u64 (f.a : Nat), .slice a m c], .pointer (some ⟨wm.heap.size, 0, none⟩), .slice none 0 0, undef, .pointer (some ⟨wm.heap.size, 0, none⟩), .int .i64 f.k, .int .u8 (k0 : Nat), .pointer (some ⟨wm.heap.size, 1, none⟩), .int .i64 f.n, .int .u8 (n0 : Nat), undef, .pointer (some ⟨wm.heap.size, 2, none⟩), .pointer (some ⟨wm.heap.size, 2, none⟩), .int .u64 (f.mb : Nat), p0, .pointer (some ⟨wm.heap.size, 2, none⟩), .pointer (some ⟨wm.heap.size, 3, none⟩), .int .u64 (f.mt : Nat), p1, .pointer (some ⟨wm.heap.size, 4, none⟩), .pointer (some ⟨wm.heap.size, 4, none⟩), .int .u64 (f.tb : Nat), p2, .pointer (some ⟨wm.heap.size, 4, none⟩), .pointer (some ⟨wm.heap.size, 5, none⟩), .int .u64 (f.tt : Nat), p3, .pointer (some ⟨wm.heap.size, 6, none⟩), .int .u64 (f.s : Nat), p4, .pointer (some ⟨wm.heap.size, 7, none⟩), .int .u64 (f.a : Nat), p5, .pointer (some ⟨wm.heap.size, 8, none⟩), .slice a m c, .int .i64 (m : Nat), .int .u64 (m : Nat), undef, undef, .pointer (some ⟨wm.heap.size, 8, none⟩), .slice a m c, undef, undef, undef, undef, undef, undef, undef, undef, undef, undef], []⟩ ∧ Hid (Bytes w1 p0 (putL f.mb 8)) ∧ Hid (Bytes w1 p1 (putL f.mt 8)) ∧ Hid (Bytes w1 p2 (putL f.tb 8)) ∧ Hid (Bytes w1 p3 (putL f.tt 8)) ∧ Hid (Bytes w1 p4 (putL f.s 8)) ∧ Hid (Bytes w1 p5 (putL f.a 8))) ?_ (fun m7 => ?_)
  · rintro l' A w1 rfl ⟨p0, p1, p2, p3, p4, p5, rfl, P0, P1, P2, P3, P4, P5⟩ hHeld
    refine wpAnyH_ready (rs := [6, 33, 34]) (by kernel_rfl) (by simp) ?_
    refine AllReadyH.cons rfl (fun K hK => ?_) (AllReadyH.cons rfl (fun K hK => ?_) (AllReadyH.cons rfl (fun K hK => ?_) AllReadyH.nil))
    · go_simp
      have hs : Below (World.heap w1).size w1 (w1.alloc (.cells #[.int .u8 (k0 : Int), .int .u8 (n0 : Int)] 5)) := (Below.refl _ _).alloc (Nat.le_refl _) _
      have Q6 : Hid (Bytes (w1.alloc (.cells #[.int .u8 (k0 : Int), .int .u8 (n0 : Int)] 5)) (.slice (some ⟨(World.heap w1).size, 0, none⟩) 2 2) [UInt8.ofNat k0, UInt8.ofNat n0]) := two_lit k0 n0 (by have := HH.out; omega) (by have := HH.out; omega) w1
      have P0 := Lib.hid (Bytes.later P0.out hs)
      have P1 := Lib.hid (Bytes.later P1.out hs)
      have P2 := Lib.hid (Bytes.later P2.out hs)
      have P3 := Lib.hid (Bytes.later P3.out hs)
      have P4 := Lib.hid (Bytes.later P4.out hs)
      have P5 := Lib.hid (Bytes.later P5.out hs)
      refine hK.out _ _ (hHeld.trans (hs.mono hHeld.size)) (fun hHeldN => ?_)
      exact m5 _ _ _ (by kernel_rfl) ⟨_, _, _, _, _, _, _, rfl, P0, P1, P2, P3, P4, P5, Q6⟩ hHeldN
    · go_simp
      refine (putR_any m 2 _ (by have := HH.out; omega) (by omega)).mono ?_
      rintro e w_n ⟨p6, rfl, hp0, hs⟩
      simp only []
      have P6 := Lib.hid hp0
      have P0 := Lib.hid (Bytes.later P0.out hs)
      have P1 := Lib.hid (Bytes.later P1.out hs)
      have P2 := Lib.hid (Bytes.later P2.out hs)
      have P3 := Lib.hid (Bytes.later P3.out hs)
      have P4 := Lib.hid (Bytes.later P4.out hs)
      have P5 := Lib.hid (Bytes.later P5.out hs)
      refine hK.out _ _ (hHeld.trans (hs.mono hHeld.size)) (fun hHeldN => ?_)
      try simp only [Act.put, List.setIfInBounds_toArray, List.set_cons_zero, List.set_cons_succ, List.getElem_toArray, List.getElem_cons_zero, List.getElem_cons_succ]
      exact m3 _ _ _ (by kernel_rfl) ⟨_, _, _, _, _, _, _, rfl, P0, P1, P2, P3, P4, P5, P6⟩ hHeldN
    · go_simp
      have hs : Below (World.heap w1).size w1 (w1.alloc (.cells #[.int .u8 0, .int .u8 0] 5)) := (Below.refl _ _).alloc (Nat.le_refl _) _
      have Q7 : Hid (Bytes (w1.alloc (.cells #[.int .u8 0, .int .u8 0] 5)) (.slice (some ⟨(World.heap w1).size, 0, none⟩) 2 2) [0, 0]) := two_lit 0 0 (by omega) (by omega) w1
      have P0 := Lib.hid (Bytes.later P0.out hs)
      have P1 := Lib.hid (Bytes.later P1.out hs)
      have P2 := Lib.hid (Bytes.later P2.out hs)
      have P3 := Lib.hid (Bytes.later P3.out hs)
      have P4 := Lib.hid (Bytes.later P4.out hs)
      have P5 := Lib.hid (Bytes.later P5.out hs)
      refine hK.out _ _ (hHeld.trans (hs.mono hHeld.size)) (fun hHeldN => ?_)
      exact m6 _ _ _ (by kernel_rfl) ⟨_, _, _, _, _, _, _, rfl, P0, P1, P2, P3, P4, P5, Q7⟩ hHeldN
  refine wpAnyH_cut #[true, true, true, true, true, true, true, true, true, true, true, true, true, true, true, true, true, true, true, true, true, true, true, true, true, true, true, true, false, true, true, true, true, false, true, true, true, false, false, false] 5 (fun A w1 => ∃ p0 : Value, ∃ p1 : Value, ∃ p2 : Value, ∃ p3 : Value, ∃ p4 : Value, ∃ g6 : Nat, ∃ g7 : Nat, A = ⟨#[.agg #[.int .i64 f.k, .int .i64 f.n, .int .u64 (f.mb : Nat), .int .u64 (f.mt : Nat), .int .u64 (f.tb : Nat), .int .u64 (f.tt : Nat), .int .u64 (f.s : Nat), .int .u64 (f.a : Nat), .slice a m c], .pointer (some ⟨wm.heap.size, 0, none⟩), .slice none 0 0, undef, .pointer (some ⟨wm.heap.size, 0, none⟩), .int .i64 f.k, .int .u8 (k0 : Nat), .pointer (some ⟨wm.heap.size, 1, none⟩), .int .i64 f.n, .int .u8 (n0 : Nat), .slice (some ⟨g6, 0, none⟩) 2 2, .pointer (some ⟨wm.heap.size, 2, none⟩), .pointer (some ⟨wm.heap.size, 2, none⟩), .int .u64 (f.mb : Nat), p0, .pointer (some ⟨wm.heap.size, 2, none⟩), .pointer (some ⟨wm.heap.size, 3, none⟩), .int .u64 (f.mt : Nat), p1, .pointer (some ⟨wm.heap.size, 4, none⟩), .pointer (some ⟨wm.heap.size, 4, none⟩), .int .u64 (f.tb : Nat), p2, .pointer (some ⟨wm.heap.size, 4, none⟩), .pointer (some ⟨wm.heap.size, 5, none⟩), .int .u64 (f.tt : Nat), p3, .pointer (some ⟨wm.heap.size, 6, none⟩), .int .u64 (f.s : Nat), p4, .pointer (some ⟨wm.heap.size, 7, none⟩), .int .u64 (f.a : Nat), undef, .pointer (some ⟨wm.heap.size, 8, none⟩), .slice a m c, .int .i64 (m : Nat), .int .u64 (m : Nat), undef, .slice (some ⟨g7, 0, none⟩) 2 2, .pointer (some ⟨wm.heap.size, 8, none⟩), .slice a m c, undef, undef, undef, undef, undef, undef, undef, undef, undef, undef], []⟩ ∧ Hid (Bytes w1 p0 (putL f.mb 8)) ∧ Hid (Bytes w1 p1 (putL f.mt 8)) ∧ Hid (Bytes w1 p2 (putL f.tb 8)) ∧ Hid (Bytes w1 p3 (putL f.tt 8)) ∧ Hid (Bytes w1 p4 (putL f.s 8)) ∧ Hid (Bytes w1 (.slice (some ⟨g6, 0, none⟩) 2 2) [UInt8.ofNat k0, UInt8.ofNat n0]) ∧ Hid (Bytes w1 (.slice (some ⟨g7, 0, none⟩) 2 2) [0, 0])) ?_ (fun m8 => ?_)
  · rintro l' A w1 rfl ⟨p0, p1, p2, p3, p4, g6, g7, rfl, P0, P1, P2, P3, P4, Q6, Q7⟩ hHeld
    refine wpAnyH_ready (rs := [28]) (by kernel_rfl) (by simp) ?_
    refine AllReadyH.cons rfl (fun K hK => ?_) AllReadyH.nil
    · go_simp
      refine (putR_any f.a 8 _ HO.out.a (by omega)).mono ?_
      rintro e w_n ⟨p5, rfl, hp0, hs⟩
      simp only []
      have P5 := Lib.hid hp0
      have P0 := Lib.hid (Bytes.later P0.out hs)
      have P1 := Lib.hid (Bytes.later P1.out hs)
      have P2 := Lib.hid (Bytes.later P2.out hs)
      have P3 := Lib.hid (Bytes.later P3.out hs)
      have P4 := Lib.hid (Bytes.later P4.out hs)
      have Q6 := Lib.hid (Bytes.later Q6.out hs)
      have Q7 := Lib.hid (Bytes.later Q7.out hs)
      refine hK.out _ _ (hHeld.trans (hs.mono hHeld.size)) (fun hHeldN => ?_)
      try simp only [Act.put, List.setIfInBounds_toArray, List.set_cons_zero, List.set_cons_succ, List.getElem_toArray, List.getElem_cons_zero, List.getElem_cons_succ]
      exact m4 _ _ _ (by kernel_rfl) ⟨_, _, _, _, _, _, _, _, rfl, P0, P1, P2, P3, P4, P5, Q6, Q7⟩ hHeldN
  refine wpAnyH_cut #[true, true, true, true, true, true, true, true, true, true, true, true, true, true, true, true, true, true, true, true, true, true, true, true, true, true, true, true, false, true, true, true, true, false, false, true, true, false, false, false] 6 (fun A w1 => ∃ p0 : Value, ∃ p1 : Value, ∃ p2 : Value, ∃ p3 : Value, ∃ p4 : Value, ∃ g6 : Nat, A = ⟨#[.agg #[.int .i64 f.k, .int .i64 f.n, .int .u64 (f.mb : Nat), .int .u64 (f.mt : Nat), .int .u64 (f.tb : Nat), .int .u64 (f.tt : Nat), .int .u64 (f.s : Nat), .int .u64 (f.a : Nat), .slice a m c], .pointer (some ⟨wm.heap.size, 0, none⟩), .slice none 0 0, undef, .pointer (some ⟨wm.heap.size, 0, none⟩), .int .i64 f.k, .int .u8 (k0 : Nat), .pointer (some ⟨wm.heap.size, 1, none⟩), .int .i64 f.n, .int .u8 (n0 : Nat), .slice (some ⟨g6, 0, none⟩) 2 2, .pointer (some ⟨wm.heap.size, 2, none⟩), .pointer (some ⟨wm.heap.size, 2, none⟩), .int .u64 (f.mb : Nat), p0, .pointer (some ⟨wm.heap.size, 2, none⟩), .pointer (some ⟨wm.heap.size, 3, none⟩), .int .u64 (f.mt : Nat), p1, .pointer (some ⟨wm.heap.size, 4, none⟩), .pointer (some ⟨wm.heap.size, 4, none⟩), .int .u64 (f.tb : Nat), p2, .pointer (some ⟨wm.heap.size, 4, none⟩), .pointer (some ⟨wm.heap.size, 5, none⟩), .int .u64 (f.tt : Nat), p3, .pointer (some ⟨wm.heap.size, 6, none⟩), .int .u64 (f.s : Nat), p4, .pointer (some ⟨wm.heap.size, 7, none⟩), .int .u64 (f.a : Nat), undef, .pointer (some ⟨wm.heap.size, 8, none⟩), .slice a m c, .int .i64 (m : Nat), .int .u64 (m : Nat), undef, undef, .pointer (some ⟨wm.heap.size, 8, none⟩), .slice a m c, undef, undef, undef, undef, undef, undef, undef, undef, undef, undef], []⟩ ∧ Hid (Bytes w1 p0 (putL f.mb 8)) ∧ Hid (Bytes w1 p1 (putL f.mt 8)) ∧ Hid (Bytes w1 p2 (putL f.tb 8)) ∧ Hid (Bytes w1 p3 (putL f.tt 8)) ∧ Hid (Bytes w1 p4 (putL f.s 8)) ∧ Hid (Bytes w1 (.slice (some ⟨g6, 0, none⟩) 2 2) [UInt8.ofNat k0, UInt8.ofNat n0])) ?_ (fun m9 => ?_)
  · rintro l' A w1 rfl ⟨p0, p1, p2, p3, p4, g6, rfl, P0, P1, P2, P3, P4, Q6⟩ hHeld
    refine wpAnyH_ready (rs := [28, 34]) (by kernel_rfl) (by simp) ?_
    refine AllReadyH.cons rfl (fun K hK => ?_) (AllReadyH.cons rfl (fun K hK => ?_) AllReadyH.nil)
    · go_simp
      refine (putR_any f.a 8 _ HO.out.a (by omega)).mono ?_
      rintro e w_n ⟨p5, rfl, hp0, hs⟩
      simp only []
      have P5 := Lib.hid hp0
      have P0 := Lib.hid (Bytes.later P0.out hs)
      have P1 := Lib.hid (Bytes.later P1.out hs)
      have P2 := Lib.hid (Bytes.later P2.out hs)
      have P3 := Lib.hid (Bytes.later P3.out hs)
      have P4 := Lib.hid (Bytes.later P4.out hs)
      have Q6 := Lib.hid (Bytes.later Q6.out hs)
      refine hK.out _ _ (hHeld.trans (hs.mono hHeld.size)) (fun hHeldN => ?_)
      try simp only [Act.put, List.setIfInBounds_toArray, List.set_cons_zero, List.set_cons_succ, List.getElem_toArray, List.getElem_cons_zero, List.getElem_cons_succ]
      exact m5 _ _ _ (by kernel_rfl) ⟨_, _, _, _, _, _, _, rfl, P0, P1, P2, P3, P4, P5, Q6⟩ hHeldN
    · go_simp
      have hs : Below (World.heap w1).size w1 (w1.alloc (.cells #[.int .u8 0, .int .u8 0] 5)) := (Below.refl _ _).alloc (Nat.le_refl _) _
      have Q7 : Hid (Bytes (w1.alloc (.cells #[.int .u8 0, .int .u8 0] 5)) (.slice (some ⟨(World.heap w1).size, 0, none⟩) 2 2) [0, 0]) := two_lit 0 0 (by omega) (by omega) w1
      have P0 := Lib.hid (Bytes.later P0.out hs)
      have P1 := Lib.hid (Bytes.later P1.out hs)
      have P2 := Lib.hid (Bytes.later P2.out hs)
      have P3 := Lib.hid (Bytes.later P3.out hs)
      have P4 := Lib.hid (Bytes.later P4.out hs)
      have Q6 := Lib.hid (Bytes.later Q6.out hs)
      refine hK.out _ _ (hHeld.trans (hs.mono hHeld.size)) (fun hHeldN => ?_)
      exact m8 _ _ _ (by kernel_rfl) ⟨_, _, _, _, _, _, _, rfl, P0, P1, P2, P3, P4, Q6, Q7⟩ hHeldN
  refine wpAnyH_cut #[true, true, true, true, true, true, false, true, true, true, true, true, true, true, true, true, true, true, true, true, true, true, true, true, true, true, true, true, false, true, true, true, true, false, true, true, true, false, false, false] 6 (fun A w1 => ∃ p0 : Value, ∃ p1 : Value, ∃ p2 : Value, ∃ p3 : Value, ∃ p4 : Value, ∃ g7 : Nat, A = ⟨#[.agg #[.int .i64 f.k, .int .i64 f.n, .int .u64 (f.mb : Nat), .int .u64 (f.mt : Nat), .int .u64 (f.tb : Nat), .int .u64 (f.tt : Nat), .int .u64 (f.s : Nat), .int .u64 (f.a : Nat), .slice a m c], .pointer (some ⟨wm.heap.size, 0, none⟩), .slice none 0 0, undef, .pointer (some ⟨wm.heap.size, 0, none⟩), .int .i64 f.k, .int .u8 (k0 : Nat), .pointer (some ⟨wm.heap.size, 1, none⟩), .int .i64 f.n, .int .u8 (n0 : Nat), undef, .pointer (some ⟨wm.heap.size, 2, none⟩), .pointer (some ⟨wm.heap.size, 2, none⟩), .int .u64 (f.mb : Nat), p0, .pointer (some ⟨wm.heap.size, 2, none⟩), .pointer (some ⟨wm.heap.size, 3, none⟩), .int .u64 (f.mt : Nat), p1, .pointer (some ⟨wm.heap.size, 4, none⟩), .pointer (some ⟨wm.heap.size, 4, none⟩), .int .u64 (f.tb : Nat), p2, .pointer (some ⟨wm.heap.size, 4, none⟩), .pointer (some ⟨wm.heap.size, 5, none⟩), .int .u64 (f.tt : Nat), p3, .pointer (some ⟨wm.heap.size, 6, none⟩), .int .u64 (f.s : Nat), p4, .pointer (some ⟨wm.heap.size, 7, none⟩), .int .u64 (f.a : Nat), undef, .pointer (some ⟨wm.heap.size, 8, none⟩), .slice a m c, .int .i64 (m : Nat), .int .u64 (m : Nat), undef, .slice (some ⟨g7, 0, none⟩) 2 2, .pointer (some ⟨wm.heap.size, 8, none⟩), .slice a m c, undef, undef, undef, undef, undef, undef, undef, undef, undef, undef], []⟩ ∧ Hid (Bytes w1 p0 (putL f.mb 8)) ∧ Hid (Bytes w1 p1 (putL f.mt 8)) ∧ Hid (Bytes w1 p2 (putL f.tb 8)) ∧ Hid (Bytes w1 p3 (putL f.tt 8)) ∧ Hid (Bytes w1 p4 (putL f.s 8)) ∧ Hid (Bytes w1 (.slice (some ⟨g7, 0, none⟩) 2 2) [0, 0])) ?_ (fun m10 => ?_)
  · rintro l' A w1 rfl ⟨p0, p1, p2, p3, p4, g7, rfl, P0, P1, P2, P3, P4, Q7⟩ hHeld
    refine wpAnyH_ready (rs := [6, 28]) (by kernel_rfl) (by simp) ?_
    refine AllReadyH.cons rfl (fun K hK => ?_) (AllReadyH.cons rfl (fun K hK => ?_) AllReadyH.nil)
    · go_simp
      have hs : Below (World.heap w1).size w1 (w1.alloc (.cells #[.int .u8 (k0 : Int), .int .u8 (n0 : Int)] 5)) := (Below.refl _ _).alloc (Nat.le_refl _) _
      have Q6 : Hid (Bytes (w1.alloc (.cells #[.int .u8 (k0 : Int), .int .u8 (n0 : Int)] 5)) (.slice (some ⟨(World.heap w1).size, 0, none⟩) 2 2) [UInt8.ofNat k0, UInt8.ofNat n0]) := two_lit k0 n0 (by have := HH.out; omega) (by have := HH.out; omega) w1
      have P0 := Lib.hid (Bytes.later P0.out hs)
      have P1 := Lib.hid (Bytes.later P1.out hs)
      have P2 := Lib.hid (Bytes.later P2.out hs)
      have P3 := Lib.hid (Bytes.later P3.out hs)
      have P4 := Lib.hid (Bytes.later P4.out hs)
      have Q7 := Lib.hid (Bytes.later Q7.out hs)
      refine hK.out _ _ (hHeld.trans (hs.mono hHeld.size)) (fun hHeldN => ?_)
      exact m8 _ _ _ (by kernel_rfl) ⟨_, _, _, _, _, _, _, rfl, P0, P1, P2, P3, P4, Q6, Q7⟩ hHeldN
    · go_simp
      refine (putR_any f.a 8 _ HO.out.a (by omega)).mono ?_
      rintro e w_n ⟨p5, rfl, hp0, hs⟩
      simp only []
      have P5 := Lib.hid hp0
      have P0 := Lib.hid (Bytes.later P0.out hs)
      have P1 := Lib.hid (Bytes.later P1.out hs)
      have P2 := Lib.hid (Bytes.later P2.out hs)
      have P3 := Lib.hid (Bytes.later P3.out hs)
      have P4 := Lib.hid (Bytes.later P4.out hs)
      have Q7 := Lib.hid (Bytes.later Q7.out hs)
      refine hK.out _ _ (hHeld.trans (hs.mono hHeld.size)) (fun hHeldN => ?_)
      try simp only [Act.put, List.setIfInBounds_toArray, List.set_cons_zero, List.set_cons_succ, List.getElem_toArray, List.getElem_cons_zero, List.getElem_cons_succ]
      exact m6 _ _ _ (by kernel_rfl) ⟨_, _, _, _, _, _, _, rfl, P0, P1, P2, P3, P4, P5, Q7⟩ hHeldN
  refine wpAnyH_cut #[true, true, true, true, true, true, false, true, true, true, true, true, true, true, true, true, true, true, true, true, true, true, true, true, true, true, true, true, false, true, true, true, true, false, false, true, true, false, false, false] 7 (fun A w1 => ∃ p0 : Value, ∃ p1 : Value, ∃ p2 : Value, ∃ p3 : Value, ∃ p4 : Value, A = ⟨#[.agg #[.int .i64 f.k, .int .i64 f.n, .int .u64 (f.mb : Nat), .int .u64 (f.mt : Nat), .int .u64 (f.tb : Nat), .int .u64 (f.tt : Nat), .int .u64 (f.s : Nat), .int .u64 (f.a : Nat), .slice a m c], .pointer (some ⟨wm.heap.size, 0, none⟩), .slice none 0 0, undef, .pointer (some ⟨wm.heap.size, 0, none⟩), .int .i64 f.k, .int .u8 (k0 : Nat), .pointer (some ⟨wm.heap.size, 1, none⟩), .int .i64 f.n, .int .u8 (n0 : Nat), undef, .pointer (some ⟨wm.heap.size, 2, none⟩), .pointer (some ⟨wm.heap.size, 2, none⟩), .int .u64 (f.mb : Nat), p0, .pointer (some ⟨wm.heap.size, 2, none⟩), .pointer (some ⟨wm.heap.size, 3, none⟩), .int .u64 (f.mt : Nat), p1, .pointer (some ⟨wm.heap.size, 4, none⟩), .pointer (some ⟨wm.heap.size, 4, none⟩), .int .u64 (f.tb : Nat), p2, .pointer (some ⟨wm.heap.size, 4, none⟩), .pointer (some ⟨wm.heap.size, 5, none⟩), .int .u64 (f.tt : Nat), p3, .pointer (some ⟨wm.heap.size, 6, none⟩), .int .u64 (f.s : Nat), p4, .pointer (some ⟨wm.heap.size, 7, none⟩), .int .u64 (f.a : Nat), undef, .pointer (some ⟨wm.heap.size, 8, none⟩), .slice a m c, .int .i64 (m : Nat), .int .u64 (m : Nat), undef, undef, .pointer (some ⟨wm.heap.size, 8, none⟩), .slice a m c, undef, undef, undef, undef, undef, undef, undef, undef, undef, undef], []⟩ ∧ Hid (Bytes w1 p0 (putL f.mb 8)) ∧ Hid (Bytes w1 p1 (putL f.mt 8)) ∧ Hid (Bytes w1 p2 (putL f.tb 8)) ∧ Hid (Bytes w1 p3 (putL f.tt 8)) ∧ Hid (Bytes w1 p4 (putL f.s 8))) ?_ (fun m11 => ?_)
  · rintro l' A w1 rfl ⟨p0, p1, p2, p3, p4, rfl, P0, P1, P2, P3, P4⟩ hHeld
    refine wpAnyH_ready (rs := [6, 28, 34]) (by kernel_rfl) (by simp) ?_
    refine AllReadyH.cons rfl (fun K hK => ?_) (AllReadyH.cons rfl (fun K hK => ?_) (AllReadyH.cons rfl (fun K hK => ?_) AllReadyH.nil))
    · go_simp
      have hs : Below (World.heap w1).size w1 (w1.alloc (.cells #[.int .u8 (k0 : Int), .int .u8 (n0 : Int)] 5)) := (Below.refl _ _).alloc (Nat.le_refl _) _
      have Q6 : Hid (Bytes (w1.alloc (.cells #[.int .u8 (k0 : Int), .int .u8 (n0 : Int)] 5)) (.slice (some ⟨(World.heap w1).size, 0, none⟩) 2 2) [UInt8.ofNat k0, UInt8.ofNat n0]) := two_lit k0 n0 (by have := HH.out; omega) (by have := HH.out; omega) w1
      have P0 := Lib.hid (Bytes.later P0.out hs)
      have P1 := Lib.hid (Bytes.later P1.out hs)
      have P2 := Lib.hid (Bytes.later P2.out hs)
      have P3 := Lib.hid (Bytes.later P3.out hs)
      have P4 := Lib.hid (Bytes.later P4.out hs)
      refine hK.out _ _ (hHeld.trans (hs.mono hHeld.size)) (fun hHeldN => ?_)
      exact m9 _ _ _ (by kernel_rfl) ⟨_, _, _, _, _, _, rfl, P0, P1, P2, P3, P4, Q6⟩ hHeldN
    · go_simp
      refine (putR_any f.a 8 _ HO.out.a (by omega)).mono ?_
      rintro e w_n ⟨p5, rfl, hp0, hs⟩
      simp only []
      have P5 := Lib.hid hp0
      have P0 := Lib.hid (Bytes.later P0.out hs)
      have P1 := Lib.hid (Bytes.later P1.out hs)
      have P2 := Lib.hid (Bytes.later P2.out hs)
      have P3 := Lib.hid (Bytes.later P3.out hs)
      have P4 := Lib.hid (Bytes.later P4.out hs)
      refine hK.out _ _ (hHeld.trans (hs.mono hHeld.size)) (fun hHeldN => ?_)
      try simp only [Act.put, List.setIfInBounds_toArray, List.set_cons_zero, List.set_cons_succ, List.getElem_toArray, List.getElem_cons_zero, List.getElem_cons_succ]
      exact m7 _ _ _ (by kernel_rfl) ⟨_, _, _, _, _, _, rfl, P0, P1, P2, P3, P4, P5⟩ hHeldN
    · go_simp
      have hs : Below (World.heap w1).size w1 (w1.alloc (.cells #[.int .u8 0, .int .u8 0] 5)) := (Below.refl _ _).alloc (Nat.le_refl _) _
      have Q7 : Hid (Bytes (w1.alloc (.cells #[.int .u8 0, .int .u8 0] 5)) (.slice (some ⟨(World.heap w1).size, 0, none⟩) 2 2) [0, 0]) := two_lit 0 0 (by omega) (by omega) w1
      have P0 := Lib.hid (Bytes.later P0.out hs)
      have P1 := Lib.hid (Bytes.later P1.out hs)
      have P2 := Lib.hid (Bytes.later P2.out hs)
      have P3 := Lib.hid (Bytes.later P3.out hs)
      have P4 := Lib.hid (Bytes.later P4.out hs)
      refine hK.out _ _ (hHeld.trans (hs.mono hHeld.size)) (fun hHeldN => ?_)
      exact m10 _ _ _ (by kernel_rfl) ⟨_, _, _, _, _, _, rfl, P0, P1, P2, P3, P4, Q7⟩ hHeldN
  refine wpAnyH_cut #[true, true, true, true, true, true, true, true, true, true, true, true, true, true, true, true, true, true, true, true, true, true, true, true, true, false, true, true, false, true, true, true, true, false, true, true, true, false, false, false] 6 (fun A w1 => ∃ p0 : Value, ∃ p1 : Value, ∃ p2 : Value, ∃ p3 : Value, ∃ g6 : Nat, ∃ g7 : Nat, A = ⟨#[.agg #[.int .i64 f.k, .int .i64 f.n, .int .u64 (f.mb : Nat), .int .u64 (f.mt : Nat), .int .u64 (f.tb : Nat), .int .u64 (f.tt : Nat), .int .u64 (f.s : Nat), .int .u64 (f.a : Nat), .slice a m c], .pointer (some ⟨wm.heap.size, 0, none⟩), .slice none 0 0, undef, .pointer (some ⟨wm.heap.size, 0, none⟩), .int .i64 f.k, .int .u8 (k0 : Nat), .pointer (some ⟨wm.heap.size, 1, none⟩), .int .i64 f.n, .int .u8 (n0 : Nat), .slice (some ⟨g6, 0, none⟩) 2 2, .pointer (some ⟨wm.heap.size, 2, none⟩), .pointer (some ⟨wm.heap.size, 2, none⟩), .int .u64 (f.mb : Nat), p0, .pointer (some ⟨wm.heap.size, 2, none⟩), .pointer (some ⟨wm.heap.size, 3, none⟩), .int .u64 (f.mt : Nat), p1, .pointer (some ⟨wm.heap.size, 4, none⟩), .pointer (some ⟨wm.heap.size, 4, none⟩), .int .u64 (f.tb : Nat), p2, .pointer (some ⟨wm.heap.size, 4, none⟩), .pointer (some ⟨wm.heap.size, 5, none⟩), .int .u64 (f.tt : Nat), p3, .pointer (some ⟨wm.heap.size, 6, none⟩), .int .u64 (f.s : Nat), undef, .pointer (some ⟨wm.heap.size, 7, none⟩), .int .u64 (f.a : Nat), undef, .pointer (some ⟨wm.heap.size, 8, none⟩), .slice a m c, .int .i64 (m : Nat), .int .u64 (m : Nat), undef, .slice (some ⟨g7, 0, none⟩) 2 2, .pointer (some ⟨wm.heap.size, 8, none⟩), .slice a m c, undef, undef, undef, undef, undef, undef, undef, undef, undef, undef], []⟩ ∧ Hid (Bytes w1 p0 (putL f.mb 8)) ∧ Hid (Bytes w1 p1 (putL f.mt 8)) ∧ Hid (Bytes w1 p2 (putL f.tb 8)) ∧ Hid (Bytes w1 p3 (putL f.tt 8)) ∧ Hid (Bytes w1 (.slice (some ⟨g6, 0, none⟩) 2 2) [UInt8.ofNat k0, UInt8.ofNat n0]) ∧ Hid (Bytes w1 (.slice (some ⟨g7, 0, none⟩) 2 2) [0, 0])) ?_ (fun m12 => ?_)
  · rintro l' A w1 rfl ⟨p0, p1, p2, p3, g6, g7, rfl, P0, P1, P2, P3, Q6, Q7⟩ hHeld
    refine wpAnyH_ready (rs := [25]) (by kernel_rfl) (by simp) ?_
    refine AllReadyH.cons rfl (fun K hK => ?_) AllReadyH.nil
    · go_simp
      refine (putR_any f.s 8 _ HO.out.s (by omega)).mono ?_
      rintro e w_n ⟨p4, rfl, hp0, hs⟩
      simp only []
      have P4 := Lib.hid hp0
      have P0 := Lib.hid (Bytes.later P0.out hs)
      have P1 := Lib.hid (Bytes.later P1.out hs)
      have P2 := Lib.hid (Bytes.later P2.out hs)
      have P3 := Lib.hid (Bytes.later P3.out hs)
      have Q6 := Lib.hid (Bytes.later Q6.out hs)
      have Q7 := Lib.hid (Bytes.later Q7.out hs)
      refine hK.out _ _ (hHeld.trans (hs.mono hHeld.size)) (fun hHeldN => ?_)
      try simp only [Act.put, List.setIfInBounds_toArray, List.set_cons_zero, List.set_cons_succ, List.getElem_toArray, List.getElem_cons_zero, List.getElem_cons_succ]
      exact m8 _ _ _ (by kernel_rfl) ⟨_, _, _, _, _, _, _, rfl, P0, P1, P2, P3, P4, Q6, Q7⟩ hHeldN
  refine wpAnyH_cut #[true, true, true, true, true, true, true, true, true, true, true, true, true, true, true, true, true, true, true, true, true, true, true, true, true, false, true, true, false, true, true, true, true, false, false, true, true, false, false, false] 7 (fun A w1 => ∃ p0 : Value, ∃ p1 : Value, ∃ p2 : Value, ∃ p3 : Value, ∃ g6 : Nat, A = ⟨#[.agg #[.int .i64 f.k, .int .i64 f.n, .int .u64 (f.mb : Nat), .int .u64 (f.mt : Nat), .int .u64 (f.tb : Nat), .int .u64 (f.tt : Nat), .int .u64 (f.s : Nat), .int .u64 (f.a : Nat), .slice a m c], .pointer (some ⟨wm.heap.size, 0, none⟩), .slice none 0 0, undef, .pointer (some ⟨wm.heap.size, 0, none⟩), .int .i64 f.k, .int .u8 (k0 : Nat), .pointer (some ⟨wm.heap.size, 1, none⟩), .int .i64 f.n, .int .u8 (n0 : Nat), .slice (some ⟨g6, 0, none⟩) 2 2, .pointer (some ⟨wm.heap.size, 2, none⟩), .pointer (some ⟨wm.heap.size, 2, none⟩), .int .u64 (f.mb : Nat), p0, .pointer (some ⟨wm.heap.size, 2, none⟩), .pointer (some ⟨wm.heap.size, 3, none⟩), .int .u64 (f.mt : Nat), p1, .pointer (some ⟨wm.heap.size, 4, none⟩), .pointer (some ⟨wm.heap.size, 4, none⟩), .int .u64 (f.tb : Nat), p2, .pointer (some ⟨wm.heap.size, 4, none⟩), .pointer (some ⟨wm.heap.size, 5, none⟩), .int .u64 (f.tt : Nat), p3, .pointer (some ⟨wm.heap.size, 6, none⟩), .int .u64 (f.s : Nat), undef, .pointer (some ⟨wm.heap.size, 7, none⟩), .int .u64 (f.a : Nat), undef, .pointer (some ⟨wm.heap.size, 8, none⟩), .slice a m c, .int .i64 (m : Nat), .int .u64 (m : Nat), undef, undef, .pointer (some ⟨wm.heap.size, 8, none⟩), .slice a m c, undef, undef, undef, undef, undef, undef, undef, undef, undef, undef], []⟩ ∧ Hid (Bytes w1 p0 (putL f.mb 8)) ∧ Hid (Bytes w1 p1 (putL f.mt 8)) ∧ Hid (Bytes w1 p2 (putL f.tb 8)) ∧ Hid (Bytes w1 p3 (putL f.tt 8)) ∧ Hid (Bytes w1 (.slice (some ⟨g6, 0, none⟩) 2 2) [UInt8.ofNat k0, UInt8.ofNat n0])) ?_ (fun m13 => ?_)
  · rintro l' A w1 rfl ⟨p0, p1, p2, p3, g6, rfl, P0, P1, P2, P3, Q6⟩ hHeld
    refine wpAnyH_ready (rs := [25, 34]) (by kernel_rfl) (by simp) ?_
    refine AllReadyH.cons rfl (fun K hK => ?_) (AllReadyH.cons rfl (fun K hK => ?_) AllReadyH.nil)
    · go_simp
      refine (putR_any f.s 8 _ HO.out.s (by omega)).mono ?_
      rintro e w_n ⟨p4, rfl, hp0, hs⟩
      simp only []
      have P4 := Lib.hid hp0
      have P0 := Lib.hid (Bytes.later P0.out hs)
      have P1 := Lib.hid (Bytes.later P1.out hs)
      have P2 := Lib.hid (Bytes.later P2.out hs)
      have P3 := Lib.hid (Bytes.later P3.out hs)
      have Q6 := Lib.hid (Bytes.later Q6.out hs)
      refine hK.out _ _ (hHeld.trans (hs.mono hHeld.size)) (fun hHeldN => ?_)
      try simp only [Act.put, List.setIfInBounds_toArray, List.set_cons_zero, List.set_cons_succ, List.getElem_toArray, List.getElem_cons_zero, List.getElem_cons_succ]
      exact m9 _ _ _ (by kernel_rfl) ⟨_, _, _, _, _, _, rfl, P0, P1, P2, P3, P4, Q6⟩ hHeldN
    · go_simp
      have hs : Below (World.heap w1).size w1 (w1.alloc (.cells #[.int .u8 0, .int .u8 0] 5)) := (Below.refl _ _).alloc (Nat.le_refl _) _
      have Q7 : Hid (Bytes (w1.alloc (.cells #[.int .u8 0, .int .u8 0] 5)) (.slice (some ⟨(World.heap w1).size, 0, none⟩) 2 2) [0, 0]) := two_lit 0 0 (by omega) (by omega) w1
      have P0 := Lib.hid (Bytes.later P0.out hs)
      have P1 := Lib.hid (Bytes.later P1.out hs)
      have P2 := Lib.hid (Bytes.later P2.out hs)
      have P3 := Lib.hid (Bytes.later P3.out hs)
      have Q6 := Lib.hid (Bytes.later Q6.out hs)
      refine hK.out _ _ (hHeld.trans (hs.mono hHeld.size)) (fun hHeldN => ?_)
      exact m12 _ _ _ (by kernel_rfl) ⟨_, _, _, _, _, _, rfl, P0, P1, P2, P3, Q6, Q7⟩ hHeldN
  refine wpAnyH_cut #[true, true, true, true, true, true, false, true, true, true, true, true, true, true, true, true, true, true, true, true, true, true, true, true, true, false, true, true, false, true, true, true, true, false, true, true, true, false, false, false] 7 (fun A w1 => ∃ p0 : Value, ∃ p1 : Value, ∃ p2 : Value, ∃ p3 : Value, ∃ g7 : Nat, A = ⟨#[.agg #[.int .i64 f.k, .int .i64 f.n, .int .u64 (f.mb : Nat), .int .u64 (f.mt : Nat), .int .u64 (f.tb : Nat), .int .u64 (f.tt : Nat), .int .u64 (f.s : Nat), .int .u64 (f.a : Nat), .slice a m c], .pointer (some ⟨wm.heap.size, 0, none⟩), .slice none 0 0, undef, .pointer (some ⟨wm.heap.size, 0, none⟩), .int .i64 f.k, .int .u8 (k0 : Nat), .pointer (some ⟨wm.heap.size, 1, none⟩), .int .i64 f.n, .int .u8 (n0 : Nat), undef, .pointer (some ⟨wm.heap.size, 2, none⟩), .pointer (some ⟨wm.heap.size, 2, none⟩), .int .u64 (f.mb : Nat), p0, .pointer (some ⟨wm.heap.size, 2, none⟩), .pointer (some ⟨wm.heap.size, 3, none⟩), .int .u64 (f.mt : Nat), p1, .pointer (some ⟨wm.heap.size, 4, none⟩), .pointer (some ⟨wm.heap.size, 4, none⟩), .int .u64 (f.tb : Nat), p2, .pointer (some ⟨wm.heap.size, 4, none⟩), .pointer (some ⟨wm.heap.size, 5, none⟩), .int .u64 (f.tt : Nat), p3, .pointer (some ⟨wm.heap.size, 6, none⟩), .int .u64 (f.s : Nat), undef, .pointer (some ⟨wm.heap.size, 7, none⟩), .int .u64 (f.a : Nat), undef, .pointer (some ⟨wm.heap.size, 8, none⟩), .slice a m c, .int .i64 (m : Nat), .int .u64 (m : Nat), undef, .slice (some ⟨g7, 0, none⟩) 2 2, .pointer (some ⟨wm.heap.size, 8, none⟩), .slice a m c, undef, undef, undef, undef, undef, undef, undef, undef, undef, undef], []⟩ ∧ Hid (Bytes w1 p0 (putL f.mb 8)) ∧ Hid (Bytes w1 p1 (putL f.mt 8)) ∧ Hid (Bytes w1 p2 (putL f.tb 8)) ∧ Hid (Bytes w1 p3 (putL f.tt 8)) ∧ Hid (Bytes w1 (.slice (some ⟨g7, 0, none⟩) 2 2) [0, 0])) ?_ (fun m14 => ?_)
  · rintro l' A w1 rfl ⟨p0, p1, p2, p3, g7, rfl, P0, P1, P2, P3, Q7⟩ hHeld
    refine wpAnyH_ready (rs := [6, 25]) (by kernel_rfl) (by simp) ?_
    refine AllReadyH.cons rfl (fun K hK => ?_) (AllReadyH.cons rfl (fun K hK => ?_) AllReadyH.nil)
    · go_simp
      have hs : Below (World.heap w1).size w1 (w1.alloc (.cells #[.int .u8 (k0 : Int), .int .u8 (n0 : Int)] 5)) := (Below.refl _ _).alloc (Nat.le_refl _) _
      have Q6 : Hid (Bytes (w1.alloc (.cells #[.int .u8 (k0 : Int), .int .u8 (n0 : Int)] 5)) (.slice (some ⟨(World.heap w1).size, 0, none⟩) 2 2) [UInt8.ofNat k0, UInt8.ofNat n0]) := two_lit k0 n0 (by have := HH.out; omega) (by have := HH.out; omega) w1
      have P0 := Lib.hid (Bytes.later P0.out hs)
      have P1 := Lib.hid (Bytes.later P1.out hs)
      have P2 := Lib.hid (Bytes.later P2.out hs)
      have P3 := Lib.hid (Bytes.later P3.out hs)
      have Q7 := Lib.hid (Bytes.later Q7.out hs)
      refine hK.out _ _ (hHeld.trans (hs.mono hHeld.size)) (fun hHeldN => ?_)
      exact m12 _ _ _ (by kernel_rfl) ⟨_, _, _, _, _, _, rfl, P0, P1, P2, P3, Q6, Q7⟩ hHeldN
    · go_simp
      refine (putR_any f.s 8 _ HO.out.s (by omega)).mono ?_
      rintro e w_n ⟨p4, rfl, hp0, hs⟩
      simp only []
      have P4 := Lib.hid hp0
      have P0 := Lib.hid (Bytes.later P0.out hs)
      have P1 := Lib.hid (Bytes.later P1.out hs)
      have P2 := Lib.hid (Bytes.later P2.out hs)
      have P3 := Lib.hid (Bytes.later P3.out hs)
      have Q7 := Lib.hid (Bytes.later Q7.out hs)
      refine hK.out _ _ (hHeld.trans (hs.mono hHeld.size)) (fun hHeldN => ?_)
      try simp only [Act.put, List.setIfInBounds_toArray, List.set_cons_zero, List.set_cons_succ, List.getElem_toArray, List.getElem_cons_zero, List.getElem_cons_succ]
      exact m10 _ _ _ (by kernel_rfl) ⟨_, _, _, _, _, _, rfl, P0, P1, P2, P3, P4, Q7⟩ hHeldN
  refine wpAnyH_cut #[true, true, true, true, true, true, false, true, true, true, true, true, true, true, true, true, true, true, true, true, true, true, true, true, true, false, true, true, false, true, true, true, true, false, false, true, true, false, false, false] 8 (fun A w1 => ∃ p0 : Value, ∃ p1 : Value, ∃ p2 : Value, ∃ p3 : Value, A = ⟨#[.agg #[.int .i64 f.k, .int .i64 f.n, .int .u64 (f.mb : Nat), .int .u64 (f.mt : Nat), .int .u64 (f.tb : Nat), .int .u64 (f.tt : Nat), .int .u64 (f.s : Nat), .int .u64 (f.a : Nat), .slice a m c], .pointer (some ⟨wm.heap.size, 0, none⟩), .slice none 0 0, undef, .pointer (some ⟨wm.heap.size, 0, none⟩), .int .i64 f.k, .int .u8 (k0 : Nat), .pointer (some ⟨wm.heap.size, 1, none⟩), .int .i64 f.n, .int .u8 (n0 : Nat), undef, .pointer (some ⟨wm.heap.size, 2, none⟩), .pointer (some ⟨wm.heap.size, 2, none⟩), .int .u64 (f.mb : Nat), p0, .pointer (some ⟨wm.heap.size, 2, none⟩), .pointer (some ⟨wm.heap.size, 3, none⟩), .int .u64 (f.mt : Nat), p1, .pointer (some ⟨wm.heap.size, 4, none⟩), .pointer (some ⟨wm.heap.size, 4, none⟩), .int .u64 (f.tb : Nat), p2, .pointer (some ⟨wm.heap.size, 4, none⟩), .pointer (some ⟨wm.heap.size, 5, none⟩), .int .u64 (f.tt : Nat), p3, .pointer (some ⟨wm.heap.size, 6, none⟩), .int .u64 (f.s : Nat), undef, .pointer (some ⟨wm.heap.size, 7, none⟩), .int .u64 (f.a : Nat), undef, .pointer (some ⟨wm.heap.size, 8, none⟩), .slice a m c, .int .i64 (m : Nat), .int .u64 (m : Nat), undef, undef, .pointer (some ⟨wm.heap.size, 8, none⟩), .slice a m c, undef, undef, undef, undef, undef, undef, undef, undef, undef, undef], []⟩ ∧ Hid (Bytes w1 p0 (putL f.mb 8)) ∧ Hid (Bytes w1 p1 (putL f.mt 8)) ∧ Hid (Bytes w1 p2 (putL f.tb 8)) ∧ Hid (Bytes w1 p3 (putL f.tt 8))) ?_ (fun m15 => ?_)
  · rintro l' A w1 rfl ⟨p0, p1, p2, p3, rfl, P0, P1, P2, P3⟩ hHeld
    refine wpAnyH_ready (rs := [6, 25, 34]) (by kernel_rfl) (by simp) ?_
    refine AllReadyH.cons rfl (fun K hK => ?_) (AllReadyH.cons rfl (fun K hK => ?_) (AllReadyH.cons rfl (fun K hK => ?_) AllReadyH.nil))
    · go_simp
      have hs : Below (World.heap w1).size w1 (w1.alloc (.cells #[.int .u8 (k0 : Int), .int .u8 (n0 : Int)] 5)) := (Below.refl _ _).alloc (Nat.le_refl _) _
      have Q6 : Hid (Bytes (w1.alloc (.cells #[.int .u8 (k0 : Int), .int .u8 (n0 : Int)] 5)) (.slice (some ⟨(World.heap w1).size, 0, none⟩) 2 2) [UInt8.ofNat k0, UInt8.ofNat n0]) := two_lit k0 n0 (by have := HH.out; omega) (by have := HH.out; omega) w1
      have P0 := Lib.hid (Bytes.later P0.out hs)
      have P1 := Lib.hid (Bytes.later P1.out hs)
      have P2 := Lib.hid (Bytes.later P2.out hs)
      have P3 := Lib.hid (Bytes.later P3.out hs)
      refine hK.out _ _ (hHeld.trans (hs.mono hHeld.size)) (fun hHeldN => ?_)
      exact m13 _ _ _ (by kernel_rfl) ⟨_, _, _, _, _, rfl, P0, P1, P2, P3, Q6⟩ hHeldN
    · go_simp
      refine (putR_any f.s 8 _ HO.out.s (by omega)).mono ?_
      rintro e w_n ⟨p4, rfl, hp0, hs⟩
      simp only []
      have P4 := Lib.hid hp0
      have P0 := Lib.hid (Bytes.later P0.out hs)
      have P1 := Lib.hid (Bytes.later P1.out hs)
      have P2 := Lib.hid (Bytes.later P2.out hs)
      have P3 := Lib.hid (Bytes.later P3.out hs)
      refine hK.out _ _ (hHeld.trans (hs.mono hHeld.size)) (fun hHeldN => ?_)
      try simp only [Act.put, List.setIfInBounds_toArray, List.set_cons_zero, List.set_cons_succ, List.getElem_toArray, List.getElem_cons_zero, List.getElem_cons_succ]
      exact m11 _ _ _ (by kernel_rfl) ⟨_, _, _, _, _, rfl, P0, P1, P2, P3, P4⟩ hHeldN
    · go_simp
      have hs : Below (World.heap w1).size w1 (w1.alloc (.cells #[.int .u8 0, .int .u8 0] 5)) := (Below.refl _ _).alloc (Nat.le_refl _) _
      have Q7 : Hid (Bytes (w1.alloc (.cells #[.int .u8 0, .int .u8 0] 5)) (.slice (some ⟨(World.heap w1).size, 0, none⟩) 2 2) [0, 0]) := two_lit 0 0 (by omega) (by omega) w1
      have P0 := Lib.hid (Bytes.later P0.out hs)
      have P1 := Lib.hid (Bytes.later P1.out hs)
      have P2 := Lib.hid (Bytes.later P2.out hs)
      have P3 := Lib.hid (Bytes.later P3.out hs)
      refine hK.out _ _ (hHeld.trans (hs.mono hHeld.size)) (fun hHeldN => ?_)
      exact m14 _ _ _ (by kernel_rfl) ⟨_, _, _, _, _, rfl, P0, P1, P2, P3, Q7⟩ hHeldN
  refine wpAnyH_cut #[true, true, true, true, true, true, true, true, true, true, true, true, true, true, true, true, true, true, true, true, true, true, false, true, true, false, true, true, false, true, true, true, true, false, true, true, true, false, false, false] 7 (fun A w1 => ∃ p0 : Value, ∃ p1 : Value, ∃ p2 : Value, ∃ g6 : Nat, ∃ g7 : Nat, A = ⟨#[.agg #[.int .i64 f.k, .int .i64 f.n, .int .u64 (f.mb : Nat), .int .u64 (f.mt : Nat), .int .u64 (f.tb : Nat), .int .u64 (f.tt : Nat), .int .u64 (f.s : Nat), .int .u64 (f.a : Nat), .slice a m c], .pointer (some ⟨wm.heap.size, 0, none⟩), .slice none 0 0, undef, .pointer (some ⟨wm.heap.size, 0, none⟩), .int .i64 f.k, .int .u8 (k0 : Nat), .pointer (some ⟨wm.heap.size, 1, none⟩), .int .i64 f.n, .int .u8 (n0 : Nat), .slice (some ⟨g6, 0, none⟩) 2 2, .pointer (some ⟨wm.heap.size, 2, none⟩), .pointer (some ⟨wm.heap.size, 2, none⟩), .int .u64 (f.mb : Nat), p0, .pointer (some ⟨wm.heap.size, 2, none⟩), .pointer (some ⟨wm.heap.size, 3, none⟩), .int .u64 (f.mt : Nat), p1, .pointer (some ⟨wm.heap.size, 4, none⟩), .pointer (some ⟨wm.heap.size, 4, none⟩), .int .u64 (f.tb : Nat), p2, .pointer (some ⟨wm.heap.size, 4, none⟩), .pointer (some ⟨wm.heap.size, 5, none⟩), .int .u64 (f.tt : Nat), undef, .pointer (some ⟨wm.heap.size, 6, none⟩), .int .u64 (f.s : Nat), undef, .pointer (some ⟨wm.heap.size, 7, none⟩), .int .u64 (f.a : Nat), undef, .pointer (some ⟨wm.heap.size, 8, none⟩), .slice a m c, .int .i64 (m : Nat), .int .u64 (m : Nat), undef, .slice (some ⟨g7, 0, none⟩) 2 2, .pointer (some ⟨wm.heap.size, 8, none⟩), .slice a m c, undef, undef, undef, undef, undef, undef, undef, undef, undef, undef], []⟩ ∧ Hid (Bytes w1 p0 (putL f.mb 8)) ∧ Hid (Bytes w1 p1 (putL f.mt 8)) ∧ Hid (Bytes w1 p2 (putL f.tb 8)) ∧ Hid (Bytes w1 (.slice (some ⟨g6, 0, none⟩) 2 2) [UInt8.ofNat k0, UInt8.ofNat n0]) ∧ Hid (Bytes w1 (.slice (some ⟨g7, 0, none⟩) 2 2) [0, 0])) ?_ (fun m16 => ?_)
  · rintro l' A w1 rfl ⟨p0, p1, p2, g6, g7, rfl, P0, P1, P2, Q6, Q7⟩ hHeld
    refine wpAnyH_ready (rs := [22]) (by kernel_rfl) (by simp) ?_
    refine AllReadyH.cons rfl (fun K hK => ?_) AllReadyH.nil
    · go_simp
      refine (putR_any f.tt 8 _ HO.out.tt (by omega)).mono ?_
      rintro e w_n ⟨p3, rfl, hp0, hs⟩
      simp only []
      have P3 := Lib.hid hp0
      have P0 := Lib.hid (Bytes.later P0.out hs)
      have P1 := Lib.hid (Bytes.later P1.out hs)
      have P2 := Lib.hid (Bytes.later P2.out hs)
      have Q6 := Lib.hid (Bytes.later Q6.out hs)
      have Q7 := Lib.hid (Bytes.later Q7.out hs)
      refine hK.out _ _ (hHeld.trans (hs.mono hHeld.size)) (fun hHeldN => ?_)
      try simp only [Act.put, List.setIfInBounds_toArray, List.set_cons_zero, List.set_cons_succ, List.getElem_toArray, List.getElem_cons_zero, List.getElem_cons_succ]
      exact m12 _ _ _ (by kernel_rfl) ⟨_, _, _, _, _, _, rfl, P0, P1, P2, P3, Q6, Q7⟩ hHeldN
  refine wpAnyH_cut #[true, true, true, true, true, true, true, true, true, true, true, true, true, true, true, true, true, true, true, true, true, true, false, true, true, false, true, true, false, true, true, true, true, false, false, true, true, false, false, false] 8 (fun A w1 => ∃ p0 : Value, ∃ p1 : Value, ∃ p2 : Value, ∃ g6 : Nat, A = ⟨#[.agg #[.int .i64 f.k, .int .i64 f.n, .int .u64 (f.mb : Nat), .int .u64 (f.mt : Nat), .int .u64 (f.tb : Nat), .int .u64 (f.tt : Nat), .int .u64 (f.s : Nat), .int .u64 (f.a : Nat), .slice a m c], .pointer (some ⟨wm.heap.size, 0, none⟩), .slice none 0 0, undef, .pointer (some ⟨wm.heap.size, 0, none⟩), .int .i64 f.k, .int .u8 (k0 : Nat), .pointer (some ⟨wm.heap.size, 1, none⟩), .int .i64 f.n, .int .u8 (n0 : Nat), .slice (some ⟨g6, 0, none⟩) 2 2, .pointer (some ⟨wm.heap.size, 2, none⟩), .pointer (some ⟨wm.heap.size, 2, none⟩), .int .u64 (f.mb : Nat), p0, .pointer (some ⟨wm.heap.size, 2, none⟩), .pointer (some ⟨wm.heap.size, 3, none⟩), .int .u64 (f.mt : Nat), p1, .pointer (some ⟨wm.heap.size, 4, none⟩), .pointer (some ⟨wm.heap.size, 4, none⟩), .int .u64 (f.tb : Nat), p2, .pointer (some ⟨wm.heap.size, 4, none⟩), .pointer (some ⟨wm.heap.size, 5, none⟩), .int .u64 (f.tt : Nat), undef, .pointer (some ⟨wm.heap.size, 6, none⟩), .int .u64 (f.s : Nat), undef, .pointer (some ⟨wm.heap.size, 7, none⟩), .int .u64 (f.a : Nat), undef, .pointer (some ⟨wm.heap.size, 8, none⟩), .slice a m c, .int .i64 (m : Nat), .int .u64 (m : Nat), undef, undef, .pointer (some ⟨wm.heap.size, 8, none⟩), .slice a m c, undef, undef, undef, undef, undef, undef, undef, undef, undef, undef], []⟩ ∧ Hid (Bytes w1 p0 (putL f.mb 8)) ∧ Hid (Bytes w1 p1 (putL f.mt 8)) ∧ Hid (Bytes w1 p2 (putL f.tb 8)) ∧ Hid (Bytes w1 (.slice (some ⟨g6, 0, none⟩) 2 2) [UInt8.ofNat k0, UInt8.ofNat n0])) ?_ (fun m17 => ?_)
  · rintro l' A w1 rfl ⟨p0, p1, p2, g6, rfl, P0, P1, P2, Q6⟩ hHeld
    refine wpAnyH_ready (rs := [22, 34]) (by kernel_rfl) (by simp) ?_
    refine AllReadyH.cons rfl (fun K hK => ?_) (AllReadyH.cons rfl (fun K hK => ?_) AllReadyH.nil)
    · go_simp
      refine (putR_any f.tt 8 _ HO.out.tt (by omega)).mono ?_
      rintro e w_n ⟨p3, rfl, hp0, hs⟩
      simp only []
      have P3 := Lib.hid hp0
      have P0 := Lib.hid (Bytes.later P0.out hs)
      have P1 := Lib.hid (Bytes.later P1.out hs)
      have P2 := Lib.hid (Bytes.later P2.out hs)
      have Q6 := Lib.hid (Bytes.later Q6.out hs)
      refine hK.out _ _ (hHeld.trans (hs.mono hHeld.size)) (fun hHeldN => ?_)
      try simp only [Act.put, List.setIfInBounds_toArray, List.set_cons_zero, List.set_cons_succ, List.getElem_toArray, List.getElem_cons_zero, List.getElem_cons_succ]
      exact m13 _ _ _ (by kernel_rfl) ⟨_, _, _, _, _, rfl, P0, P1, P2, P3, Q6⟩ hHeldN
    · go_simp
      have hs : Below (World.heap w1).size w1 (w1.alloc (.cells #[.int .u8 0, .int .u8 0] 5)) := (Below.refl _ _).alloc (Nat.le_refl _) _
      have Q7 : Hid (Bytes (w1.alloc (.cells #[.int .u8 0, .int .u8 0] 5)) (.slice (some ⟨(World.heap w1).size, 0, none⟩) 2 2) [0, 0]) := two_lit 0 0 (by omega) (by omega) w1
      have P0 := Lib.hid (Bytes.later P0.out hs)
      have P1 := Lib.hid (Bytes.later P1.out hs)
      have P2 := Lib.hid (Bytes.later P2.out hs)
      have Q6 := Lib.hid (Bytes.later Q6.out hs)
      refine hK.out _ _ (hHeld.trans (hs.mono hHeld.size)) (fun hHeldN => ?_)
      exact m16 _ _ _ (by kernel_rfl) ⟨_, _, _, _, _, rfl, P0, P1, P2, Q6, Q7⟩ hHeldN
  refine wpAnyH_cut #[true, true, true, true, true, true, false, true, true, true, true, true, true, true, true, true, true, true, true, true, true, true, false, true, true, false, true, true, false, true, true, true, true, false, true, true, true, false, false, false] 8 (fun A w1 => ∃ p0 : Value, ∃ p1 : Value, ∃ p2 : Value, ∃ g7 : Nat, A = ⟨#[.agg #[.int .i64 f.k, .int .i64 f.n, .int .u64 (f.mb : Nat), .int .u64 (f.mt : Nat), .int .u64 (f.tb : Nat), .int .u64 (f.tt : Nat), .int .u64 (f.s : Nat), .int .u64 (f.a : Nat), .slice a m c], .pointer (some ⟨wm.heap.size, 0, none⟩), .slice none 0 0, undef, .pointer (some ⟨wm.heap.size, 0, none⟩), .int .i64 f.k, .int .u8 (k0 : Nat), .pointer (some ⟨wm.heap.size, 1, none⟩), .int .i64 f.n, .int .u8 (n0 : Nat), undef, .pointer (some ⟨wm.heap.size, 2, none⟩), .pointer (some ⟨wm.heap.size, 2, none⟩), .int .u64 (f.mb : Nat), p0, .pointer (some ⟨wm.heap.size, 2, none⟩), .pointer (some ⟨wm.heap.size, 3, none⟩), .int .u64 (f.mt : Nat), p1, .pointer (some ⟨wm.heap.size, 4, none⟩), .pointer (some ⟨wm.heap.size, 4, none⟩), .int .u64 (f.tb : Nat), p2, .pointer (some ⟨wm.heap.size, 4, none⟩), .pointer (some ⟨wm.heap.size, 5, none⟩), .int .u64 (f.tt : Nat), undef, .pointer (some ⟨wm.heap.size, 6, none⟩), .int .u64 (f.s : Nat), undef, .pointer (some ⟨wm.heap.size, 7, none⟩), .int .u64 (f.a : Nat), undef, .pointer (some ⟨wm.heap.size, 8, none⟩), .slice a m c, .int .i64 (m : Nat), .int .u64 (m : Nat), undef, .slice (some ⟨g7, 0, none⟩) 2 2, .pointer (some ⟨wm.heap.size, 8, none⟩), .slice a m c, undef, undef, undef, undef, undef, undef, undef, undef, undef, undef], []⟩ ∧ Hid (Bytes w1 p0 (putL f.mb 8)) ∧ Hid (Bytes w1 p1 (putL f.mt 8)) ∧ Hid (Bytes w1 p2 (putL f.tb 8)) ∧ Hid (Bytes w1 (.slice (some ⟨g7, 0, none⟩) 2 2) [0, 0])) ?_ (fun m18 => ?_)
  · rintro l' A w1 rfl ⟨p0, p1, p2, g7, rfl, P0, P1, P2, Q7⟩ hHeld
    refine wpAnyH_ready (rs := [6, 22]) (by kernel_rfl) (by simp) ?_
    refine AllReadyH.cons rfl (fun K hK => ?_) (AllReadyH.cons rfl (fun K hK => ?_) AllReadyH.nil)
    · go_simp
      have hs : Below (World.heap w1).size w1 (w1.alloc (.cells #[.int .u8 (k0 : Int), .int .u8 (n0 : Int)] 5)) := (Below.refl _ _).alloc (Nat.le_refl _) _
      have Q6 : Hid (Bytes (w1.alloc (.cells #[.int .u8 (k0 : Int), .int .u8 (n0 : Int)] 5)) (.slice (some ⟨(World.heap w1).size, 0, none⟩) 2 2) [UInt8.ofNat k0, UInt8.ofNat n0]) := two_lit k0 n0 (by have := HH.out; omega) (by have := HH.out; omega) w1
      have P0 := Lib.hid (Bytes.later P0.out hs)
      have P1 := Lib.hid (Bytes.later P1.out hs)
      have P2 := Lib.hid (Bytes.later P2.out hs)
      have Q7 := Lib.hid (Bytes.later Q7.out hs)
      refine hK.out _ _ (hHeld.trans (hs.mono hHeld.size)) (fun hHeldN => ?_)
      exact m16 _ _ _ (by kernel_rfl) ⟨_, _, _, _, _, rfl, P0, P1, P2, Q6, Q7⟩ hHeldN
    · go_simp
      refine (putR_any f.tt 8 _ HO.out.tt (by omega)).mono ?_
      rintro e w_n ⟨p3, rfl, hp0, hs⟩
      simp only []
      have P3 := Lib.hid hp0
      have P0 := Lib.hid (Bytes.later P0.out hs)
      have P1 := Lib.hid (Bytes.later P1.out hs)
      have P2 := Lib.hid (Bytes.later P2.out hs)
      have Q7 := Lib.hid (Bytes.later Q7.out hs)
      refine hK.out _ _ (hHeld.trans (hs.mono hHeld.size)) (fun hHeldN => ?_)
      try simp only [Act.put, List.setIfInBounds_toArray, List.set_cons_zero, List.set_cons_succ, List.getElem_toArray, List.getElem_cons_zero, List.getElem_cons_succ]
      exact m14 _ _ _ (by kernel_rfl) ⟨_, _, _, _, _, rfl, P0, P1, P2, P3, Q7⟩ hHeldN
  refine wpAnyH_cut #[true, true, true, true, true, true, false, true, true, true, true, true, true, true, true, true, true, true, true, true, true, true, false, true, true, false, true, true, false, true, true, true, true, false, false, true, true, false, false, false] 9 (fun A w1 => ∃ p0 : Value, ∃ p1 : Value, ∃ p2 : Value, A = ⟨#[.agg #[.int .i64 f.k, .int .i64 f.n, .int .u64 (f.mb : Nat), .int .u64 (f.mt : Nat), .int .u64 (f.tb : Nat), .int .u64 (f.tt : Nat), .int .u64 (f.s : Nat), .int .u64 (f.a : Nat), .slice a m c], .pointer (some ⟨wm.heap.size, 0, none⟩), .slice none 0 0, undef, .pointer (some ⟨wm.heap.size, 0, none⟩), .int .i64 f.k, .int .u8 (k0 : Nat), .pointer (some ⟨wm.heap.size, 1, none⟩), .int .i64 f.n, .int .u8 (n0 : Nat), undef, .pointer (some ⟨wm.heap.size, 2, none⟩), .pointer (some ⟨wm.heap.size, 2, none⟩), .int .u64 (f.mb : Nat), p0, .pointer (some ⟨wm.heap.size, 2, none⟩), .pointer (some ⟨wm.heap.size, 3, none⟩), .int .u64 (f.mt : Nat), p1, .pointer (some ⟨wm.heap.size, 4, none⟩), .pointer (some ⟨wm.heap.size, 4, none⟩), .int .u64 (f.tb : Nat), p2, .pointer (some ⟨wm.heap.size, 4, none⟩), .pointer (some ⟨wm.heap.size, 5, none⟩), .int .u64 (f.tt : Nat), undef, .pointer (some ⟨wm.heap.size, 6, none⟩), .int .u64 (f.s : Nat), undef, .pointer (some ⟨wm.heap.size, 7, none⟩), .int .u64 (f.a : Nat), undef, .pointer (some ⟨wm.heap.size, 8, none⟩), .slice a m c, .int .i64 (m : Nat), .int .u64 (m : Nat), undef, undef, .pointer (some ⟨wm.heap.size, 8, none⟩), .slice a m c, undef, undef, undef, undef, undef, undef, undef, undef, undef, undef], []⟩ ∧ Hid (Bytes w1 p0 (putL f.mb 8)) ∧ Hid (Bytes w1 p1 (putL f.mt 8)) ∧ Hid (Bytes w1 p2 (putL f.tb 8))) ?_ (fun m19 => ?_)
  · rintro l' A w1 rfl ⟨p0, p1, p2, rfl, P0, P1, P2⟩ hHeld
    refine wpAnyH_ready (rs := [6, 22, 34]) (by kernel_rfl) (by simp) ?_
    refine AllReadyH.cons rfl (fun K hK => ?_) (AllReadyH.cons rfl (fun K hK => ?_) (AllReadyH.cons rfl (fun K hK => ?_) AllReadyH.nil))
    · go_simp
      have hs : Below (World.heap w1).size w1 (w1.alloc (.cells #[.int .u8 (k0 : Int), .int .u8 (n0 : Int)] 5)) := (Below.refl _ _).alloc (Nat.le_refl _) _
      have Q6 : Hid (Bytes (w1.alloc (.cells #[.int .u8 (k0 : Int), .int .u8 (n0 : Int)] 5)) (.slice (some ⟨(World.heap w1).size, 0, none⟩) 2 2) [UInt8.ofNat k0, UInt8.ofNat n0]) := two_lit k0 n0 (by have := HH.out; omega) (by have := HH.out; omega) w1
      have P0 := Lib.hid (Bytes.later P0.out hs)
      have P1 := Lib.hid (Bytes.later P1.out hs)
      have P2 := Lib.hid (Bytes.later P2.out hs)
      refine hK.out _ _ (hHeld.trans (hs.mono hHeld.size)) (fun hHeldN => ?_)
      exact m17 _ _ _ (by kernel_rfl) ⟨_, _, _, _, rfl, P0, P1, P2, Q6⟩ hHeldN
    · go_simp
      refine (putR_any f.tt 8 _ HO.out.tt (by omega)).mono ?_
      rintro e w_n ⟨p3, rfl, hp0, hs⟩
      simp only []
      have P3 := Lib.hid hp0
      have P0 := Lib.hid (Bytes.later P0.out hs)
      have P1 := Lib.hid (Bytes.later P1.out hs)
      have P2 := Lib.hid (Bytes.later P2.out hs)
      refine hK.out _ _ (hHeld.trans (hs.mono hHeld.size)) (fun hHeldN => ?_)
      try simp only [Act.put, List.setIfInBounds_toArray, List.set_cons_zero, List.set_cons_succ, List.getElem_toArray, List.getElem_cons_zero, List.getElem_cons_succ]
      exact m15 _ _ _ (by kernel_rfl) ⟨_, _, _, _, rfl, P0, P1, P2, P3⟩ hHeldN
    · go_simp
      have hs : Below (World.heap w1).size w1 (w1.alloc (.cells #[.int .u8 0, .int .u8 0] 5)) := (Below.refl _ _).alloc (Nat.le_refl _) _
      have Q7 : Hid (Bytes (w1.alloc (.cells #[.int .u8 0, .int .u8 0] 5)) (.slice (some ⟨(World.heap w1).size, 0, none⟩) 2 2) [0, 0]) := two_lit 0 0 (by omega) (by omega) w1
      have P0 := Lib.hid (Bytes.later P0.out hs)
      have P1 := Lib.hid (Bytes.later P1.out hs)
      have P2 := Lib.hid (Bytes.later P2.out hs)
      refine hK.out _ _ (hHeld.trans (hs.mono hHeld.size)) (fun hHeldN => ?_)
      exact m18 _ _ _ (by kernel_rfl) ⟨_, _, _, _, rfl, P0, P1, P2, Q7⟩ hHeldN
  refine wpAnyH_cut #[true, true, true, true, true, true, true, true, true, true, true, true, true, true, true, true, true, true, false, true, true, true, false, true, true, false, true, true, false, true, true, true, true, false, true, true, true, false, false, false] 8 (fun A w1 => ∃ p0 : Value, ∃ p1 : Value, ∃ g6 : Nat, ∃ g7 : Nat, A = ⟨#[.agg #[.int .i64 f.k, .int .i64 f.n, .int .u64 (f.mb : Nat), .int .u64 (f.mt : Nat), .int .u64 (f.tb : Nat), .int .u64 (f.tt : Nat), .int .u64 (f.s : Nat), .int .u64 (f.a : Nat), .slice a m c], .pointer (some ⟨wm.heap.size, 0, none⟩), .slice none 0 0, undef, .pointer (some ⟨wm.heap.size, 0, none⟩), .int .i64 f.k, .int .u8 (k0 : Nat), .pointer (some ⟨wm.heap.size, 1, none⟩), .int .i64 f.n, .int .u8 (n0 : Nat), .slice (some ⟨g6, 0, none⟩) 2 2, .pointer (some ⟨wm.heap.size, 2, none⟩), .pointer (some ⟨wm.heap.size, 2, none⟩), .int .u64 (f.mb : Nat), p0, .pointer (some ⟨wm.heap.size, 2, none⟩), .pointer (some ⟨wm.heap.size, 3, none⟩), .int .u64 (f.mt : Nat), p1, .pointer (some ⟨wm.heap.size, 4, none⟩), .pointer (some ⟨wm.heap.size, 4, none⟩), .int .u64 (f.tb : Nat), undef, .pointer (some ⟨wm.heap.size, 4, none⟩), .pointer (some ⟨wm.heap.size, 5, none⟩), .int .u64 (f.tt : Nat), undef, .pointer (some ⟨wm.heap.size, 6, none⟩), .int .u64 (f.s : Nat), undef, .pointer (some ⟨wm.heap.size, 7, none⟩), .int .u64 (f.a : Nat), undef, .pointer (some ⟨wm.heap.size, 8, none⟩), .slice a m c, .int .i64 (m : Nat), .int .u64 (m : Nat), undef, .slice (some ⟨g7, 0, none⟩) 2 2, .pointer (some ⟨wm.heap.size, 8, none⟩), .slice a m c, undef, undef, undef, undef, undef, undef, undef, undef, undef, undef], []⟩ ∧ Hid (Bytes w1 p0 (putL f.mb 8)) ∧ Hid (Bytes w1 p1 (putL f.mt 8)) ∧ Hid (Bytes w1 (.slice (some ⟨g6, 0, none⟩) 2 2) [UInt8.ofNat k0, UInt8.ofNat n0]) ∧ Hid (Bytes w1 (.slice (some ⟨g7, 0, none⟩) 2 2) [0, 0])) ?_ (fun m20 => ?_)
  · rintro l' A w1 rfl ⟨p0, p1, g6, g7, rfl, P0, P1, Q6, Q7⟩ hHeld
    refine wpAnyH_ready (rs := [18]) (by kernel_rfl) (by simp) ?_
    refine AllReadyH.cons rfl (fun K hK => ?_) AllReadyH.nil
    · go_simp
      refine (putR_any f.tb 8 _ HO.out.tb (by omega)).mono ?_
      rintro e w_n ⟨p2, rfl, hp0, hs⟩
      simp only []
      have P2 := Lib.hid hp0
      have P0 := Lib.hid (Bytes.later P0.out hs)
      have P1 := Lib.hid (Bytes.later P1.out hs)
      have Q6 := Lib.hid (Bytes.later Q6.out hs)
      have Q7 := Lib.hid (Bytes.later Q7.out hs)
      refine hK.out _ _ (hHeld.trans (hs.mono hHeld.size)) (fun hHeldN => ?_)
      try simp only [Act.put, List.setIfInBounds_toArray, List.set_cons_zero, List.set_cons_succ, List.getElem_toArray, List.getElem_cons_zero, List.getElem_cons_succ]
      exact m16 _ _ _ (by kernel_rfl) ⟨_, _, _, _, _, rfl, P0, P1, P2, Q6, Q7⟩ hHeldN
  refine wpAnyH_cut #[true, true, true, true, true, true, true, true, true, true, true, true, true, true, true, true, true, true, false, true, true, true, false, true, true, false, true, true, false, true, true, true, true, false, false, true, true, false, false, false] 9 (fun A w1 => ∃ p0 : Value, ∃ p1 : Value, ∃ g6 : Nat, A = ⟨#[.agg #[.int .i64 f.k, .int .i64 f.n, .int .u64 (f.mb : Nat), .int .u64 (f.mt : Nat), .int .u64 (f.tb : Nat), .int .u64 (f.tt : Nat), .int .u64 (f.s : Nat), .int .u64 (f.a : Nat), .slice a m c], .pointer (some ⟨wm.heap.size, 0, none⟩), .slice none 0 0, undef, .pointer (some ⟨wm.heap.size, 0, none⟩), .int .i64 f.k, .int .u8 (k0 : Nat), .pointer (some ⟨wm.heap.size, 1, none⟩), .int .i64 f.n, .int .u8 (n0 : Nat), .slice (some ⟨g6, 0, none⟩) 2 2, .pointer (some ⟨wm.heap.size, 2, none⟩), .pointer (some ⟨wm.heap.size, 2, none⟩), .int .u64 (f.mb : Nat), p0, .pointer (some ⟨wm.heap.size, 2, none⟩), .pointer (some ⟨wm.heap.size, 3, none⟩), .int .u64 (f.mt : Nat), p1, .pointer (some ⟨wm.heap.size, 4, none⟩), .pointer (some ⟨wm.heap.size, 4, none⟩), .int .u64 (f.tb : Nat), undef, .pointer (some ⟨wm.heap.size, 4, none⟩), .pointer (some ⟨wm.heap.size, 5, none⟩), .int .u64 (f.tt : Nat), undef, .pointer (some ⟨wm.heap.size, 6, none⟩), .int .u64 (f.s : Nat), undef, .pointer (some ⟨wm.heap.size, 7, none⟩), .int .u64 (f.a : Nat), undef, .pointer (some ⟨wm.heap.size, 8, none⟩), .slice a m c, .int .i64 (m : Nat), .int .u64 (m : Nat), undef, undef, .pointer (some ⟨wm.heap.size, 8, none⟩), .slice a m c, undef, undef, undef, undef, undef, undef, undef, undef, undef, undef], []⟩ ∧ Hid (Bytes w1 p0 (putL f.mb 8)) ∧ Hid (Bytes w1 p1 (putL f.mt 8)) ∧ Hid (Bytes w1 (.slice (some ⟨g6, 0, none⟩) 2 2) [UInt8.ofNat k0, UInt8.ofNat n0])) ?_ (fun m21 => ?_)
  · rintro l' A w1 rfl ⟨p0, p1, g6, rfl, P0, P1, Q6⟩ hHeld
    refine wpAnyH_ready (rs := [18, 34]) (by kernel_rfl) (by simp) ?_
    refine AllReadyH.cons rfl (fun K hK => ?_) (AllReadyH.cons rfl (fun K hK => ?_) AllReadyH.nil)
    · go_simp
      refine (putR_any f.tb 8 _ HO.out.tb (by omega)).mono ?_
      rintro e w_n ⟨p2, rfl, hp0, hs⟩
      simp only []
      have P2 := Lib.hid hp0
      have P0 := Lib.hid (Bytes.later P0.out hs)
      have P1 := Lib.hid (Bytes.later P1.out hs)
      have Q6 := Lib.hid (Bytes.later Q6.out hs)
      refine hK.out _ _ (hHeld.trans (hs.mono hHeld.size)) (fun hHeldN => ?_)
      try simp only [Act.put, List.setIfInBounds_toArray, List.set_cons_zero, List.set_cons_succ, List.getElem_toArray, List.getElem_cons_zero, List.getElem_cons_succ]
      exact m17 _ _ _ (by kernel_rfl) ⟨_, _, _, _, rfl, P0, P1, P2, Q6⟩ hHeldN
    · go_simp
      have hs : Below (World.heap w1).size w1 (w1.alloc (.cells #[.int .u8 0, .int .u8 0] 5)) := (Below.refl _ _).alloc (Nat.le_refl _) _
      have Q7 : Hid (Bytes (w1.alloc (.cells #[.int .u8 0, .int .u8 0] 5)) (.slice (some ⟨(World.heap w1).size, 0, none⟩) 2 2) [0, 0]) := two_lit 0 0 (by omega) (by omega) w1
      have P0 := Lib.hid (Bytes.later P0.out hs)
      have P1 := Lib.hid (Bytes.later P1.out hs)
      have Q6 := Lib.hid (Bytes.later Q6.out hs)
      refine hK.out _ _ (hHeld.trans (hs.mono hHeld.size)) (fun hHeldN => ?_)
      exact m20 _ _ _ (by kernel_rfl) ⟨_, _, _, _, rfl, P0, P1, Q6, Q7⟩ hHeldN
  refine wpAnyH_cut #[true, true, true, true, true, true, false, true, true, true, true, true, true, true, true, true, true, true, false, true, true, true, false, true, true, false, true, true, false, true, true, true, true, false, true, true, true, false, false, false] 9 (fun A w1 => ∃ p0 : Value, ∃ p1 : Value, ∃ g7 : Nat, A = ⟨#[.agg #[.int .i64 f.k, .int .i64 f.n, .int .u64 (f.mb : Nat), .int .u64 (f.mt : Nat), .int .u64 (f.tb : Nat), .int .u64 (f.tt : Nat), .int .u64 (f.s : Nat), .int .u64 (f.a : Nat), .slice a m c], .pointer (some ⟨wm.heap.size, 0, none⟩), .slice none 0 0, undef, .pointer (some ⟨wm.heap.size, 0, none⟩), .int .i64 f.k, .int .u8 (k0 : Nat), .pointer (some ⟨wm.heap.size, 1, none⟩), .int .i64 f.n, .int .u8 (n0 : Nat), undef, .pointer (some ⟨wm.heap.size, 2, none⟩), .pointer (some ⟨wm.heap.size, 2, none⟩), .int .u64 (f.mb : Nat), p0, .pointer (some ⟨wm.heap.size, 2, none⟩), .pointer (some ⟨wm.heap.size, 3, none⟩), .int .u64 (f.mt : Nat), p1, .pointer (some ⟨wm.heap.size, 4, none⟩), .pointer (some ⟨wm.heap.size, 4, none⟩), .int .u64 (f.tb : Nat), undef, .pointer (some ⟨wm.heap.size, 4, none⟩), .pointer (some ⟨wm.heap.size, 5, none⟩), .int .u64 (f.tt : Nat), undef, .pointer (some ⟨wm.heap.size, 6, none⟩), .int .u64 (f.s : Nat), undef, .pointer (some ⟨wm.heap.size, 7, none⟩), .int .u64 (f.a : Nat), undef, .pointer (some ⟨wm.heap.size, 8, none⟩), .slice a m c, .int .i64 (m : Nat), .int .u64 (m : Nat), undef, .slice (some ⟨g7, 0, none⟩) 2 2, .pointer (some ⟨wm.heap.size, 8, none⟩), .slice a m c, undef, undef, undef, undef, undef, undef, undef, undef, undef, undef], []⟩ ∧ Hid (Bytes w1 p0 (putL f.mb 8)) ∧ Hid (Bytes w1 p1 (putL f.mt 8)) ∧ Hid (Bytes w1 (.slice (some ⟨g7, 0, none⟩) 2 2) [0, 0])) ?_ (fun m22 => ?_)
  · rintro l' A w1 rfl ⟨p0, p1, g7, rfl, P0, P1, Q7⟩ hHeld
    refine wpAnyH_ready (rs := [6, 18]) (by kernel_rfl) (by simp) ?_
    refine AllReadyH.cons rfl (fun K hK => ?_) (AllReadyH.cons rfl (fun K hK => ?_) AllReadyH.nil)
    · go_simp
      have hs : Below (World.heap w1).size w1 (w1.alloc (.cells #[.int .u8 (k0 : Int), .int .u8 (n0 : Int)] 5)) := (Below.refl _ _).alloc (Nat.le_refl _) _
      have Q6 : Hid (Bytes (w1.alloc (.cells #[.int .u8 (k0 : Int), .int .u8 (n0 : Int)] 5)) (.slice (some ⟨(World.heap w1).size, 0, none⟩) 2 2) [UInt8.ofNat k0, UInt8.ofNat n0]) := two_lit k0 n0 (by have := HH.out; omega) (by have := HH.out; omega) w1
      have P0 := Lib.hid (Bytes.later P0.out hs)
      have P1 := Lib.hid (Bytes.later P1.out hs)
      have Q7 := Lib.hid (Bytes.later Q7.out hs)
      refine hK.out _ _ (hHeld.trans (hs.mono hHeld.size)) (fun hHeldN => ?_)
      exact m20 _ _ _ (by kernel_rfl) ⟨_, _, _, _, rfl, P0, P1, Q6, Q7⟩ hHeldN
    · go_simp
      refine (putR_any f.tb 8 _ HO.out.tb (by omega)).mono ?_
      rintro e w_n ⟨p2, rfl, hp0, hs⟩
      simp only []
      have P2 := Lib.hid hp0
      have P0 := Lib.hid (Bytes.later P0.out hs)
      have P1 := Lib.hid (Bytes.later P1.out hs)
      have Q7 := Lib.hid (Bytes.later Q7.out hs)
      refine hK.out _ _ (hHeld.trans (hs.mono hHeld.size)) (fun hHeldN => ?_)
      try simp only [Act.put, List.setIfInBounds_toArray, List.set_cons_zero, List.set_cons_succ, List.getElem_toArray, List.getElem_cons_zero, List.getElem_cons_succ]
      exact m18 _ _ _ (by kernel_rfl) ⟨_, _, _, _, rfl, P0, P1, P2, Q7⟩ hHeldN
  refine wpAnyH_cut #[true, true, true, true, true, true, false, true, true, true, true, true, true, true, true, true, true, true, false, true, true, true, false, true, true, false, true, true, false, true, true, true, true, false, false, true, true, false, false, false] 10 (fun A w1 => ∃ p0 : Value, ∃ p1 : Value, A = ⟨#[.agg #[.int .i64 f.k, .int .i64 f.n, .int .u64 (f.mb : Nat), .int .u64 (f.mt : Nat), .int .u64 (f.tb : Nat), .int .u64 (f.tt : Nat), .int .u64 (f.s : Nat), .int .u64 (f.a : Nat), .slice a m c], .pointer (some ⟨wm.heap.size, 0, none⟩), .slice none 0 0, undef, .pointer (some ⟨wm.heap.size, 0, none⟩), .int .i64 f.k, .int .u8 (k0 : Nat), .pointer (some ⟨wm.heap.size, 1, none⟩), .int .i64 f.n, .int .u8 (n0 : Nat), undef, .pointer (some ⟨wm.heap.size, 2, none⟩), .pointer (some ⟨wm.heap.size, 2, none⟩), .int .u64 (f.mb : Nat), p0, .pointer (some ⟨wm.heap.size, 2, none⟩), .pointer (some ⟨wm.heap.size, 3, none⟩), .int .u64 (f.mt : Nat), p1, .pointer (some ⟨wm.heap.size, 4, none⟩), .pointer (some ⟨wm.heap.size, 4, none⟩), .int .u64 (f.tb : Nat), undef, .pointer (some ⟨wm.heap.size, 4, none⟩), .pointer (some ⟨wm.heap.size, 5, none⟩), .int .u64 (f.tt : Nat), undef, .pointer (some ⟨wm.heap.size, 6, none⟩), .int .u64 (f.s : Nat), undef, .pointer (some ⟨wm.heap.size, 7, none⟩), .int .u64 (f.a : Nat), undef, .pointer (some ⟨wm.heap.size, 8, none⟩), .slice a m c, .int .i64 (m : Nat), .int .u64 (m : Nat), undef, undef, .pointer (some ⟨wm.heap.size, 8, none⟩), .slice a m c, undef, undef, undef, undef, undef, undef, undef, undef, undef, undef], []⟩ ∧ Hid (Bytes w1 p0 (putL f.mb 8)) ∧ Hid (Bytes w1 p1 (putL f.mt 8))) ?_ (fun m23 => ?_)
  · rintro l' A w1 rfl ⟨p0, p1, rfl, P0, P1⟩ hHeld
    refine wpAnyH_ready (rs := [6, 18, 34]) (by kernel_rfl) (by simp) ?_
    refine AllReadyH.cons rfl (fun K hK => ?_) (AllReadyH.cons rfl (fun K hK => ?_) (AllReadyH.cons rfl (fun K hK => ?_) AllReadyH.nil))
    · go_simp
      have hs : Below (World.heap w1).size w1 (w1.alloc (.cells #[.int .u8 (k0 : Int), .int .u8 (n0 : Int)] 5)) := (Below.refl _ _).alloc (Nat.le_refl _) _
      have Q6 : Hid (Bytes (w1.alloc (.cells #[.int .u8 (k0 : Int), .int .u8 (n0 : Int)] 5)) (.slice (some ⟨(World.heap w1).size, 0, none⟩) 2 2) [UInt8.ofNat k0, UInt8.ofNat n0]) := two_lit k0 n0 (by have := HH.out; omega) (by have := HH.out; omega) w1
      have P0 := Lib.hid (Bytes.later P0.out hs)
      have P1 := Lib.hid (Bytes.later P1.out hs)
      refine hK.out _ _ (hHeld.trans (hs.mono hHeld.size)) (fun hHeldN => ?_)
      exact m21 _ _ _ (by kernel_rfl) ⟨_, _, _, rfl, P0, P1, Q6⟩ hHeldN
    · go_simp
      refine (putR_any f.tb 8 _ HO.out.tb (by omega)).mono ?_
      rintro e w_n ⟨p2, rfl, hp0, hs⟩
      simp only []
      have P2 := Lib.hid hp0
      have P0 := Lib.hid (Bytes.later P0.out hs)
      have P1 := Lib.hid (Bytes.later P1.out hs)
      refine hK.out _ _ (hHeld.trans (hs.mono hHeld.size)) (fun hHeldN => ?_)
      try simp only [Act.put, List.setIfInBounds_toArray, List.set_cons_zero, List.set_cons_succ, List.getElem_toArray, List.getElem_cons_zero, List.getElem_cons_succ]
      exact m19 _ _ _ (by kernel_rfl) ⟨_, _, _, rfl, P0, P1, P2⟩ hHeldN
    · go_simp
      have hs : Below (World.heap w1).size w1 (w1.alloc (.cells #[.int .u8 0, .int .u8 0] 5)) := (Below.refl _ _).alloc (Nat.le_refl _) _
      have Q7 : Hid (Bytes (w1.alloc (.cells #[.int .u8 0, .int .u8 0] 5)) (.slice (some ⟨(World.heap w1).size, 0, none⟩) 2 2) [0, 0]) := two_lit 0 0 (by omega) (by omega) w1
      have P0 := Lib.hid (Bytes.later P0.out hs)
      have P1 := Lib.hid (Bytes.later P1.out hs)
      refine hK.out _ _ (hHeld.trans (hs.mono hHeld.size)) (fun hHeldN => ?_)
      exact m22 _ _ _ (by kernel_rfl) ⟨_, _, _, rfl, P0, P1, Q7⟩ hHeldN
  refine wpAnyH_cut #[true, true, true, true, true, true, true, true, true, true, true, true, true, true, false, true, true, true, false, true, true, true, false, true, true, false, true, true, false, true, true, true, true, false, true, true, true, false, false, false] 9 (fun A w1 => ∃ p0 : Value, ∃ g6 : Nat, ∃ g7 : Nat, A = ⟨#[.agg #[.int .i64 f.k, .int .i64 f.n, .int .u64 (f.mb : Nat), .int .u64 (f.mt : Nat), .int .u64 (f.tb : Nat), .int .u64 (f.tt : Nat), .int .u64 (f.s : Nat), .int .u64 (f.a : Nat), .slice a m c], .pointer (some ⟨wm.heap.size, 0, none⟩), .slice none 0 0, undef, .pointer (some ⟨wm.heap.size, 0, none⟩), .int .i64 f.k, .int .u8 (k0 : Nat), .pointer (some ⟨wm.heap.size, 1, none⟩), .int .i64 f.n, .int .u8 (n0 : Nat), .slice (some ⟨g6, 0, none⟩) 2 2, .pointer (some ⟨wm.heap.size, 2, none⟩), .pointer (some ⟨wm.heap.size, 2, none⟩), .int .u64 (f.mb : Nat), p0, .pointer (some ⟨wm.heap.size, 2, none⟩), .pointer (some ⟨wm.heap.size, 3, none⟩), .int .u64 (f.mt : Nat), undef, .pointer (some ⟨wm.heap.size, 4, none⟩), .pointer (some ⟨wm.heap.size, 4, none⟩), .int .u64 (f.tb : Nat), undef, .pointer (some ⟨wm.heap.size, 4, none⟩), .pointer (some ⟨wm.heap.size, 5, none⟩), .int .u64 (f.tt : Nat), undef, .pointer (some ⟨wm.heap.size, 6, none⟩), .int .u64 (f.s : Nat), undef, .pointer (some ⟨wm.heap.size, 7, none⟩), .int .u64 (f.a : Nat), undef, .pointer (some ⟨wm.heap.size, 8, none⟩), .slice a m c, .int .i64 (m : Nat), .int .u64 (m : Nat), undef, .slice (some ⟨g7, 0, none⟩) 2 2, .pointer (some ⟨wm.heap.size, 8, none⟩), .slice a m c, undef, undef, undef, undef, undef, undef, undef, undef, undef, undef], []⟩ ∧ Hid (Bytes w1 p0 (putL f.mb 8)) ∧ Hid (Bytes w1 (.slice (some ⟨g6, 0, none⟩) 2 2) [UInt8.ofNat k0, UInt8.ofNat n0]) ∧ Hid (Bytes w1 (.slice (some ⟨g7, 0, none⟩) 2 2) [0, 0])) ?_ (fun m24 => ?_)
  · rintro l' A w1 rfl ⟨p0, g6, g7, rfl, P0, Q6, Q7⟩ hHeld
    refine wpAnyH_ready (rs := [14]) (by kernel_rfl) (by simp) ?_
    refine AllReadyH.cons rfl (fun K hK => ?_) AllReadyH.nil
    · go_simp
      refine (putR_any f.mt 8 _ HO.out.mt (by omega)).mono ?_
      rintro e w_n ⟨p1, rfl, hp0, hs⟩
      simp only []
      have P1 := Lib.hid hp0
      have P0 := Lib.hid (Bytes.later P0.out hs)
      have Q6 := Lib.hid (Bytes.later Q6.out hs)
      have Q7 := Lib.hid (Bytes.later Q7.out hs)
      refine hK.out _ _ (hHeld.trans (hs.mono hHeld.size)) (fun hHeldN => ?_)
      try simp only [Act.put, List.setIfInBounds_toArray, List.set_cons_zero, List.set_cons_succ, List.getElem_toArray, List.getElem_cons_zero, List.getElem_cons_succ]
      exact m20 _ _ _ (by kernel_rfl) ⟨_, _, _, _, rfl, P0, P1, Q6, Q7⟩ hHeldN
  refine wpAnyH_cut #[true, true, true, true, true, true, true, true, true, true, true, true, true, true, false, true, true, true, false, true, true, true, false, true, true, false, true, true, false, true, true, true, true, false, false, true, true, false, false, false] 10 (fun A w1 => ∃ p0 : Value, ∃ g6 : Nat, A = ⟨#[.agg #[.int .i64 f.k, .int .i64 f.n, .int .u64 (f.mb : Nat), .int .u64 (f.mt : Nat), .int .u64 (f.tb : Nat), .int .u64 (f.tt : Nat), .int .u64 (f.s : Nat), .int .u64 (f.a : Nat), .slice a m c], .pointer (some ⟨wm.heap.size, 0, none⟩), .slice none 0 0, undef, .pointer (some ⟨wm.heap.size, 0, none⟩), .int .i64 f.k, .int .u8 (k0 : Nat), .pointer (some ⟨wm.heap.size, 1, none⟩), .int .i64 f.n, .int .u8 (n0 : Nat), .slice (some ⟨g6, 0, none⟩) 2 2, .pointer (some ⟨wm.heap.size, 2, none⟩), .pointer (some ⟨wm.heap.size, 2, none⟩), .int .u64 (f.mb : Nat), p0, .pointer (some ⟨wm.heap.size, 2, none⟩), .pointer (some ⟨wm.heap.size, 3, none⟩), .int .u64 (f.mt : Nat), undef, .pointer (some ⟨wm.heap.size, 4, none⟩), .pointer (some ⟨wm.heap.size, 4, none⟩), .int .u64 (f.tb : Nat), undef, .pointer (some ⟨wm.heap.size, 4, none⟩), .pointer (some ⟨wm.heap.size, 5, none⟩), .int .u64 (f.tt : Nat), undef, .pointer (some ⟨wm.heap.size, 6, none⟩), .int .u64 (f.s : Nat), undef, .pointer (some ⟨wm.heap.size, 7, none⟩), .int .u64 (f.a : Nat), undef, .pointer (some ⟨wm.heap.size, 8, none⟩), .slice a m c, .int .i64 (m : Nat), .int .u64 (m : Nat), undef, undef, .pointer (some ⟨wm.heap.size, 8, none⟩), .slice a m c, undef, undef, undef, undef, undef, undef, undef, undef, undef, undef], []⟩ ∧ Hid (Bytes w1 p0 (putL f.mb 8)) ∧ Hid (Bytes w1 (.slice (some ⟨g6, 0, none⟩) 2 2) [UInt8.ofNat k0, UInt8.ofNat n0])) ?_ (fun m25 => ?_)
  · rintro l' A w1 rfl ⟨p0, g6, rfl, P0, Q6⟩ hHeld
    refine wpAnyH_ready (rs := [14, 34]) (by kernel_rfl) (by simp) ?_
    refine AllReadyH.cons rfl (fun K hK => ?_) (AllReadyH.cons rfl (fun K hK => ?_) AllReadyH.nil)
    · go_simp
      refine (putR_any f.mt 8 _ HO.out.mt (by omega)).mono ?_
      rintro e w_n ⟨p1, rfl, hp0, hs⟩
      simp only []
      have P1 := Lib.hid hp0
      have P0 := Lib.hid (Bytes.later P0.out hs)
      have Q6 := Lib.hid (Bytes.later Q6.out hs)
      refine hK.out _ _ (hHeld.trans (hs.mono hHeld.size)) (fun hHeldN => ?_)
      try simp only [Act.put, List.setIfInBounds_toArray, List.set_cons_zero, List.set_cons_succ, List.getElem_toArray, List.getElem_cons_zero, List.getElem_cons_succ]
      exact m21 _ _ _ (by kernel_rfl) ⟨_, _, _, rfl, P0, P1, Q6⟩ hHeldN
    · go_simp
      have hs : Below (World.heap w1).size w1 (w1.alloc (.cells #[.int .u8 0, .int .u8 0] 5)) := (Below.refl _ _).alloc (Nat.le_refl _) _
      have Q7 : Hid (Bytes (w1.alloc (.cells #[.int .u8 0, .int .u8 0] 5)) (.slice (some ⟨(World.heap w1).size, 0, none⟩) 2 2) [0, 0]) := two_lit 0 0 (by omega) (by omega) w1
      have P0 := Lib.hid (Bytes.later P0.out hs)
      have Q6 := Lib.hid (Bytes.later Q6.out hs)
      refine hK.out _ _ (hHeld.trans (hs.mono hHeld.size)) (fun hHeldN => ?_)
      exact m24 _ _ _ (by kernel_rfl) ⟨_, _, _, rfl, P0, Q6, Q7⟩ hHeldN
  refine wpAnyH_cut #[true, true, true, true, true, true, false, true, true, true, true, true, true, true, false, true, true, true, false, true, true, true, false, true, true, false, true, true, false, true, true, true, true, false, true, true, true, false, false, false] 10 (fun A w1 => ∃ p0 : Value, ∃ g7 : Nat, A = ⟨#[.agg #[.int .i64 f.k, .int .i64 f.n, .int .u64 (f.mb : Nat), .int .u64 (f.mt : Nat), .int .u64 (f.tb : Nat), .int .u64 (f.tt : Nat), .int .u64 (f.s : Nat), .int .u64 (f.a : Nat), .slice a m c], .pointer (some ⟨wm.heap.size, 0, none⟩), .slice none 0 0, undef, .pointer (some ⟨wm.heap.size, 0, none⟩), .int .i64 f.k, .int .u8 (k0 : Nat), .pointer (some ⟨wm.heap.size, 1, none⟩), .int .i64 f.n, .int .u8 (n0 : Nat), undef, .pointer (some ⟨wm.heap.size, 2, none⟩), .pointer (some ⟨wm.heap.size, 2, none⟩), .int .u64 (f.mb : Nat), p0, .pointer (some ⟨wm.heap.size, 2, none⟩), .pointer (some ⟨wm.heap.size, 3, none⟩), .int .u64 (f.mt : Nat), undef, .pointer (some ⟨wm.heap.size, 4, none⟩), .pointer (some ⟨wm.heap.size, 4, none⟩), .int .u64 (f.tb : Nat), undef, .pointer (some ⟨wm.heap.size, 4, none⟩), .pointer (some ⟨wm.heap.size, 5, none⟩), .int .u64 (f.tt : Nat), undef, .pointer (some ⟨wm.heap.size, 6, none⟩), .int .u64 (f.s : Nat), undef, .pointer (some ⟨wm.heap.size, 7, none⟩), .int .u64 (f.a : Nat), undef, .pointer (some ⟨wm.heap.size, 8, none⟩), .slice a m c, .int .i64 (m : Nat), .int .u64 (m : Nat), undef, .slice (some ⟨g7, 0, none⟩) 2 2, .pointer (some ⟨wm.heap.size, 8, none⟩), .slice a m c, undef, undef, undef, undef, undef, undef, undef, undef, undef, undef], []⟩ ∧ Hid (Bytes w1 p0 (putL f.mb 8)) ∧ Hid (Bytes w1 (.slice (some ⟨g7, 0, none⟩) 2 2) [0, 0])) ?_ (fun m26 => ?_)
  · rintro l' A w1 rfl ⟨p0, g7, rfl, P0, Q7⟩ hHeld
    refine wpAnyH_ready (rs := [6, 14]) (by kernel_rfl) (by simp) ?_
    refine AllReadyH.cons rfl (fun K hK => ?_) (AllReadyH.cons rfl (fun K hK => ?_) AllReadyH.nil)
    · go_simp
      have hs : Below (World.heap w1).size w1 (w1.alloc (.cells #[.int .u8 (k0 : Int), .int .u8 (n0 : Int)] 5)) := (Below.refl _ _).alloc (Nat.le_refl _) _
      have Q6 : Hid (Bytes (w1.alloc (.cells #[.int .u8 (k0 : Int), .int .u8 (n0 : Int)] 5)) (.slice (some ⟨(World.heap w1).size, 0, none⟩) 2 2) [UInt8.ofNat k0, UInt8.ofNat n0]) := two_lit k0 n0 (by have := HH.out; omega) (by have := HH.out; omega) w1
      have P0 := Lib.hid (Bytes.later P0.out hs)
      have Q7 := Lib.hid (Bytes.later Q7.out hs)
      refine hK.out _ _ (hHeld.trans (hs.mono hHeld.size)) (fun hHeldN => ?_)
      exact m24 _ _ _ (by kernel_rfl) ⟨_, _, _, rfl, P0, Q6, Q7⟩ hHeldN
    · go_simp
      refine (putR_any f.mt 8 _ HO.out.mt (by omega)).mono ?_
      rintro e w_n ⟨p1, rfl, hp0, hs⟩
      simp only []
      have P1 := Lib.hid hp0
      have P0 := Lib.hid (Bytes.later P0.out hs)
      have Q7 := Lib.hid (Bytes.later Q7.out hs)
      refine hK.out _ _ (hHeld.trans (hs.mono hHeld.size)) (fun hHeldN => ?_)
      try simp only [Act.put, List.setIfInBounds_toArray, List.set_cons_zero, List.set_cons_succ, List.getElem_toArray, List.getElem_cons_zero, List.getElem_cons_succ]
      exact m22 _ _ _ (by kernel_rfl) ⟨_, _, _, rfl, P0, P1, Q7⟩ hHeldN
  refine wpAnyH_cut #[true, true, true, true, true, true, false, true, true, true, true, true, true, true, false, true, true, true, false, true, true, true, false, true, true, false, true, true, false, true, true, true, true, false, false, true, true, false, false, false] 11 (fun A w1 => ∃ p0 : Value, A = ⟨#[.agg #[.int .i64 f.k, .int .i64 f.n, .int .u64 (f.mb : Nat), .int .u64 (f.mt : Nat), .int .u64 (f.tb : Nat), .int .u64 (f.tt : Nat), .int .u64 (f.s : Nat), .int .u64 (f.a : Nat), .slice a m c], .pointer (some ⟨wm.heap.size, 0, none⟩), .slice none 0 0, undef, .pointer (some ⟨wm.heap.size, 0, none⟩), .int .i64 f.k, .int .u8 (k0 : Nat), .pointer (some ⟨wm.heap.size, 1, none⟩), .int .i64 f.n, .int .u8 (n0 : Nat), undef, .pointer (some ⟨wm.heap.size, 2, none⟩), .pointer (some ⟨wm.heap.size, 2, none⟩), .int .u64 (f.mb : Nat), p0, .pointer (some ⟨wm.heap.size, 2, none⟩), .pointer (some ⟨wm.heap.size, 3, none⟩), .int .u64 (f.mt : Nat), undef, .pointer (some ⟨wm.heap.size, 4, none⟩), .pointer (some ⟨wm.heap.size, 4, none⟩), .int .u64 (f.tb : Nat), undef, .pointer (some ⟨wm.heap.size, 4, none⟩), .pointer (some ⟨wm.heap.size, 5, none⟩), .int .u64 (f.tt : Nat), undef, .pointer (some ⟨wm.heap.size, 6, none⟩), .int .u64 (f.s : Nat), undef, .pointer (some ⟨wm.heap.size, 7, none⟩), .int .u64 (f.a : Nat), undef, .pointer (some ⟨wm.heap.size, 8, none⟩), .slice a m c, .int .i64 (m : Nat), .int .u64 (m : Nat), undef, undef, .pointer (some ⟨wm.heap.size, 8, none⟩), .slice a m c, undef, undef, undef, undef, undef, undef, undef, undef, undef, undef], []⟩ ∧ Hid (Bytes w1 p0 (putL f.mb 8))) ?_ (fun m27 => ?_)
  · rintro l' A w1 rfl ⟨p0, rfl, P0⟩ hHeld
    refine wpAnyH_ready (rs := [6, 14, 34]) (by kernel_rfl) (by simp) ?_
    refine AllReadyH.cons rfl (fun K hK => ?_) (AllReadyH.cons rfl (fun K hK => ?_) (AllReadyH.cons rfl (fun K hK => ?_) AllReadyH.nil))
    · go_simp
      have hs : Below (World.heap w1).size w1 (w1.alloc (.cells #[.int .u8 (k0 : Int), .int .u8 (n0 : Int)] 5)) := (Below.refl _ _).alloc (Nat.le_refl _) _
      have Q6 : Hid (Bytes (w1.alloc (.cells #[.int .u8 (k0 : Int), .int .u8 (n0 : Int)] 5)) (.slice (some ⟨(World.heap w1).size, 0, none⟩) 2 2) [UInt8.ofNat k0, UInt8.ofNat n0]) := two_lit k0 n0 (by have := HH.out; omega) (by have := HH.out; omega) w1
      have P0 := Lib.hid (Bytes.later P0.out hs)
      refine hK.out _ _ (hHeld.trans (hs.mono hHeld.size)) (fun hHeldN => ?_)
      exact m25 _ _ _ (by kernel_rfl) ⟨_, _, rfl, P0, Q6⟩ hHeldN
    · go_simp
      refine (putR_any f.mt 8 _ HO.out.mt (by omega)).mono ?_
      rintro e w_n ⟨p1, rfl, hp0, hs⟩
      simp only []
      have P1 := Lib.hid hp0
      have P0 := Lib.hid (Bytes.later P0.out hs)
      refine hK.out _ _ (hHeld.trans (hs.mono hHeld.size)) (fun hHeldN => ?_)
      try simp only [Act.put, List.setIfInBounds_toArray, List.set_cons_zero, List.set_cons_succ, List.getElem_toArray, List.getElem_cons_zero, List.getElem_cons_succ]
      exact m23 _ _ _ (by kernel_rfl) ⟨_, _, rfl, P0, P1⟩ hHeldN
    · go_simp
      have hs : Below (World.heap w1).size w1 (w1.alloc (.cells #[.int .u8 0, .int .u8 0] 5)) := (Below.refl _ _).alloc (Nat.le_refl _) _
      have Q7 : Hid (Bytes (w1.alloc (.cells #[.int .u8 0, .int .u8 0] 5)) (.slice (some ⟨(World.heap w1).size, 0, none⟩) 2 2) [0, 0]) := two_lit 0 0 (by omega) (by omega) w1
      have P0 := Lib.hid (Bytes.later P0.out hs)
      refine hK.out _ _ (hHeld.trans (hs.mono hHeld.size)) (fun hHeldN => ?_)
      exact m26 _ _ _ (by kernel_rfl) ⟨_, _, rfl, P0, Q7⟩ hHeldN
  refine wpAnyH_cut #[true, true, true, true, true, true, true, true, true, true, false, true, true, true, false, true, true, true, false, true, true, true, false, true, true, false, true, true, false, true, true, true, true, false, true, true, true, false, false, false] 10 (fun A w1 => ∃ g6 : Nat, ∃ g7 : Nat, A = ⟨#[.agg #[.int .i64 f.k, .int .i64 f.n, .int .u64 (f.mb : Nat), .int .u64 (f.mt : Nat), .int .u64 (f.tb : Nat), .int .u64 (f.tt : Nat), .int .u64 (f.s : Nat), .int .u64 (f.a : Nat), .slice a m c], .pointer (some ⟨wm.heap.size, 0, none⟩), .slice none 0 0, undef, .pointer (some ⟨wm.heap.size, 0, none⟩), .int .i64 f.k, .int .u8 (k0 : Nat), .pointer (some ⟨wm.heap.size, 1, none⟩), .int .i64 f.n, .int .u8 (n0 : Nat), .slice (some ⟨g6, 0, none⟩) 2 2, .pointer (some ⟨wm.heap.size, 2, none⟩), .pointer (some ⟨wm.heap.size, 2, none⟩), .int .u64 (f.mb : Nat), undef, .pointer (some ⟨wm.heap.size, 2, none⟩), .pointer (some ⟨wm.heap.size, 3, none⟩), .int .u64 (f.mt : Nat), undef, .pointer (some ⟨wm.heap.size, 4, none⟩), .pointer (some ⟨wm.heap.size, 4, none⟩), .int .u64 (f.tb : Nat), undef, .pointer (some ⟨wm.heap.size, 4, none⟩), .pointer (some ⟨wm.heap.size, 5, none⟩), .int .u64 (f.tt : Nat), undef, .pointer (some ⟨wm.heap.size, 6, none⟩), .int .u64 (f.s : Nat), undef, .pointer (some ⟨wm.heap.size, 7, none⟩), .int .u64 (f.a : Nat), undef, .pointer (some ⟨wm.heap.size, 8, none⟩), .slice a m c, .int .i64 (m : Nat), .int .u64 (m : Nat), undef, .slice (some ⟨g7, 0, none⟩) 2 2, .pointer (some ⟨wm.heap.size, 8, none⟩), .slice a m c, undef, undef, undef, undef, undef, undef, undef, undef, undef, undef], []⟩ ∧ Hid (Bytes w1 (.slice (some ⟨g6, 0, none⟩) 2 2) [UInt8.ofNat k0, UInt8.ofNat n0]) ∧ Hid (Bytes w1 (.slice (some ⟨g7, 0, none⟩) 2 2) [0, 0])) ?_ (fun m28 => ?_)
  · rintro l' A w1 rfl ⟨g6, g7, rfl, Q6, Q7⟩ hHeld
    refine wpAnyH_ready (rs := [10]) (by kernel_rfl) (by simp) ?_
    refine AllReadyH.cons rfl (fun K hK => ?_) AllReadyH.nil
    · go_simp
      refine (putR_any f.mb 8 _ HO.out.mb (by omega)).mono ?_
      rintro e w_n ⟨p0, rfl, hp0, hs⟩
      simp only []
      have P0 := Lib.hid hp0
      have Q6 := Lib.hid (Bytes.later Q6.out hs)
      have Q7 := Lib.hid (Bytes.later Q7.out hs)
      refine hK.out _ _ (hHeld.trans (hs.mono hHeld.size)) (fun hHeldN => ?_)
      try simp only [Act.put, List.setIfInBounds_toArray, List.set_cons_zero, List.set_cons_succ, List.getElem_toArray, List.getElem_cons_zero, List.getElem_cons_succ]
      exact m24 _ _ _ (by kernel_rfl) ⟨_, _, _, rfl, P0, Q6, Q7⟩ hHeldN
  refine wpAnyH_cut #[true, true, true, true, true, true, true, true, true, true, false, true, true, true, false, true, true, true, false, true, true, true, false, true, true, false, true, true, false, true, true, true, true, false, false, true, true, false, false, false] 11 (fun A w1 => ∃ g6 : Nat, A = ⟨#[.agg #[.int .i64 f.k, .int .i64 f.n, .int .u64 (f.mb : Nat), .int .u64 (f.mt : Nat), .int .u64 (f.tb : Nat), .int .u64 (f.tt : Nat), .int .u64 (f.s : Nat), .int .u64 (f.a : Nat), .slice a m c], .pointer (some ⟨wm.heap.size, 0, none⟩), .slice none 0 0, undef, .pointer (some ⟨wm.heap.size, 0, none⟩), .int .i64 f.k, .int .u8 (k0 : Nat), .pointer (some ⟨wm.heap.size, 1, none⟩), .int .i64 f.n, .int .u8 (n0 : Nat), .slice (some ⟨g6, 0, none⟩) 2 2, .pointer (some ⟨wm.heap.size, 2, none⟩), .pointer (some ⟨wm.heap.size, 2, none⟩), .int .u64 (f.mb : Nat), undef, .pointer (some ⟨wm.heap.size, 2, none⟩), .pointer (some ⟨wm.heap.size, 3, none⟩), .int .u64 (f.mt : Nat), undef, .pointer (some ⟨wm.heap.size, 4, none⟩), .pointer (some ⟨wm.heap.size, 4, none⟩), .int .u64 (f.tb : Nat), undef, .pointer (some ⟨wm.heap.size, 4, none⟩), .pointer (some ⟨wm.heap.size, 5, none⟩), .int .u64 (f.tt : Nat), undef, .pointer (some ⟨wm.heap.size, 6, none⟩), .int .u64 (f.s : Nat), undef, .pointer (some ⟨wm.heap.size, 7, none⟩), .int .u64 (f.a : Nat), undef, .pointer (some ⟨wm.heap.size, 8, none⟩), .slice a m c, .int .i64 (m : Nat), .int .u64 (m : Nat), undef, undef, .pointer (some ⟨wm.heap.size, 8, none⟩), .slice a m c, undef, undef, undef, undef, undef, undef, undef, undef, undef, undef], []⟩ ∧ Hid (Bytes w1 (.slice (some ⟨g6, 0, none⟩) 2 2) [UInt8.ofNat k0, UInt8.ofNat n0])) ?_ (fun m29 => ?_)
  · rintro l' A w1 rfl ⟨g6, rfl, Q6⟩ hHeld
    refine wpAnyH_ready (rs := [10, 34]) (by kernel_rfl) (by simp) ?_
    refine AllReadyH.cons rfl (fun K hK => ?_) (AllReadyH.cons rfl (fun K hK => ?_) AllReadyH.nil)
    · go_simp
      refine (putR_any f.mb 8 _ HO.out.mb (by omega)).mono ?_
      rintro e w_n ⟨p0, rfl, hp0, hs⟩
      simp only []
      have P0 := Lib.hid hp0
      have Q6 := Lib.hid (Bytes.later Q6.out hs)
      refine hK.out _ _ (hHeld.trans (hs.mono hHeld.size)) (fun hHeldN => ?_)
      try simp only [Act.put, List.setIfInBounds_toArray, List.set_cons_zero, List.set_cons_succ, List.getElem_toArray, List.getElem_cons_zero, List.getElem_cons_succ]
      exact m25 _ _ _ (by kernel_rfl) ⟨_, _, rfl, P0, Q6⟩ hHeldN
    · go_simp
      have hs : Below (World.heap w1).size w1 (w1.alloc (.cells #[.int .u8 0, .int .u8 0] 5)) := (Below.refl _ _).alloc (Nat.le_refl _) _
      have Q7 : Hid (Bytes (w1.alloc (.cells #[.int .u8 0, .int .u8 0] 5)) (.slice (some ⟨(World.heap w1).size, 0, none⟩) 2 2) [0, 0]) := two_lit 0 0 (by omega) (by omega) w1
      have Q6 := Lib.hid (Bytes.later Q6.out hs)
      refine hK.out _ _ (hHeld.trans (hs.mono hHeld.size)) (fun hHeldN => ?_)
      exact m28 _ _ _ (by kernel_rfl) ⟨_, _, rfl, Q6, Q7⟩ hHeldN
  refine wpAnyH_cut #[true, true, true, true, true, true, false, true, true, true, false, true, true, true, false, true, true, true, false, true, true, true, false, true, true, false, true, true, false, true, true, true, true, false, true, true, true, false, false, false] 11 (fun A w1 => ∃ g7 : Nat, A = ⟨#[.agg #[.int .i64 f.k, .int .i64 f.n, .int .u64 (f.mb : Nat), .int .u64 (f.mt : Nat), .int .u64 (f.tb : Nat), .int .u64 (f.tt : Nat), .int .u64 (f.s : Nat), .int .u64 (f.a : Nat), .slice a m c], .pointer (some ⟨wm.heap.size, 0, none⟩), .slice none 0 0, undef, .pointer (some ⟨wm.heap.size, 0, none⟩), .int .i64 f.k, .int .u8 (k0 : Nat), .pointer (some ⟨wm.heap.size, 1, none⟩), .int .i64 f.n, .int .u8 (n0 : Nat), undef, .pointer (some ⟨wm.heap.size, 2, none⟩), .pointer (some ⟨wm.heap.size, 2, none⟩), .int .u64 (f.mb : Nat), undef, .pointer (some ⟨wm.heap.size, 2, none⟩), .pointer (some ⟨wm.heap.size, 3, none⟩), .int .u64 (f.mt : Nat), undef, .pointer (some ⟨wm.heap.size, 4, none⟩), .pointer (some ⟨wm.heap.size, 4, none⟩), .int .u64 (f.tb : Nat), undef, .pointer (some ⟨wm.heap.size, 4, none⟩), .pointer (some ⟨wm.heap.size, 5, none⟩), .int .u64 (f.tt : Nat), undef, .pointer (some ⟨wm.heap.size, 6, none⟩), .int .u64 (f.s : Nat), undef, .pointer (some ⟨wm.heap.size, 7, none⟩), .int .u64 (f.a : Nat), undef, .pointer (some ⟨wm.heap.size, 8, none⟩), .slice a m c, .int .i64 (m : Nat), .int .u64 (m : Nat), undef, .slice (some ⟨g7, 0, none⟩) 2 2, .pointer (some ⟨wm.heap.size, 8, none⟩), .slice a m c, undef, undef, undef, undef, undef, undef, undef, undef, undef, undef], []⟩ ∧ Hid (Bytes w1 (.slice (some ⟨g7, 0, none⟩) 2 2) [0, 0])) ?_ (fun m30 => ?_)
  · rintro l' A w1 rfl ⟨g7, rfl, Q7⟩ hHeld
    refine wpAnyH_ready (rs := [6, 10]) (by kernel_rfl) (by simp) ?_
    refine AllReadyH.cons rfl (fun K hK => ?_) (AllReadyH.cons rfl (fun K hK => ?_) AllReadyH.nil)
    · go_simp
      have hs : Below (World.heap w1).size w1 (w1.alloc (.cells #[.int .u8 (k0 : Int), .int .u8 (n0 : Int)] 5)) := (Below.refl _ _).alloc (Nat.le_refl _) _
      have Q6 : Hid (Bytes (w1.alloc (.cells #[.int .u8 (k0 : Int), .int .u8 (n0 : Int)] 5)) (.slice (some ⟨(World.heap w1).size, 0, none⟩) 2 2) [UInt8.ofNat k0, UInt8.ofNat n0]) := two_lit k0 n0 (by have := HH.out; omega) (by have := HH.out; omega) w1
      have Q7 := Lib.hid (Bytes.later Q7.out hs)
      refine hK.out _ _ (hHeld.trans (hs.mono hHeld.size)) (fun hHeldN => ?_)
      exact m28 _ _ _ (by kernel_rfl) ⟨_, _, rfl, Q6, Q7⟩ hHeldN
    · go_simp
      refine (putR_any f.mb 8 _ HO.out.mb (by omega)).mono ?_
      rintro e w_n ⟨p0, rfl, hp0, hs⟩
      simp only []
      have P0 := Lib.hid hp0
      have Q7 := Lib.hid (Bytes.later Q7.out hs)
      refine hK.out _ _ (hHeld.trans (hs.mono hHeld.size)) (fun hHeldN => ?_)
      try simp only [Act.put, List.setIfInBounds_toArray, List.set_cons_zero, List.set_cons_succ, List.getElem_toArray, List.getElem_cons_zero, List.getElem_cons_succ]
      exact m26 _ _ _ (by kernel_rfl) ⟨_, _, rfl, P0, Q7⟩ hHeldN
  refine wpAnyH_cut #[true, true, true, true, true, true, false, true, true, true, false, true, true, true, false, true, true, true, false, true, true, true, false, true, true, false, true, true, false, true, true, true, true, false, false, true, true, false, false, false] 12 (fun A w1 => A = ⟨#[.agg #[.int .i64 f.k, .int .i64 f.n, .int .u64 (f.mb : Nat), .int .u64 (f.mt : Nat), .int .u64 (f.tb : Nat), .int .u64 (f.tt : Nat), .int .u64 (f.s : Nat), .int .u64 (f.a : Nat), .slice a m c], .pointer (some ⟨wm.heap.size, 0, none⟩), .slice none 0 0, undef, .pointer (some ⟨wm.heap.size, 0, none⟩), .int .i64 f.k, .int .u8 (k0 : Nat), .pointer (some ⟨wm.heap.size, 1, none⟩), .int .i64 f.n, .int .u8 (n0 : Nat), undef, .pointer (some ⟨wm.heap.size, 2, none⟩), .pointer (some ⟨wm.heap.size, 2, none⟩), .int .u64 (f.mb : Nat), undef, .pointer (some ⟨wm.heap.size, 2, none⟩), .pointer (some ⟨wm.heap.size, 3, none⟩), .int .u64 (f.mt : Nat), undef, .pointer (some ⟨wm.heap.size, 4, none⟩), .pointer (some ⟨wm.heap.size, 4, none⟩), .int .u64 (f.tb : Nat), undef, .pointer (some ⟨wm.heap.size, 4, none⟩), .pointer (some ⟨wm.heap.size, 5, none⟩), .int .u64 (f.tt : Nat), undef, .pointer (some ⟨wm.heap.size, 6, none⟩), .int .u64 (f.s : Nat), undef, .pointer (some ⟨wm.heap.size, 7, none⟩), .int .u64 (f.a : Nat), undef, .pointer (some ⟨wm.heap.size, 8, none⟩), .slice a m c, .int .i64 (m : Nat), .int .u64 (m : Nat), undef, undef, .pointer (some ⟨wm.heap.size, 8, none⟩), .slice a m c, undef, undef, undef, undef, undef, undef, undef, undef, undef, undef], []⟩) ?_ (fun m31 => ?_)
  · rintro l' A w1 rfl rfl hHeld
    refine wpAnyH_ready (rs := [6, 10, 34]) (by kernel_rfl) (by simp) ?_
    refine AllReadyH.cons rfl (fun K hK => ?_) (AllReadyH.cons rfl (fun K hK => ?_) (AllReadyH.cons rfl (fun K hK => ?_) AllReadyH.nil))
    · go_simp
      have hs : Below (World.heap w1).size w1 (w1.alloc (.cells #[.int .u8 (k0 : Int), .int .u8 (n0 : Int)] 5)) := (Below.refl _ _).alloc (Nat.le_refl _) _
      have Q6 : Hid (Bytes (w1.alloc (.cells #[.int .u8 (k0 : Int), .int .u8 (n0 : Int)] 5)) (.slice (some ⟨(World.heap w1).size, 0, none⟩) 2 2) [UInt8.ofNat k0, UInt8.ofNat n0]) := two_lit k0 n0 (by have := HH.out; omega) (by have := HH.out; omega) w1
      refine hK.out _ _ (hHeld.trans (hs.mono hHeld.size)) (fun hHeldN => ?_)
      exact m29 _ _ _ (by kernel_rfl) ⟨_, rfl, Q6⟩ hHeldN
    · go_simp
      refine (putR_any f.mb 8 _ HO.out.mb (by omega)).mono ?_
      rintro e w_n ⟨p0, rfl, hp0, hs⟩
      simp only []
      have P0 := Lib.hid hp0
      refine hK.out _ _ (hHeld.trans (hs.mono hHeld.size)) (fun hHeldN => ?_)
      try simp only [Act.put, List.setIfInBounds_toArray, List.set_cons_zero, List.set_cons_succ, List.getElem_toArray, List.getElem_cons_zero, List.getElem_cons_succ]
      exact m27 _ _ _ (by kernel_rfl) ⟨_, rfl, P0⟩ hHeldN
    · go_simp
      have hs : Below (World.heap w1).size w1 (w1.alloc (.cells #[.int .u8 0, .int .u8 0] 5)) := (Below.refl _ _).alloc (Nat.le_refl _) _
      have Q7 : Hid (Bytes (w1.alloc (.cells #[.int .u8 0, .int .u8 0] 5)) (.slice (some ⟨(World.heap w1).size, 0, none⟩) 2 2) [0, 0]) := two_lit 0 0 (by omega) (by omega) w1
      refine hK.out _ _ (hHeld.trans (hs.mono hHeld.size)) (fun hHeldN => ?_)
      exact m30 _ _ _ (by kernel_rfl) ⟨_, rfl, Q7⟩ hHeldN
  (refine wpAnyH_take (i := 0) (v := ?_) rfl (by kernel_rfl) (by kernel_rfl) (by kernel_rfl) (fun _ _ _ h => h) (Or.inl ⟨by rfl, ?_⟩) hHeld ?_; rotate_left; (focus (intro w hSw; (try dsimp only at hSw); go_simp; try with_reducible rfl)); (try simp only [Act.put, List.setIfInBounds_toArray, List.set_cons_zero, List.set_cons_succ, List.getElem_toArray, List.getElem_cons_zero]))
  (refine wpAnyH_take (i := 1) (v := ?_) rfl (by kernel_rfl) (by kernel_rfl) (by kernel_rfl) (fun _ _ _ h => h) (Or.inl ⟨by rfl, ?_⟩) hHeld ?_; rotate_left; (focus (intro w hSw; (try dsimp only at hSw); go_simp; (have hcc := BlkAt.cell (BlkAt.later HBX.out hSw) (j := 0) rfl; go_simp; try with_reducible rfl))); (try simp only [Act.put, List.setIfInBounds_toArray, List.set_cons_zero, List.set_cons_succ, List.getElem_toArray, List.getElem_cons_zero, List.getElem_cons_succ]))
  (refine wpAnyH_take (i := 2) (v := ?_) rfl (by kernel_rfl) (by kernel_rfl) (by kernel_rfl) (fun _ _ _ h => h) (Or.inl ⟨by rfl, ?_⟩) hHeld ?_; rotate_left; (focus (intro w hSw; (try dsimp only at hSw); go_simp; try with_reducible rfl)); (try simp only [Act.put, List.setIfInBounds_toArray, List.set_cons_zero, List.set_cons_succ, List.getElem_toArray, List.getElem_cons_zero, List.getElem_cons_succ]))
  (refine wpAnyH_take (i := 3) (v := ?_) rfl (by kernel_rfl) (by kernel_rfl) (by kernel_rfl) (fun _ _ _ h => h) (Or.inl ⟨by rfl, ?_⟩) hHeld ?_; rotate_left; (focus (intro w hSw; (try dsimp only at hSw); go_simp; try with_reducible rfl)); (try simp only [Act.put, List.setIfInBounds_toArray, List.set_cons_zero, List.set_cons_succ, List.getElem_toArray, List.getElem_cons_zero, List.getElem_cons_succ]))
  (refine wpAnyH_take (i := 4) (v := ?_) rfl (by kernel_rfl) (by kernel_rfl) (by kernel_rfl) (fun _ _ _ h => h) (Or.inl ⟨by rfl, ?_⟩) hHeld ?_; rotate_left; (focus (intro w hSw; (try dsimp only at hSw); go_simp; (have hcc := BlkAt.cell (BlkAt.later HBX.out hSw) (j := 1) rfl; go_simp; try with_reducible rfl))); (try simp only [Act.put, List.setIfInBounds_toArray, List.set_cons_zero, List.set_cons_succ, List.getElem_toArray, List.getElem_cons_zero, List.getElem_cons_succ]))
  (refine wpAnyH_take (i := 5) (v := ?_) rfl (by kernel_rfl) (by kernel_rfl) (by kernel_rfl) (fun _ _ _ h => h) (Or.inl ⟨by rfl, ?_⟩) hHeld ?_; rotate_left; (focus (intro w hSw; (try dsimp only at hSw); go_simp; try with_reducible rfl)); (try simp only [Act.put, List.setIfInBounds_toArray, List.set_cons_zero, List.set_cons_succ, List.getElem_toArray, List.getElem_cons_zero, List.getElem_cons_succ]))
  (refine wpAnyH_take (i := 7) (v := ?_) rfl (by kernel_rfl) (by kernel_rfl) (by kernel_rfl) (fun _ _ _ h => h) (Or.inl ⟨by rfl, ?_⟩) hHeld ?_; rotate_left; (focus (intro w hSw; (try dsimp only at hSw); go_simp; try with_reducible rfl)); (try simp only [Act.put, List.setIfInBounds_toArray, List.set_cons_zero, List.set_cons_succ, List.getElem_toArray, List.getElem_cons_zero, List.getElem_cons_succ]))
  (refine wpAnyH_take (i := 8) (v := ?_) rfl (by kernel_rfl) (by kernel_rfl) (by kernel_rfl) (fun _ _ _ h => h) (Or.inl ⟨by rfl, ?_⟩) hHeld ?_; rotate_left; (focus (intro w hSw; (try dsimp only at hSw); go_simp; try with_reducible rfl)); (try simp only [Act.put, List.setIfInBounds_toArray, List.set_cons_zero, List.set_cons_succ, List.getElem_toArray, List.getElem_cons_zero, List.getElem_cons_succ]))
  (refine wpAnyH_take (i := 9) (v := ?_) rfl (by kernel_rfl) (by kernel_rfl) (by kernel_rfl) (fun _ _ _ h => h) (Or.inl ⟨by rfl, ?_⟩) hHeld ?_; rotate_left; (focus (intro w hSw; (try dsimp only at hSw); go_simp; (have hcc := BlkAt.cell (BlkAt.later HBX.out hSw) (j := 2) rfl; go_simp; try with_reducible rfl))); (try simp only [Act.put, List.setIfInBounds_toArray, List.set_cons_zero, List.set_cons_succ, List.getElem_toArray, List.getElem_cons_zero, List.getElem_cons_succ]))
  (refine wpAnyH_take (i := 11) (v := ?_) rfl (by kernel_rfl) (by kernel_rfl) (by kernel_rfl) (fun _ _ _ h => h) (Or.inl ⟨by rfl, ?_⟩) hHeld ?_; rotate_left; (focus (intro w hSw; (try dsimp only at hSw); go_simp; try with_reducible rfl)); (try simp only [Act.put, List.setIfInBounds_toArray, List.set_cons_zero, List.set_cons_succ, List.getElem_toArray, List.getElem_cons_zero, List.getElem_cons_succ]))
  (refine wpAnyH_take (i := 12) (v := ?_) rfl (by kernel_rfl) (by kernel_rfl) (by kernel_rfl) (fun _ _ _ h => h) (Or.inl ⟨by rfl, ?_⟩) hHeld ?_; rotate_left; (focus (intro w hSw; (try dsimp only at hSw); go_simp; try with_reducible rfl)); (try simp only [Act.put, List.setIfInBounds_toArray, List.set_cons_zero, List.set_cons_succ, List.getElem_toArray, List.getElem_cons_zero, List.getElem_cons_succ]))
  (refine wpAnyH_take (i := 13) (v := ?_) rfl (by kernel_rfl) (by kernel_rfl) (by kernel_rfl) (fun _ _ _ h => h) (Or.inl ⟨by rfl, ?_⟩) hHeld ?_; rotate_left; (focus (intro w hSw; (try dsimp only at hSw); go_simp; (have hcc := BlkAt.cell (BlkAt.later HBX.out hSw) (j := 3) rfl; go_simp; try with_reducible rfl))); (try simp only [Act.put, List.setIfInBounds_toArray, List.set_cons_zero, List.set_cons_succ, List.getElem_toArray, List.getElem_cons_zero, List.getElem_cons_succ]))
  (refine wpAnyH_take (i := 15) (v := ?_) rfl (by kernel_rfl) (by kernel_rfl) (by kernel_rfl) (fun _ _ _ h => h) (Or.inl ⟨by rfl, ?_⟩) hHeld ?_; rotate_left; (focus (intro w hSw; (try dsimp only at hSw); go_simp; try with_reducible rfl)); (try simp only [Act.put, List.setIfInBounds_toArray, List.set_cons_zero, List.set_cons_succ, List.getElem_toArray, List.getElem_cons_zero, List.getElem_cons_succ]))
  (refine wpAnyH_take (i := 16) (v := ?_) rfl (by kernel_rfl) (by kernel_rfl) (by kernel_rfl) (fun _ _ _ h => h) (Or.inl ⟨by rfl, ?_⟩) hHeld ?_; rotate_left; (focus (intro w hSw; (try dsimp only at hSw); go_simp; try with_reducible rfl)); (try simp only [Act.put, List.setIfInBounds_toArray, List.set_cons_zero, List.set_cons_succ, List.getElem_toArray, List.getElem_cons_zero, List.getElem_cons_succ]))
  (refine wpAnyH_take (i := 17) (v := ?_) rfl (by kernel_rfl) (by kernel_rfl) (by kernel_rfl) (fun _ _ _ h => h) (Or.inl ⟨by rfl, ?_⟩) hHeld ?_; rotate_left; (focus (intro w hSw; (try dsimp only at hSw); go_simp; (have hcc := BlkAt.cell (BlkAt.later HBX.out hSw) (j := 4) rfl; go_simp; try with_reducible rfl))); (try simp only [Act.put, List.setIfInBounds_toArray, List.set_cons_zero, List.set_cons_succ, List.getElem_toArray, List.getElem_cons_zero, List.getElem_cons_succ]))
  (refine wpAnyH_take (i := 19) (v := ?_) rfl (by kernel_rfl) (by kernel_rfl) (by kernel_rfl) (fun _ _ _ h => h) (Or.inl ⟨by rfl, ?_⟩) hHeld ?_; rotate_left; (focus (intro w hSw; (try dsimp only at hSw); go_simp; try with_reducible rfl)); (try simp only [Act.put, List.setIfInBounds_toArray, List.set_cons_zero, List.set_cons_succ, List.getElem_toArray, List.getElem_cons_zero, List.getElem_cons_succ]))
  (refine wpAnyH_take (i := 20) (v := ?_) rfl (by kernel_rfl) (by kernel_rfl) (by kernel_rfl) (fun _ _ _ h => h) (Or.inl ⟨by rfl, ?_⟩) hHeld ?_; rotate_left; (focus (intro w hSw; (try dsimp only at hSw); go_simp; try with_reducible rfl)); (try simp only [Act.put, List.setIfInBounds_toArray, List.set_cons_zero, List.set_cons_succ, List.getElem_toArray, List.getElem_cons_zero, List.getElem_cons_succ]))
  (refine wpAnyH_take (i := 21) (v := ?_) rfl (by kernel_rfl) (by kernel_rfl) (by kernel_rfl) (fun _ _ _ h => h) (Or.inl ⟨by rfl, ?_⟩) hHeld ?_; rotate_left; (focus (intro w hSw; (try dsimp only at hSw); go_simp; (have hcc := BlkAt.cell (BlkAt.later HBX.out hSw) (j := 5) rfl; go_simp; try with_reducible rfl))); (try simp only [Act.put, List.setIfInBounds_toArray, List.set_cons_zero, List.set_cons_succ, List.getElem_toArray, List.getElem_cons_zero, List.getElem_cons_succ]))
  (refine wpAnyH_take (i := 23) (v := ?_) rfl (by kernel_rfl) (by kernel_rfl) (by kernel_rfl) (fun _ _ _ h => h) (Or.inl ⟨by rfl, ?_⟩) hHeld ?_; rotate_left; (focus (intro w hSw; (try dsimp only at hSw); go_simp; try with_reducible rfl)); (try simp only [Act.put, List.setIfInBounds_toArray, List.set_cons_zero, List.set_cons_succ, List.getElem_toArray, List.getElem_cons_zero, List.getElem_cons_succ]))
  (refine wpAnyH_take (i := 24) (v := ?_) rfl (by kernel_rfl) (by kernel_rfl) (by kernel_rfl) (fun _ _ _ h => h) (Or.inl ⟨by rfl, ?_⟩) hHeld ?_; rotate_left; (focus (intro w hSw; (try dsimp only at hSw); go_simp; (have hcc := BlkAt.cell (BlkAt.later HBX.out hSw) (j := 6) rfl; go_simp; try with_reducible rfl))); (try simp only [Act.put, List.setIfInBounds_toArray, List.set_cons_zero, List.set_cons_succ, List.getElem_toArray, List.getElem_cons_zero, List.getElem_cons_succ]))
  (refine wpAnyH_take (i := 26) (v := ?_) rfl (by kernel_rfl) (by kernel_rfl) (by kernel_rfl) (fun _ _ _ h => h) (Or.inl ⟨by rfl, ?_⟩) hHeld ?_; rotate_left; (focus (intro w hSw; (try dsimp only at hSw); go_simp; try with_reducible rfl)); (try simp only [Act.put, List.setIfInBounds_toArray, List.set_cons_zero, List.set_cons_succ, List.getElem_toArray, List.getElem_cons_zero, List.getElem_cons_succ]))
  (refine wpAnyH_take (i := 27) (v := ?_) rfl (by kernel_rfl) (by kernel_rfl) (by kernel_rfl) (fun _ _ _ h => h) (Or.inl ⟨by rfl, ?_⟩) hHeld ?_; rotate_left; (focus (intro w hSw; (try dsimp only at hSw); go_simp; (have hcc := BlkAt.cell (BlkAt.later HBX.out hSw) (j := 7) rfl; go_simp; try with_reducible rfl))); (try simp only [Act.put, List.setIfInBounds_toArray, List.set_cons_zero, List.set_cons_succ, List.getElem_toArray, List.getElem_cons_zero, List.getElem_cons_succ]))
  (refine wpAnyH_take (i := 29) (v := ?_) rfl (by kernel_rfl) (by kernel_rfl) (by kernel_rfl) (fun _ _ _ h => h) (Or.inl ⟨by rfl, ?_⟩) hHeld ?_; rotate_left; (focus (intro w hSw; (try dsimp only at hSw); go_simp; try with_reducible rfl)); (try simp only [Act.put, List.setIfInBounds_toArray, List.set_cons_zero, List.set_cons_succ, List.getElem_toArray, List.getElem_cons_zero, List.getElem_cons_succ]))
  (refine wpAnyH_take (i := 30) (v := ?_) rfl (by kernel_rfl) (by kernel_rfl) (by kernel_rfl) (fun _ _ _ h => h) (Or.inl ⟨by rfl, ?_⟩) hHeld ?_; rotate_left; (focus (intro w hSw; (try dsimp only at hSw); go_simp; (have hcc := BlkAt.cell (BlkAt.later HBX.out hSw) (j := 8) rfl; go_simp; try with_reducible rfl))); (try simp only [Act.put, List.setIfInBounds_toArray, List.set_cons_zero, List.set_cons_succ, List.getElem_toArray, List.getElem_cons_zero, List.getElem_cons_succ]))
  (refine wpAnyH_take (i := 31) (v := ?_) rfl (by kernel_rfl) (by kernel_rfl) (by kernel_rfl) (fun _ _ _ h => h) (Or.inl ⟨by rfl, ?_⟩) hHeld ?_; rotate_left; (focus (intro w hSw; (try dsimp only at hSw); go_simp; try with_reducible rfl)); (try simp only [Act.put, List.setIfInBounds_toArray, List.set_cons_zero, List.set_cons_succ, List.getElem_toArray, List.getElem_cons_zero, List.getElem_cons_succ]))
  (refine wpAnyH_take (i := 32) (v := ?_) rfl (by kernel_rfl) (by kernel_rfl) (by kernel_rfl) (fun _ _ _ h => h) (Or.inl ⟨by rfl, ?_⟩) hHeld ?_; rotate_left; (focus (intro w hSw; (try dsimp only at hSw); go_simp; try with_reducible rfl)); (try simp only [Act.put, List.setIfInBounds_toArray, List.set_cons_zero, List.set_cons_succ, List.getElem_toArray, List.getElem_cons_zero, List.getElem_cons_succ]))
  (refine wpAnyH_take (i := 35) (v := ?_) rfl (by kernel_rfl) (by kernel_rfl) (by kernel_rfl) (fun _ _ _ h => h) (Or.inl ⟨by rfl, ?_⟩) hHeld ?_; rotate_left; (focus (intro w hSw; (try dsimp only at hSw); go_simp; try with_reducible rfl)); (try simp only [Act.put, List.setIfInBounds_toArray, List.set_cons_zero, List.set_cons_succ, List.getElem_toArray, List.getElem_cons_zero, List.getElem_cons_succ]))
  (refine wpAnyH_take (i := 36) (v := ?_) rfl (by kernel_rfl) (by kernel_rfl) (by kernel_rfl) (fun _ _ _ h => h) (Or.inl ⟨by rfl, ?_⟩) hHeld ?_; rotate_left; (focus (intro w hSw; (try dsimp only at hSw); go_simp; (have hcc := BlkAt.cell (BlkAt.later HBX.out hSw) (j := 8) rfl; go_simp; try with_reducible rfl))); (try simp only [Act.put, List.setIfInBounds_toArray, List.set_cons_zero, List.set_cons_succ, List.getElem_toArray, List.getElem_cons_zero, List.getElem_cons_succ]))
  exact m31 _ _ _ (by kernel_rfl) rfl hHeld
end Go.Proofs.Ytcahfapffhcceaa
