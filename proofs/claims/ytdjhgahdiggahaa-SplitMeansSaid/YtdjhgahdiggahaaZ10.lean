/- Plain numbers: the order of prefixes and what is within what.
   May ways be? The reference's walk.
   May ways be? The program's walk and the reference's.
   Ways in memory; weights.
   A slice that reads as a list of things of k cells each.
   Arguments that are bytes, and lists of bytes, opened.
   A flow's hash: the program's walk, the whole. -/
import Derived.ProofKit
import Derived.OpenShut
import Derived.Deep.Matrix
import Derived.Deep.Slices
import Derived.Lib.SmallJoins
import Derived.BigQuiet
import Derived.Deep.QuietTactic
import Derived.Test.YtdjhgahdiggahaaZ01
import Derived.Test.YtdjhgahdiggahaaZ07
import Derived.Test.YtdjhgahdiggahaaZ09

set_option linter.unusedSimpArgs false
set_option linter.unusedVariables false
namespace Go.Proofs.Ytdjhgahdiggahaa
open Go.RowKit
attribute [local go_sem ↓] Go.wp_at_zero Go.wp_at_succ
open Sp

set_option maxRecDepth 100000 in
theorem hash_no {w : World} {v : Value} {l : List UInt8} (hv : Bytes w v l) (hl : l.length ≤ 1000000) (hf : flt l ≠ 0) :
    Calls Try.prog 42 #[v] w fun e w' => e = .returned (.tuple #[.int .u32 0, .int .i64 4]) ∧ Below w.heap.size w w' := by
  have hp := prsW_any v l hl w hv
  obtain ⟨a, c, rfl⟩ := hv.form
  obtain ⟨h, hh⟩ : ∃ h, h = hdP l := ⟨_, rfl⟩
  obtain ⟨f, hff⟩ : ∃ f, f = flt l := ⟨_, rfl⟩
  unfold PrsW at hp
  rw [← hh, ← hff] at hp
  rw [← hff] at hf
  have HP := Lib.hid hp
  have k5 : ((f : Int) != 0) = true := by rw [bne_iff_ne]; omega
  clear hp hh hff hv hl
  go_enter Try.func42, Try.ntmps42
  go_wp2_with fail
  refine HP.out.mono ?_
  rintro e w1 ⟨u, v, B, rfl, hu, hvv, _, _, hb1⟩
  obtain ⟨ua, uc, rfl⟩ := hu.form
  obtain ⟨pa, pc, rfl⟩ := hvv.form
  have HBA := Lib.hid (hb1.alloc hb1.size (.cells #[.int .u8 (h.tos : Nat), .int .u16 (h.id : Nat), .bool h.ev, .bool h.df, .bool h.mf, .int .i64 h.off, .int .u8 (h.ttl : Nat), .int .u8 (h.pr : Nat), .int .u32 (h.src : Nat), .int .u32 (h.dst : Nat), .slice ua (opP l).length uc] 106))
  obtain ⟨on, hon⟩ : ∃ n, n = (opP l).length := ⟨_, rfl⟩
  obtain ⟨pn, hpn⟩ : ∃ n, n = (plP l).length := ⟨_, rfl⟩
  rw [← hon] at HBA
  rw [← hon, ← hpn]
  clear hu hvv hb1 hon hpn
  go_wp2_with fail
  go_ret2
  exact ⟨rfl, HBA.out⟩
set_option maxRecDepth 100000 in
theorem lists4 {W : World} {v1 v2 v3 v4 : Value} {l1 l2 l3 l4 : List UInt8} (h1 : Bytes W v1 l1) (h2 : Bytes W v2 l2) (h3 : Bytes W v3 l3) (h4 : Bytes W v4 l4) :
    Lists (W.alloc (.cells #[v1, v2, v3, v4] 97)) (.slice (some ⟨W.heap.size, 0, none⟩) 4 4) [l1, l2, l3, l4] := by
  have hb : Below W.heap.size W (W.alloc (.cells #[v1, v2, v3, v4] 97)) := ba1 _ _
  have hX : BlkAt 97 W.heap.size [v1, v2, v3, v4] (W.alloc (.cells #[v1, v2, v3, v4] 97)) := BlkAt.new W _
  refine .inr ⟨W.heap.size, 0, 4, rfl, BlkAt.lt hX, Nat.le_refl 4, fun i l hl => ?_⟩
  rw [Nat.zero_add]
  match i, hl with
  | 0, hl => cases hl; exact ⟨v1, hX.cell (j := 0) rfl, h1.later hb⟩
  | 1, hl => cases hl; exact ⟨v2, hX.cell (j := 1) rfl, h2.later hb⟩
  | 2, hl => cases hl; exact ⟨v3, hX.cell (j := 2) rfl, h3.later hb⟩
  | 3, hl => cases hl; exact ⟨v4, hX.cell (j := 3) rfl, h4.later hb⟩
  | i + 4, hl => simp at hl
set_option maxRecDepth 100000 in
theorem byte1 {n : Nat} (h : n < 256) : Value.int .u8 ((n : Nat) : Int) = .int .u8 ((UInt8.ofNat n).toNat : Int) := by
  have : (UInt8.ofNat n).toNat = n := by simp; omega
  rw [this]
set_option maxRecDepth 100000 in
theorem one_byte {n : Nat} (h : n < 256) (W : World) : Bytes (W.alloc (.cells #[.int .u8 ((n : Nat) : Int)] 5)) (.slice (some ⟨W.heap.size, 0, none⟩) 1 1) [UInt8.ofNat n] := by
  rw [byte1 h]
  exact bytes_lit W [UInt8.ofNat n]
set_option maxHeartbeats 8000000 in
set_option maxRecDepth 100000 in
theorem hash_yes {w : World} {v : Value} {l : List UInt8} (hv : Bytes w v l) (hl : l.length ≤ 1000000) (hf : flt l = 0) :
    Calls Try.prog 42 #[v] w fun e w' => e = .returned (.tuple #[.int .u32 (hashH (hdP l) (plP l) : Nat), .int .i64 0]) ∧ Below w.heap.size w w' := by
  have hp := prsW_any v l hl w hv
  have hok := hdP_ok l
  have hpl := (prs_lens hf).2.2.2.2.2.2.2
  obtain ⟨a, c, rfl⟩ := hv.form
  obtain ⟨h, hh⟩ : ∃ h, h = hdP l := ⟨_, rfl⟩
  obtain ⟨P, hP⟩ : ∃ P, P = plP l := ⟨_, rfl⟩
  unfold PrsW at hp
  rw [← hh, ← hP, hf] at hp
  rw [← hh, ← hP]
  rw [← hh] at hok
  rw [← hP] at hpl
  have hPL : P.length ≤ 1000000 := by omega
  have hz1 : hashH h P = fnvs [putL h.src 4, putL h.dst 4, [UInt8.ofNat h.pr], pthI h P] := by unfold hashH; rfl
  obtain ⟨z, hz⟩ : ∃ z, z = hashH h P := ⟨_, rfl⟩
  rw [← hz] at hz1 ⊢
  have HZ := Lib.hid hz1
  clear hz hz1
  have HP := Lib.hid hp
  have HPL := Lib.hid hPL
  have HPT := Lib.hid (fun (ua : Option Addr) (un uc : Nat) (v : Value) (W : World) (hv : Bytes W v P) => portsL h ua un uc v P W hv hPL)
  have HS := Lib.hid (fun W => putW_yes h.src 4 W (by omega) (by omega) hok.src)
  have HD := Lib.hid (fun W => putW_yes h.dst 4 W (by omega) (by omega) hok.dst)
  have q1 : ((h.src : Nat) : Int) < 4294967296 := by have := hok.src; omega
  have q2 : ((h.dst : Nat) : Int) < 4294967296 := by have := hok.dst; omega
  have q3 : h.pr < 256 := hok.pr
  clear hp hh hP hv hl hok hpl hPL
  go_enter Try.func42, Try.ntmps42
  go_wp2_with fail
  refine HP.out.mono ?_
  rintro e w1 ⟨u, v, B, rfl, hu, hvv, _, _, hb1⟩
  obtain ⟨ua, uc, rfl⟩ := hu.form
  obtain ⟨pa, pc, rfl⟩ := hvv.form
  obtain ⟨on, hon⟩ : ∃ n, n = (opP l).length := ⟨_, rfl⟩
  obtain ⟨pn, hpn⟩ : ∃ n, n = P.length := ⟨_, rfl⟩
  rw [← hpn] at hvv
  rw [← hon, ← hpn]
  obtain ⟨w2, hw2⟩ : ∃ w2, w2 = w1.alloc (.cells #[.int .u8 (h.tos : Nat), .int .u16 (h.id : Nat), .bool h.ev, .bool h.df, .bool h.mf, .int .i64 h.off, .int .u8 (h.ttl : Nat), .int .u8 (h.pr : Nat), .int .u32 (h.src : Nat), .int .u32 (h.dst : Nat), .slice ua on uc] 106) := ⟨_, rfl⟩
  have hb2 : Below w1.heap.size w1 w2 := by rw [hw2]; exact ba1 _ _
  have HX : Hid (BlkAt 106 w1.heap.size [.int .u8 (h.tos : Nat), .int .u16 (h.id : Nat), .bool h.ev, .bool h.df, .bool h.mf, .int .i64 h.off, .int .u8 (h.ttl : Nat), .int .u8 (h.pr : Nat), .int .u32 (h.src : Nat), .int .u32 (h.dst : Nat), .slice ua on uc] w2) := by
    show BlkAt _ _ _ _
    rw [hw2]; exact BlkAt.new w1 _
  have HB2 := Lib.hid (below_of hb1 hb2)
  have HVV := Lib.hid ((OwnB.bytes hvv).later hb2)
  have HW2 := Lib.hid hw2
  clear hu hvv hb1 hb2 hon hpn hw2
  go_wp2_with fail
  rw [← HW2.out]
  obtain ⟨hb, hhb⟩ : ∃ b, b = w1.heap.size := ⟨_, rfl⟩
  rw [← hhb] at HX ⊢
  clear hhb
  refine (HS.out _).mono ?_
  rintro e w3 ⟨v3, rfl, hy3, hb3⟩
  obtain ⟨a3, c3, rfl⟩ := hy3.form
  obtain ⟨n3, hn3⟩ : ∃ n, n = (putL h.src 4).length := ⟨_, rfl⟩
  rw [← hn3] at hy3 ⊢
  have HB3 := Lib.hid (below_of HB2.out hb3)
  have HY3 := Lib.hid hy3
  have HX3 := Lib.hid (HX.out.later hb3)
  have HV3 := Lib.hid (HVV.out.later hb3)
  have d9 := HX3.out.cell (j := 9) rfl
  clear hy3 hb3 hn3
  go_wp2_with fail
  refine (HD.out _).mono ?_
  rintro e w4 ⟨v4, rfl, hy4, hb4⟩
  obtain ⟨a4, c4, rfl⟩ := hy4.form
  obtain ⟨n4, hn4⟩ : ∃ n, n = (putL h.dst 4).length := ⟨_, rfl⟩
  rw [← hn4] at hy4 ⊢
  have HB4 := Lib.hid (below_of HB3.out hb4)
  have HG : Hid (∀ W, Below w4.heap.size w4 W → Bytes W (.slice a3 n3 c3) (putL h.src 4) ∧ Bytes W (.slice a4 n4 c4) (putL h.dst 4) ∧ BlkAt 106 hb [.int .u8 (h.tos : Nat), .int .u16 (h.id : Nat), .bool h.ev, .bool h.df, .bool h.mf, .int .i64 h.off, .int .u8 (h.ttl : Nat), .int .u8 (h.pr : Nat), .int .u32 (h.src : Nat), .int .u32 (h.dst : Nat), .slice ua on uc] W ∧ Bytes W (.slice pa pn pc) P) := by
    have : ∀ W, Below w4.heap.size w4 W → Bytes W (.slice a3 n3 c3) (putL h.src 4) ∧ Bytes W (.slice a4 n4 c4) (putL h.dst 4) ∧ BlkAt 106 hb [.int .u8 (h.tos : Nat), .int .u16 (h.id : Nat), .bool h.ev, .bool h.df, .bool h.mf, .int .i64 h.off, .int .u8 (h.ttl : Nat), .int .u8 (h.pr : Nat), .int .u32 (h.src : Nat), .int .u32 (h.dst : Nat), .slice ua on uc] W ∧ Bytes W (.slice pa pn pc) P := fun W hW =>
      ⟨(HY3.out.later hb4).later hW, hy4.later hW, (HX3.out.later hb4).later hW, (HV3.out.later hb4).later hW⟩
    exact this
  clear hy4 hb4 hn4 d9
  go_wp2_with fail
  (refine wp_region_held_drew (S := (fun w' => Below w4.heap.size w4 w')) (by kernel_rfl) ?_ (fun hHeld => ?_); (focus ((try dsimp only); (exact (Below.refl _ _).drew))))
  obtain ⟨wD, hwD⟩ : ∃ wD, wD = w4.drew := ⟨_, rfl⟩
  rw [← hwD] at hHeld ⊢
  clear hwD
  (refine wpAnyH_take (i := 0) (v := ?_) rfl (by kernel_rfl) (by kernel_rfl) (by kernel_rfl) (fun _ _ _ h => h) (Or.inl ⟨by rfl, ?_⟩) hHeld ?_; rotate_left; (focus (intro w hSw; (try dsimp only at hSw); go_simp; try with_reducible rfl)); (try simp only [Act.put, List.setIfInBounds_toArray, List.set_cons_zero, List.set_cons_succ, List.getElem_toArray, List.getElem_cons_zero])); (refine wpAnyH_take (i := 1) (v := ?_) rfl (by kernel_rfl) (by kernel_rfl) (by kernel_rfl) (fun _ _ _ h => h) (Or.inl ⟨by rfl, ?_⟩) hHeld ?_; rotate_left; (focus (intro w hSw; (try dsimp only at hSw); go_simp; try with_reducible rfl)); (try simp only [Act.put, List.setIfInBounds_toArray, List.set_cons_zero, List.set_cons_succ, List.getElem_toArray, List.getElem_cons_zero, List.getElem_cons_succ])); (refine wpAnyH_take (i := 2) (v := ?_) rfl (by kernel_rfl) (by kernel_rfl) (by kernel_rfl) (fun _ _ _ h => h) (Or.inl ⟨by rfl, ?_⟩) hHeld ?_; rotate_left; (focus (intro w hSw; (try dsimp only at hSw); go_simp; try with_reducible rfl)); (try simp only [Act.put, List.setIfInBounds_toArray, List.set_cons_zero, List.set_cons_succ, List.getElem_toArray, List.getElem_cons_zero, List.getElem_cons_succ]))
  (refine wpAnyH_take (i := 3) (v := ?_) rfl (by kernel_rfl) (by kernel_rfl) (by kernel_rfl) (fun _ _ _ h => h) (Or.inl ⟨by rfl, ?_⟩) hHeld ?_; rotate_left; (focus (intro w hSw; (try dsimp only at hSw); go_simp; (have cc := (HG.out _ hSw).2.2.1.cell (j := 7) rfl; go_simp; try with_reducible rfl))); (try simp only [Act.put, List.setIfInBounds_toArray, List.set_cons_zero, List.set_cons_succ, List.getElem_toArray, List.getElem_cons_zero, List.getElem_cons_succ]))
  (refine wpAnyH_take (i := 5) (v := ?_) rfl (by kernel_rfl) (by kernel_rfl) (by kernel_rfl) (fun _ _ _ h => h) (Or.inl ⟨by rfl, ?_⟩) hHeld ?_; rotate_left; (focus (intro w hSw; (try dsimp only at hSw); go_simp; (have hX := (HG.out _ hSw).2.2.1; have y0 := BlkAt.cell hX (j := 0) rfl; have y1 := BlkAt.cell hX (j := 1) rfl; have y2 := BlkAt.cell hX (j := 2) rfl; have y3 := BlkAt.cell hX (j := 3) rfl; have y4 := BlkAt.cell hX (j := 4) rfl; have y5 := BlkAt.cell hX (j := 5) rfl; have y6 := BlkAt.cell hX (j := 6) rfl; have y7 := BlkAt.cell hX (j := 7) rfl; have y8 := BlkAt.cell hX (j := 8) rfl; have y9 := BlkAt.cell hX (j := 9) rfl; have y10 := BlkAt.cell hX (j := 10) rfl; go_simp; try with_reducible rfl))); (try simp only [Act.put, List.setIfInBounds_toArray, List.set_cons_zero, List.set_cons_succ, List.getElem_toArray, List.getElem_cons_zero, List.getElem_cons_succ]))
  (refine wpAnyH_take (i := 6) (v := ?_) rfl (by kernel_rfl) (by kernel_rfl) (by kernel_rfl) (fun _ _ _ h => h) (Or.inl ⟨by rfl, ?_⟩) hHeld ?_; rotate_left; (focus (intro w hSw; (try dsimp only at hSw); go_simp; try with_reducible rfl)); (try simp only [Act.put, List.setIfInBounds_toArray, List.set_cons_zero, List.set_cons_succ, List.getElem_toArray, List.getElem_cons_zero, List.getElem_cons_succ]))
  have HPP : Hid ((pthI h P).length ≤ 100000) := by
    show _ ≤ _
    unfold pthI
    split
    · rw [List.length_take]; omega
    · simp
  refine wpAnyH_ready (rs := [4, 7]) (by kernel_rfl) (by simp) ?_
  refine AllReadyH.cons rfl (fun K hK => ?_) (AllReadyH.cons rfl (fun K hK => ?_) AllReadyH.nil)
  · go_simp
    have hbu : Below wD.heap.size wD (wD.alloc (.cells #[.int .u8 ((h.pr : Nat) : Int)] 5)) := ba1 _ _
    have hH1 := hHeld.trans (hbu.mono hHeld.size)
    refine hK.out _ _ ?_ (fun hHeldN => ?_)
    (focus ((try dsimp only); exact hH1))
    clear hK K hHeld
    have hHeld := hHeldN
    clear hHeldN
    (try simp only [Act.put, List.setIfInBounds_toArray, List.set_cons_zero, List.set_cons_succ, List.getElem_toArray, List.getElem_cons_zero, List.getElem_cons_succ])
    have hB1 := one_byte q3 wD
    (refine wpAnyH_ready (rs := [7]) (by kernel_rfl) (by simp) ?_; refine AllReadyH.cons rfl (fun K hK => ?_) AllReadyH.nil; go_simp; refine (HPT.out ua on uc _ _ (HG.out _ hHeld).2.2.2).mono ?_; rintro e w5 ⟨v5, rfl, hy5, hb5⟩; obtain ⟨a5, c5, rfl⟩ := hy5.form; obtain ⟨n5, hn5⟩ : ∃ n, n = (pthI h P).length := ⟨_, rfl⟩; rw [← hn5] at hy5 ⊢; refine hK.out _ _ ?_ (fun hHeldN => ?_); (focus ((try dsimp only); (exact hHeld.trans (hb5.mono hHeld.size)))); clear hK K hHeld; have hHeld := hHeldN; clear hHeldN; (try simp only [Act.put, List.setIfInBounds_toArray, List.set_cons_zero, List.set_cons_succ, List.getElem_toArray, List.getElem_cons_zero, List.getElem_cons_succ]))
    have H1 := hB1.later hb5
    have H3 := (HG.out _ hHeld).1
    have H4 := (HG.out _ hHeld).2.1
    have H5 := hy5
    clear hB1 hbu hH1 hn5
    have hLS := lists4 H3 H4 H1 H5
    have hMX := mixedL hLS (by simp) (by
      intro l hl
      simp only [List.mem_cons, List.not_mem_nil, or_false] at hl
      rcases hl with rfl | rfl | rfl | rfl
      · rw [putL_length]; decide
      · rw [putL_length]; decide
      · simp
      · exact HPP.out)
    rw [← HZ.out] at hMX
    (refine wpAnyH_ready (rs := [8]) (by kernel_rfl) (by simp) ?_; refine AllReadyH.cons rfl (fun K hK => ?_) AllReadyH.nil; go_simp; skip; refine hK.out _ _ ?_ (fun hHeldN => ?_); (focus ((try dsimp only); (exact hHeld.trans ((ba1 _ _).mono hHeld.size)))); clear hK K hHeld; have hHeld := hHeldN; clear hHeldN; (try simp only [Act.put, List.setIfInBounds_toArray, List.set_cons_zero, List.set_cons_succ, List.getElem_toArray, List.getElem_cons_zero, List.getElem_cons_succ]))
    (refine wpAnyH_ready (rs := [9]) (by kernel_rfl) (by simp) ?_; refine AllReadyH.cons rfl (fun K hK => ?_) AllReadyH.nil; go_simp; refine hMX.mono ?_; rintro e w9 ⟨rfl, hb9⟩; refine hK.out _ _ ?_ (fun hHeldN => ?_); (focus ((try dsimp only); (exact hHeld.trans (hb9.mono hHeld.size)))); clear hK K hHeld; have hHeld := hHeldN; clear hHeldN; (try simp only [Act.put, List.setIfInBounds_toArray, List.set_cons_zero, List.set_cons_succ, List.getElem_toArray, List.getElem_cons_zero, List.getElem_cons_succ]))
    (refine wpAnyH_take (i := 10) (v := ?_) rfl (by kernel_rfl) (by kernel_rfl) (by kernel_rfl) (fun _ _ _ h => h) (Or.inl ⟨by rfl, ?_⟩) hHeld ?_; rotate_left; (focus (intro w hSw; (try dsimp only at hSw); go_simp; try with_reducible rfl)); (try simp only [Act.put, List.setIfInBounds_toArray, List.set_cons_zero, List.set_cons_succ, List.getElem_toArray, List.getElem_cons_zero, List.getElem_cons_succ])); (refine wpAnyH_take (i := 11) (v := ?_) rfl (by kernel_rfl) (by kernel_rfl) (by kernel_rfl) (fun _ _ _ h => h) (Or.inl ⟨by rfl, ?_⟩) hHeld ?_; rotate_left; (focus (intro w hSw; (try dsimp only at hSw); go_simp; try with_reducible rfl)); (try simp only [Act.put, List.setIfInBounds_toArray, List.set_cons_zero, List.set_cons_succ, List.getElem_toArray, List.getElem_cons_zero, List.getElem_cons_succ]))
    refine wpAnyH_done (by kernel_rfl) ?_ _
    have HE := Lib.hid (below_of HB4.out hHeld)
    clear hHeld hLS hMX H1 H3 H4 H5
    go_wp2_with fail
    go_ret2
    exact ⟨rfl, HE.out⟩
  · go_simp
    refine (HPT.out ua on uc _ _ (HG.out _ hHeld).2.2.2).mono ?_
    rintro e w5 ⟨v5, rfl, hy5, hb5⟩
    obtain ⟨a5, c5, rfl⟩ := hy5.form
    obtain ⟨n5, hn5⟩ : ∃ n, n = (pthI h P).length := ⟨_, rfl⟩
    rw [← hn5] at hy5 ⊢
    clear hn5
    have hH1 := hHeld.trans (hb5.mono hHeld.size)
    refine hK.out _ _ ?_ (fun hHeldN => ?_)
    (focus ((try dsimp only); exact hH1))
    clear hK K hHeld
    have hHeld := hHeldN
    clear hHeldN
    (try simp only [Act.put, List.setIfInBounds_toArray, List.set_cons_zero, List.set_cons_succ, List.getElem_toArray, List.getElem_cons_zero, List.getElem_cons_succ])
    have H1 := one_byte q3 w5
    have hbu : Below w5.heap.size w5 (w5.alloc (.cells #[.int .u8 ((h.pr : Nat) : Int)] 5)) := ba1 _ _
    have H5 := hy5.later hbu
    (refine wpAnyH_ready (rs := [4]) (by kernel_rfl) (by simp) ?_; refine AllReadyH.cons rfl (fun K hK => ?_) AllReadyH.nil; go_simp; skip; refine hK.out _ _ ?_ (fun hHeldN => ?_); (focus ((try dsimp only); (exact hHeld.trans (hbu.mono hHeld.size)))); clear hK K hHeld; have hHeld := hHeldN; clear hHeldN; (try simp only [Act.put, List.setIfInBounds_toArray, List.set_cons_zero, List.set_cons_succ, List.getElem_toArray, List.getElem_cons_zero, List.getElem_cons_succ]))
    obtain ⟨w6, hw6⟩ : ∃ w6, w6 = w5.alloc (.cells #[.int .u8 ((h.pr : Nat) : Int)] 5) := ⟨_, rfl⟩
    rw [← hw6] at hHeld H1 H5 ⊢
    clear hw6 hbu
    have H3 := (HG.out _ hHeld).1
    have H4 := (HG.out _ hHeld).2.1
    clear hH1
    have hLS := lists4 H3 H4 H1 H5
    have hMX := mixedL hLS (by simp) (by
      intro l hl
      simp only [List.mem_cons, List.not_mem_nil, or_false] at hl
      rcases hl with rfl | rfl | rfl | rfl
      · rw [putL_length]; decide
      · rw [putL_length]; decide
      · simp
      · exact HPP.out)
    rw [← HZ.out] at hMX
    (refine wpAnyH_ready (rs := [8]) (by kernel_rfl) (by simp) ?_; refine AllReadyH.cons rfl (fun K hK => ?_) AllReadyH.nil; go_simp; skip; refine hK.out _ _ ?_ (fun hHeldN => ?_); (focus ((try dsimp only); (exact hHeld.trans ((ba1 _ _).mono hHeld.size)))); clear hK K hHeld; have hHeld := hHeldN; clear hHeldN; (try simp only [Act.put, List.setIfInBounds_toArray, List.set_cons_zero, List.set_cons_succ, List.getElem_toArray, List.getElem_cons_zero, List.getElem_cons_succ]))
    (refine wpAnyH_ready (rs := [9]) (by kernel_rfl) (by simp) ?_; refine AllReadyH.cons rfl (fun K hK => ?_) AllReadyH.nil; go_simp; refine hMX.mono ?_; rintro e w9 ⟨rfl, hb9⟩; refine hK.out _ _ ?_ (fun hHeldN => ?_); (focus ((try dsimp only); (exact hHeld.trans (hb9.mono hHeld.size)))); clear hK K hHeld; have hHeld := hHeldN; clear hHeldN; (try simp only [Act.put, List.setIfInBounds_toArray, List.set_cons_zero, List.set_cons_succ, List.getElem_toArray, List.getElem_cons_zero, List.getElem_cons_succ]))
    (refine wpAnyH_take (i := 10) (v := ?_) rfl (by kernel_rfl) (by kernel_rfl) (by kernel_rfl) (fun _ _ _ h => h) (Or.inl ⟨by rfl, ?_⟩) hHeld ?_; rotate_left; (focus (intro w hSw; (try dsimp only at hSw); go_simp; try with_reducible rfl)); (try simp only [Act.put, List.setIfInBounds_toArray, List.set_cons_zero, List.set_cons_succ, List.getElem_toArray, List.getElem_cons_zero, List.getElem_cons_succ])); (refine wpAnyH_take (i := 11) (v := ?_) rfl (by kernel_rfl) (by kernel_rfl) (by kernel_rfl) (fun _ _ _ h => h) (Or.inl ⟨by rfl, ?_⟩) hHeld ?_; rotate_left; (focus (intro w hSw; (try dsimp only at hSw); go_simp; try with_reducible rfl)); (try simp only [Act.put, List.setIfInBounds_toArray, List.set_cons_zero, List.set_cons_succ, List.getElem_toArray, List.getElem_cons_zero, List.getElem_cons_succ]))
    refine wpAnyH_done (by kernel_rfl) ?_ _
    have HE := Lib.hid (below_of HB4.out hHeld)
    clear hHeld hLS hMX H1 H3 H4 H5
    go_wp2_with fail
    go_ret2
    exact ⟨rfl, HE.out⟩
end Go.Proofs.Ytdjhgahdiggahaa

namespace Go.Proofs.Ytdjhgahdiggahaa
open Go.ChangeShapes Go.WideShapes Go.ChangeAt Go.RowKit

theorem lt_u8 {a : Int} (h : 0 ≤ a ∧ a ≤ 255) : a < 256 := by omega
theorem lt_u16 {a : Int} (h : 0 ≤ a ∧ a ≤ 65535) : a < 65536 := by omega
theorem lt_u32 {a : Int} (h : 0 ≤ a ∧ a ≤ 4294967295) : a < 4294967296 := by omega
theorem lt_u64 {a : Int} (h : 0 ≤ a ∧ a ≤ 18446744073709551615) : a < 18446744073709551616 := by omega

theorem own : ownKnob Try.prog.godebug = none := by kernel_rfl
theorem laidOut : laidOutB Try.prog = true := by kernel_rfl


theorem spot_none {W : World} {a : Addr} {v : Value} (h : W.cell? (a.add 0) = some v) : a.spot = none := by
  obtain ⟨b, o, sp⟩ := a
  cases sp with
  | none => rfl
  | some s =>
    simp [World.cell?, Addr.add] at h
    split at h <;> cases h
theorem bytes_of_ints {W : World} {A : Option Addr} {len cap : Nat} {zs : List Int} (hl : len ≤ cap) (hz : zs.length = cap) (hwz : ∀ n ∈ zs, (Lit.int .u8 n).wf = true) (h0 : A = none → cap = 0)
    (hc : ∀ a, A = some a → ∀ c, c < cap → W.cell? (a.add c) = some (.int .u8 (zs.getD c 0))) : Bytes W (.slice A len cap) ((zs.take len).map fun z => UInt8.ofNat z.toNat) := by
  have hlen : ((zs.take len).map fun z => UInt8.ofNat z.toNat).length = len := by simp; omega
  rcases Nat.eq_zero_or_pos len with hp | hp
  · subst hp
    exact .inl ⟨by simp, A, cap, rfl, h0⟩
  · cases A with
    | none => have := h0 rfl; omega
    | some x =>
      have hcell := hc x rfl
      have hc0 := hcell 0 (by omega)
      have hsp := spot_none hc0
      obtain ⟨b, o, sp⟩ := x
      simp only at hsp
      subst hsp
      refine .inr ⟨b, o, cap, by rw [hlen], ?_, by rw [hlen]; exact hl, ?_⟩
      · have := World.block_lt_of_cell? _ _ hc0
        simpa [Addr.add] using this
      · intro j y hy
        simp only [List.getElem?_map, Option.map_eq_some_iff] at hy
        obtain ⟨z, hz1, rfl⟩ := hy
        have hj : j < len := by
          have := (List.getElem?_eq_some_iff.1 hz1).1
          simp at this; omega
        have hz2 : zs[j]? = some z := by rw [List.getElem?_take, if_pos hj] at hz1; exact hz1
        have hb := bounds_u8 (hwz z (List.mem_of_getElem? hz2))
        have hcj := hcell j (by omega)
        have he : zs.getD j 0 = z := by simp [List.getD, hz2]
        rw [he] at hcj
        have hn : ((UInt8.ofNat z.toNat).toNat : Int) = z := by rw [UInt8.toNat_ofNat']; omega
        rw [hn]
        cases j with
        | zero => simpa [Addr.add] using hcj
        | succ j => simpa [Addr.add] using hcj

set_option maxRecDepth 100000 in
theorem open_bytes {H : Type} {enc : TypeId × Value → H} {W : World} {base : Nat} {v : Value} {d : DataW H} {p : List MemPlace}
    (hv : Value.okWide Try.prog W .any base 97 v) (h : DataW.Trod enc Try.prog W 0 (fun _ => true) true 97 v d p) : ∃ l : List UInt8, Bytes W v l ∧ l.length ≤ 9223372036854775807 := by
  obtain ⟨a, len, cap, rfl⟩ := okWide_slice Try.underlying97 hv
  obtain ⟨fuel, hf⟩ := h
  rcases open_ints Try.underlying97 Try.underlying5 (by kernel_rfl) hf with ⟨hcs, _⟩ | ⟨x, l, c, zs, hcs, _, hl, hm, hz, _, hcell, hwz⟩
  · simp [Value.cells] at hcs
    obtain ⟨rfl, rfl, rfl⟩ := hcs
    exact ⟨[], Bytes.nil _ _ _, by simp⟩
  · simp [Value.cells] at hcs
    obtain ⟨rfl, rfl, rfl⟩ := hcs
    unfold maxLen at hm
    have hzl : zs.length = cap := by simpa using hz
    exact ⟨_, bytes_of_ints hl hzl hwz (fun h => by cases h) (fun a ha c hc => by cases ha; exact hcell c (by omega)), by simp; omega⟩

set_option maxRecDepth 100000 in
theorem open_lists {H : Type} {enc : TypeId × Value → H} {W : World} {base : Nat} {v : Value} {d : DataW H} {p : List MemPlace}
    (hv : Value.okWide Try.prog W .any base 154 v) (h : DataW.Trod enc Try.prog W 0 (fun _ => true) true 154 v d p) :
    ∃ L : List (List UInt8), Lists W v L ∧ L.length ≤ 9223372036854775807 ∧ ∀ l ∈ L, l.length ≤ 9223372036854775807 := by
  obtain ⟨a, len, cap, rfl⟩ := okWide_slice Try.underlying154 hv
  obtain ⟨fuel, hf⟩ := h
  rcases Deep.open_int_rows Try.underlying154 Try.underlying97 Try.underlying5 (by kernel_rfl) (by kernel_rfl) hf with ⟨hcs, _⟩ | ⟨x, l, c, A, Ln, C, Z, hcs, _, hl, hm, _, hr⟩
  · simp [Value.cells] at hcs
    obtain ⟨rfl, rfl, rfl⟩ := hcs
    exact ⟨[], Lists.nil _ _ _, by simp, by simp⟩
  · simp [Value.cells] at hcs
    obtain ⟨rfl, rfl, rfl⟩ := hcs
    unfold maxLen at hm hr
    have each : ∀ r, r < cap → Bytes W (.slice (A r) (Ln r) (C r)) (((Z r).take (Ln r)).map fun z => UInt8.ofNat z.toNat) := fun r hrr => by
      obtain ⟨_, h1, h2, h3, h4, h5, h6⟩ := hr r hrr
      exact bytes_of_ints h1 h3 h4 h5 (fun a ha c hc => (h6 a ha).2 c hc)
    refine ⟨(List.range len).map fun r => ((Z r).take (Ln r)).map fun z => UInt8.ofNat z.toNat, ?_, by simp; omega, ?_⟩
    · rcases Nat.eq_zero_or_pos len with hp | hp
      · subst hp
        exact .inl ⟨by simp, _, _, rfl, fun h => by cases h⟩
      · have hc0 := (hr 0 (by omega)).1
        have hsp := spot_none hc0
        obtain ⟨b, o, sp⟩ := x
        simp only at hsp
        subst hsp
        refine .inr ⟨b, o, cap, by simp, ?_, by simpa using hl, ?_⟩
        · have := World.block_lt_of_cell? _ _ hc0
          simpa [Addr.add] using this
        · intro j l hjl
          simp only [List.getElem?_map, Option.map_eq_some_iff] at hjl
          obtain ⟨r, hr1, rfl⟩ := hjl
          have hj : j < len := by
            have := (List.getElem?_eq_some_iff.1 hr1).1
            simpa using this
          have hr2 : r = j := by rw [List.getElem?_range hj] at hr1; cases hr1; rfl
          subst hr2
          refine ⟨_, ?_, each r (by omega)⟩
          have := (hr r (by omega)).1
          cases r with
          | zero => simpa [Addr.add] using this
          | succ r => simpa [Addr.add] using this
    · intro l hl2
      simp only [List.mem_map, List.mem_range] at hl2
      obtain ⟨r, hr1, rfl⟩ := hl2
      obtain ⟨_, h1, h2, h3, _⟩ := hr r (by omega)
      simp; omega

set_option maxRecDepth 100000 in
theorem open_introw {H : Type} {enc : TypeId × Value → H} {W : World} {base : Nat} {v : Value} {d : DataW H} {p : List MemPlace}
    (hv : Value.okWide Try.prog W .any base 62 v) (h : DataW.Trod enc Try.prog W 0 (fun _ => true) true 62 v d p) :
    ∃ zs : List Int, Row W v (iv zs) ∧ zs.length ≤ 9223372036854775807 ∧ ∀ z ∈ zs, -9223372036854775808 ≤ z ∧ z ≤ 9223372036854775807 := by
  obtain ⟨a, len, cap, rfl⟩ := okWide_slice Try.underlying62 hv
  obtain ⟨fuel, hf⟩ := h
  rcases open_ints Try.underlying62 Try.underlying3 (by kernel_rfl) hf with ⟨hcs, _⟩ | ⟨x, l, c, zs, hcs, _, hl, hm, hz, _, hcell, hwz⟩
  · simp [Value.cells] at hcs
    obtain ⟨rfl, rfl, rfl⟩ := hcs
    exact ⟨[], .inl ⟨rfl, _, _, rfl, fun _ => rfl⟩, by simp, by simp⟩
  · simp [Value.cells] at hcs
    obtain ⟨rfl, rfl, rfl⟩ := hcs
    unfold maxLen at hm
    have hzl : zs.length = cap := by simpa using hz
    refine ⟨zs.take len, ?_, by simp; omega, fun z hz2 => bounds_i64 (hwz z (List.mem_of_mem_take hz2))⟩
    rcases Nat.eq_zero_or_pos len with hp | hp
    · subst hp
      exact .inl ⟨by simp [iv], _, _, rfl, fun h => by cases h⟩
    · have hc0 := hcell 0 (by omega)
      have hsp := spot_none hc0
      obtain ⟨b, o, sp⟩ := x
      simp only at hsp
      subst hsp
      have hlen : (iv (zs.take len)).length = len := by simp [iv]; omega
      refine .inr ⟨b, o, cap, by rw [hlen], ?_, by rw [hlen]; exact hl, ?_⟩
      · have := World.block_lt_of_cell? _ _ hc0
        simpa [Addr.add] using this
      · intro j y hy
        simp only [iv, List.getElem?_map, Option.map_eq_some_iff] at hy
        obtain ⟨z, hz1, rfl⟩ := hy
        have hj : j < len := by
          have := (List.getElem?_eq_some_iff.1 hz1).1
          simp at this; omega
        have hz2 : zs[j]? = some z := by rw [List.getElem?_take, if_pos hj] at hz1; exact hz1
        have hcj := hcell j (by omega)
        have he : zs.getD j 0 = z := by simp [List.getD, hz2]
        rw [he] at hcj
        cases j with
        | zero => simpa [Addr.add] using hcj
        | succ j => simpa [Addr.add] using hcj

end Go.Proofs.Ytdjhgahdiggahaa

namespace Go.Proofs.Ytdjhgahdiggahaa
open Go.ChangeShapes Go.WideShapes Go.ChangeAt Go.RowKit Go.Joins Go.Deep

/-- The value reads as these, each of k cells. -/
def Rds {α : Type} (k : Nat) (f : α → List Value) (w : World) (v : Value) (L : List α) : Prop :=
  (L = [] ∧ ∃ a c, v = .slice a 0 c ∧ (a = none → c = 0)) ∨
  ∃ b o c, v = .slice (some ⟨b, o, none⟩) L.length c ∧ b < w.heap.size ∧ L.length ≤ c ∧ ∀ j x, L[j]? = some x → ∀ i u, (f x)[i]? = some u → w.cell? ⟨b, o + j * k + i, none⟩ = some u
section
variable {α : Type} {k : Nat} {f : α → List Value}
theorem Rds.later {w w' : World} {v : Value} {L : List α} (h : Rds k f w v L) (hb : Below w.heap.size w w') : Rds k f w' v L := by
  rcases h with h | ⟨b, o, c, h1, h2, hp, h3⟩
  · exact .inl h
  · exact .inr ⟨b, o, c, h1, Nat.lt_of_lt_of_le h2 hb.size, hp, fun j x hx i u hu => cell_later hb (h3 j x hx i u hu)⟩
theorem Rds.form {w : World} {v : Value} {L : List α} (h : Rds k f w v L) : ∃ a c, v = .slice a L.length c := by
  rcases h with ⟨rfl, a, c, rfl, _⟩ | ⟨b, o, c, rfl, _, _⟩
  · exact ⟨a, c, rfl⟩
  · exact ⟨_, c, rfl⟩
theorem Rds.at {w : World} {a : Option Addr} {n c : Nat} {L : List α} (h : Rds k f w (.slice a n c) L) {i : Nat} {x : α} (hx : L[i]? = some x) :
    ∃ b o, a = some ⟨b, o, none⟩ ∧ b < w.heap.size ∧ ∀ j u, (f x)[j]? = some u → w.cell? ⟨b, o + i * k + j, none⟩ = some u := by
  rcases h with ⟨rfl, _⟩ | ⟨b, o, c', h1, h2, _, h3⟩
  · simp at hx
  · simp only [Value.slice.injEq] at h1
    exact ⟨b, o, h1.1, h2, fun j u hu => h3 i x hx j u hu⟩
set_option maxRecDepth 100000 in
theorem open_rds [Inhabited α] {H : Type} {enc : TypeId × Value → H} {W : World} {base : Nat} {v : Value} {d : DataW H} {p : List MemPlace} {t : TypeId} (hu : Try.prog.underlying t = some (.slice (Try.prog.elem t))) (hC : Try.prog.cellsOf (Try.prog.elem t) = k) (hk : 0 < k) (Pr : α → Prop)
    (one : ∀ {n : Nat} {cs : List Value} {y : DataW H × List MemPlace}, DataW.trod enc Try.prog W 0 (fun _ => true) true n (Try.prog.elem t) cs = some y → cs.length = k → ∃ x : α, cs = f x ∧ Pr x)
    (hv : Value.okWide Try.prog W .any base t v) (h : DataW.Trod enc Try.prog W 0 (fun _ => true) true t v d p) :
    ∃ L : List α, Rds k f W v L ∧ L.length ≤ 9223372036854775807 ∧ ∀ x ∈ L, Pr x := by
  obtain ⟨a, len, cap, rfl⟩ := okWide_slice hu hv
  obtain ⟨fuel, hf⟩ := h
  rcases open_slice hu hf with ⟨hcs, _⟩ | ⟨x, l, c, m, n, D, Pl, hcs, _, hl, hm, hmm, _, hx⟩
  · simp [Value.cells] at hcs
    obtain ⟨rfl, rfl, rfl⟩ := hcs
    exact ⟨[], .inl ⟨rfl, _, _, rfl, fun _ => rfl⟩, by simp, by simp⟩
  · simp [Value.cells] at hcs
    obtain ⟨rfl, rfl, rfl⟩ := hcs
    unfold maxLen at hm
    have hm2 : m = cap := by simpa using hmm
    subst hm2
    rw [hC] at hx
    have each : ∀ i, i < m → ∃ u : α, ((f u).length = k ∧ ∀ j z, (f u)[j]? = some z → W.cell? ((x.add (i * k)).add j) = some z) ∧ Pr u := by
      intro i hi
      obtain ⟨cs', h1, h2⟩ := hx i hi
      obtain ⟨_, hlen, hcell⟩ := World.cells?_some h1
      obtain ⟨u, rfl, hu⟩ := one h2 hlen
      refine ⟨u, ⟨hlen, fun j z hz => ?_⟩, hu⟩
      have hj := (List.getElem?_eq_some_iff.1 hz).1
      exact (hcell j (by omega)).trans hz
    obtain ⟨F, hF⟩ := choose_lt each
    have hlen : ((List.range len).map F).length = len := by simp
    refine ⟨(List.range len).map F, ?_, by rw [hlen]; omega, ?_⟩
    · rcases Nat.eq_zero_or_pos len with hp | hp
      · subst hp
        exact .inl ⟨by simp, _, _, rfl, fun h => by cases h⟩
      · obtain ⟨⟨hl0, hc⟩, _⟩ := hF 0 (by omega)
        have hc0 := hc 0 _ (List.getElem?_eq_getElem (by omega))
        rw [Nat.zero_mul] at hc0
        have hsp := spot_none (a := x) (by simpa [Addr.add] using hc0)
        obtain ⟨b, o, sp⟩ := x
        simp only at hsp
        subst hsp
        refine .inr ⟨b, o, m, by rw [hlen], ?_, by rw [hlen]; exact hl, ?_⟩
        · have := World.block_lt_of_cell? _ _ hc0
          simpa [Addr.add] using this
        · intro j u hju i z hz
          simp only [List.getElem?_map, Option.map_eq_some_iff] at hju
          obtain ⟨r, hr1, rfl⟩ := hju
          have hj : j < len := by
            have := (List.getElem?_eq_some_iff.1 hr1).1
            simpa using this
          have hr : r = j := by
            rw [List.getElem?_range hj] at hr1
            exact (Option.some.inj hr1).symm
          subst hr
          have := (hF r (by omega)).1.2 i z hz
          have ad : ∀ b o k, (⟨b, o, none⟩ : Addr).add k = ⟨b, o + k, none⟩ := fun b o k => by cases k <;> simp [Addr.add]
          rw [ad, ad] at this
          exact this
    · intro u hu
      obtain ⟨r, hr, rfl⟩ := List.mem_map.1 hu
      have := List.mem_range.1 hr
      exact (hF r (by omega)).2
end
end Go.Proofs.Ytdjhgahdiggahaa

namespace Go.Proofs.Ytdjhgahdiggahaa
open Go.RowKit
attribute [local go_sem ↓] Go.wp_at_zero Go.wp_at_succ
open Sp

def nxc (n : WyN) : List Value := [.int .i64 n.1, .int .i64 n.2]
structure NxOk (n : WyN) : Prop where
  p0 : -9223372036854775808 ≤ n.1
  p1 : n.1 ≤ 9223372036854775807
  d0 : -9223372036854775808 ≤ n.2
  d1 : n.2 ≤ 9223372036854775807
abbrev Nxs (w : World) (v : Value) (l : List WyN) : Prop := Rds 2 nxc w v l
set_option maxRecDepth 100000 in
theorem wt_quo {d : Int} (h0 : 0 ≤ d) (h1 : d < 255) : (65536 : Int) / (d + 1) = (wt d : Nat) := by
  unfold wt
  rw [if_pos ⟨h0, h1⟩]
  obtain ⟨n, rfl⟩ : ∃ n : Nat, d = n := ⟨d.toNat, by omega⟩
  simp
set_option maxRecDepth 100000 in
theorem wt_no {d : Int} (h : ¬ (0 ≤ d ∧ d < 255)) : (0 : Int) = (wt d : Nat) := by
  rw [wt_zero.2 h]
  rfl
set_option maxRecDepth 100000 in
theorem weightL (p d : Int) (w : World) : Calls Try.prog 31 #[.agg #[.int .i64 p, .int .i64 d]] w fun e w' => e = .returned (.int .i64 (wt d : Nat)) ∧ Below w.heap.size w w' := by
  have HQ : Hid (0 ≤ d → d < 255 → (65536 : Int) / (d + 1) = (wt d : Nat)) := by
    have : 0 ≤ d → d < 255 → (65536 : Int) / (d + 1) = (wt d : Nat) := wt_quo
    exact this
  have HN : Hid (¬ (0 ≤ d ∧ d < 255) → (0 : Int) = (wt d : Nat)) := by
    have : ¬ (0 ≤ d ∧ d < 255) → (0 : Int) = (wt d : Nat) := wt_no
    exact this
  obtain ⟨z, hz⟩ : ∃ z : Int, z = (wt d : Nat) := ⟨_, rfl⟩
  rw [← hz] at HQ HN ⊢
  clear hz
  go_enter Try.func31, Try.ntmps31
  go_wp2
  all_goals first
    | (go_ret; exact ⟨by rw [← HN.out (by omega)]; rfl, ba1 _ _⟩)
    | (go_ret; exact ⟨by rw [← HQ.out (by omega) (by omega)]; rfl, ba1 _ _⟩)
set_option maxRecDepth 100000 in
theorem weightR (p d : Int) (w : World) : Calls Try.prog 32 #[.agg #[.int .i64 p, .int .i64 d]] w fun e w' => e = .returned (.int .i64 (wt d : Nat)) ∧ Below w.heap.size w w' := by
  have HQ : Hid (0 ≤ d → d < 255 → (65536 : Int) / (d + 1) = (wt d : Nat)) := by
    have : 0 ≤ d → d < 255 → (65536 : Int) / (d + 1) = (wt d : Nat) := wt_quo
    exact this
  have HN : Hid (¬ (0 ≤ d ∧ d < 255) → (0 : Int) = (wt d : Nat)) := by
    have : ¬ (0 ≤ d ∧ d < 255) → (0 : Int) = (wt d : Nat) := wt_no
    exact this
  obtain ⟨z, hz⟩ : ∃ z : Int, z = (wt d : Nat) := ⟨_, rfl⟩
  rw [← hz] at HQ HN ⊢
  clear hz
  go_enter Try.func32, Try.ntmps32
  go_wp2
  all_goals first
    | (go_ret; exact ⟨by rw [← HN.out (by omega)]; rfl, ba1 _ _⟩)
    | (go_ret; exact ⟨by rw [← HQ.out (by omega) (by omega)]; rfl, ba1 _ _⟩)
end Go.Proofs.Ytdjhgahdiggahaa

namespace Go.Proofs.Ytdjhgahdiggahaa
open Go.RowKit
attribute [local go_sem ↓] Go.wp_at_zero Go.wp_at_succ
open Sp

set_option maxRecDepth 100000 in
theorem ok_at {l : List WyN} {i : Nat} {n : WyN} (h : l[i]? = some n) : okAt l i ↔ lst l i < n.1 ∧ n.1 < 8 ∧ 0 ≤ n.2 ∧ n.2 < 255 := by
  unfold okAt
  rw [wyAt_get h]
set_option maxRecDepth 100000 in
theorem may_end {l : List WyN} {n : Nat} (hn : n = l.length) (h : okTo l n) : decide (0 < n) = decide (mayP l) := by
  rw [decide_eq_decide]
  unfold mayP
  subst hn
  constructor
  · intro h0
    exact ⟨fun e => by rw [e] at h0; simp at h0, h⟩
  · intro h0
    exact (mayP_len h0).1
set_option maxRecDepth 100000 in
theorem mayW {w : World} {v : Value} {l : List WyN} (hv : Nxs w v l) (hl : l.length ≤ 1000000) (ho : ∀ n ∈ l, NxOk n) : Calls Try.prog 35 #[v] w fun e w' => e = .returned (.bool (decide (mayP l))) ∧ Below w.heap.size w w' := by
  have HV := Lib.hid hv
  have HO : Hid (∀ n ∈ l, NxOk n) := by
    have : ∀ n ∈ l, NxOk n := ho
    exact this
  obtain ⟨a, c, rfl⟩ := hv.form
  obtain ⟨n, hn⟩ : ∃ n, n = l.length := ⟨_, rfl⟩
  rw [← hn] at HV ⊢ hl
  have HNN := Lib.hid hn
  have g0 : (n : Int) ≤ 1000000 := by omega
  obtain ⟨r, hr⟩ : ∃ r, r = decide (mayP l) := ⟨_, rfl⟩
  have HR := Lib.hid hr
  rw [← hr]
  clear hr hv ho hn hl
  go_enter Try.func35, Try.ntmps35
  go_wp2_with fail
  go_loopw [3, 8] (fun y x wr => ∃ i : Nat, i ≤ n ∧ y = .int .i64 (lst l i) ∧ x = .int .i64 i ∧ Hid (okTo l i) ∧ Hid (Below w.heap.size w wr)) (fun _ x _ => n - (intOf x).toNat)
  case atStart =>
    refine ⟨0, Nat.zero_le _, rfl, rfl, ?_, Below.refl _ _⟩
    have : okTo l 0 := fun j hj => by omega
    exact this
  case round =>
    obtain ⟨i, hi, rfl, rfl, HOK, HB⟩ := hrel
    rcases Nat.lt_or_ge i n with hlt | hge
    · have g1 : (i : Int) < n := by omega
      obtain ⟨x, hx⟩ : ∃ x, l[i]? = some x := ⟨l[i]'(by have := HNN.out; omega), List.getElem?_eq_getElem _⟩
      obtain ⟨bb, oo, ha, _, hcell⟩ := (HV.out.later HB.out).at hx
      have c0 := hcell 0 _ rfl
      have c1 := hcell 1 _ rfl
      simp only [Nat.add_zero] at c0
      subst ha
      obtain ⟨xp, xd⟩ := x
      simp only [nxc] at c0 c1
      have HK := Lib.hid (ok_at hx)
      have HM : Hid (¬ okAt l i → ¬ mayP l) := by
        have : ¬ okAt l i → ¬ mayP l := not_may (by have := HNN.out; omega)
        exact this
      have HAT := Lib.hid (wyAt_get hx)
      obtain ⟨la, hla⟩ : ∃ la, la = lst l i := ⟨_, rfl⟩
      rw [← hla] at HK ⊢
      have HLA := Lib.hid hla
      have HWT := Lib.hid (weightL xp xd)
      obtain ⟨wx, hwx⟩ : ∃ wx : Int, wx = (wt xd : Nat) := ⟨_, rfl⟩
      rw [← hwx] at HWT
      have HWX := Lib.hid hwx
      obtain ⟨wA, hwA⟩ : ∃ wA, wA = wr.alloc (.cells #[.int .i64 xp, .int .i64 xd] 76) := ⟨_, rfl⟩
      have hbA : Below wr.heap.size wr wA := by rw [hwA]; exact ba1 _ _
      have hXA : BlkAt 76 wr.heap.size [.int .i64 xp, .int .i64 xd] wA := by rw [hwA]; exact BlkAt.new wr _
      have HXA := Lib.hid hXA
      have HBA := Lib.hid (HB.out.trans (hbA.mono HB.out.size))
      have HWA := Lib.hid hwA
      clear hcell hx hla hwx hwA hbA hXA
      have fin : ∀ W, Below w.heap.size w W → ¬ okAt l i → (false = r ∧ Below w.heap.size w W) := fun W hW hk => ⟨by rw [HR.out]; exact (decide_eq_false (HM.out hk)).symm, hW⟩
      have FIN := Lib.hid fin
      clear fin
      go_wp2_with fail
      · rw [← HWA.out]
        refine (HWT.out _).mono ?_
        rintro e w1 ⟨rfl, hb1⟩
        have d0 := (HXA.out.later hb1).cell (j := 0) rfl
        have HB1 := Lib.hid (below_of HBA.out hb1)
        clear hb1 c0 c1
        have HZ : Hid (wx = 0 ↔ ¬ (0 ≤ xd ∧ xd < 255)) := by
          have : wx = 0 ↔ ¬ (0 ≤ xd ∧ xd < 255) := by
            rw [HWX.out, ← wt_zero]
            omega
          exact this
        go_wp2_with fail
        · rename_i hz
          go_ret
          have hz0 : wx = 0 := by simp at hz; omega
          obtain ⟨h1, h2⟩ := FIN.out _ HB1.out (fun h => HZ.out.1 hz0 (HK.out.1 h).2.2)
          exact ⟨by rw [← h1]; rfl, h2⟩
        · rename_i hz
          have hz0 : wx ≠ 0 := by simpa using hz.2
          have hok : okAt l i := HK.out.2 ⟨by assumption, by assumption, by
            have := HZ.out
            have h9 : ¬ ¬ (0 ≤ xd ∧ xd < 255) := fun h => hz0 (this.2 h)
            omega⟩
          refine ⟨⟨i + 1, by omega, ?_, by simp, okTo_succ HOK.out hok, HB1.out⟩, by simp [intOf]; omega⟩
          rw [lst_succ, HAT.out]
      · rw [← HWA.out]
        go_ret
        obtain ⟨h1, h2⟩ := FIN.out _ HBA.out (fun h => by have := HK.out.1 h; omega)
        exact ⟨by rw [← h1]; rfl, h2⟩
      · rw [← HWA.out]
        go_ret
        obtain ⟨h1, h2⟩ := FIN.out _ HBA.out (fun h => by have := HK.out.1 h; omega)
        exact ⟨by rw [← h1]; rfl, h2⟩
    · obtain rfl : i = n := by omega
      go_wp2_with fail
      go_ret
      refine ⟨ret_b ?_, HB.out⟩
      rw [HR.out]
      exact may_end HNN.out HOK.out
end Go.Proofs.Ytdjhgahdiggahaa

namespace Go.Proofs.Ytdjhgahdiggahaa
open Go.RowKit
attribute [local go_sem ↓] Go.wp_at_zero Go.wp_at_succ
open Sp

set_option maxRecDepth 100000 in
theorem mayR {w : World} {v : Value} {l : List WyN} (hv : Nxs w v l) (hl : l.length ≤ 1000000) : Calls Try.prog 36 #[v] w fun e w' => e = .returned (.bool (decide (mayP l))) ∧ Below w.heap.size w w' := by
  have HV := Lib.hid hv
  obtain ⟨a, c, rfl⟩ := hv.form
  obtain ⟨n, hn⟩ : ∃ n, n = l.length := ⟨_, rfl⟩
  rw [← hn] at HV ⊢ hl
  have HNN := Lib.hid hn
  have g0 : (n : Int) ≤ 1000000 := by omega
  obtain ⟨r, hr⟩ : ∃ r, r = decide (mayP l) := ⟨_, rfl⟩
  have HR := Lib.hid hr
  rw [← hr]
  have FIN : Hid (¬ (1 ≤ n ∧ n ≤ 8) → false = r) := by
    have : ¬ (1 ≤ n ∧ n ≤ 8) → false = r := fun h => by
      rw [HR.out]
      refine (decide_eq_false fun hm => h ?_).symm
      have := mayP_len hm
      rw [HNN.out]; exact this
    exact this
  clear hr hv hn hl
  by_cases hn1 : n < 1
  · go_enter Try.func36, Try.ntmps36
    go_wp2_with fail
    go_ret
    exact ⟨by rw [← FIN.out (by omega)]; rfl, Below.refl _ _⟩
  · by_cases hn8 : 8 < n
    · have g8 : (8 : Int) < n := by omega
      have g1 : ¬ (n : Int) < 1 := by omega
      go_enter Try.func36, Try.ntmps36
      go_wp2_with fail
      go_ret
      exact ⟨by rw [← FIN.out (by omega)]; rfl, Below.refl _ _⟩
    · have g8 : ¬ (8 : Int) < n := by omega
      have g1 : ¬ (n : Int) < 1 := by omega
      have HN1 := Lib.hid hn1
      clear hn1 hn8
      go_enter Try.func36, Try.ntmps36
      go_wp2_with fail
      go_loopw [3] (fun x wr => ∃ i : Nat, i ≤ n ∧ x = .int .i64 i ∧ Hid (okTo l i) ∧ Hid (Below w.heap.size w wr)) (fun x _ => n - (intOf x).toNat)
      case atStart =>
        refine ⟨0, Nat.zero_le _, rfl, ?_, Below.refl _ _⟩
        have : okTo l 0 := fun j hj => by omega
        exact this
      case round =>
        obtain ⟨i, hi, rfl, HOK, HB⟩ := hrel
        rcases Nat.lt_or_ge i n with hlt | hge
        · have g3 : (i : Int) < n := by omega
          obtain ⟨x, hx⟩ : ∃ x, l[i]? = some x := ⟨l[i]'(by have := HNN.out; omega), List.getElem?_eq_getElem _⟩
          obtain ⟨bb, oo, ha, _, hcell⟩ := (HV.out.later HB.out).at hx
          have c0 := hcell 0 _ rfl
          have c1 := hcell 1 _ rfl
          simp only [Nat.add_zero] at c0
          subst ha
          obtain ⟨xp, xd⟩ := x
          simp only [nxc] at c0 c1
          have HK := Lib.hid (ok_at hx)
          have HM : Hid (¬ okAt l i → false = r) := by
            have : ¬ okAt l i → false = r := fun hk => by
              rw [HR.out]
              exact (decide_eq_false (not_may (by have := HNN.out; omega) hk)).symm
            exact this
          have HAT := Lib.hid (wyAt_get hx)
          have HGE := Lib.hid (lst_ge HOK.out)
          clear hcell hx
          by_cases t0 : xp < 0
          · have d0 : decide (xp < 0) = true := decide_eq_true t0
            go_wp2_with fail
            go_quiet (fail)
            have HB2 := Lib.hid (below_drewN HB.out nq)
            go_wp2_with fail
            go_ret
            exact ⟨by rw [← HM.out (fun h => by have := HK.out.1 h; have := HGE.out; omega)]; rfl, HB2.out⟩
          · have d0 : decide (xp < 0) = false := decide_eq_false t0
            by_cases t1 : 8 ≤ xp
            · have d1 : decide (8 ≤ xp) = true := decide_eq_true t1
              go_wp2_with fail
              go_quiet (fail)
              have HB2 := Lib.hid (below_drewN HB.out nq)
              go_wp2_with fail
              go_ret
              exact ⟨by rw [← HM.out (fun h => by have := HK.out.1 h; omega)]; rfl, HB2.out⟩
            · have d1 : decide (8 ≤ xp) = false := decide_eq_false t1
              have HL1 := Lib.hid HGE
              clear HGE
              rcases Nat.eq_zero_or_pos i with hz | hz
              · subst hz
                have hl0 : lst l 0 = -1 := rfl
                rw [hl0] at HK
                simp only [Nat.zero_mul, Nat.add_zero] at c0 c1
                clear hl0
                by_cases t3 : xd < 0
                · have d3 : decide (xd < 0) = true := decide_eq_true t3
                  go_wp2_with fail
                  go_quiet (fail)
                  have HB2 := Lib.hid (below_drewN HB.out nq)
                  go_wp2_with fail
                  go_ret
                  exact ⟨by rw [← HM.out (fun h => by have := HK.out.1 h; omega)]; rfl, HB2.out⟩
                · have d3 : decide (xd < 0) = false := decide_eq_false t3
                  by_cases t4 : 255 ≤ xd
                  · have d4 : decide (255 ≤ xd) = true := decide_eq_true t4
                    go_wp2_with fail
                    go_quiet (fail)
                    have HB2 := Lib.hid (below_drewN HB.out nq)
                    go_wp2_with fail
                    go_ret
                    exact ⟨by rw [← HM.out (fun h => by have := HK.out.1 h; omega)]; rfl, HB2.out⟩
                  · have d4 : decide (255 ≤ xd) = false := decide_eq_false t4
                    go_wp2_with fail
                    go_quiet (fail)
                    have HB2 := Lib.hid (below_drewN HB.out nq)
                    go_wp2_with fail
                    go_roundw
                    case rel => exact ⟨_, by omega, by go_num, okTo_succ HOK.out (HK.out.2 ⟨by omega, by omega, by omega, by omega⟩), HB2.out⟩
                    case measure => simp [intOf]; omega
              · obtain ⟨j, rfl⟩ : ∃ j, i = j + 1 := ⟨i - 1, by omega⟩
                obtain ⟨y, hy⟩ : ∃ y, l[j]? = some y := ⟨l[j]'(by have := HNN.out; omega), List.getElem?_eq_getElem _⟩
                obtain ⟨b3, o3, ha3, _, hcell3⟩ := (HV.out.later HB.out).at hy
                cases ha3
                have e0 := hcell3 0 _ rfl
                simp only [Nat.add_zero] at e0
                obtain ⟨yp, yd⟩ := y
                simp only [nxc] at e0
                have hl1 : lst l (j + 1) = yp := by rw [lst_succ, wyAt_get hy]
                rw [hl1] at HK
                clear hl1 hcell3 hy
                by_cases t2 : xp ≤ yp
                · have d2 : decide (xp ≤ yp) = true := decide_eq_true t2
                  go_wp2_with fail
                  go_quiet (fail)
                  have HB2 := Lib.hid (below_drewN HB.out nq)
                  go_wp2_with fail
                  go_ret
                  exact ⟨by rw [← HM.out (fun h => by have := HK.out.1 h; omega)]; rfl, HB2.out⟩
                · have d2 : decide (xp ≤ yp) = false := decide_eq_false t2
                  by_cases t3 : xd < 0
                  · have d3 : decide (xd < 0) = true := decide_eq_true t3
                    go_wp2_with fail
                    go_quiet (fail)
                    have HB2 := Lib.hid (below_drewN HB.out nq)
                    go_wp2_with fail
                    go_ret
                    exact ⟨by rw [← HM.out (fun h => by have := HK.out.1 h; omega)]; rfl, HB2.out⟩
                  · have d3 : decide (xd < 0) = false := decide_eq_false t3
                    by_cases t4 : 255 ≤ xd
                    · have d4 : decide (255 ≤ xd) = true := decide_eq_true t4
                      go_wp2_with fail
                      go_quiet (fail)
                      have HB2 := Lib.hid (below_drewN HB.out nq)
                      go_wp2_with fail
                      go_ret
                      exact ⟨by rw [← HM.out (fun h => by have := HK.out.1 h; omega)]; rfl, HB2.out⟩
                    · have d4 : decide (255 ≤ xd) = false := decide_eq_false t4
                      go_wp2_with fail
                      go_quiet (fail)
                      have HB2 := Lib.hid (below_drewN HB.out nq)
                      go_wp2_with fail
                      go_roundw
                      case rel => exact ⟨_, by omega, by go_num, okTo_succ HOK.out (HK.out.2 ⟨by omega, by omega, by omega, by omega⟩), HB2.out⟩
                      case measure => simp [intOf]; omega
        · obtain rfl : i = n := by omega
          have q0 : ¬ (i : Int) < i := by omega
          go_wp2_with fail
          go_ret
          refine ⟨ret_b ?_, HB.out⟩
          rw [HR.out, ← may_end HNN.out HOK.out]
          exact (decide_eq_true (by have := HN1.out; omega)).symm
end Go.Proofs.Ytdjhgahdiggahaa

namespace Go.Proofs.Ytdjhgahdiggahaa
namespace Wp

theorem pow_split {n m : Int} (_h0 : 0 ≤ n) (h : n ≤ m) (h2 : m ≤ 32) : (2 : Int) ^ (32 - n).toNat = 2 ^ (32 - m).toNat * 2 ^ (m - n).toNat := by
  rw [← Int.pow_add]
  congr 1
  omega
theorem fst_fst {c n m : Int} (h0 : 0 ≤ n) (h : n ≤ m) (h2 : m ≤ 32) : fst (fst c m) n = fst c n := by
  have hp := pow_pos' (32 - m).toNat
  unfold fst
  rw [pow_split h0 h h2, ← Int.ediv_ediv_of_nonneg (Int.le_of_lt hp), ← Int.ediv_ediv_of_nonneg (Int.le_of_lt hp), Int.mul_ediv_cancel _ (Int.ne_of_gt hp)]
theorem fst_mono {a b n : Int} (h : a ≤ b) : fst a n ≤ fst b n := by
  unfold fst
  exact Int.mul_le_mul_of_nonneg_right (Int.ediv_le_ediv (pow_pos' _) h) (Int.le_of_lt (pow_pos' _))
theorem fst_more {b n m : Int} (h0 : 0 ≤ m) (h : m ≤ n) (h2 : n ≤ 32) (hb : fst b m = b) : fst b n = b := by
  unfold fst at *
  have hp := pow_pos' (32 - n).toNat
  rw [pow_split h0 h h2] at hb
  have h3 : b % 2 ^ (32 - n).toNat = 0 := by
    rw [← hb, Int.mul_comm (2 ^ (32 - n).toNat : Int), ← Int.mul_assoc]
    exact Int.mul_emod_left _ _
  have := Int.mul_ediv_add_emod b (2 ^ (32 - n).toNat)
  rw [Int.mul_comm]; omega

theorem may_of {a n : Int} (h : mayB a n = true) : 0 ≤ n ∧ n ≤ 32 ∧ fst a n = a := by simpa [mayB] using h
theorem in_of {a n b m : Int} (h : inB a n b m = true) : mayB a n = true ∧ mayB b m = true ∧ n ≤ m ∧ fst b n = a := by simpa [inB] using h
theorem in_mk {a n b m : Int} (h1 : mayB a n = true) (h2 : mayB b m = true) (h3 : n ≤ m) (h4 : fst b n = a) : inB a n b m = true := by simp [inB, h1, h2, h3, h4]

theorem cmp_neg (a n b m : Int) : cmpI b m a n = - cmpI a n b m := by
  unfold cmpI; (repeat' split) <;> omega
theorem cmp_bd (a n b m : Int) : -1 ≤ cmpI a n b m ∧ cmpI a n b m ≤ 1 := by
  unfold cmpI; (repeat' split) <;> omega
theorem cmp_le {a n b m : Int} : cmpI a n b m ≤ 0 ↔ a < b ∨ (a = b ∧ n ≤ m) := by
  unfold cmpI; (repeat' split) <;> omega
theorem cmp_lt {a n b m : Int} : cmpI a n b m < 0 ↔ a < b ∨ (a = b ∧ n < m) := by
  unfold cmpI; (repeat' split) <;> omega
theorem cmp_tr {a n b m c r : Int} (h : cmpI a n b m < 0) (h2 : cmpI b m c r < 0) : cmpI a n c r < 0 := by
  rw [cmp_lt] at *; omega
theorem in_cmp {a n c r : Int} (h : inB a n c r = true) : cmpI a n c r ≤ 0 := by
  obtain ⟨_, _, h3, h4⟩ := in_of h
  have := fst_le (a := c) (n := n)
  rw [cmp_le]; omega
theorem in_mid {a n b m c r : Int} (h : inB a n c r = true) (hb : mayB b m = true) (h1 : cmpI a n b m ≤ 0) (h2 : cmpI b m c r ≤ 0) : inB a n b m = true := by
  obtain ⟨ha, _, h3, h4⟩ := in_of h
  obtain ⟨n0, n1, n2⟩ := may_of ha
  obtain ⟨m0, m1, m2⟩ := may_of hb
  rw [cmp_le] at h1 h2
  have e1 := fst_mono (a := a) (b := b) (n := n) (by omega)
  have e2 := fst_mono (a := b) (b := c) (n := n) (by omega)
  have e3 : fst b n = a := by omega
  refine in_mk ha hb ?_ e3
  rcases Int.lt_or_le m n with hlt | hle
  · have := fst_more m0 (Int.le_of_lt hlt) n1 m2
    omega
  · exact hle
theorem in_tr {a n b m c r : Int} (h : inB a n b m = true) (h2 : inB b m c r = true) : inB a n c r = true := by
  obtain ⟨ha, hb, h3, h4⟩ := in_of h
  obtain ⟨_, hc, h5, h6⟩ := in_of h2
  obtain ⟨n0, n1, n2⟩ := may_of ha
  obtain ⟨m0, m1, m2⟩ := may_of hb
  refine in_mk ha hc (by omega) ?_
  rw [← fst_fst n0 h3 m1, h6]; exact h4

end Wp
end Go.Proofs.Ytdjhgahdiggahaa
