/- A slice that reads as a list of things of k cells each.
   Arguments that are bytes, and lists of bytes, opened.
   A flow's hash: the reference's walk. -/
import Derived.ProofKit
import Derived.OpenShut
import Derived.Deep.Matrix
import Derived.Deep.Slices
import Derived.Lib.SmallJoins
import Derived.Test.YtdjhgahdiggahaaZ01
import Derived.Test.YtdjhgahdiggahaaZ03
import Derived.Test.YtdjhgahdiggahaaZ05
import Derived.Test.YtdjhgahdiggahaaZ07
import Derived.Test.YtdjhgahdiggahaaZ10

set_option linter.unusedSimpArgs false
set_option linter.unusedVariables false
namespace Go.Proofs.Ytdjhgahdiggahaa
open Go.RowKit
attribute [local go_sem ↓] Go.wp_at_zero Go.wp_at_succ
open Sp

set_option maxRecDepth 100000 in
theorem chg_grown2 {w w' : World} {row : Option Nat} (h : w.grownBy w' row) : Chg row.toList w w' := ⟨⟨h.os, h.tape, h.output, h.size, fun b hb => by omega⟩, fun b hb hn => h.block b hb (fun e => hn (by rw [← e]; simp))⟩
set_option maxRecDepth 100000 in
theorem mkz {K z : Nat} {LB X LL : List UInt8} (h : z = fnv K (LB ++ X)) (hx : X = []) (hl : LL = LB) : z = fnv K LL := by rw [h, hx, List.append_nil, hl]
set_option maxRecDepth 100000 in
theorem mkz2 {K z : Nat} {LB X T LL : List UInt8} (h : z = fnv K (LB ++ X)) (hx : X = T) (hl : LL = LB ++ T) : z = fnv K LL := by rw [h, hx, hl]
set_option maxRecDepth 100000 in
theorem st1_64 (z : Nat) (hz : z < 4294967296) (x : UInt8) : (IntKind.u64.wrap (bits .xor .u64 (z : Int) (IntKind.u64.wrap (x.toNat : Int)) * 16777619)).tmod 4294967296 = ((st1 z x : Nat) : Int) := by
  have h1 := x.toNat_lt
  have e1 : IntKind.u64.wrap (x.toNat : Int) = (x.toNat : Int) := by
    show (x.toNat : Int) % 18446744073709551616 = _
    omega
  rw [e1, u64_xor_nat z x.toNat (by omega) (by omega)]
  have h2 : z ^^^ x.toNat < 2 ^ 32 := Nat.xor_lt_two_pow hz (by omega)
  unfold st1
  generalize z ^^^ x.toNat = a at h2 ⊢
  have e2 : IntKind.u64.wrap ((a : Int) * 16777619) = ((a * 16777619 : Nat) : Int) := by
    show ((a : Int) * 16777619) % 18446744073709551616 = _
    omega
  rw [e2, show (4294967296 : Int) = ((4294967296 : Nat) : Int) from rfl, ← Int.ofNat_tmod]
set_option maxRecDepth 100000 in
theorem blk_byte {n b : Nat} {W : World} (h : n < 256) (hX : BlkAt 5 b [.int .u8 ((n : Nat) : Int)] W) : Bytes W (.slice (some ⟨b, 0, none⟩) 1 1) [UInt8.ofNat n] := by
  rw [byte1 h] at hX
  refine .inr ⟨b, 0, 1, rfl, BlkAt.lt hX, Nat.le_refl 1, fun i x hx => ?_⟩
  rw [Nat.zero_add]
  match i, hx with
  | 0, hx => cases hx; exact hX.cell (j := 0) rfl
  | i + 1, hx => simp at hx
set_option maxRecDepth 100000 in
theorem hashR_no {w : World} {v : Value} {l : List UInt8} (hv : Bytes w v l) (hl : l.length ≤ 1000000) (hf : flt l ≠ 0) :
    Calls Try.prog 43 #[v] w fun e w' => e = .returned (.tuple #[.int .u32 0, .bool false]) ∧ Below w.heap.size w w' := by
  have hp := prsR_any v l hl w hv
  obtain ⟨a, c, rfl⟩ := hv.form
  obtain ⟨h, hh⟩ : ∃ h, h = hdP l := ⟨_, rfl⟩
  obtain ⟨f, hff⟩ : ∃ f, f = flt l := ⟨_, rfl⟩
  unfold PrsR at hp
  rw [← hh, ← hff] at hp
  rw [← hff] at hf
  have HP := Lib.hid hp
  have k5 : ((f : Int) != 0) = true := by rw [bne_iff_ne]; omega
  clear hp hh hff hv hl
  go_enter Try.func43, Try.ntmps43
  go_wp2_with fail
  refine HP.out.mono ?_
  rintro e w1 ⟨u, v, rfl, hu, hvv, hb1⟩
  obtain ⟨ua, uc, rfl⟩ := hu.form
  obtain ⟨pa, pc, rfl⟩ := hvv.form
  have HBA := Lib.hid (hb1.alloc hb1.size (.cells #[.int .u8 (h.tos : Nat), .int .u16 (h.id : Nat), .bool h.ev, .bool h.df, .bool h.mf, .int .i64 h.off, .int .u8 (h.ttl : Nat), .int .u8 (h.pr : Nat), .int .u32 (h.src : Nat), .int .u32 (h.dst : Nat), .slice ua (opP l).length uc] 106))
  obtain ⟨on, hon⟩ : ∃ n, n = (opP l).length := ⟨_, rfl⟩
  obtain ⟨pn, hpn⟩ : ∃ n, n = (plP l).length := ⟨_, rfl⟩
  rw [← hon] at HBA
  rw [← hon, ← hpn]
  clear hu hvv hb1 hon hpn
  go_wp2_with fail
  go_ret2
  exact ⟨rfl, HBA.out⟩
set_option maxHeartbeats 8000000 in
set_option maxRecDepth 100000 in
theorem hashR_yes {w : World} {v : Value} {l : List UInt8} (hv : Bytes w v l) (hl : l.length ≤ 1000000) (hf : flt l = 0) :
    Calls Try.prog 43 #[v] w fun e w' => e = .returned (.tuple #[.int .u32 (hashH (hdP l) (plP l) : Nat), .bool true]) ∧ Below w.heap.size w w' := by
  have hp := prsR_any v l hl w hv
  have hok := hdP_ok l
  have hpl := (prs_lens hf).2.2.2.2.2.2.2
  obtain ⟨a, c, rfl⟩ := hv.form
  obtain ⟨h, hh⟩ : ∃ h, h = hdP l := ⟨_, rfl⟩
  obtain ⟨P, hP⟩ : ∃ P, P = plP l := ⟨_, rfl⟩
  unfold PrsR at hp
  rw [← hh, ← hP, hf] at hp
  rw [← hh, ← hP]
  rw [← hh] at hok
  rw [← hP] at hpl
  obtain ⟨ln, hln⟩ : ∃ n, n = l.length := ⟨_, rfl⟩
  rw [← hln] at hp ⊢
  obtain ⟨K0, hK0⟩ : ∃ K : Nat, K = 2166136261 := ⟨_, rfl⟩
  have HKL : Hid (K0 < 4294967296) := by
    show K0 < _
    rw [hK0]; decide
  have HK0 := Lib.hid hK0
  have hz1 : hashH h P = fnv K0 (((putL h.src 4 ++ putL h.dst 4) ++ [UInt8.ofNat h.pr]) ++ pthI h P) := by
    unfold hashH
    rw [fnvs_flat, ← hK0]
    congr 1
    simp
  obtain ⟨z, hz⟩ : ∃ z, z = hashH h P := ⟨_, rfl⟩
  rw [← hz] at hz1 ⊢
  have HZ := Lib.hid hz1
  have HP := Lib.hid hp
  have HPL := Lib.hid hpl
  have HOK := Lib.hid hok
  have HFG := Lib.hid (fun (ua : Option Addr) (un uc : Nat) (W : World) => fragR_any h (.slice ua un uc) W ⟨_, _, _, rfl⟩)
  have q1 : ((h.src : Nat) : Int) < 4294967296 := by have := hok.src; omega
  have q2 : ((h.dst : Nat) : Int) < 4294967296 := by have := hok.dst; omega
  have q3 : h.pr < 256 := hok.pr
  have HWR : Hid (IntKind.u64.wrap (h.src : Int) = (h.src : Int) ∧ IntKind.u64.wrap (h.dst : Int) = (h.dst : Int)) := by
    refine ⟨?_, ?_⟩
    · show (h.src : Int) % 18446744073709551616 = _
      omega
    · show (h.dst : Int) % 18446744073709551616 = _
      omega
  clear hp hh hP hv hl hok hpl hz hz1 hln hK0
  go_enter Try.func43, Try.ntmps43
  go_wp2_with fail
  refine HP.out.mono ?_
  rintro e w1 ⟨u, v, rfl, hu, hvv, hb1⟩
  obtain ⟨ua, uc, rfl⟩ := hu.form
  obtain ⟨pa, pc, rfl⟩ := hvv.form
  obtain ⟨on, hon⟩ : ∃ n, n = (opP l).length := ⟨_, rfl⟩
  obtain ⟨pn, hpn⟩ : ∃ n, n = P.length := ⟨_, rfl⟩
  rw [← hpn] at hvv
  have HPN := Lib.hid hpn
  rw [← hon, ← hpn]
  obtain ⟨w2, hw2⟩ : ∃ w2, w2 = w1.alloc (.cells #[.int .u8 (h.tos : Nat), .int .u16 (h.id : Nat), .bool h.ev, .bool h.df, .bool h.mf, .int .i64 h.off, .int .u8 (h.ttl : Nat), .int .u8 (h.pr : Nat), .int .u32 (h.src : Nat), .int .u32 (h.dst : Nat), .slice ua on uc] 106) := ⟨_, rfl⟩
  have hb2 : Below w1.heap.size w1 w2 := by rw [hw2]; exact ba1 _ _
  have HB2 := Lib.hid (below_of hb1 hb2)
  have hX : BlkAt 106 w1.heap.size [.int .u8 (h.tos : Nat), .int .u16 (h.id : Nat), .bool h.ev, .bool h.df, .bool h.mf, .int .i64 h.off, .int .u8 (h.ttl : Nat), .int .u8 (h.pr : Nat), .int .u32 (h.src : Nat), .int .u32 (h.dst : Nat), .slice ua on uc] w2 := by rw [hw2]; exact BlkAt.new w1 _
  obtain ⟨hb, hhb⟩ : ∃ b, b = w1.heap.size := ⟨_, rfl⟩
  rw [← hhb] at hX
  have HG : Hid (∀ W, Below w2.heap.size w2 W → BlkAt 106 hb [.int .u8 (h.tos : Nat), .int .u16 (h.id : Nat), .bool h.ev, .bool h.df, .bool h.mf, .int .i64 h.off, .int .u8 (h.ttl : Nat), .int .u8 (h.pr : Nat), .int .u32 (h.src : Nat), .int .u32 (h.dst : Nat), .slice ua on uc] W ∧ Bytes W (.slice pa pn pc) P) := by
    have : ∀ W, Below w2.heap.size w2 W → BlkAt 106 hb [.int .u8 (h.tos : Nat), .int .u16 (h.id : Nat), .bool h.ev, .bool h.df, .bool h.mf, .int .i64 h.off, .int .u8 (h.ttl : Nat), .int .u8 (h.pr : Nat), .int .u32 (h.src : Nat), .int .u32 (h.dst : Nat), .slice ua on uc] W ∧ Bytes W (.slice pa pn pc) P := fun W hW => ⟨hX.later hW, (hvv.later hb2).later hW⟩
    exact this
  have HW2 := Lib.hid hw2
  have HHB := Lib.hid hhb
  clear hu hvv hb1 hb2 hon hpn hw2 hX hhb
  go_wp2_with fail
  rw [← HW2.out, ← HHB.out]
  refine wp_region_fin (S := fun w' => Below w2.heap.size w2 w') (fun A w3 => ∃ (v x18 x19 x20 x21 x22 x23 x24 x25 x26 x27 x28 x29 x30 : Value), A = ⟨#[.slice a ln c, undef, .int .u32 0, .bool false, .pointer (some ⟨hb, 0, none⟩), .slice pa pn pc, .int .i64 0, v, undef, undef, .tuple #[.agg #[.int .u8 (h.tos : Nat), .int .u16 (h.id : Nat), .bool h.ev, .bool h.df, .bool h.mf, .int .i64 h.off, .int .u8 (h.ttl : Nat), .int .u8 (h.pr : Nat), .int .u32 (h.src : Nat), .int .u32 (h.dst : Nat), .slice ua on uc], .slice pa pn pc, .int .i64 0], .slice a ln c, .tuple #[.agg #[.int .u8 (h.tos : Nat), .int .u16 (h.id : Nat), .bool h.ev, .bool h.df, .bool h.mf, .int .i64 h.off, .int .u8 (h.ttl : Nat), .int .u8 (h.pr : Nat), .int .u32 (h.src : Nat), .int .u32 (h.dst : Nat), .slice ua on uc], .slice pa pn pc, .int .i64 0], .agg #[.int .u8 (h.tos : Nat), .int .u16 (h.id : Nat), .bool h.ev, .bool h.df, .bool h.mf, .int .i64 h.off, .int .u8 (h.ttl : Nat), .int .u8 (h.pr : Nat), .int .u32 (h.src : Nat), .int .u32 (h.dst : Nat), .slice ua on uc], .slice pa pn pc, .int .i64 0, .int .i64 0, .bool false, x18, x19, x20, x21, x22, x23, x24, x25, x26, x27, x28, x29, x30, undef, undef, undef, undef, undef, undef, undef, undef, undef, undef, undef, undef, undef, undef, undef, undef, undef, undef, undef, undef, undef, undef, undef, undef, undef, undef, undef, undef, undef, undef, undef, undef, undef, undef, undef, undef, undef, undef, undef], []⟩ ∧ Hid (OwnB w3 w2.heap.size v ((putL h.src 4 ++ putL h.dst 4) ++ [UInt8.ofNat h.pr])) ∧ Hid (Below w2.heap.size w2 w3)) (by kernel_rfl) (Below.refl _ _).drew (fun A w3 hI => ?_) (fun hfin hHeld => ?_)
  rotate_left
  · obtain ⟨wD, hwD⟩ : ∃ wD, wD = w2.drew := ⟨_, rfl⟩
    rw [← hwD] at hHeld ⊢
    clear hwD
    (refine wpAnyH_take (i := 0) (v := ?_) rfl (by kernel_rfl) (by kernel_rfl) (by kernel_rfl) (fun _ _ _ h => h) (Or.inl ⟨by rfl, ?_⟩) hHeld ?_; rotate_left; (focus (intro w hSw; (try dsimp only at hSw); go_simp; try with_reducible rfl)); (try simp only [Act.put, List.setIfInBounds_toArray, List.set_cons_zero, List.set_cons_succ, List.getElem_toArray, List.getElem_cons_zero]))
    (refine wpAnyH_take (i := 1) (v := ?_) rfl (by kernel_rfl) (by kernel_rfl) (by kernel_rfl) (fun _ _ _ h => h) (Or.inl ⟨by rfl, ?_⟩) hHeld ?_; rotate_left; (focus (intro w hSw; (try dsimp only at hSw); go_simp; (have cc := (HG.out _ hSw).1.cell (j := 8) rfl; go_simp; try with_reducible rfl))); (try simp only [Act.put, List.setIfInBounds_toArray, List.set_cons_zero, List.set_cons_succ, List.getElem_toArray, List.getElem_cons_zero, List.getElem_cons_succ]))
    (refine wpAnyH_take (i := 2) (v := ?_) rfl (by kernel_rfl) (by kernel_rfl) (by kernel_rfl) (fun _ _ _ h => h) (Or.inl ⟨by rfl, ?_⟩) hHeld ?_; rotate_left; (focus (intro w hSw; (try dsimp only at hSw); go_simp; (have h1 := HWR.out.1; go_simp; try with_reducible rfl))); (try simp only [Act.put, List.setIfInBounds_toArray, List.set_cons_zero, List.set_cons_succ, List.getElem_toArray, List.getElem_cons_zero, List.getElem_cons_succ]))
    (refine wpAnyH_take (i := 4) (v := ?_) rfl (by kernel_rfl) (by kernel_rfl) (by kernel_rfl) (fun _ _ _ h => h) (Or.inl ⟨by rfl, ?_⟩) hHeld ?_; rotate_left; (focus (intro w hSw; (try dsimp only at hSw); go_simp; try with_reducible rfl)); (try simp only [Act.put, List.setIfInBounds_toArray, List.set_cons_zero, List.set_cons_succ, List.getElem_toArray, List.getElem_cons_zero, List.getElem_cons_succ]))
    (refine wpAnyH_take (i := 5) (v := ?_) rfl (by kernel_rfl) (by kernel_rfl) (by kernel_rfl) (fun _ _ _ h => h) (Or.inl ⟨by rfl, ?_⟩) hHeld ?_; rotate_left; (focus (intro w hSw; (try dsimp only at hSw); go_simp; (have cc := (HG.out _ hSw).1.cell (j := 9) rfl; go_simp; try with_reducible rfl))); (try simp only [Act.put, List.setIfInBounds_toArray, List.set_cons_zero, List.set_cons_succ, List.getElem_toArray, List.getElem_cons_zero, List.getElem_cons_succ]))
    (refine wpAnyH_take (i := 6) (v := ?_) rfl (by kernel_rfl) (by kernel_rfl) (by kernel_rfl) (fun _ _ _ h => h) (Or.inl ⟨by rfl, ?_⟩) hHeld ?_; rotate_left; (focus (intro w hSw; (try dsimp only at hSw); go_simp; (have h1 := HWR.out.2; go_simp; try with_reducible rfl))); (try simp only [Act.put, List.setIfInBounds_toArray, List.set_cons_zero, List.set_cons_succ, List.getElem_toArray, List.getElem_cons_zero, List.getElem_cons_succ]))
    (refine wpAnyH_take (i := 9) (v := ?_) rfl (by kernel_rfl) (by kernel_rfl) (by kernel_rfl) (fun _ _ _ h => h) (Or.inl ⟨by rfl, ?_⟩) hHeld ?_; rotate_left; (focus (intro w hSw; (try dsimp only at hSw); go_simp; try with_reducible rfl)); (try simp only [Act.put, List.setIfInBounds_toArray, List.set_cons_zero, List.set_cons_succ, List.getElem_toArray, List.getElem_cons_zero, List.getElem_cons_succ]))
    (refine wpAnyH_take (i := 10) (v := ?_) rfl (by kernel_rfl) (by kernel_rfl) (by kernel_rfl) (fun _ _ _ h => h) (Or.inl ⟨by rfl, ?_⟩) hHeld ?_; rotate_left; (focus (intro w hSw; (try dsimp only at hSw); go_simp; (have cc := (HG.out _ hSw).1.cell (j := 7) rfl; go_simp; try with_reducible rfl))); (try simp only [Act.put, List.setIfInBounds_toArray, List.set_cons_zero, List.set_cons_succ, List.getElem_toArray, List.getElem_cons_zero, List.getElem_cons_succ]))
    refine wpAnyH_ready (rs := [3, 11]) (by kernel_rfl) (by simp) ?_
    refine AllReadyH.cons rfl (fun K hK => ?_) (AllReadyH.cons rfl (fun K hK => ?_) AllReadyH.nil)
    · go_simp
      refine (putRO_any h.src 4 _ (by omega) (by omega)).mono ?_
      rintro e wX ⟨v3, rfl, ho3, hb3⟩
      have F3 : OwnB wX w2.heap.size v3 (putL h.src 4) := OwnB.weak (show OwnB wX _ v3 (putL h.src 4) from ho3) hHeld.size
      have hNEW := hHeld.trans (hb3.mono hHeld.size)
      refine hK.out _ _ ?_ (fun hHeldN => ?_)
      (focus ((try dsimp only); exact hNEW))
      clear hK K hHeld
      have hHeld := hHeldN
      clear hHeldN
      (try simp only [Act.put, List.setIfInBounds_toArray, List.set_cons_zero, List.set_cons_succ, List.getElem_toArray, List.getElem_cons_zero, List.getElem_cons_succ])
      clear hNEW ho3 hb3
      refine wpAnyH_ready (rs := [7, 11]) (by kernel_rfl) (by simp) ?_
      refine AllReadyH.cons rfl (fun K hK => ?_) (AllReadyH.cons rfl (fun K hK => ?_) AllReadyH.nil)
      · go_simp
        refine (putRO_any h.dst 4 _ (by omega) (by omega)).mono ?_
        rintro e wY ⟨v4, rfl, ho4, hb4⟩
        have F4 : Bytes wY v4 (putL h.dst 4) := Bytes.of_own ho4
        have hNEW := hHeld.trans (hb4.mono hHeld.size)
        replace F3 := OwnB.later F3 hb4
        refine hK.out _ _ ?_ (fun hHeldN => ?_)
        (focus ((try dsimp only); exact hNEW))
        clear hK K hHeld
        have hHeld := hHeldN
        clear hHeldN
        (try simp only [Act.put, List.setIfInBounds_toArray, List.set_cons_zero, List.set_cons_succ, List.getElem_toArray, List.getElem_cons_zero, List.getElem_cons_succ])
        clear hNEW ho4 hb4
        refine wpAnyH_ready (rs := [8, 11]) (by kernel_rfl) (by simp) ?_
        refine AllReadyH.cons rfl (fun K hK => ?_) (AllReadyH.cons rfl (fun K hK => ?_) AllReadyH.nil)
        · refine step_app rfl (.tmp 21) (.tmp 25) rfl w2.heap.size v3 v4 (putL h.src 4) (putL h.dst 4) rfl rfl F3 F4 (by simp [putL_length]) hHeld.size ?_
          intro v5 wZ F5 hb5 hgr
          have hNEW := hHeld.trans hb5
          refine hK.out _ _ ?_ (fun hHeldN => ?_)
          (focus ((try dsimp only); exact hNEW))
          clear hK K hHeld
          have hHeld := hHeldN
          clear hHeldN
          (try simp only [Act.put, List.setIfInBounds_toArray, List.set_cons_zero, List.set_cons_succ, List.getElem_toArray, List.getElem_cons_zero, List.getElem_cons_succ])
          clear hNEW hb5 hgr
          refine wpAnyH_ready (rs := [11]) (by kernel_rfl) (by simp) ?_
          refine AllReadyH.cons rfl (fun K hK => ?_) AllReadyH.nil
          go_simp
          skip
          have hbu : Below wZ.heap.size wZ (wZ.alloc (.cells #[.int .u8 ((h.pr : Nat) : Int)] 5)) := ba1 _ _
          have X11 : BlkAt 5 wZ.heap.size [.int .u8 ((h.pr : Nat) : Int)] (wZ.alloc (.cells #[.int .u8 ((h.pr : Nat) : Int)] 5)) := BlkAt.new _ _
          have hNEW := hHeld.trans (hbu.mono hHeld.size)
          replace F5 := OwnB.later F5 hbu
          refine hK.out _ _ ?_ (fun hHeldN => ?_)
          (focus ((try dsimp only); exact hNEW))
          clear hK K hHeld
          have hHeld := hHeldN
          clear hHeldN
          (try simp only [Act.put, List.setIfInBounds_toArray, List.set_cons_zero, List.set_cons_succ, List.getElem_toArray, List.getElem_cons_zero, List.getElem_cons_succ])
          clear hbu hNEW
          obtain ⟨b11, hb11⟩ : ∃ b, b = wZ.heap.size := ⟨_, rfl⟩
          obtain ⟨wQ, hwQ⟩ : ∃ wQ, wQ = wZ.alloc (.cells #[.int .u8 ((h.pr : Nat) : Int)] 5) := ⟨_, rfl⟩
          rw [← hwQ, ← hb11] at X11
          rw [← hwQ] at hHeld
          rw [← hwQ] at F5
          rw [← hwQ, ← hb11]
          clear hwQ hb11
          have F29 : Bytes wQ (.slice (some ⟨b11, 0, none⟩) 1 1) [UInt8.ofNat h.pr] := blk_byte q3 X11
          refine wpAnyH_ready (rs := [12]) (by kernel_rfl) (by simp) ?_
          refine AllReadyH.cons rfl (fun K hK => ?_) AllReadyH.nil
          refine step_app rfl (.tmp 26) (.tmp 29) rfl w2.heap.size _ _ (putL h.src 4 ++ putL h.dst 4) [UInt8.ofNat h.pr] rfl rfl F5 F29 (by simp [putL_length]) hHeld.size ?_
          intro v6 wF F6 hb6 hgr6
          have hNEW := hHeld.trans hb6
          refine hK.out _ _ ?_ (fun hHeldN => ?_)
          (focus ((try dsimp only); exact hNEW))
          clear hK K hHeld
          have hHeld := hHeldN
          clear hHeldN
          (try simp only [Act.put, List.setIfInBounds_toArray, List.set_cons_zero, List.set_cons_succ, List.getElem_toArray, List.getElem_cons_zero, List.getElem_cons_succ])
          (refine wpAnyH_take (i := 13) (v := ?_) rfl (by kernel_rfl) (by kernel_rfl) (by kernel_rfl) (fun _ _ _ h => h) (Or.inl ⟨by rfl, ?_⟩) hHeld ?_; rotate_left; (focus (intro w hSw; (try dsimp only at hSw); go_simp; try with_reducible rfl)); (try simp only [Act.put, List.setIfInBounds_toArray, List.set_cons_zero, List.set_cons_succ, List.getElem_toArray, List.getElem_cons_zero, List.getElem_cons_succ]))
          refine wpAnyH_done (by kernel_rfl) ?_ _
          exact hfin _ _ ⟨_, _, _, _, _, _, _, _, _, _, _, _, _, _, rfl, F6, hHeld⟩
        · go_simp
          skip
          have hbu : Below wY.heap.size wY (wY.alloc (.cells #[.int .u8 ((h.pr : Nat) : Int)] 5)) := ba1 _ _
          have X11 : BlkAt 5 wY.heap.size [.int .u8 ((h.pr : Nat) : Int)] (wY.alloc (.cells #[.int .u8 ((h.pr : Nat) : Int)] 5)) := BlkAt.new _ _
          have hNEW := hHeld.trans (hbu.mono hHeld.size)
          have NE : ∀ g, v3.ownBlock = some g → g ≠ wY.heap.size := fun g hg e => by obtain ⟨cur, hc⟩ := own_block F3 hg; have := (Array.getElem?_eq_some_iff.1 hc).1; omega
          replace F3 := OwnB.later F3 hbu
          replace F4 := F4.later hbu
          refine hK.out _ _ ?_ (fun hHeldN => ?_)
          (focus ((try dsimp only); exact hNEW))
          clear hK K hHeld
          have hHeld := hHeldN
          clear hHeldN
          (try simp only [Act.put, List.setIfInBounds_toArray, List.set_cons_zero, List.set_cons_succ, List.getElem_toArray, List.getElem_cons_zero, List.getElem_cons_succ])
          clear hbu hNEW
          obtain ⟨b11, hb11⟩ : ∃ b, b = wY.heap.size := ⟨_, rfl⟩
          obtain ⟨wQ, hwQ⟩ : ∃ wQ, wQ = wY.alloc (.cells #[.int .u8 ((h.pr : Nat) : Int)] 5) := ⟨_, rfl⟩
          rw [← hwQ, ← hb11] at X11
          rw [← hwQ] at hHeld
          rw [← hwQ] at F3
          rw [← hb11] at NE
          rw [← hwQ] at F4
          rw [← hwQ, ← hb11]
          clear hwQ hb11
          refine wpAnyH_ready (rs := [8]) (by kernel_rfl) (by simp) ?_
          refine AllReadyH.cons rfl (fun K hK => ?_) AllReadyH.nil
          refine step_app rfl (.tmp 21) (.tmp 25) rfl w2.heap.size v3 v4 (putL h.src 4) (putL h.dst 4) rfl rfl F3 F4 (by simp [putL_length]) hHeld.size ?_
          intro v5 wZ F5 hb5 hgr
          replace X11 := (chg_grown2 hgr).blk X11 (fun hm => NE _ (by simpa using hm) rfl)
          have hNEW := hHeld.trans hb5
          refine hK.out _ _ ?_ (fun hHeldN => ?_)
          (focus ((try dsimp only); exact hNEW))
          clear hK K hHeld
          have hHeld := hHeldN
          clear hHeldN
          (try simp only [Act.put, List.setIfInBounds_toArray, List.set_cons_zero, List.set_cons_succ, List.getElem_toArray, List.getElem_cons_zero, List.getElem_cons_succ])
          clear hNEW hb5 hgr
          have F29 : Bytes wZ (.slice (some ⟨b11, 0, none⟩) 1 1) [UInt8.ofNat h.pr] := blk_byte q3 X11
          refine wpAnyH_ready (rs := [12]) (by kernel_rfl) (by simp) ?_
          refine AllReadyH.cons rfl (fun K hK => ?_) AllReadyH.nil
          refine step_app rfl (.tmp 26) (.tmp 29) rfl w2.heap.size _ _ (putL h.src 4 ++ putL h.dst 4) [UInt8.ofNat h.pr] rfl rfl F5 F29 (by simp [putL_length]) hHeld.size ?_
          intro v6 wF F6 hb6 hgr6
          have hNEW := hHeld.trans hb6
          refine hK.out _ _ ?_ (fun hHeldN => ?_)
          (focus ((try dsimp only); exact hNEW))
          clear hK K hHeld
          have hHeld := hHeldN
          clear hHeldN
          (try simp only [Act.put, List.setIfInBounds_toArray, List.set_cons_zero, List.set_cons_succ, List.getElem_toArray, List.getElem_cons_zero, List.getElem_cons_succ])
          (refine wpAnyH_take (i := 13) (v := ?_) rfl (by kernel_rfl) (by kernel_rfl) (by kernel_rfl) (fun _ _ _ h => h) (Or.inl ⟨by rfl, ?_⟩) hHeld ?_; rotate_left; (focus (intro w hSw; (try dsimp only at hSw); go_simp; try with_reducible rfl)); (try simp only [Act.put, List.setIfInBounds_toArray, List.set_cons_zero, List.set_cons_succ, List.getElem_toArray, List.getElem_cons_zero, List.getElem_cons_succ]))
          refine wpAnyH_done (by kernel_rfl) ?_ _
          exact hfin _ _ ⟨_, _, _, _, _, _, _, _, _, _, _, _, _, _, rfl, F6, hHeld⟩
      · go_simp
        skip
        have hbu : Below wX.heap.size wX (wX.alloc (.cells #[.int .u8 ((h.pr : Nat) : Int)] 5)) := ba1 _ _
        have X11 : BlkAt 5 wX.heap.size [.int .u8 ((h.pr : Nat) : Int)] (wX.alloc (.cells #[.int .u8 ((h.pr : Nat) : Int)] 5)) := BlkAt.new _ _
        have hNEW := hHeld.trans (hbu.mono hHeld.size)
        have NE : ∀ g, v3.ownBlock = some g → g ≠ wX.heap.size := fun g hg e => by obtain ⟨cur, hc⟩ := own_block F3 hg; have := (Array.getElem?_eq_some_iff.1 hc).1; omega
        replace F3 := OwnB.later F3 hbu
        refine hK.out _ _ ?_ (fun hHeldN => ?_)
        (focus ((try dsimp only); exact hNEW))
        clear hK K hHeld
        have hHeld := hHeldN
        clear hHeldN
        (try simp only [Act.put, List.setIfInBounds_toArray, List.set_cons_zero, List.set_cons_succ, List.getElem_toArray, List.getElem_cons_zero, List.getElem_cons_succ])
        clear hbu hNEW
        obtain ⟨b11, hb11⟩ : ∃ b, b = wX.heap.size := ⟨_, rfl⟩
        obtain ⟨wQ, hwQ⟩ : ∃ wQ, wQ = wX.alloc (.cells #[.int .u8 ((h.pr : Nat) : Int)] 5) := ⟨_, rfl⟩
        rw [← hwQ, ← hb11] at X11
        rw [← hwQ] at hHeld
        rw [← hwQ] at F3
        rw [← hb11] at NE
        rw [← hwQ, ← hb11]
        clear hwQ hb11
        refine wpAnyH_ready (rs := [7]) (by kernel_rfl) (by simp) ?_
        refine AllReadyH.cons rfl (fun K hK => ?_) AllReadyH.nil
        go_simp
        refine (putRO_any h.dst 4 _ (by omega) (by omega)).mono ?_
        rintro e wY ⟨v4, rfl, ho4, hb4⟩
        have F4 : Bytes wY v4 (putL h.dst 4) := Bytes.of_own ho4
        have hNEW := hHeld.trans (hb4.mono hHeld.size)
        replace F3 := OwnB.later F3 hb4
        replace X11 := X11.later hb4
        refine hK.out _ _ ?_ (fun hHeldN => ?_)
        (focus ((try dsimp only); exact hNEW))
        clear hK K hHeld
        have hHeld := hHeldN
        clear hHeldN
        (try simp only [Act.put, List.setIfInBounds_toArray, List.set_cons_zero, List.set_cons_succ, List.getElem_toArray, List.getElem_cons_zero, List.getElem_cons_succ])
        clear hNEW ho4 hb4
        refine wpAnyH_ready (rs := [8]) (by kernel_rfl) (by simp) ?_
        refine AllReadyH.cons rfl (fun K hK => ?_) AllReadyH.nil
        refine step_app rfl (.tmp 21) (.tmp 25) rfl w2.heap.size v3 v4 (putL h.src 4) (putL h.dst 4) rfl rfl F3 F4 (by simp [putL_length]) hHeld.size ?_
        intro v5 wZ F5 hb5 hgr
        replace X11 := (chg_grown2 hgr).blk X11 (fun hm => NE _ (by simpa using hm) rfl)
        have hNEW := hHeld.trans hb5
        refine hK.out _ _ ?_ (fun hHeldN => ?_)
        (focus ((try dsimp only); exact hNEW))
        clear hK K hHeld
        have hHeld := hHeldN
        clear hHeldN
        (try simp only [Act.put, List.setIfInBounds_toArray, List.set_cons_zero, List.set_cons_succ, List.getElem_toArray, List.getElem_cons_zero, List.getElem_cons_succ])
        clear hNEW hb5 hgr
        have F29 : Bytes wZ (.slice (some ⟨b11, 0, none⟩) 1 1) [UInt8.ofNat h.pr] := blk_byte q3 X11
        refine wpAnyH_ready (rs := [12]) (by kernel_rfl) (by simp) ?_
        refine AllReadyH.cons rfl (fun K hK => ?_) AllReadyH.nil
        refine step_app rfl (.tmp 26) (.tmp 29) rfl w2.heap.size _ _ (putL h.src 4 ++ putL h.dst 4) [UInt8.ofNat h.pr] rfl rfl F5 F29 (by simp [putL_length]) hHeld.size ?_
        intro v6 wF F6 hb6 hgr6
        have hNEW := hHeld.trans hb6
        refine hK.out _ _ ?_ (fun hHeldN => ?_)
        (focus ((try dsimp only); exact hNEW))
        clear hK K hHeld
        have hHeld := hHeldN
        clear hHeldN
        (try simp only [Act.put, List.setIfInBounds_toArray, List.set_cons_zero, List.set_cons_succ, List.getElem_toArray, List.getElem_cons_zero, List.getElem_cons_succ])
        (refine wpAnyH_take (i := 13) (v := ?_) rfl (by kernel_rfl) (by kernel_rfl) (by kernel_rfl) (fun _ _ _ h => h) (Or.inl ⟨by rfl, ?_⟩) hHeld ?_; rotate_left; (focus (intro w hSw; (try dsimp only at hSw); go_simp; try with_reducible rfl)); (try simp only [Act.put, List.setIfInBounds_toArray, List.set_cons_zero, List.set_cons_succ, List.getElem_toArray, List.getElem_cons_zero, List.getElem_cons_succ]))
        refine wpAnyH_done (by kernel_rfl) ?_ _
        exact hfin _ _ ⟨_, _, _, _, _, _, _, _, _, _, _, _, _, _, rfl, F6, hHeld⟩
    · go_simp
      skip
      have hbu : Below wD.heap.size wD (wD.alloc (.cells #[.int .u8 ((h.pr : Nat) : Int)] 5)) := ba1 _ _
      have X11 : BlkAt 5 wD.heap.size [.int .u8 ((h.pr : Nat) : Int)] (wD.alloc (.cells #[.int .u8 ((h.pr : Nat) : Int)] 5)) := BlkAt.new _ _
      have hNEW := hHeld.trans (hbu.mono hHeld.size)
      refine hK.out _ _ ?_ (fun hHeldN => ?_)
      (focus ((try dsimp only); exact hNEW))
      clear hK K hHeld
      have hHeld := hHeldN
      clear hHeldN
      (try simp only [Act.put, List.setIfInBounds_toArray, List.set_cons_zero, List.set_cons_succ, List.getElem_toArray, List.getElem_cons_zero, List.getElem_cons_succ])
      clear hbu hNEW
      obtain ⟨b11, hb11⟩ : ∃ b, b = wD.heap.size := ⟨_, rfl⟩
      obtain ⟨wQ, hwQ⟩ : ∃ wQ, wQ = wD.alloc (.cells #[.int .u8 ((h.pr : Nat) : Int)] 5) := ⟨_, rfl⟩
      rw [← hwQ, ← hb11] at X11
      rw [← hwQ] at hHeld
      rw [← hwQ, ← hb11]
      clear hwQ hb11
      refine wpAnyH_ready (rs := [3]) (by kernel_rfl) (by simp) ?_
      refine AllReadyH.cons rfl (fun K hK => ?_) AllReadyH.nil
      go_simp
      refine (putRO_any h.src 4 _ (by omega) (by omega)).mono ?_
      rintro e wX ⟨v3, rfl, ho3, hb3⟩
      have F3 : OwnB wX w2.heap.size v3 (putL h.src 4) := OwnB.weak (show OwnB wX _ v3 (putL h.src 4) from ho3) hHeld.size
      have hNEW := hHeld.trans (hb3.mono hHeld.size)
      have NE : ∀ g, v3.ownBlock = some g → g ≠ b11 := fun g hg e => by have h1 := own_base ho3 hg; have h2 := BlkAt.lt X11; omega
      replace X11 := X11.later hb3
      refine hK.out _ _ ?_ (fun hHeldN => ?_)
      (focus ((try dsimp only); exact hNEW))
      clear hK K hHeld
      have hHeld := hHeldN
      clear hHeldN
      (try simp only [Act.put, List.setIfInBounds_toArray, List.set_cons_zero, List.set_cons_succ, List.getElem_toArray, List.getElem_cons_zero, List.getElem_cons_succ])
      clear hNEW ho3 hb3
      refine wpAnyH_ready (rs := [7]) (by kernel_rfl) (by simp) ?_
      refine AllReadyH.cons rfl (fun K hK => ?_) AllReadyH.nil
      go_simp
      refine (putRO_any h.dst 4 _ (by omega) (by omega)).mono ?_
      rintro e wY ⟨v4, rfl, ho4, hb4⟩
      have F4 : Bytes wY v4 (putL h.dst 4) := Bytes.of_own ho4
      have hNEW := hHeld.trans (hb4.mono hHeld.size)
      replace F3 := OwnB.later F3 hb4
      replace X11 := X11.later hb4
      refine hK.out _ _ ?_ (fun hHeldN => ?_)
      (focus ((try dsimp only); exact hNEW))
      clear hK K hHeld
      have hHeld := hHeldN
      clear hHeldN
      (try simp only [Act.put, List.setIfInBounds_toArray, List.set_cons_zero, List.set_cons_succ, List.getElem_toArray, List.getElem_cons_zero, List.getElem_cons_succ])
      clear hNEW ho4 hb4
      refine wpAnyH_ready (rs := [8]) (by kernel_rfl) (by simp) ?_
      refine AllReadyH.cons rfl (fun K hK => ?_) AllReadyH.nil
      refine step_app rfl (.tmp 21) (.tmp 25) rfl w2.heap.size v3 v4 (putL h.src 4) (putL h.dst 4) rfl rfl F3 F4 (by simp [putL_length]) hHeld.size ?_
      intro v5 wZ F5 hb5 hgr
      replace X11 := (chg_grown2 hgr).blk X11 (fun hm => NE _ (by simpa using hm) rfl)
      have hNEW := hHeld.trans hb5
      refine hK.out _ _ ?_ (fun hHeldN => ?_)
      (focus ((try dsimp only); exact hNEW))
      clear hK K hHeld
      have hHeld := hHeldN
      clear hHeldN
      (try simp only [Act.put, List.setIfInBounds_toArray, List.set_cons_zero, List.set_cons_succ, List.getElem_toArray, List.getElem_cons_zero, List.getElem_cons_succ])
      clear hNEW hb5 hgr
      have F29 : Bytes wZ (.slice (some ⟨b11, 0, none⟩) 1 1) [UInt8.ofNat h.pr] := blk_byte q3 X11
      refine wpAnyH_ready (rs := [12]) (by kernel_rfl) (by simp) ?_
      refine AllReadyH.cons rfl (fun K hK => ?_) AllReadyH.nil
      refine step_app rfl (.tmp 26) (.tmp 29) rfl w2.heap.size _ _ (putL h.src 4 ++ putL h.dst 4) [UInt8.ofNat h.pr] rfl rfl F5 F29 (by simp [putL_length]) hHeld.size ?_
      intro v6 wF F6 hb6 hgr6
      have hNEW := hHeld.trans hb6
      refine hK.out _ _ ?_ (fun hHeldN => ?_)
      (focus ((try dsimp only); exact hNEW))
      clear hK K hHeld
      have hHeld := hHeldN
      clear hHeldN
      (try simp only [Act.put, List.setIfInBounds_toArray, List.set_cons_zero, List.set_cons_succ, List.getElem_toArray, List.getElem_cons_zero, List.getElem_cons_succ])
      (refine wpAnyH_take (i := 13) (v := ?_) rfl (by kernel_rfl) (by kernel_rfl) (by kernel_rfl) (fun _ _ _ h => h) (Or.inl ⟨by rfl, ?_⟩) hHeld ?_; rotate_left; (focus (intro w hSw; (try dsimp only at hSw); go_simp; try with_reducible rfl)); (try simp only [Act.put, List.setIfInBounds_toArray, List.set_cons_zero, List.set_cons_succ, List.getElem_toArray, List.getElem_cons_zero, List.getElem_cons_succ]))
      refine wpAnyH_done (by kernel_rfl) ?_ _
      exact hfin _ _ ⟨_, _, _, _, _, _, _, _, _, _, _, _, _, _, rfl, F6, hHeld⟩
  obtain ⟨v, x18, x19, x20, x21, x22, x23, x24, x25, x26, x27, x28, x29, x30, rfl, HO3, HB3⟩ := hI
  obtain ⟨LB, hLB⟩ : ∃ L, L = (putL h.src 4 ++ putL h.dst 4) ++ [UInt8.ofNat h.pr] := ⟨_, rfl⟩
  have hLl : LB.length ≤ 10 := by rw [hLB]; simp [putL_length]
  rw [← hLB] at HO3 HZ
  have HLL := Lib.hid hLl
  clear hLB hLl
  obtain ⟨va, vc, hvf⟩ := HO3.out.form
  subst hvf
  obtain ⟨n3, hn3⟩ : ∃ n, n = (LB).length := ⟨_, rfl⟩
  rw [← hn3] at HO3 ⊢
  have HN3 := Lib.hid hn3
  have hXH := (HG.out _ HB3.out).1
  have d0 := BlkAt.cell hXH (j := 0) rfl; have d1 := BlkAt.cell hXH (j := 1) rfl; have d2 := BlkAt.cell hXH (j := 2) rfl; have d3 := BlkAt.cell hXH (j := 3) rfl; have d4 := BlkAt.cell hXH (j := 4) rfl; have d5 := BlkAt.cell hXH (j := 5) rfl; have d6 := BlkAt.cell hXH (j := 6) rfl; have d7 := BlkAt.cell hXH (j := 7) rfl; have d8 := BlkAt.cell hXH (j := 8) rfl; have d9 := BlkAt.cell hXH (j := 9) rfl; have d10 := BlkAt.cell hXH (j := 10) rfl
  obtain ⟨fg, hfg⟩ : ∃ f, f = fragB h := ⟨_, rfl⟩
  rw [← hfg] at HFG
  have HFF : Hid (fg = fragB h ∧ pn = P.length) := ⟨hfg, HPN.out⟩
  have gp : (pn : Int) ≤ 65535 := by have := HPL.out; have := HPN.out; omega
  have PNO : Hid (¬ ((h.pr = 6 ∨ h.pr = 17) ∧ fragB h = false ∧ 4 ≤ P.length) → pthI h P = []) := by
    have : ¬ ((h.pr = 6 ∨ h.pr = 17) ∧ fragB h = false ∧ 4 ≤ P.length) → pthI h P = [] := fun hk => by
      unfold pthI
      rw [if_neg hk]
    exact this
  clear hn3 hXH hfg
  by_cases hk : h.pr = 6 ∨ h.pr = 17
  rotate_left
  · have k1 : (((h.pr : Nat) : Int) == 6) = false := beq_eq_false_iff_ne.2 (by omega)
    have k2 : (((h.pr : Nat) : Int) == 17) = false := beq_eq_false_iff_ne.2 (by omega)
    have HE0 : Hid (pthI h P = []) := PNO.out (fun hh => hk hh.1)
    clear hk
    go_wp2_with fail
    have HLB := Lib.hid (OwnB.bytes HO3.out)
    have hlen : (LB).length ≤ 100 := by have := HLL.out; omega
    obtain ⟨LL, hLL⟩ : ∃ L, L = LB := ⟨_, rfl⟩
    (try rw [← hLL] at HLB hlen)
    have HZL : Hid (z = fnv K0 LL) := mkz HZ.out HE0.out hLL
    have HNL : Hid (n3 = LL.length) := by
      show _ = _
      rw [hLL]
      exact HN3.out
    have g7 : ((n3 : Nat) : Int) ≤ 100 := by have := HNL.out; omega
    clear hLL hlen
    go_loopw [8, 9] (fun y x wr => ∃ j : Nat, j ≤ n3 ∧ y = .int .u64 ((fnv K0 (LL.take j) : Nat) : Int) ∧ x = .int .i64 j ∧ Hid (Below w3.heap.size w3 wr)) (fun _ x _ => n3 - (intOf x).toNat)
    case atStart => exact ⟨0, Nat.zero_le _, by rw [List.take_zero, fnv_nil, HK0.out]; rfl, rfl, Below.refl _ _⟩
    case round =>
      obtain ⟨j, hj, rfl, rfl, HBJ⟩ := hrel
      rcases Nat.lt_or_ge j n3 with hlj | hgj
      · have g8 : (j : Int) < (n3 : Nat) := by omega
        have hljl : j < LL.length := by have := HNL.out; omega
        obtain ⟨b3, o3, ha3, _, e0⟩ := (HLB.out.later HBJ.out).at hljl
        subst ha3
        have hlj' : LL[j]? = some LL[j] := List.getElem?_eq_getElem hljl
        obtain ⟨x, hx⟩ : ∃ x, x = LL[j] := ⟨_, rfl⟩
        rw [← hx] at e0 hlj'
        have HSJ := Lib.hid (fnv_step hlj' K0)
        obtain ⟨zj, hzj⟩ : ∃ z, z = fnv K0 (LL.take j) := ⟨_, rfl⟩
        have HZJ : Hid (zj < 4294967296) := by
          show zj < _
          rw [hzj]; exact fnv_lt HKL.out _
        rw [← hzj] at HSJ ⊢
        clear hzj hx hlj' hljl
        go_wp2_with fail
        refine ⟨⟨j + 1, by omega, ?_, by simp, HBJ.out⟩, by simp [intOf]; omega⟩
        rw [HSJ.out, st1_64 zj HZJ.out x]
      · obtain rfl : j = n3 := by omega
        have hfe : LL.take j = LL := List.take_of_length_le (by have := HNL.out; omega)
        rw [hfe]
        have HBE := Lib.hid ((HB2.out.trans (HB3.out.mono HB2.out.size)).trans (HBJ.out.mono (HB2.out.trans (HB3.out.mono HB2.out.size)).size))
        have HZI : Hid (((fnv K0 LL : Nat) : Int) % 4294967296 = (z : Int)) := by
          have h1 := fnv_lt HKL.out LL
          show _ % _ = _
          rw [← HZL.out] at h1 ⊢
          omega
        go_wp2_with fail
        go_ret2
        refine ⟨?_, HBE.out⟩
        rw [← HZI.out]
        rfl
  · have HKK : Hid (h.pr = 6 ∨ h.pr = 17) := hk
    have k12 : (((h.pr : Nat) : Int) == 6) = true ∨ ((((h.pr : Nat) : Int) == 6) = false ∧ (((h.pr : Nat) : Int) == 17) = true) := by
      by_cases h6 : h.pr = 6
      · exact .inl (by rw [h6]; decide)
      · exact .inr ⟨beq_eq_false_iff_ne.2 (by omega), beq_iff_eq.2 (by omega)⟩
    clear hk
    cases fg with
    | true =>
      rcases k12 with k1 | ⟨k1, k2⟩
      all_goals
        go_wp2_with fail
        refine (HFG.out _ _ _ _).mono ?_
        rintro e w4 ⟨rfl, hb4⟩
        have HO4 := Lib.hid (OwnB.later HO3.out hb4)
        have HB4 := Lib.hid (HB3.out.trans (hb4.mono HB3.out.size))
        have HV4 := Lib.hid ((HG.out _ HB3.out).2.later hb4)
        clear hb4 d0 d1 d2 d3 d4 d5 d6 d7 d8 d9 d10
        have HE0 : Hid (pthI h P = []) := PNO.out (fun hh => by have := HFF.out.1; rw [hh.2.1] at this; cases this)
        go_wp2_with fail
        have HLB := Lib.hid (OwnB.bytes HO4.out)
        have hlen : (LB).length ≤ 100 := by have := HLL.out; omega
        obtain ⟨LL, hLL⟩ : ∃ L, L = LB := ⟨_, rfl⟩
        (try rw [← hLL] at HLB hlen)
        have HZL : Hid (z = fnv K0 LL) := mkz HZ.out HE0.out hLL
        have HNL : Hid (n3 = LL.length) := by
          show _ = _
          rw [hLL]
          exact HN3.out
        have g7 : ((n3 : Nat) : Int) ≤ 100 := by have := HNL.out; omega
        clear hLL hlen
        go_loopw [8, 9] (fun y x wr => ∃ j : Nat, j ≤ n3 ∧ y = .int .u64 ((fnv K0 (LL.take j) : Nat) : Int) ∧ x = .int .i64 j ∧ Hid (Below w4.heap.size w4 wr)) (fun _ x _ => n3 - (intOf x).toNat)
        case atStart => exact ⟨0, Nat.zero_le _, by rw [List.take_zero, fnv_nil, HK0.out]; rfl, rfl, Below.refl _ _⟩
        case round =>
          obtain ⟨j, hj, rfl, rfl, HBJ⟩ := hrel
          rcases Nat.lt_or_ge j n3 with hlj | hgj
          · have g8 : (j : Int) < (n3 : Nat) := by omega
            have hljl : j < LL.length := by have := HNL.out; omega
            obtain ⟨b3, o3, ha3, _, e0⟩ := (HLB.out.later HBJ.out).at hljl
            subst ha3
            have hlj' : LL[j]? = some LL[j] := List.getElem?_eq_getElem hljl
            obtain ⟨x, hx⟩ : ∃ x, x = LL[j] := ⟨_, rfl⟩
            rw [← hx] at e0 hlj'
            have HSJ := Lib.hid (fnv_step hlj' K0)
            obtain ⟨zj, hzj⟩ : ∃ z, z = fnv K0 (LL.take j) := ⟨_, rfl⟩
            have HZJ : Hid (zj < 4294967296) := by
              show zj < _
              rw [hzj]; exact fnv_lt HKL.out _
            rw [← hzj] at HSJ ⊢
            clear hzj hx hlj' hljl
            go_wp2_with fail
            refine ⟨⟨j + 1, by omega, ?_, by simp, HBJ.out⟩, by simp [intOf]; omega⟩
            rw [HSJ.out, st1_64 zj HZJ.out x]
          · obtain rfl : j = n3 := by omega
            have hfe : LL.take j = LL := List.take_of_length_le (by have := HNL.out; omega)
            rw [hfe]
            have HBE := Lib.hid ((HB2.out.trans (HB4.out.mono HB2.out.size)).trans (HBJ.out.mono (HB2.out.trans (HB4.out.mono HB2.out.size)).size))
            have HZI : Hid (((fnv K0 LL : Nat) : Int) % 4294967296 = (z : Int)) := by
              have h1 := fnv_lt HKL.out LL
              show _ % _ = _
              rw [← HZL.out] at h1 ⊢
              omega
            go_wp2_with fail
            go_ret2
            refine ⟨?_, HBE.out⟩
            rw [← HZI.out]
            rfl
    | false =>
      by_cases h4 : pn < 4
      · have g4 : decide (4 ≤ (pn : Int)) = false := decide_eq_false (by omega)
        have g4n : decide (4 ≤ pn) = false := decide_eq_false (by omega)
        have H4 := Lib.hid h4
        clear h4
        rcases k12 with k1 | ⟨k1, k2⟩
        all_goals
          go_wp2_with fail
          refine (HFG.out _ _ _ _).mono ?_
          rintro e w4 ⟨rfl, hb4⟩
          have HO4 := Lib.hid (OwnB.later HO3.out hb4)
          have HB4 := Lib.hid (HB3.out.trans (hb4.mono HB3.out.size))
          have HV4 := Lib.hid ((HG.out _ HB3.out).2.later hb4)
          clear hb4 d0 d1 d2 d3 d4 d5 d6 d7 d8 d9 d10
          have HE0 : Hid (pthI h P = []) := PNO.out (fun hh => by have := HFF.out.2; have := H4.out; omega)
          go_wp2_with fail
          have HLB := Lib.hid (OwnB.bytes HO4.out)
          have hlen : (LB).length ≤ 100 := by have := HLL.out; omega
          obtain ⟨LL, hLL⟩ : ∃ L, L = LB := ⟨_, rfl⟩
          (try rw [← hLL] at HLB hlen)
          have HZL : Hid (z = fnv K0 LL) := mkz HZ.out HE0.out hLL
          have HNL : Hid (n3 = LL.length) := by
            show _ = _
            rw [hLL]
            exact HN3.out
          have g7 : ((n3 : Nat) : Int) ≤ 100 := by have := HNL.out; omega
          clear hLL hlen
          go_loopw [8, 9] (fun y x wr => ∃ j : Nat, j ≤ n3 ∧ y = .int .u64 ((fnv K0 (LL.take j) : Nat) : Int) ∧ x = .int .i64 j ∧ Hid (Below w4.heap.size w4 wr)) (fun _ x _ => n3 - (intOf x).toNat)
          case atStart => exact ⟨0, Nat.zero_le _, by rw [List.take_zero, fnv_nil, HK0.out]; rfl, rfl, Below.refl _ _⟩
          case round =>
            obtain ⟨j, hj, rfl, rfl, HBJ⟩ := hrel
            rcases Nat.lt_or_ge j n3 with hlj | hgj
            · have g8 : (j : Int) < (n3 : Nat) := by omega
              have hljl : j < LL.length := by have := HNL.out; omega
              obtain ⟨b3, o3, ha3, _, e0⟩ := (HLB.out.later HBJ.out).at hljl
              subst ha3
              have hlj' : LL[j]? = some LL[j] := List.getElem?_eq_getElem hljl
              obtain ⟨x, hx⟩ : ∃ x, x = LL[j] := ⟨_, rfl⟩
              rw [← hx] at e0 hlj'
              have HSJ := Lib.hid (fnv_step hlj' K0)
              obtain ⟨zj, hzj⟩ : ∃ z, z = fnv K0 (LL.take j) := ⟨_, rfl⟩
              have HZJ : Hid (zj < 4294967296) := by
                show zj < _
                rw [hzj]; exact fnv_lt HKL.out _
              rw [← hzj] at HSJ ⊢
              clear hzj hx hlj' hljl
              go_wp2_with fail
              refine ⟨⟨j + 1, by omega, ?_, by simp, HBJ.out⟩, by simp [intOf]; omega⟩
              rw [HSJ.out, st1_64 zj HZJ.out x]
            · obtain rfl : j = n3 := by omega
              have hfe : LL.take j = LL := List.take_of_length_le (by have := HNL.out; omega)
              rw [hfe]
              have HBE := Lib.hid ((HB2.out.trans (HB4.out.mono HB2.out.size)).trans (HBJ.out.mono (HB2.out.trans (HB4.out.mono HB2.out.size)).size))
              have HZI : Hid (((fnv K0 LL : Nat) : Int) % 4294967296 = (z : Int)) := by
                have h1 := fnv_lt HKL.out LL
                show _ % _ = _
                rw [← HZL.out] at h1 ⊢
                omega
              go_wp2_with fail
              go_ret2
              refine ⟨?_, HBE.out⟩
              rw [← HZI.out]
              rfl
      · have g4 : ¬ (pn : Int) < 4 := by omega
        rcases k12 with k1 | ⟨k1, k2⟩
        all_goals
          go_wp2_with fail
          refine (HFG.out _ _ _ _).mono ?_
          rintro e w4 ⟨rfl, hb4⟩
          have HO4 := Lib.hid (OwnB.later HO3.out hb4)
          have HB4 := Lib.hid (HB3.out.trans (hb4.mono HB3.out.size))
          have HV4 := Lib.hid ((HG.out _ HB3.out).2.later hb4)
          clear hb4 d0 d1 d2 d3 d4 d5 d6 d7 d8 d9 d10
          have HE0 : Hid (pthI h P = P.take 4) := by
            show _ = _
            unfold pthI
            rw [if_pos ⟨HKK.out, HFF.out.1.symm, by have := HFF.out.2; omega⟩]
          have hcp := Bytes.cap HV4.out
          have g5 : 4 ≤ (pc : Int) := by have := HFF.out.2; omega
          have g6 : 4 ≤ (pn : Int) := by omega
          have HT4 := Lib.hid (bytes_take HV4.out (k := 4) (by have := HFF.out.2; omega))
          obtain ⟨T4, hT4⟩ : ∃ T, T = P.take 4 := ⟨_, rfl⟩
          rw [← hT4] at HE0 HT4
          have HT4L : Hid (T4.length ≤ 4) := by
            show _ ≤ _
            rw [hT4, List.length_take]; omega
          clear hcp hT4
          go_wp2_with (at_builtin; refine wpList_app rfl _ _ rfl w2.heap.size _ _ LB T4 rfl rfl HO4.out HT4.out (by have := HLL.out; have := HT4L.out; omega) (by have := HB4.out.size; omega) ?_)
          intro v9 w9 ho9 hb9 _
          have HO9 := Lib.hid ho9
          have HB9 := Lib.hid (HB4.out.trans hb9)
          obtain ⟨v9a, v9c, hv9⟩ := ho9.form
          subst hv9
          obtain ⟨n9, hn9⟩ : ∃ n, n = ((LB) ++ T4).length := ⟨_, rfl⟩
          rw [← hn9] at HO9 ⊢
          have HN9 := Lib.hid hn9
          clear ho9 hb9 hn9
          go_wp2_with fail
          have HLB := Lib.hid (OwnB.bytes HO9.out)
          have hlen : (LB ++ T4).length ≤ 100 := by rw [List.length_append]; have := HLL.out; have := HT4L.out; omega
          obtain ⟨LL, hLL⟩ : ∃ L, L = LB ++ T4 := ⟨_, rfl⟩
          (try rw [← hLL] at HLB hlen)
          have HZL : Hid (z = fnv K0 LL) := mkz2 HZ.out HE0.out hLL
          have HNL : Hid (n9 = LL.length) := by
            show _ = _
            rw [hLL]
            exact HN9.out
          have g7 : ((n9 : Nat) : Int) ≤ 100 := by have := HNL.out; omega
          clear hLL hlen
          go_loopw [8, 9] (fun y x wr => ∃ j : Nat, j ≤ n9 ∧ y = .int .u64 ((fnv K0 (LL.take j) : Nat) : Int) ∧ x = .int .i64 j ∧ Hid (Below w9.heap.size w9 wr)) (fun _ x _ => n9 - (intOf x).toNat)
          case atStart => exact ⟨0, Nat.zero_le _, by rw [List.take_zero, fnv_nil, HK0.out]; rfl, rfl, Below.refl _ _⟩
          case round =>
            obtain ⟨j, hj, rfl, rfl, HBJ⟩ := hrel
            rcases Nat.lt_or_ge j n9 with hlj | hgj
            · have g8 : (j : Int) < (n9 : Nat) := by omega
              have hljl : j < LL.length := by have := HNL.out; omega
              obtain ⟨b3, o3, ha3, _, e0⟩ := (HLB.out.later HBJ.out).at hljl
              subst ha3
              have hlj' : LL[j]? = some LL[j] := List.getElem?_eq_getElem hljl
              obtain ⟨x, hx⟩ : ∃ x, x = LL[j] := ⟨_, rfl⟩
              rw [← hx] at e0 hlj'
              have HSJ := Lib.hid (fnv_step hlj' K0)
              obtain ⟨zj, hzj⟩ : ∃ z, z = fnv K0 (LL.take j) := ⟨_, rfl⟩
              have HZJ : Hid (zj < 4294967296) := by
                show zj < _
                rw [hzj]; exact fnv_lt HKL.out _
              rw [← hzj] at HSJ ⊢
              clear hzj hx hlj' hljl
              go_wp2_with fail
              refine ⟨⟨j + 1, by omega, ?_, by simp, HBJ.out⟩, by simp [intOf]; omega⟩
              rw [HSJ.out, st1_64 zj HZJ.out x]
            · obtain rfl : j = n9 := by omega
              have hfe : LL.take j = LL := List.take_of_length_le (by have := HNL.out; omega)
              rw [hfe]
              have HBE := Lib.hid ((HB2.out.trans (HB9.out.mono HB2.out.size)).trans (HBJ.out.mono (HB2.out.trans (HB9.out.mono HB2.out.size)).size))
              have HZI : Hid (((fnv K0 LL : Nat) : Int) % 4294967296 = (z : Int)) := by
                have h1 := fnv_lt HKL.out LL
                show _ % _ = _
                rw [← HZL.out] at h1 ⊢
                omega
              go_wp2_with fail
              go_ret2
              refine ⟨?_, HBE.out⟩
              rw [← HZI.out]
              rfl
end Go.Proofs.Ytdjhgahdiggahaa

namespace Go.Proofs.Ytdjhgahdiggahaa
open Go.ChangeShapes Go.WideShapes Go.ChangeAt Go.RowKit

theorem lt_u8 {a : Int} (h : 0 ≤ a ∧ a ≤ 255) : a < 256 := by omega
theorem lt_u16 {a : Int} (h : 0 ≤ a ∧ a ≤ 65535) : a < 65536 := by omega
theorem lt_u32 {a : Int} (h : 0 ≤ a ∧ a ≤ 4294967295) : a < 4294967296 := by omega
theorem lt_u64 {a : Int} (h : 0 ≤ a ∧ a ≤ 18446744073709551615) : a < 18446744073709551616 := by omega

theorem own : ownKnob Try.prog.godebug = none := by kernel_rfl
theorem laidOut : laidOutB Try.prog = true := by kernel_rfl


theorem spot_none {W : World} {a : Addr} {v : Value} (h : W.cell? (a.add 0) = some v) : a.spot = none := by
  obtain ⟨b, o, sp⟩ := a
  cases sp with
  | none => rfl
  | some s =>
    simp [World.cell?, Addr.add] at h
    split at h <;> cases h
theorem bytes_of_ints {W : World} {A : Option Addr} {len cap : Nat} {zs : List Int} (hl : len ≤ cap) (hz : zs.length = cap) (hwz : ∀ n ∈ zs, (Lit.int .u8 n).wf = true) (h0 : A = none → cap = 0)
    (hc : ∀ a, A = some a → ∀ c, c < cap → W.cell? (a.add c) = some (.int .u8 (zs.getD c 0))) : Bytes W (.slice A len cap) ((zs.take len).map fun z => UInt8.ofNat z.toNat) := by
  have hlen : ((zs.take len).map fun z => UInt8.ofNat z.toNat).length = len := by simp; omega
  rcases Nat.eq_zero_or_pos len with hp | hp
  · subst hp
    exact .inl ⟨by simp, A, cap, rfl, h0⟩
  · cases A with
    | none => have := h0 rfl; omega
    | some x =>
      have hcell := hc x rfl
      have hc0 := hcell 0 (by omega)
      have hsp := spot_none hc0
      obtain ⟨b, o, sp⟩ := x
      simp only at hsp
      subst hsp
      refine .inr ⟨b, o, cap, by rw [hlen], ?_, by rw [hlen]; exact hl, ?_⟩
      · have := World.block_lt_of_cell? _ _ hc0
        simpa [Addr.add] using this
      · intro j y hy
        simp only [List.getElem?_map, Option.map_eq_some_iff] at hy
        obtain ⟨z, hz1, rfl⟩ := hy
        have hj : j < len := by
          have := (List.getElem?_eq_some_iff.1 hz1).1
          simp at this; omega
        have hz2 : zs[j]? = some z := by rw [List.getElem?_take, if_pos hj] at hz1; exact hz1
        have hb := bounds_u8 (hwz z (List.mem_of_getElem? hz2))
        have hcj := hcell j (by omega)
        have he : zs.getD j 0 = z := by simp [List.getD, hz2]
        rw [he] at hcj
        have hn : ((UInt8.ofNat z.toNat).toNat : Int) = z := by rw [UInt8.toNat_ofNat']; omega
        rw [hn]
        cases j with
        | zero => simpa [Addr.add] using hcj
        | succ j => simpa [Addr.add] using hcj

set_option maxRecDepth 100000 in
theorem open_bytes {H : Type} {enc : TypeId × Value → H} {W : World} {base : Nat} {v : Value} {d : DataW H} {p : List MemPlace}
    (hv : Value.okWide Try.prog W .any base 97 v) (h : DataW.Trod enc Try.prog W 0 (fun _ => true) true 97 v d p) : ∃ l : List UInt8, Bytes W v l ∧ l.length ≤ 9223372036854775807 := by
  obtain ⟨a, len, cap, rfl⟩ := okWide_slice Try.underlying97 hv
  obtain ⟨fuel, hf⟩ := h
  rcases open_ints Try.underlying97 Try.underlying5 (by kernel_rfl) hf with ⟨hcs, _⟩ | ⟨x, l, c, zs, hcs, _, hl, hm, hz, _, hcell, hwz⟩
  · simp [Value.cells] at hcs
    obtain ⟨rfl, rfl, rfl⟩ := hcs
    exact ⟨[], Bytes.nil _ _ _, by simp⟩
  · simp [Value.cells] at hcs
    obtain ⟨rfl, rfl, rfl⟩ := hcs
    unfold maxLen at hm
    have hzl : zs.length = cap := by simpa using hz
    exact ⟨_, bytes_of_ints hl hzl hwz (fun h => by cases h) (fun a ha c hc => by cases ha; exact hcell c (by omega)), by simp; omega⟩

set_option maxRecDepth 100000 in
theorem open_lists {H : Type} {enc : TypeId × Value → H} {W : World} {base : Nat} {v : Value} {d : DataW H} {p : List MemPlace}
    (hv : Value.okWide Try.prog W .any base 154 v) (h : DataW.Trod enc Try.prog W 0 (fun _ => true) true 154 v d p) :
    ∃ L : List (List UInt8), Lists W v L ∧ L.length ≤ 9223372036854775807 ∧ ∀ l ∈ L, l.length ≤ 9223372036854775807 := by
  obtain ⟨a, len, cap, rfl⟩ := okWide_slice Try.underlying154 hv
  obtain ⟨fuel, hf⟩ := h
  rcases Deep.open_int_rows Try.underlying154 Try.underlying97 Try.underlying5 (by kernel_rfl) (by kernel_rfl) hf with ⟨hcs, _⟩ | ⟨x, l, c, A, Ln, C, Z, hcs, _, hl, hm, _, hr⟩
  · simp [Value.cells] at hcs
    obtain ⟨rfl, rfl, rfl⟩ := hcs
    exact ⟨[], Lists.nil _ _ _, by simp, by simp⟩
  · simp [Value.cells] at hcs
    obtain ⟨rfl, rfl, rfl⟩ := hcs
    unfold maxLen at hm hr
    have each : ∀ r, r < cap → Bytes W (.slice (A r) (Ln r) (C r)) (((Z r).take (Ln r)).map fun z => UInt8.ofNat z.toNat) := fun r hrr => by
      obtain ⟨_, h1, h2, h3, h4, h5, h6⟩ := hr r hrr
      exact bytes_of_ints h1 h3 h4 h5 (fun a ha c hc => (h6 a ha).2 c hc)
    refine ⟨(List.range len).map fun r => ((Z r).take (Ln r)).map fun z => UInt8.ofNat z.toNat, ?_, by simp; omega, ?_⟩
    · rcases Nat.eq_zero_or_pos len with hp | hp
      · subst hp
        exact .inl ⟨by simp, _, _, rfl, fun h => by cases h⟩
      · have hc0 := (hr 0 (by omega)).1
        have hsp := spot_none hc0
        obtain ⟨b, o, sp⟩ := x
        simp only at hsp
        subst hsp
        refine .inr ⟨b, o, cap, by simp, ?_, by simpa using hl, ?_⟩
        · have := World.block_lt_of_cell? _ _ hc0
          simpa [Addr.add] using this
        · intro j l hjl
          simp only [List.getElem?_map, Option.map_eq_some_iff] at hjl
          obtain ⟨r, hr1, rfl⟩ := hjl
          have hj : j < len := by
            have := (List.getElem?_eq_some_iff.1 hr1).1
            simpa using this
          have hr2 : r = j := by rw [List.getElem?_range hj] at hr1; cases hr1; rfl
          subst hr2
          refine ⟨_, ?_, each r (by omega)⟩
          have := (hr r (by omega)).1
          cases r with
          | zero => simpa [Addr.add] using this
          | succ r => simpa [Addr.add] using this
    · intro l hl2
      simp only [List.mem_map, List.mem_range] at hl2
      obtain ⟨r, hr1, rfl⟩ := hl2
      obtain ⟨_, h1, h2, h3, _⟩ := hr r (by omega)
      simp; omega

set_option maxRecDepth 100000 in
theorem open_introw {H : Type} {enc : TypeId × Value → H} {W : World} {base : Nat} {v : Value} {d : DataW H} {p : List MemPlace}
    (hv : Value.okWide Try.prog W .any base 62 v) (h : DataW.Trod enc Try.prog W 0 (fun _ => true) true 62 v d p) :
    ∃ zs : List Int, Row W v (iv zs) ∧ zs.length ≤ 9223372036854775807 ∧ ∀ z ∈ zs, -9223372036854775808 ≤ z ∧ z ≤ 9223372036854775807 := by
  obtain ⟨a, len, cap, rfl⟩ := okWide_slice Try.underlying62 hv
  obtain ⟨fuel, hf⟩ := h
  rcases open_ints Try.underlying62 Try.underlying3 (by kernel_rfl) hf with ⟨hcs, _⟩ | ⟨x, l, c, zs, hcs, _, hl, hm, hz, _, hcell, hwz⟩
  · simp [Value.cells] at hcs
    obtain ⟨rfl, rfl, rfl⟩ := hcs
    exact ⟨[], .inl ⟨rfl, _, _, rfl, fun _ => rfl⟩, by simp, by simp⟩
  · simp [Value.cells] at hcs
    obtain ⟨rfl, rfl, rfl⟩ := hcs
    unfold maxLen at hm
    have hzl : zs.length = cap := by simpa using hz
    refine ⟨zs.take len, ?_, by simp; omega, fun z hz2 => bounds_i64 (hwz z (List.mem_of_mem_take hz2))⟩
    rcases Nat.eq_zero_or_pos len with hp | hp
    · subst hp
      exact .inl ⟨by simp [iv], _, _, rfl, fun h => by cases h⟩
    · have hc0 := hcell 0 (by omega)
      have hsp := spot_none hc0
      obtain ⟨b, o, sp⟩ := x
      simp only at hsp
      subst hsp
      have hlen : (iv (zs.take len)).length = len := by simp [iv]; omega
      refine .inr ⟨b, o, cap, by rw [hlen], ?_, by rw [hlen]; exact hl, ?_⟩
      · have := World.block_lt_of_cell? _ _ hc0
        simpa [Addr.add] using this
      · intro j y hy
        simp only [iv, List.getElem?_map, Option.map_eq_some_iff] at hy
        obtain ⟨z, hz1, rfl⟩ := hy
        have hj : j < len := by
          have := (List.getElem?_eq_some_iff.1 hz1).1
          simp at this; omega
        have hz2 : zs[j]? = some z := by rw [List.getElem?_take, if_pos hj] at hz1; exact hz1
        have hcj := hcell j (by omega)
        have he : zs.getD j 0 = z := by simp [List.getD, hz2]
        rw [he] at hcj
        cases j with
        | zero => simpa [Addr.add] using hcj
        | succ j => simpa [Addr.add] using hcj

end Go.Proofs.Ytdjhgahdiggahaa

namespace Go.Proofs.Ytdjhgahdiggahaa
open Go.ChangeShapes Go.WideShapes Go.ChangeAt Go.RowKit Go.Joins Go.Deep

/-- The value reads as these, each of k cells. -/
def Rds {α : Type} (k : Nat) (f : α → List Value) (w : World) (v : Value) (L : List α) : Prop :=
  (L = [] ∧ ∃ a c, v = .slice a 0 c ∧ (a = none → c = 0)) ∨
  ∃ b o c, v = .slice (some ⟨b, o, none⟩) L.length c ∧ b < w.heap.size ∧ L.length ≤ c ∧ ∀ j x, L[j]? = some x → ∀ i u, (f x)[i]? = some u → w.cell? ⟨b, o + j * k + i, none⟩ = some u
section
variable {α : Type} {k : Nat} {f : α → List Value}
theorem Rds.later {w w' : World} {v : Value} {L : List α} (h : Rds k f w v L) (hb : Below w.heap.size w w') : Rds k f w' v L := by
  rcases h with h | ⟨b, o, c, h1, h2, hp, h3⟩
  · exact .inl h
  · exact .inr ⟨b, o, c, h1, Nat.lt_of_lt_of_le h2 hb.size, hp, fun j x hx i u hu => cell_later hb (h3 j x hx i u hu)⟩
theorem Rds.form {w : World} {v : Value} {L : List α} (h : Rds k f w v L) : ∃ a c, v = .slice a L.length c := by
  rcases h with ⟨rfl, a, c, rfl, _⟩ | ⟨b, o, c, rfl, _, _⟩
  · exact ⟨a, c, rfl⟩
  · exact ⟨_, c, rfl⟩
theorem Rds.at {w : World} {a : Option Addr} {n c : Nat} {L : List α} (h : Rds k f w (.slice a n c) L) {i : Nat} {x : α} (hx : L[i]? = some x) :
    ∃ b o, a = some ⟨b, o, none⟩ ∧ b < w.heap.size ∧ ∀ j u, (f x)[j]? = some u → w.cell? ⟨b, o + i * k + j, none⟩ = some u := by
  rcases h with ⟨rfl, _⟩ | ⟨b, o, c', h1, h2, _, h3⟩
  · simp at hx
  · simp only [Value.slice.injEq] at h1
    exact ⟨b, o, h1.1, h2, fun j u hu => h3 i x hx j u hu⟩
set_option maxRecDepth 100000 in
theorem open_rds [Inhabited α] {H : Type} {enc : TypeId × Value → H} {W : World} {base : Nat} {v : Value} {d : DataW H} {p : List MemPlace} {t : TypeId} (hu : Try.prog.underlying t = some (.slice (Try.prog.elem t))) (hC : Try.prog.cellsOf (Try.prog.elem t) = k) (hk : 0 < k) (Pr : α → Prop)
    (one : ∀ {n : Nat} {cs : List Value} {y : DataW H × List MemPlace}, DataW.trod enc Try.prog W 0 (fun _ => true) true n (Try.prog.elem t) cs = some y → cs.length = k → ∃ x : α, cs = f x ∧ Pr x)
    (hv : Value.okWide Try.prog W .any base t v) (h : DataW.Trod enc Try.prog W 0 (fun _ => true) true t v d p) :
    ∃ L : List α, Rds k f W v L ∧ L.length ≤ 9223372036854775807 ∧ ∀ x ∈ L, Pr x := by
  obtain ⟨a, len, cap, rfl⟩ := okWide_slice hu hv
  obtain ⟨fuel, hf⟩ := h
  rcases open_slice hu hf with ⟨hcs, _⟩ | ⟨x, l, c, m, n, D, Pl, hcs, _, hl, hm, hmm, _, hx⟩
  · simp [Value.cells] at hcs
    obtain ⟨rfl, rfl, rfl⟩ := hcs
    exact ⟨[], .inl ⟨rfl, _, _, rfl, fun _ => rfl⟩, by simp, by simp⟩
  · simp [Value.cells] at hcs
    obtain ⟨rfl, rfl, rfl⟩ := hcs
    unfold maxLen at hm
    have hm2 : m = cap := by simpa using hmm
    subst hm2
    rw [hC] at hx
    have each : ∀ i, i < m → ∃ u : α, ((f u).length = k ∧ ∀ j z, (f u)[j]? = some z → W.cell? ((x.add (i * k)).add j) = some z) ∧ Pr u := by
      intro i hi
      obtain ⟨cs', h1, h2⟩ := hx i hi
      obtain ⟨_, hlen, hcell⟩ := World.cells?_some h1
      obtain ⟨u, rfl, hu⟩ := one h2 hlen
      refine ⟨u, ⟨hlen, fun j z hz => ?_⟩, hu⟩
      have hj := (List.getElem?_eq_some_iff.1 hz).1
      exact (hcell j (by omega)).trans hz
    obtain ⟨F, hF⟩ := choose_lt each
    have hlen : ((List.range len).map F).length = len := by simp
    refine ⟨(List.range len).map F, ?_, by rw [hlen]; omega, ?_⟩
    · rcases Nat.eq_zero_or_pos len with hp | hp
      · subst hp
        exact .inl ⟨by simp, _, _, rfl, fun h => by cases h⟩
      · obtain ⟨⟨hl0, hc⟩, _⟩ := hF 0 (by omega)
        have hc0 := hc 0 _ (List.getElem?_eq_getElem (by omega))
        rw [Nat.zero_mul] at hc0
        have hsp := spot_none (a := x) (by simpa [Addr.add] using hc0)
        obtain ⟨b, o, sp⟩ := x
        simp only at hsp
        subst hsp
        refine .inr ⟨b, o, m, by rw [hlen], ?_, by rw [hlen]; exact hl, ?_⟩
        · have := World.block_lt_of_cell? _ _ hc0
          simpa [Addr.add] using this
        · intro j u hju i z hz
          simp only [List.getElem?_map, Option.map_eq_some_iff] at hju
          obtain ⟨r, hr1, rfl⟩ := hju
          have hj : j < len := by
            have := (List.getElem?_eq_some_iff.1 hr1).1
            simpa using this
          have hr : r = j := by
            rw [List.getElem?_range hj] at hr1
            exact (Option.some.inj hr1).symm
          subst hr
          have := (hF r (by omega)).1.2 i z hz
          have ad : ∀ b o k, (⟨b, o, none⟩ : Addr).add k = ⟨b, o + k, none⟩ := fun b o k => by cases k <;> simp [Addr.add]
          rw [ad, ad] at this
          exact this
    · intro u hu
      obtain ⟨r, hr, rfl⟩ := List.mem_map.1 hu
      have := List.mem_range.1 hr
      exact (hF r (by omega)).2
end
end Go.Proofs.Ytdjhgahdiggahaa
