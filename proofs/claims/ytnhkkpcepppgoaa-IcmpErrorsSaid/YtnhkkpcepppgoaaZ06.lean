/- The walk of icmp.Bytes.
   The walk of ip.Bytes. -/
import Derived.Test.YtnhkkpcepppgoaaZ02
import Derived.Test.YtnhkkpcepppgoaaZ04
import Derived.Test.YtnhkkpcepppgoaaZ05

set_option linter.unusedSimpArgs false
set_option linter.unusedVariables false
namespace Go.Proofs.Ytnhkkpcepppgoaa
open Go.RowKit
attribute [local go_sem ↓] Go.wp_at_zero Go.wp_at_succ

/-- While a header is written: the header's box, the closures' box, the bytes that are owned. -/
structure BS (wm : World) (N g cap n base : Nat) (cs : List Value) (l : List UInt8) (w : World) : Prop where
  hd : HdAt wm.heap.size cs w
  bx : w.heap[N]? = some (.cells #[.slice (some ⟨g, 0, none⟩) n cap] 22 (0, 0))
  ow : OwnB w base (.slice (some ⟨g, 0, none⟩) n cap) l
  len : l.length = n
  bel : Below wm.heap.size wm w
  ne1 : wm.heap.size ≠ g
  ne2 : N ≠ g
  b0 : wm.heap.size ≤ base
  bs : base ≤ w.heap.size
theorem BS.later {wm : World} {N g cap n base : Nat} {cs : List Value} {l : List UInt8} {w w' : World} (h : BS wm N g cap n base cs l w) (hb : Below w.heap.size w w') : BS wm N g cap n base cs l w' :=
  ⟨h.hd.later hb, (hb.block N (Array.getElem?_eq_some_iff.1 h.bx).1).trans h.bx, OwnB.later h.ow hb, h.len, h.bel.trans (hb.mono h.bel.size), h.ne1, h.ne2, h.b0, Nat.le_trans h.bs hb.size⟩
theorem BS.put {wm : World} {N g cap n base : Nat} {cs : List Value} {l : List UInt8} {w : World} (h : BS wm N g cap n base cs l w) (at_ size x : Nat) (h1 : 1 ≤ size) (h8 : size ≤ 8) (hx : x < 256 ^ size) (hat : at_ + size ≤ n) (hl : n ≤ 1000000) :
    Calls Try.prog 79 #[.int .i64 (at_ : Int), .int .i64 (size : Int), .int .u64 (x : Nat), .pointer (some ⟨N, 0, none⟩)] w fun e w' => (∃ v, e = .returned v) ∧ BS wm N g cap n base cs (spl l at_ (putL x size)) w' := by
  obtain ⟨hd, bx, ow, rfl, bel, ne1, ne2, b0, bs⟩ := h
  refine (putC_any at_ size x N g cap base l w (by simp [World.cell?, bx]) ow h1 h8 hx hat hl bs ne2).mono ?_
  rintro e w' ⟨hv, ho, hb, hk⟩
  refine ⟨hv, (hk _ hd.lt ne1).trans hd, (hk _ (Array.getElem?_eq_some_iff.1 bx).1 ne2).trans bx, ho, spl_length (by rw [putL_length]; exact hat), bel.trans (hb.mono b0), ne1, ne2, b0, Nat.le_trans bs hb.size⟩

theorem lists_three3 {W : World} {u v x : Value} {k l m : List UInt8} {n : Nat} (g : Bytes W u k) (h : Bytes W v l) (i : Bytes W x m) (hu : W.cell? ⟨n, 0, none⟩ = some u) (hv : W.cell? ⟨n, 1, none⟩ = some v) (hx : W.cell? ⟨n, 2, none⟩ = some x) (hn : n < W.heap.size) : Lists W (.slice (some ⟨n, 0, none⟩) 3 3) [k, l, m] :=
  .inr ⟨n, 0, 3, rfl, hn, Nat.le_refl _, fun j x hx => by
    match j, hx with
    | 0, hx => simp at hx; subst hx; exact ⟨u, by simpa using hu, g⟩
    | 1, hx => simp at hx; subst hx; exact ⟨v, by simpa using hv, h⟩
    | 2, hx => simp at hx; subst hx; exact ⟨_, by simpa using ‹W.cell? ⟨n, 2, none⟩ = _›, i⟩⟩
theorem zeros_bv (n : Nat) : (madeCells (Value.int IntKind.u8 0).cells (n * 1)).toList = bv (List.replicate n 0) := by
  rw [Nat.mul_one]; show (madeCells #[.int .u8 0] n).toList = _
  rw [toList_madeCells_one]; simp [bv]
theorem make_zeros (n : Nat) (w : World) (hn : n ≤ 1000000) :
    ∃ w1, (Instr.makeSlice 22 (.int .i64 (n : Int)) (.int .i64 (n : Int))).run Try.prog w = .ok (.slice (some ⟨w.heap.size, 0, none⟩) n n) w1 ∧ OwnB w1 w.heap.size (.slice (some ⟨w.heap.size, 0, none⟩) n n) (List.replicate n 0) ∧ Below w.heap.size w w1 := by
  obtain ⟨i0, hi, hz0, hz1, hz2⟩ := info8
  obtain ⟨w1, hmk, hown0, hg0⟩ := run_make_full (P := Try.prog) (w := w) w.heap.size 22 5 i0 (.int .u8 0) 1 Try.underlying22 hi hz0 hz1 .i64 .i64 n (by rw [hz2]; omega) (by unfold maxLen; omega) (Nat.le_refl _)
  refine ⟨w1, hmk, ?_, (Below.refl _ _).grown hg0 (Nat.le_refl _) (by simp)⟩
  rw [zeros_bv] at hown0
  show World.ownsRow _ _ _ _ _ _ _
  rw [List.length_replicate]; exact hown0

/-- The answer of Bytes: the bytes, and no error. -/
def BytesYes (wm : World) (h : Hd) (O P : List UInt8) (e : Ending) (w' : World) : Prop := ∃ v, e = .returned (.tuple #[v, .int .i64 0]) ∧ OwnB w' wm.heap.size v (pktL h O P) ∧ Below wm.heap.size wm w'

set_option maxRecDepth 100000 in
set_option maxHeartbeats 40000000 in
theorem bytes_yes (h : Hd) (hh : h.Ok) (oa : Option Addr) (oc : Nat) (O : List UInt8) (pa : Option Addr) (pc : Nat) (P : List UInt8) (wm : World) (hO : Bytes wm (.slice oa O.length oc) O) (hP : Bytes wm (.slice pa P.length pc) P)
    (hm : mayB h.off O = true) (hfit : P.length ≤ 65535 - 20 - O.length) :
    Calls Try.prog 22 #[.agg #[.int .u8 (h.tos : Nat), .int .u16 (h.id : Nat), .bool h.ev, .bool h.df, .bool h.mf, .int .i64 h.off, .int .u8 (h.ttl : Nat), .int .u8 (h.pr : Nat), .int .u32 (h.src : Nat), .int .u32 (h.dst : Nat), .slice oa O.length oc], .slice pa P.length pc] wm (BytesYes wm h O P) := by
  obtain ⟨hl40, hl4, ho0, ho1, _⟩ := mayB_len hm
  obtain ⟨S, hS⟩ : ∃ S, S = 20 + O.length := ⟨_, rfl⟩
  obtain ⟨Pn, hPn⟩ : ∃ S, S = P.length := ⟨_, rfl⟩
  have hA : Below wm.heap.size wm (wm.alloc (.cells #[.int .u8 (h.tos : Nat), .int .u16 (h.id : Nat), .bool h.ev, .bool h.df, .bool h.mf, .int .i64 h.off, .int .u8 (h.ttl : Nat), .int .u8 (h.pr : Nat), .int .u32 (h.src : Nat), .int .u32 (h.dst : Nat), .slice oa O.length oc] 28)) := (Below.refl _ _).alloc (Nat.le_refl _) _
  have hsz := size_any h oa oc O _ (hO.later hA) (by omega)
  rw [show sizeN h.off O = S from by unfold sizeN; rw [hm, hS]; rfl] at hsz
  have HSZ := Lib.hid hsz
  have HR0 : Hid (HdAt wm.heap.size [.int .u8 (h.tos : Nat), .int .u16 (h.id : Nat), .bool h.ev, .bool h.df, .bool h.mf, .int .i64 h.off, .int .u8 (h.ttl : Nat), .int .u8 (h.pr : Nat), .int .u32 (h.src : Nat), .int .u32 (h.dst : Nat), .slice oa O.length oc] (wm.alloc (.cells #[.int .u8 (h.tos : Nat), .int .u16 (h.id : Nat), .bool h.ev, .bool h.df, .bool h.mf, .int .i64 h.off, .int .u8 (h.ttl : Nat), .int .u8 (h.pr : Nat), .int .u32 (h.src : Nat), .int .u32 (h.dst : Nat), .slice oa O.length oc] 28))) := HdAt.new wm [.int .u8 (h.tos : Nat), .int .u16 (h.id : Nat), .bool h.ev, .bool h.df, .bool h.mf, .int .i64 h.off, .int .u8 (h.ttl : Nat), .int .u8 (h.pr : Nat), .int .u32 (h.src : Nat), .int .u32 (h.dst : Nat), .slice oa O.length oc]
  have HN : Hid (64 + S / 4 < 256 ^ 1 ∧ h.tos < 256 ^ 1 ∧ S + Pn < 256 ^ 2 ∧ h.id < 256 ^ 2 ∧ flagsN h < 256 ^ 2 ∧ h.ttl < 256 ^ 1 ∧ h.pr < 256 ^ 1 ∧ h.src < 256 ^ 4 ∧ h.dst < 256 ^ 4) := by
    obtain ⟨a1, a2, a3, a4, a5, a6⟩ := hh
    refine ⟨by omega, by omega, by omega, by omega, ?_, by omega, by omega, by omega, by omega⟩
    unfold flagsN
    have e1 : h.ev.toNat ≤ 1 := Bool.toNat_le _
    have e2 : h.df.toNat ≤ 1 := Bool.toNat_le _
    have e3 : h.mf.toNat ≤ 1 := Bool.toNat_le _
    omega
  have HTL : Hid (20 ≤ S + Pn ∧ S + Pn ≤ 1000000) := ⟨by omega, by omega⟩
  have HO : Hid (0 ≤ h.off ∧ h.off ≤ 8191) := ⟨ho0, ho1⟩
  have h64 := or64 (S / 4) (by omega)
  have hdiv : ((S : Int) / 4) = ((S / 4 : Nat) : Int) := by omega
  have k1 : (S : Int) ≤ 60 := by omega
  have k2 : (20 : Int) ≤ S := by omega
  have k3 : (Pn : Int) ≤ 65535 - S := by omega
  have k4 : (0 : Int) ≤ Pn := by omega
  have k5 : ((S : Int) == 0) = false := by rw [beq_eq_false_iff_ne]; omega
  have k6 : decide (65535 - (S : Int) < Pn) = false := by simp; omega
  have HBO := Lib.hid hO
  have HBP : Hid (Bytes wm (.slice pa Pn pc) P) := by rw [hPn]; exact hP
  have HS := Lib.hid hS
  have HPN := Lib.hid hPn
  have HL40 := Lib.hid hl40
  have H64 := Lib.hid h64
  have HA := Lib.hid hA
  rw [← hPn]
  clear hsz hO hP hm hfit hl4 ho0 ho1 hS hPn hh hl40 h64 hdiv hA
  go_enter Try.func22, Try.ntmps22
  go_wp2_with fail
  refine HSZ.out.mono ?_
  rintro e w1 ⟨rfl, hb1⟩
  have hB1 := HA.out.trans (hb1.mono HA.out.size)
  have HB1 := Lib.hid hB1
  have hr1 : HdAt wm.heap.size [.int .u8 (h.tos : Nat), .int .u16 (h.id : Nat), .bool h.ev, .bool h.df, .bool h.mf, .int .i64 h.off, .int .u8 (h.ttl : Nat), .int .u8 (h.pr : Nat), .int .u32 (h.src : Nat), .int .u32 (h.dst : Nat), .slice oa O.length oc] w1 := HdAt.later HR0.out hb1
  have HR1 := Lib.hid hr1
  have hc10 := HdAt.cell hr1 (j := 10) rfl
  clear hb1 hB1 hr1
  go_wp2_with fail
  obtain ⟨wz, hmk, hoz, hbz⟩ := make_zeros 20 w1.drew (by omega)
  have hmk' : (Instr.makeSlice 22 (.int .i64 20) (.int .i64 20)).run Try.prog w1.drew = .ok (.slice (some ⟨w1.heap.size, 0, none⟩) 20 20) wz := hmk
  have HOZ : Hid (OwnB wz w1.heap.size (.slice (some ⟨w1.heap.size, 0, none⟩) 20 20) (List.replicate 20 0)) := hoz
  have hbz2 : Below w1.heap.size w1 wz := (Below.refl _ _).drew.trans hbz
  have HBZ := Lib.hid hbz2
  clear hmk hoz hbz hbz2
  (refine wp_region_held_drew (S := (fun w' => Below w1.heap.size w1 w')) (by kernel_rfl) ?_ (fun hHeld => ?_); (focus ((try dsimp only); (exact (Below.refl _ _).drew))))
  change wpAnyH _ _ _ _ _ 7 _ _ _
  (refine wpAnyH_take (i := 1) (v := ?_) rfl (by kernel_rfl) (by kernel_rfl) (by kernel_rfl) (fun _ _ _ h => h) (Or.inl ⟨by rfl, ?_⟩) hHeld ?_; rotate_left; (focus (intro w hSw; (try dsimp only at hSw); go_simp; try with_reducible rfl)); (try simp only [Act.put, List.setIfInBounds_toArray, List.set_cons_zero, List.set_cons_succ, List.getElem_toArray, List.getElem_cons_zero, List.getElem_cons_succ]))
  (refine wpAnyH_take (i := 2) (v := ?_) rfl (by kernel_rfl) (by kernel_rfl) (by kernel_rfl) (fun _ _ _ h => h) (Or.inl ⟨by rfl, ?_⟩) hHeld ?_; rotate_left; (focus (intro w hSw; (try dsimp only at hSw); go_simp; (have hcc := cell_later hSw hc10; go_simp; try with_reducible rfl))); (try simp only [Act.put, List.setIfInBounds_toArray, List.set_cons_zero, List.set_cons_succ, List.getElem_toArray, List.getElem_cons_zero, List.getElem_cons_succ]))
  (refine wpAnyH_take (i := 3) (v := ?_) rfl (by kernel_rfl) (by kernel_rfl) (by kernel_rfl) (fun _ _ _ h => h) (Or.inl ⟨by rfl, ?_⟩) hHeld ?_; rotate_left; (focus (intro w hSw; (try dsimp only at hSw); go_simp; try with_reducible rfl)); (try simp only [Act.put, List.setIfInBounds_toArray, List.set_cons_zero, List.set_cons_succ, List.getElem_toArray, List.getElem_cons_zero, List.getElem_cons_succ]))
  (refine wpAnyH_ready (rs := [0]) (by kernel_rfl) (by simp) ?_; refine AllReadyH.cons rfl (fun K hK => ?_) AllReadyH.nil; go_simp; skip; refine hK.out _ _ ?_ (fun hHeldN => ?_); (focus ((try dsimp only); (exact HBZ.out))); clear hK K hHeld; have hHeld := hHeldN; clear hHeldN; (try simp only [Act.put, List.setIfInBounds_toArray, List.set_cons_zero, List.set_cons_succ, List.getElem_toArray, List.getElem_cons_zero]))
  (refine wpAnyH_ready (rs := [4]) (by kernel_rfl) (by simp) ?_; refine AllReadyH.cons rfl (fun K hK => ?_) AllReadyH.nil; go_simp; skip; refine hK.out _ _ ?_ (fun hHeldN => ?_); (focus ((try dsimp only); (exact HBZ.out.alloc HBZ.out.size _))); clear hK K hHeld; have hHeld := hHeldN; clear hHeldN; (try simp only [Act.put, List.setIfInBounds_toArray, List.set_cons_zero, List.set_cons_succ, List.getElem_toArray, List.getElem_cons_zero, List.getElem_cons_succ]))
  (refine wpAnyH_ready (rs := [5]) (by kernel_rfl) (by simp) ?_; refine AllReadyH.cons rfl (fun K hK => ?_) AllReadyH.nil; go_simp; refine (joinW_own _ [List.replicate 20 0, O, P] _ (lists_three3 ((HOZ.out.bytes).later ((Below.refl _ _).alloc (Nat.le_refl _) _)) ((show Bytes wm _ O from HBO.out).later (HB1.out.trans ((HBZ.out.alloc HBZ.out.size _).mono HB1.out.size))) ((show Bytes wm (.slice pa Pn pc) P from HBP.out).later (HB1.out.trans ((HBZ.out.alloc HBZ.out.size _).mono HB1.out.size))) (by simp) (by simp) (by simp) (by simp)) (by simp) (by have a1 := HS.out; have a2 := HTL.out; have a3 := HPN.out; have a4 := k3; have a5 := HL40.out; simp; omega)).mono ?_; rintro e w2 ⟨v2, rfl, ho2, hb2⟩; refine hK.out _ _ ?_ (fun hHeldN => ?_); (focus ((try dsimp only); (exact (HBZ.out.alloc HBZ.out.size _).trans (hb2.mono (HBZ.out.alloc HBZ.out.size _).size)))); clear hK K hHeld; have hHeld := hHeldN; clear hHeldN; (try simp only [Act.put, List.setIfInBounds_toArray, List.set_cons_zero, List.set_cons_succ, List.getElem_toArray, List.getElem_cons_zero, List.getElem_cons_succ]))
  (refine wpAnyH_take (i := 6) (v := ?_) rfl (by kernel_rfl) (by kernel_rfl) (by kernel_rfl) (fun _ _ _ h => h) (Or.inl ⟨by rfl, ?_⟩) hHeld ?_; rotate_left; (focus (intro w hSw; (try dsimp only at hSw); go_simp; try with_reducible rfl)); (try simp only [Act.put, List.setIfInBounds_toArray, List.set_cons_zero, List.set_cons_succ, List.getElem_toArray, List.getElem_cons_zero, List.getElem_cons_succ]))
  refine wpAnyH_done (by kernel_rfl) ?_ _
  have hfl : [List.replicate 20 0, O, P].flatten = List.replicate 20 0 ++ (O ++ P) := by simp
  rw [hfl] at ho2
  have hln : (List.replicate 20 (0 : UInt8) ++ (O ++ P)).length = S + Pn := by rw [List.length_append, List.length_replicate, List.length_append, HS.out, HPN.out]; omega
  obtain ⟨L0, hL0⟩ : ∃ L0, L0 = List.replicate 20 (0 : UInt8) ++ (O ++ P) := ⟨_, rfl⟩
  rw [← hL0] at ho2 hln
  obtain ⟨g, cap, cur, rfl, hbg, hgc, hnc, hcs⟩ := ho2.row (by omega)
  obtain ⟨n, hn⟩ : ∃ n, n = L0.length := ⟨_, rfl⟩
  rw [← hn] at ho2 ⊢
  have hgl : g < w2.heap.size := by
    rcases Nat.lt_or_ge g w2.heap.size with h | h
    · exact h
    · rw [Array.getElem?_eq_none h] at hgc; cases hgc
  have hwz : w1.heap.size ≤ wz.heap.size := HBZ.out.size
  have hbase : w1.heap.size ≤ (wz.alloc (.cells #[.slice (some ⟨w1.heap.size, 0, none⟩) 20 20, .slice oa O.length oc, .slice pa Pn pc] 22)).heap.size := by rw [World.size_alloc]; omega
  have hsz2 := hb2.size
  obtain ⟨base, hba⟩ : ∃ b, b = (wz.alloc (.cells #[.slice (some ⟨w1.heap.size, 0, none⟩) 20 20, .slice oa O.length oc, .slice pa Pn pc] 22)).heap.size := ⟨_, rfl⟩
  rw [← hba] at ho2 hbase hsz2 hbg
  have hr2 : HdAt wm.heap.size [.int .u8 (h.tos : Nat), .int .u16 (h.id : Nat), .bool h.ev, .bool h.df, .bool h.mf, .int .i64 h.off, .int .u8 (h.ttl : Nat), .int .u8 (h.pr : Nat), .int .u32 (h.src : Nat), .int .u32 (h.dst : Nat), .slice oa O.length oc] w2 := HdAt.later HR1.out hHeld
  have hwm1 : wm.heap.size < w1.heap.size := HdAt.lt HR1.out
  have hbs0 : BS wm w2.heap.size g cap n base [.int .u8 (h.tos : Nat), .int .u16 (h.id : Nat), .bool h.ev, .bool h.df, .bool h.mf, .int .i64 h.off, .int .u8 (h.ttl : Nat), .int .u8 (h.pr : Nat), .int .u32 (h.src : Nat), .int .u32 (h.dst : Nat), .slice oa O.length oc] L0 (w2.alloc (.cells #[.slice (some ⟨g, 0, none⟩) n cap] 22)) := by
    refine ⟨hr2.later ((Below.refl _ _).alloc (Nat.le_refl _) _), World.alloc_heap_new _ _, OwnB.alloc (by rw [hn] at ho2 ⊢; exact ho2) _, hn.symm, (HB1.out.trans (hHeld.mono HB1.out.size)).alloc ?_ _, ?_, ?_, ?_, ?_⟩
    · have := (HB1.out.trans (hHeld.mono HB1.out.size)).size; exact this
    · omega
    · omega
    · omega
    · rw [World.size_alloc]; omega
  have HS0 := Lib.hid hbs0
  have HLN : Hid (n = S + Pn) := by show n = _; rw [hn, hln]
  have HL0 := Lib.hid hL0
  have hn6 : n ≤ 1000000 := by have := HTL.out; omega
  have hgw : w2.heap.size ≠ g := by omega
  obtain ⟨N, hN⟩ : ∃ N, N = w2.heap.size := ⟨_, rfl⟩
  rw [← hN] at HS0
  obtain ⟨q, hq⟩ : ∃ q, q = 64 + S / 4 := ⟨_, rfl⟩
  have hor := H64.out
  rw [← hq, show ((S / 4 : Nat) : Int) = (S : Int) / 4 by omega] at hor
  have HQ := Lib.hid hq
  have hNN := HN.out
  have c1 : IntKind.u64.wrap (q : Int) = q := IntWalk.u64_in _ ⟨by omega, by omega⟩
  have c2 : IntKind.u64.wrap (h.tos : Int) = h.tos := IntWalk.u64_in _ ⟨by omega, by omega⟩
  have c3 : IntKind.u64.wrap (n : Int) = n := IntWalk.u64_in _ ⟨by omega, by omega⟩
  have c4 : IntKind.u64.wrap (h.id : Int) = h.id := IntWalk.u64_in _ ⟨by omega, by omega⟩
  have c6 : IntKind.u64.wrap (h.ttl : Int) = h.ttl := IntWalk.u64_in _ ⟨by omega, by omega⟩
  have c7 : IntKind.u64.wrap (h.pr : Int) = h.pr := IntWalk.u64_in _ ⟨by omega, by omega⟩
  have c8 : IntKind.u64.wrap (h.src : Int) = h.src := IntWalk.u64_in _ ⟨by omega, by omega⟩
  have c9 : IntKind.u64.wrap (h.dst : Int) = h.dst := IntWalk.u64_in _ ⟨by omega, by omega⟩
  have HNQ : Hid (q < 256 ^ 1 ∧ h.tos < 256 ^ 1 ∧ n < 256 ^ 2 ∧ h.id < 256 ^ 2 ∧ flagsN h < 256 ^ 2 ∧ h.ttl < 256 ^ 1 ∧ h.pr < 256 ^ 1 ∧ h.src < 256 ^ 4 ∧ h.dst < 256 ^ 4) := by
    rw [hq, hn, hln]; exact HN.out
  have HNL : Hid (20 ≤ n ∧ n ≤ 1000000) := by rw [hn, hln]; exact HTL.out
  clear hfl hln hL0 hn ho2 hbg hgc hnc hcs hgl hwz hbase hsz2 hba hr2 hwm1 hbs0 hgw hb2 hHeld hmk' hc10 hn6 hq hNN
  go_wp2_with fail
  refine (numbersW_any _ _ _ _).mono ?_
  rintro e w3 ⟨rfl, hw3⟩
  rw [← hN] 
  rw [← hw3] at HS0
  clear hw3 hN
  go_wp2_with fail
  refine (BS.put HS0.out 0 1 (q) (by omega) (by omega) (by have := HNQ.out; omega) (by have := HNL.out; omega) HNL.out.2).mono ?_
  rintro e w1' ⟨⟨vv1, rfl⟩, hs1⟩
  have HS1 := Lib.hid hs1
  clear hs1
  have hcc1 := HdAt.cell HS1.out.hd (j := 0) rfl
  go_wp2_with fail
  refine (BS.put HS1.out 1 1 (h.tos) (by omega) (by omega) (by have := HNQ.out; omega) (by have := HNL.out; omega) HNL.out.2).mono ?_
  rintro e w2' ⟨⟨vv2, rfl⟩, hs2⟩
  have HS2 := Lib.hid hs2
  clear hs2 hcc1
  go_wp2_with fail
  refine (BS.put HS2.out 2 2 (n) (by omega) (by omega) (by have := HNQ.out; omega) (by have := HNL.out; omega) HNL.out.2).mono ?_
  rintro e w3' ⟨⟨vv3, rfl⟩, hs3⟩
  have HS3 := Lib.hid hs3
  clear hs3
  have hcc3 := HdAt.cell HS3.out.hd (j := 1) rfl
  go_wp2_with fail
  refine (BS.put HS3.out 4 2 (h.id) (by omega) (by omega) (by have := HNQ.out; omega) (by have := HNL.out; omega) HNL.out.2).mono ?_
  rintro e w4' ⟨⟨vv4, rfl⟩, hs4⟩
  have HS4 := Lib.hid hs4
  clear hs4 hcc3
  have hcx4 : ∀ j x, [.int .u8 (h.tos : Nat), .int .u16 (h.id : Nat), .bool h.ev, .bool h.df, .bool h.mf, .int .i64 h.off, .int .u8 (h.ttl : Nat), .int .u8 (h.pr : Nat), .int .u32 (h.src : Nat), .int .u32 (h.dst : Nat), .slice oa O.length oc][j]? = some x → w4'.cell? ⟨wm.heap.size, j, none⟩ = some x := fun j x hx => HdAt.cell HS4.out.hd hx
  have hd0 := hcx4 0 _ rfl
  have hd1 := hcx4 1 _ rfl
  have hd2 := hcx4 2 _ rfl
  have hd3 := hcx4 3 _ rfl
  have hd4 := hcx4 4 _ rfl
  have hd5 := hcx4 5 _ rfl
  have hd6 := hcx4 6 _ rfl
  have hd7 := hcx4 7 _ rfl
  have hd8 := hcx4 8 _ rfl
  have hd9 := hcx4 9 _ rfl
  have hd10 := hcx4 10 _ rfl
  clear hcx4
  go_wp2_with fail
  refine (flagsW_any h _ _ _ w4' HO.out.1 HO.out.2).mono ?_
  rintro e w4b ⟨rfl, hbf⟩
  have HS4b := Lib.hid (HS4.out.later hbf)
  clear hbf hd0 hd1 hd2 hd3 hd4 hd5 hd6 hd7 hd8 hd9 hd10
  go_wp2_with fail
  refine (BS.put HS4b.out 6 2 (flagsN h) (by omega) (by omega) (by have := HNQ.out; omega) (by have := HNL.out; omega) HNL.out.2).mono ?_
  rintro e w5' ⟨⟨vv5, rfl⟩, hs5⟩
  have HS5 := Lib.hid hs5
  clear hs5
  have hcc5 := HdAt.cell HS5.out.hd (j := 6) rfl
  go_wp2_with fail
  refine (BS.put HS5.out 8 1 (h.ttl) (by omega) (by omega) (by have := HNQ.out; omega) (by have := HNL.out; omega) HNL.out.2).mono ?_
  rintro e w6' ⟨⟨vv6, rfl⟩, hs6⟩
  have HS6 := Lib.hid hs6
  clear hs6 hcc5
  have hcc6 := HdAt.cell HS6.out.hd (j := 7) rfl
  go_wp2_with fail
  refine (BS.put HS6.out 9 1 (h.pr) (by omega) (by omega) (by have := HNQ.out; omega) (by have := HNL.out; omega) HNL.out.2).mono ?_
  rintro e w7' ⟨⟨vv7, rfl⟩, hs7⟩
  have HS7 := Lib.hid hs7
  clear hs7 hcc6
  have hcc7 := HdAt.cell HS7.out.hd (j := 8) rfl
  go_wp2_with fail
  refine (BS.put HS7.out 12 4 (h.src) (by omega) (by omega) (by have := HNQ.out; omega) (by have := HNL.out; omega) HNL.out.2).mono ?_
  rintro e w8' ⟨⟨vv8, rfl⟩, hs8⟩
  have HS8 := Lib.hid hs8
  clear hs8 hcc7
  have hcc8 := HdAt.cell HS8.out.hd (j := 9) rfl
  go_wp2_with fail
  refine (BS.put HS8.out 16 4 (h.dst) (by omega) (by omega) (by have := HNQ.out; omega) (by have := HNL.out; omega) HNL.out.2).mono ?_
  rintro e w9' ⟨⟨vv9, rfl⟩, hs9⟩
  have HS9 := Lib.hid hs9
  clear hs9 hcc8
  have hx9 : BS wm N g cap n base [.int .u8 (h.tos : Nat), .int .u16 (h.id : Nat), .bool h.ev, .bool h.df, .bool h.mf, .int .i64 h.off, .int .u8 (h.ttl : Nat), .int .u8 (h.pr : Nat), .int .u32 (h.src : Nat), .int .u32 (h.dst : Nat), .slice oa O.length oc] (hd20 h S n 0 ++ (O ++ P)) w9' := by
    have := HS9.out; rw [HL0.out, HQ.out] at this; exact this
  have hxl : (hd20 h S n 0 ++ (O ++ P)).length = n := hx9.len
  have htk : (hd20 h S n 0 ++ (O ++ P)).take S = hdrS h O P 0 := by
    unfold hdrS
    rw [← HPN.out, ← HS.out, ← HLN.out, ← List.append_assoc, List.take_append_of_le_length (by rw [List.length_append, hd20_length, HS.out]; omega), List.take_of_length_le (by rw [List.length_append, hd20_length, HS.out]; omega)]
  have hSn : S ≤ n := by rw [HLN.out]; omega
  have hby := hx9.ow.bytes
  obtain ⟨hcr, hcb⟩ := hby.cut_h (S : Int) S rfl (by rw [hxl]; exact hSn)
  rw [htk] at hcb
  have hchk := check_one w9' _ _ hcb (by unfold hdrS; rw [List.length_append, hd20_length]; have := HL40.out; omega)
  have hck : 65535 - Sm.tot (hdrS h O P 0) < 65536 := by omega
  obtain ⟨ck, hcke⟩ : ∃ ck, ck = 65535 - Sm.tot (hdrS h O P 0) := ⟨_, rfl⟩
  rw [← hcke] at hchk hck
  have c10 : IntKind.u64.wrap (ck : Int) = ck := IntWalk.u64_in _ ⟨by omega, by omega⟩
  have HCK := Lib.hid hchk
  have HCE := Lib.hid hcke
  have HC6 : Hid (ck < 256 ^ 2) := by show ck < _; omega
  have HX9 := Lib.hid hx9
  have g7 : (S : Int) ≤ n := by omega
  clear hx9 hxl htk hSn hby hcb hchk hck hcke c1 c2 c3 c4 c6 c7 c8 c9
  go_wp2_with fail
  refine HCK.out.mono ?_
  rintro e w10 ⟨rfl, hb10⟩
  have HS10 := Lib.hid (HX9.out.later hb10)
  clear hb10
  go_wp2_with fail
  refine (BS.put HS10.out 10 2 ck (by omega) (by omega) HC6.out (by have := HNL.out; omega) HNL.out.2).mono ?_
  rintro e w11 ⟨⟨vv11, rfl⟩, hs11⟩
  have HS11 := Lib.hid hs11
  clear hs11
  go_wp2_with fail
  go_ret2
  refine ⟨_, rfl, ?_, HS11.out.bel⟩
  have ho := HS11.out.ow
  have hlen := HS11.out.len
  rw [spl_chk] at ho hlen
  have hp : pktL h O P = hd20 h S n ck ++ (O ++ P) := by
    unfold pktL chkN
    rw [← HCE.out]
    unfold hdrS
    rw [← HPN.out, ← HS.out, ← HLN.out, List.append_assoc]
  rw [hp]
  exact OwnB.weak ho HS11.out.b0
end Go.Proofs.Ytnhkkpcepppgoaa

namespace Go.Proofs.Ytnhkkpcepppgoaa
open Go.RowKit
attribute [local go_sem ↓] Go.wp_at_zero Go.wp_at_succ

def u8n (n : Nat) : UInt8 := UInt8.ofNat n
theorem u8n_nat {n : Nat} (h : n < 256) : (u8n n).toNat = n := by unfold u8n; rw [UInt8.toNat_ofNat']; omega
def h4 (m : Mg) : List UInt8 := [u8n m.ty, u8n m.co, 0, 0]
def r4 (m : Mg) : List UInt8 := [u8n m.r0, u8n m.r1, u8n m.r2, u8n m.r3]
/-- A message's bytes before and behind its checksum is laid in. -/
def msg0 (m : Mg) (B : List UInt8) : List UInt8 := h4 m ++ (r4 m ++ B)
def msgL (m : Mg) (B : List UInt8) : List UInt8 := spl (msg0 m B) 2 (putL (65535 - Sm.tot (msg0 m B)) 2)
theorem msg0_length (m : Mg) (B : List UInt8) : (msg0 m B).length = 8 + B.length := by unfold msg0 h4 r4; simp; omega
theorem msgL_length (m : Mg) (B : List UInt8) : (msgL m B).length = 8 + B.length := by unfold msgL; rw [spl_length (by rw [putL_length, msg0_length]; omega), msg0_length]
theorem lit4 {m : Mg} (hm : m.Ok) (W : World) : Bytes (W.alloc (.cells #[.int .u8 (m.ty : Nat), .int .u8 (m.co : Nat), .int .u8 0, .int .u8 0] 5)) (.slice (some ⟨W.heap.size, 0, none⟩) 4 4) (h4 m) := by
  have h := bytes_lit W (h4 m)
  have e : (bv (h4 m)).toArray = #[.int .u8 (m.ty : Nat), .int .u8 (m.co : Nat), .int .u8 0, .int .u8 0] := by
    simp [bv, h4, u8n_nat hm.ty, u8n_nat hm.co]
  rw [e] at h
  exact h
theorem rest4 {m : Mg} (hm : m.Ok) {g : Nat} {u : Value} {W : World} (h : BlkAt 46 g [.int .u8 (m.ty : Nat), .int .u8 (m.co : Nat), .int .u8 (m.r0 : Nat), .int .u8 (m.r1 : Nat), .int .u8 (m.r2 : Nat), .int .u8 (m.r3 : Nat), u] W) : Bytes W (.slice (some ⟨g, 2, none⟩) 4 4) (r4 m) :=
  .inr ⟨g, 2, 4, rfl, h.lt, Nat.le_refl _, fun j x hx => by
    match j, hx with
    | 0, hx => have := h.cell (j := 2) rfl; simp [r4] at hx; subst hx; rw [u8n_nat hm.r0]; exact this
    | 1, hx => have := h.cell (j := 3) rfl; simp [r4] at hx; subst hx; rw [u8n_nat hm.r1]; exact this
    | 2, hx => have := h.cell (j := 4) rfl; simp [r4] at hx; subst hx; rw [u8n_nat hm.r2]; exact this
    | 3, hx => have := h.cell (j := 5) rfl; simp [r4] at hx; subst hx; rw [u8n_nat hm.r3]; exact this⟩

set_option maxHeartbeats 8000000 in
set_option maxRecDepth 100000 in
theorem bytesM_any (m : Mg) (hm : m.Ok) (a : Option Addr) (c : Nat) (B : List UInt8) (wm : World) (hB : Bytes wm (.slice a B.length c) B) (hl : B.length ≤ 9990) :
    Calls Try.prog 31 #[.agg #[.int .u8 (m.ty : Nat), .int .u8 (m.co : Nat), .int .u8 (m.r0 : Nat), .int .u8 (m.r1 : Nat), .int .u8 (m.r2 : Nat), .int .u8 (m.r3 : Nat), .slice a B.length c]] wm fun e w' => ∃ v, e = .returned v ∧ OwnB w' wm.heap.size v (msgL m B) ∧ Below wm.heap.size wm w' := by
  obtain ⟨bn, hbn⟩ : ∃ n, n = B.length := ⟨_, rfl⟩
  obtain ⟨w, hw⟩ : ∃ w, w = wm.alloc (.cells #[.int .u8 (m.ty : Nat), .int .u8 (m.co : Nat), .int .u8 (m.r0 : Nat), .int .u8 (m.r1 : Nat), .int .u8 (m.r2 : Nat), .int .u8 (m.r3 : Nat), .slice a bn c] 46) := ⟨_, rfl⟩
  have hbm : Below wm.heap.size wm w := by rw [hw]; exact (Below.refl _ _).alloc (Nat.le_refl _) _
  have hbx : BlkAt 46 wm.heap.size [.int .u8 (m.ty : Nat), .int .u8 (m.co : Nat), .int .u8 (m.r0 : Nat), .int .u8 (m.r1 : Nat), .int .u8 (m.r2 : Nat), .int .u8 (m.r3 : Nat), .slice a bn c] w := by rw [hw]; exact BlkAt.new wm _
  have HBM := Lib.hid hbm
  have HBX := Lib.hid hbx
  have HBN := Lib.hid hbn
  have HB : Hid (Bytes w (.slice a bn c) B) := by rw [hbn]; exact hB.later hbm
  have HL : Hid (B.length ≤ 9990) := hl
  have HM := Lib.hid hm
  rw [← hbn]
  clear hbm hbx hbn hB hl hm
  go_enter Try.func31, Try.ntmps31
  go_wp2_with fail
  rw [← hw]
  clear hw
  (refine wp_region_held_drew (S := (fun w' => Below w.heap.size w w')) (by kernel_rfl) ?_ (fun hHeld => ?_); (focus ((try dsimp only); (exact (Below.refl _ _).drew))))
  (try dsimp only at hHeld)
  obtain ⟨w0, hw0⟩ : ∃ w4, w4 = World.drew w := ⟨_, rfl⟩
  rw [← hw0]
  rw [← hw0] at hHeld
  clear hw0
  (refine wpAnyH_take (i := 0) (v := ?_) rfl (by kernel_rfl) (by kernel_rfl) (by kernel_rfl) (fun _ _ _ h => h) (Or.inl ⟨by rfl, ?_⟩) hHeld ?_; rotate_left; (focus (intro w hSw; (try dsimp only at hSw); go_simp; try with_reducible rfl)); (try simp only [Act.put, List.setIfInBounds_toArray, List.set_cons_zero, List.set_cons_succ, List.getElem_toArray, List.getElem_cons_zero]))
  (refine wpAnyH_take (i := 1) (v := ?_) rfl (by kernel_rfl) (by kernel_rfl) (by kernel_rfl) (fun _ _ _ h => h) (Or.inl ⟨by rfl, ?_⟩) hHeld ?_; rotate_left; (focus (intro w hSw; (try dsimp only at hSw); go_simp; (have hcc := (HBX.out.later hSw).cell (j := 0) rfl; go_simp; try with_reducible rfl))); (try simp only [Act.put, List.setIfInBounds_toArray, List.set_cons_zero, List.set_cons_succ, List.getElem_toArray, List.getElem_cons_zero, List.getElem_cons_succ]))
  (refine wpAnyH_take (i := 2) (v := ?_) rfl (by kernel_rfl) (by kernel_rfl) (by kernel_rfl) (fun _ _ _ h => h) (Or.inl ⟨by rfl, ?_⟩) hHeld ?_; rotate_left; (focus (intro w hSw; (try dsimp only at hSw); go_simp; try with_reducible rfl)); (try simp only [Act.put, List.setIfInBounds_toArray, List.set_cons_zero, List.set_cons_succ, List.getElem_toArray, List.getElem_cons_zero, List.getElem_cons_succ]))
  (refine wpAnyH_take (i := 3) (v := ?_) rfl (by kernel_rfl) (by kernel_rfl) (by kernel_rfl) (fun _ _ _ h => h) (Or.inl ⟨by rfl, ?_⟩) hHeld ?_; rotate_left; (focus (intro w hSw; (try dsimp only at hSw); go_simp; (have hcc := (HBX.out.later hSw).cell (j := 1) rfl; go_simp; try with_reducible rfl))); (try simp only [Act.put, List.setIfInBounds_toArray, List.set_cons_zero, List.set_cons_succ, List.getElem_toArray, List.getElem_cons_zero, List.getElem_cons_succ]))
  (refine wpAnyH_take (i := 5) (v := ?_) rfl (by kernel_rfl) (by kernel_rfl) (by kernel_rfl) (fun _ _ _ h => h) (Or.inl ⟨by rfl, ?_⟩) hHeld ?_; rotate_left; (focus (intro w hSw; (try dsimp only at hSw); go_simp; try with_reducible rfl)); (try simp only [Act.put, List.setIfInBounds_toArray, List.set_cons_zero, List.set_cons_succ, List.getElem_toArray, List.getElem_cons_zero, List.getElem_cons_succ])); (refine wpAnyH_take (i := 6) (v := ?_) rfl (by kernel_rfl) (by kernel_rfl) (by kernel_rfl) (fun _ _ _ h => h) (Or.inl ⟨by rfl, ?_⟩) hHeld ?_; rotate_left; (focus (intro w hSw; (try dsimp only at hSw); go_simp; try with_reducible rfl)); (try simp only [Act.put, List.setIfInBounds_toArray, List.set_cons_zero, List.set_cons_succ, List.getElem_toArray, List.getElem_cons_zero, List.getElem_cons_succ])); (refine wpAnyH_take (i := 7) (v := ?_) rfl (by kernel_rfl) (by kernel_rfl) (by kernel_rfl) (fun _ _ _ h => h) (Or.inl ⟨by rfl, ?_⟩) hHeld ?_; rotate_left; (focus (intro w hSw; (try dsimp only at hSw); go_simp; try with_reducible rfl)); (try simp only [Act.put, List.setIfInBounds_toArray, List.set_cons_zero, List.set_cons_succ, List.getElem_toArray, List.getElem_cons_zero, List.getElem_cons_succ]))
  (refine wpAnyH_take (i := 8) (v := ?_) rfl (by kernel_rfl) (by kernel_rfl) (by kernel_rfl) (fun _ _ _ h => h) (Or.inl ⟨by rfl, ?_⟩) hHeld ?_; rotate_left; (focus (intro w hSw; (try dsimp only at hSw); go_simp; (have hcc := (HBX.out.later hSw).cell (j := 6) rfl; go_simp; try with_reducible rfl))); (try simp only [Act.put, List.setIfInBounds_toArray, List.set_cons_zero, List.set_cons_succ, List.getElem_toArray, List.getElem_cons_zero, List.getElem_cons_succ]))
  (refine wpAnyH_ready (rs := [4]) (by kernel_rfl) (by simp) ?_; refine AllReadyH.cons rfl (fun K hK => ?_) AllReadyH.nil; go_simp; skip; refine hK.out _ _ ?_ (fun hHeldN => ?_); (focus ((try dsimp only); (exact hHeld.alloc hHeld.size _))); clear hK K hHeld; have hHeld := hHeldN; clear hHeldN; (try simp only [Act.put, List.setIfInBounds_toArray, List.set_cons_zero, List.set_cons_succ, List.getElem_toArray, List.getElem_cons_zero, List.getElem_cons_succ]))
  (refine wpAnyH_ready (rs := [9]) (by kernel_rfl) (by simp) ?_; refine AllReadyH.cons rfl (fun K hK => ?_) AllReadyH.nil; go_simp; skip; refine hK.out _ _ ?_ (fun hHeldN => ?_); (focus ((try dsimp only); (exact hHeld.alloc hHeld.size _))); clear hK K hHeld; have hHeld := hHeldN; clear hHeldN; (try simp only [Act.put, List.setIfInBounds_toArray, List.set_cons_zero, List.set_cons_succ, List.getElem_toArray, List.getElem_cons_zero, List.getElem_cons_succ]))
  (refine wpAnyH_ready (rs := [10]) (by kernel_rfl) (by simp) ?_; refine AllReadyH.cons rfl (fun K hK => ?_) AllReadyH.nil; go_simp; refine (joinW_own _ [h4 m, r4 m, B] _ (lists_three3 ((lit4 HM.out w0).later ((Below.refl _ _).alloc (Nat.le_refl _) _)) (rest4 HM.out (HBX.out.later hHeld)) ((show Bytes w _ B from HB.out).later hHeld) (by simp) (by simp) (by simp) (by simp)) (by simp) (by have := HL.out; simp [h4, r4]; omega)).mono ?_; rintro e w2 ⟨v2, rfl, ho2, hb2⟩; have ho2 := OwnB.weak ho2 (Nat.le_trans HBM.out.size hHeld.size); refine hK.out _ _ ?_ (fun hHeldN => ?_); (focus ((try dsimp only); (exact hHeld.trans (hb2.mono hHeld.size)))); clear hK K hHeld; have hHeld := hHeldN; clear hHeldN; (try simp only [Act.put, List.setIfInBounds_toArray, List.set_cons_zero, List.set_cons_succ, List.getElem_toArray, List.getElem_cons_zero, List.getElem_cons_succ]))
  (refine wpAnyH_take (i := 11) (v := ?_) rfl (by kernel_rfl) (by kernel_rfl) (by kernel_rfl) (fun _ _ _ h => h) (Or.inl ⟨by rfl, ?_⟩) hHeld ?_; rotate_left; (focus (intro w hSw; (try dsimp only at hSw); go_simp; try with_reducible rfl)); (try simp only [Act.put, List.setIfInBounds_toArray, List.set_cons_zero, List.set_cons_succ, List.getElem_toArray, List.getElem_cons_zero, List.getElem_cons_succ]))
  refine wpAnyH_done (by kernel_rfl) ?_ _
  rw [show [h4 m, r4 m, B].flatten = msg0 m B from by simp [msg0]] at ho2
  obtain ⟨L0, hL0⟩ : ∃ L0, L0 = msg0 m B := ⟨_, rfl⟩
  rw [← hL0] at ho2
  have hln : L0.length = 8 + bn := by rw [hL0, msg0_length, HBN.out]
  obtain ⟨g, cap, _, rfl, hbg, _, hnc, _⟩ := ho2.row (by omega)
  obtain ⟨n, hn⟩ : ∃ n, n = L0.length := ⟨_, rfl⟩
  have hcut : ∀ W, (Instr.slice 22 (.slice (some ⟨g, 0, none⟩) n cap) (some (.int .i64 2)) none none).run Try.prog W = .ok (.slice (some ⟨g, 2, none⟩) (n - 2) (cap - 2)) W := fun W => cut_front g n cap 2 (by omega) (by omega) W
  have HLN : Hid (n = 8 + bn ∧ n = L0.length ∧ L0 = msg0 m B ∧ wm.heap.size ≤ g ∧ L0.length ≤ cap ∧ L0.length ≤ 10000) := ⟨by omega, hn, hL0, hbg, hnc, by have := HBN.out; have := HL.out; omega⟩
  have HB2 := Lib.hid (HBM.out.trans (hHeld.mono HBM.out.size))
  have HO2 := Lib.hid ho2
  have k2 : (2 : Int) ≤ n := by omega
  have k3 : n ≤ cap := by omega
  obtain ⟨ck, hck⟩ : ∃ k, k = 65535 - Sm.tot L0 := ⟨_, rfl⟩
  have HCK := Lib.hid hck
  have HC6 : Hid (ck < 65536) := by show ck < 65536; omega
  rw [← hn]
  clear hL0 hln hbg hnc hn hck ho2 hb2 hHeld
  go_wp2_with fail
  (refine wp_region_held_drew (S := (fun w' => Below wm.heap.size wm w')) (by kernel_rfl) ?_ (fun hHeld => ?_); (focus ((try dsimp only); (exact HB2.out.drew))))
  (try dsimp only at hHeld)
  obtain ⟨w3, hw3⟩ : ∃ w4, w4 = World.drew w2 := ⟨_, rfl⟩
  have HO3 : Hid (OwnB w3 wm.heap.size (.slice (some ⟨g, 0, none⟩) L0.length cap) L0) := by rw [hw3]; exact HO2.out
  rw [← hw3]
  rw [← hw3] at hHeld
  clear hw3
  (refine wpAnyH_take (i := 0) (v := ?_) rfl (by kernel_rfl) (by kernel_rfl) (by kernel_rfl) (fun _ _ _ h => h) (Or.inl ⟨by rfl, ?_⟩) hHeld ?_; rotate_left; (focus (intro w hSw; (try dsimp only at hSw); go_simp; try with_reducible rfl)); (try simp only [Act.put, List.setIfInBounds_toArray, List.set_cons_zero, List.set_cons_succ, List.getElem_toArray, List.getElem_cons_zero])); (refine wpAnyH_take (i := 1) (v := ?_) rfl (by kernel_rfl) (by kernel_rfl) (by kernel_rfl) (fun _ _ _ h => h) (Or.inl ⟨by rfl, ?_⟩) hHeld ?_; rotate_left; (focus (intro w hSw; (try dsimp only at hSw); go_simp; try with_reducible rfl)); (try simp only [Act.put, List.setIfInBounds_toArray, List.set_cons_zero, List.set_cons_succ, List.getElem_toArray, List.getElem_cons_zero, List.getElem_cons_succ])); (refine wpAnyH_take (i := 2) (v := ?_) rfl (by kernel_rfl) (by kernel_rfl) (by kernel_rfl) (fun _ _ _ h => h) (Or.inl ⟨by rfl, ?_⟩) hHeld ?_; rotate_left; (focus (intro w hSw; (try dsimp only at hSw); go_simp; try with_reducible rfl)); (try simp only [Act.put, List.setIfInBounds_toArray, List.set_cons_zero, List.set_cons_succ, List.getElem_toArray, List.getElem_cons_zero, List.getElem_cons_succ]))
  have H3 := Lib.hid hHeld
  (refine wpAnyH_ready (rs := [3]) (by kernel_rfl) (by simp) ?_; refine AllReadyH.cons rfl (fun K hK => ?_) AllReadyH.nil; go_simp; skip; refine hK.out _ _ ?_ (fun hHeldN => ?_); (focus ((try dsimp only); (exact hHeld.alloc hHeld.size _))); clear hK K hHeld; have hHeld := hHeldN; clear hHeldN; (try simp only [Act.put, List.setIfInBounds_toArray, List.set_cons_zero, List.set_cons_succ, List.getElem_toArray, List.getElem_cons_zero, List.getElem_cons_succ]))
  (refine wpAnyH_ready (rs := [4]) (by kernel_rfl) (by simp) ?_; refine AllReadyH.cons rfl (fun K hK => ?_) AllReadyH.nil; go_simp; have hc1 := check_one w3 (.slice (some ⟨g, 0, none⟩) n cap) L0 (by have h9 := OwnB.bytes HO3.out; rw [← HLN.out.2.1] at h9; exact h9) HLN.out.2.2.2.2.2; rw [← HCK.out] at hc1; refine hc1.mono ?_; rintro e w4 ⟨rfl, hb4⟩; have HO4 := Lib.hid (OwnB.later HO3.out hb4); refine hK.out _ _ ?_ (fun hHeldN => ?_); (focus ((try dsimp only); (exact H3.out.trans (hb4.mono H3.out.size)))); clear hK K hHeld; have hHeld := hHeldN; clear hHeldN; (try simp only [Act.put, List.setIfInBounds_toArray, List.set_cons_zero, List.set_cons_succ, List.getElem_toArray, List.getElem_cons_zero, List.getElem_cons_succ]))
  clear hb4 H3
  have hwc : IntKind.i64.wrap (ck : Int) = (ck : Int) := IntWalk.i64_in _ ⟨by have := HC6.out; omega, by have := HC6.out; omega⟩
  (refine wpAnyH_take (i := 5) (v := ?_) rfl (by kernel_rfl) (by kernel_rfl) (by kernel_rfl) (fun _ _ _ h => h) (Or.inl ⟨by rfl, ?_⟩) hHeld ?_; rotate_left; (focus (intro w hSw; (try dsimp only at hSw); go_simp; try with_reducible rfl)); (try simp only [Act.put, List.setIfInBounds_toArray, List.set_cons_zero, List.set_cons_succ, List.getElem_toArray, List.getElem_cons_zero, List.getElem_cons_succ]))
  (refine wpAnyH_ready (rs := [6]) (by kernel_rfl) (by simp) ?_; refine AllReadyH.cons rfl (fun K hK => ?_) AllReadyH.nil; go_simp; refine (pair_any ck HC6.out w4).mono ?_; rintro e w5 ⟨y, rfl, hy, hb5⟩; have HO5 := Lib.hid (OwnB.later HO4.out hb5); refine hK.out _ _ ?_ (fun hHeldN => ?_); (focus ((try dsimp only); (exact hHeld.trans (hb5.mono hHeld.size)))); clear hK K hHeld; have hHeld := hHeldN; clear hHeldN; (try simp only [Act.put, List.setIfInBounds_toArray, List.set_cons_zero, List.set_cons_succ, List.getElem_toArray, List.getElem_cons_zero, List.getElem_cons_succ]))
  clear hb5
  obtain ⟨b5, o5, c5, rfl⟩ : ∃ b o c, y = .slice (some ⟨b, o, none⟩) 2 c := by
    rcases hy with ⟨h0, _⟩ | ⟨b, o, c, e, _⟩
    · have := congrArg List.length h0; rw [putL_length] at this; simp at this
    · rw [putL_length] at e; exact ⟨b, o, c, e⟩
  obtain ⟨gz, cz, cur, e1, hbz, hgc, hnc, hcs⟩ := OwnB.row HO5.out (by have := HLN.out; omega)
  simp only [Value.slice.injEq, Option.some.injEq, Addr.mk.injEq, and_true] at e1
  obtain ⟨rfl, _, rfl⟩ := e1
  have k4 : 2 ≤ n - 2 := by have := HLN.out; omega
  (refine wpAnyH_ready (rs := [7]) (by kernel_rfl) (by simp) ?_; refine AllReadyH.cons rfl (fun K hK => ?_) AllReadyH.nil; refine step_copy_blk rfl (.tmp 16) (.tmp 21) 22 22 rfl 5 Try.underlying22 (by kernel_rfl) g 2 _ _ ⟨b5, o5, none⟩ _ _ rfl rfl cur.toList 5 (by simpa using hgc) (bv (putL ck 2)) (by rw [show (bv (putL ck 2)).length = 2 from by simp [bv, putL_length]]; exact (Nat.min_eq_left k4).symm) (Bytes.news hy) (by rw [show (bv (putL ck 2)).length = 2 from by simp [bv, putL_length]]; have := HLN.out; simp; omega) (bv_one _) ?_; intro w6 hg6 hk6 hb6; refine hK.out _ _ ?_ (fun hHeldN => ?_); (focus ((try dsimp only); (exact hHeld.trans (hb6.out _ HLN.out.2.2.2.1)))); clear hK K hHeld; have hHeld := hHeldN; clear hHeldN; (try simp only [Act.put, List.setIfInBounds_toArray, List.set_cons_zero, List.set_cons_succ, List.getElem_toArray, List.getElem_cons_zero, List.getElem_cons_succ]))
  refine wpAnyH_done (by kernel_rfl) ?_ _
  have hO6 : OwnB w6 wm.heap.size (.slice (some ⟨g, 0, none⟩) (spl L0 2 (putL ck 2)).length cap) (spl L0 2 (putL ck 2)) := OwnB.splice HO5.out hgc (by simpa using hg6.out) (by rw [putL_length]; have := HLN.out; omega)
  have HO6 : Hid (OwnB w6 wm.heap.size (.slice (some ⟨g, 0, none⟩) n cap) (msgL m B)) := by
    show OwnB _ _ _ _
    have e : spl L0 2 (putL ck 2) = msgL m B := by unfold msgL; rw [HCK.out, HLN.out.2.2.1]
    have e2 : (spl L0 2 (putL ck 2)).length = n := by rw [e, msgL_length, HLN.out.1, HBN.out]
    rw [e2, e] at hO6; exact hO6
  have HB6 := Lib.hid hHeld
  clear hO6 hHeld hg6 hk6 hb6 hgc
  go_wp2_with fail
  go_ret
  exact ⟨_, rfl, HO6.out, HB6.out⟩
end Go.Proofs.Ytnhkkpcepppgoaa
