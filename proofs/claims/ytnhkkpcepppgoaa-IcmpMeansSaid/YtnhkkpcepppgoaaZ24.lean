/- The walk of the law's own right. -/
import Derived.Test.YtnhkkpcepppgoaaZ23

set_option linter.unusedSimpArgs false
set_option linter.unusedVariables false
namespace Go.Proofs.Ytnhkkpcepppgoaa
open Go.RowKit
attribute [local go_sem ↓] Go.wp_at_zero Go.wp_at_succ

set_option maxHeartbeats 8000000 in
set_option maxRecDepth 100000 in
theorem right_yes (v : Value) (l : List UInt8) (hl : l.length ≤ 1000000) (fr to : Nat) (wm : World) (hv : Bytes wm v l) (hf : flt l = 0) (hpr : (hdP l).pr = 1) (htt : (hdP l).ttl = 64) (hs : (hdP l).src = fr) (hd : (hdP l).dst = to) (hk : okM (plP l) = true) :
    Calls Try.prog 46 #[v, .int .u32 (fr : Nat), .int .u32 (to : Nat)] wm fun e w' => ∃ b, e = .returned (.tuple #[.agg #[.int .u8 ((mgP (plP l)).ty : Nat), .int .u8 ((mgP (plP l)).co : Nat), .int .u8 ((mgP (plP l)).r0 : Nat), .int .u8 ((mgP (plP l)).r1 : Nat), .int .u8 ((mgP (plP l)).r2 : Nat), .int .u8 ((mgP (plP l)).r3 : Nat), b], .bool true]) ∧ Bytes w' b (bdP (plP l)) ∧ Below wm.heap.size wm w' := by
  have hpl := pl_le hf
  obtain ⟨a, c, rfl⟩ := hv.form
  have hbb : Below wm.heap.size wm (wm.alloc (.cells #[.int .u8 0, .int .u8 0, .int .u8 0, .int .u8 0, .int .u8 0, .int .u8 0, .slice none 0 0] 46)) := (Below.refl _ _).alloc (Nat.le_refl _) _
  have hg2 : BlkAt 46 wm.heap.size [.int .u8 0, .int .u8 0, .int .u8 0, .int .u8 0, .int .u8 0, .int .u8 0, .slice none 0 0] (wm.alloc (.cells #[.int .u8 0, .int .u8 0, .int .u8 0, .int .u8 0, .int .u8 0, .int .u8 0, .slice none 0 0] 46)) := BlkAt.new wm _
  have hp := prsW_any _ l hl _ (hv.later hbb)
  have HBB := Lib.hid hbb
  have HG2 := Lib.hid hg2
  obtain ⟨h, hh⟩ : ∃ h, h = hdP l := ⟨_, rfl⟩
  obtain ⟨P, hP⟩ : ∃ P, P = plP l := ⟨_, rfl⟩
  obtain ⟨O, hO⟩ : ∃ P, P = opP l := ⟨_, rfl⟩
  obtain ⟨n, hn⟩ : ∃ n, n = l.length := ⟨_, rfl⟩
  obtain ⟨m, hm⟩ : ∃ m, m = mgP P := ⟨_, rfl⟩
  obtain ⟨D, hD⟩ : ∃ m, m = bdP P := ⟨_, rfl⟩
  unfold PrsW at hp
  rw [← hh, ← hP, ← hO, hf, ← hn] at hp
  rw [← hh] at hpr htt hs hd
  rw [← hP] at hk hpl
  rw [← hn, ← hP, ← hm, ← hD]
  have HP := Lib.hid hp
  have k1 : ((h.pr : Int) == 1) = true := by rw [beq_iff_eq]; omega
  have k2 : ((h.ttl : Int) == 64) = true := by rw [beq_iff_eq]; omega
  have k3 : ((h.src : Int) == (fr : Int)) = true := by rw [beq_iff_eq]; omega
  have k4 : ((h.dst : Int) == (to : Int)) = true := by rw [beq_iff_eq]; omega
  have HOF : Hid (∀ (v : Value) W, Bytes W v P → Calls Try.prog 27 #[v] W fun e w' => ∃ u, e = .returned (.tuple #[.agg #[.int .u8 (m.ty : Nat), .int .u8 (m.co : Nat), .int .u8 (m.r0 : Nat), .int .u8 (m.r1 : Nat), .int .u8 (m.r2 : Nat), .int .u8 (m.r3 : Nat), u], .int .i64 0]) ∧ OwnB w' W.heap.size u D ∧ Below W.heap.size W w') := fun v W hb => by
    have h9 := ofW_anyB v P W hb (by omega)
    rw [show erP P = 0 from by unfold erP; rw [hk]; rfl, ← hm, ← hD] at h9
    exact h9
  clear hp hh hP hO hn hv hl hbb hg2 hf hpr htt hs hd hk hm hD hpl
  go_enter Try.func46, Try.ntmps46
  go_wp2_with fail
  refine HP.out.mono ?_
  rintro e w1 ⟨u, v, B, rfl, hu, hvv, _, _, hb1⟩
  obtain ⟨ua, uc, rfl⟩ := hu.form
  obtain ⟨pa, pc, rfl⟩ := hvv.form
  obtain ⟨on, hon⟩ : ∃ n, n = O.length := ⟨_, rfl⟩
  obtain ⟨pn, hpn⟩ : ∃ n, n = P.length := ⟨_, rfl⟩
  rw [← hon, ← hpn]
  have HBA := Lib.hid (hb1.alloc hb1.size (.cells #[.int .u8 (h.tos : Nat), .int .u16 (h.id : Nat), .bool h.ev, .bool h.df, .bool h.mf, .int .i64 h.off, .int .u8 (h.ttl : Nat), .int .u8 (h.pr : Nat), .int .u32 (h.src : Nat), .int .u32 (h.dst : Nat), .slice ua on uc] 28))
  have HS1 := Lib.hid hb1.size
  have HVV := Lib.hid (OwnB.bytes (OwnB.later hvv ((Below.refl _ _).alloc (Nat.le_refl _) (.cells #[.int .u8 (h.tos : Nat), .int .u16 (h.id : Nat), .bool h.ev, .bool h.df, .bool h.mf, .int .i64 h.off, .int .u8 (h.ttl : Nat), .int .u8 (h.pr : Nat), .int .u32 (h.src : Nat), .int .u32 (h.dst : Nat), .slice ua on uc] 28))))
  have HT5 : Hid (BlkAt 28 w1.heap.size [.int .u8 (h.tos : Nat), .int .u16 (h.id : Nat), .bool h.ev, .bool h.df, .bool h.mf, .int .i64 h.off, .int .u8 (h.ttl : Nat), .int .u8 (h.pr : Nat), .int .u32 (h.src : Nat), .int .u32 (h.dst : Nat), .slice ua on uc] (w1.alloc (.cells #[.int .u8 (h.tos : Nat), .int .u16 (h.id : Nat), .bool h.ev, .bool h.df, .bool h.mf, .int .i64 h.off, .int .u8 (h.ttl : Nat), .int .u8 (h.pr : Nat), .int .u32 (h.src : Nat), .int .u32 (h.dst : Nat), .slice ua on uc] 28))) := BlkAt.new w1 _
  rw [← hpn] at HVV
  clear hu hvv hb1 hon hpn
  go_wp2_with fail
  refine (HOF.out _ _ HVV.out).mono ?_
  rintro e w2 ⟨b, rfl, hob, hb3⟩
  obtain ⟨ba, bc, rfl⟩ := hob.form
  obtain ⟨bn, hbn⟩ : ∃ n, n = D.length := ⟨_, rfl⟩
  rw [← hbn] at hob ⊢
  have HOB := Lib.hid hob
  have HS3 := Lib.hid hb3.size
  have ha3 : Below w2.heap.size w2 (w2.alloc (.cells #[.int .u8 (m.ty : Nat), .int .u8 (m.co : Nat), .int .u8 (m.r0 : Nat), .int .u8 (m.r1 : Nat), .int .u8 (m.r2 : Nat), .int .u8 (m.r3 : Nat), .slice ba bn bc] 46)) := (Below.refl _ _).alloc (Nat.le_refl _) _
  have HR6 : Hid (BlkAt 46 wm.heap.size [.int .u8 0, .int .u8 0, .int .u8 0, .int .u8 0, .int .u8 0, .int .u8 0, .slice none 0 0] (w2.alloc (.cells #[.int .u8 (m.ty : Nat), .int .u8 (m.co : Nat), .int .u8 (m.r0 : Nat), .int .u8 (m.r1 : Nat), .int .u8 (m.r2 : Nat), .int .u8 (m.r3 : Nat), .slice ba bn bc] 46))) := ((HG2.out.later HBA.out).later hb3).later ha3
  have HR8 : Hid (BlkAt 28 w1.heap.size [.int .u8 (h.tos : Nat), .int .u16 (h.id : Nat), .bool h.ev, .bool h.df, .bool h.mf, .int .i64 h.off, .int .u8 (h.ttl : Nat), .int .u8 (h.pr : Nat), .int .u32 (h.src : Nat), .int .u32 (h.dst : Nat), .slice ua on uc] (w2.alloc (.cells #[.int .u8 (m.ty : Nat), .int .u8 (m.co : Nat), .int .u8 (m.r0 : Nat), .int .u8 (m.r1 : Nat), .int .u8 (m.r2 : Nat), .int .u8 (m.r3 : Nat), .slice ba bn bc] 46))) := (HT5.out.later hb3).later ha3
  have HR11 : Hid (BlkAt 46 w2.heap.size [.int .u8 (m.ty : Nat), .int .u8 (m.co : Nat), .int .u8 (m.r0 : Nat), .int .u8 (m.r1 : Nat), .int .u8 (m.r2 : Nat), .int .u8 (m.r3 : Nat), .slice ba bn bc] (w2.alloc (.cells #[.int .u8 (m.ty : Nat), .int .u8 (m.co : Nat), .int .u8 (m.r0 : Nat), .int .u8 (m.r1 : Nat), .int .u8 (m.r2 : Nat), .int .u8 (m.r3 : Nat), .slice ba bn bc] 46))) := BlkAt.new w2 _
  have hq1 : Below wm.heap.size wm (w1.alloc (.cells #[.int .u8 (h.tos : Nat), .int .u16 (h.id : Nat), .bool h.ev, .bool h.df, .bool h.mf, .int .i64 h.off, .int .u8 (h.ttl : Nat), .int .u8 (h.pr : Nat), .int .u32 (h.src : Nat), .int .u32 (h.dst : Nat), .slice ua on uc] 28)) := HBB.out.trans (HBA.out.mono HBB.out.size)
  have HB8 : Hid (Below wm.heap.size wm (w2.alloc (.cells #[.int .u8 (m.ty : Nat), .int .u8 (m.co : Nat), .int .u8 (m.r0 : Nat), .int .u8 (m.r1 : Nat), .int .u8 (m.r2 : Nat), .int .u8 (m.r3 : Nat), .slice ba bn bc] 46))) := (hq1.trans (hb3.mono hq1.size)).trans (ha3.mono (hq1.trans (hb3.mono hq1.size)).size)
  have HO8 := Lib.hid (OwnB.alloc HOB.out (.cells #[.int .u8 (m.ty : Nat), .int .u8 (m.co : Nat), .int .u8 (m.r0 : Nat), .int .u8 (m.r1 : Nat), .int .u8 (m.r2 : Nat), .int .u8 (m.r3 : Nat), .slice ba bn bc] 46))
  have HN1 : Hid (w1.heap.size ≠ wm.heap.size ∧ w2.heap.size ≠ wm.heap.size) := by
    have h1 := HS1.out
    have h2 := HS3.out
    simp only [World.size_alloc] at h1 h2
    refine ⟨?_, ?_⟩ <;> omega
  clear hb3 ha3 hob hbn hq1 HVV HT5 HOB HBA HBB HG2
  go_wp2_with fail
  (refine wp_region_held_drew (S := (fun w' => BlkAt 28 w1.heap.size [.int .u8 (h.tos : Nat), .int .u16 (h.id : Nat), .bool h.ev, .bool h.df, .bool h.mf, .int .i64 h.off, .int .u8 (h.ttl : Nat), .int .u8 (h.pr : Nat), .int .u32 (h.src : Nat), .int .u32 (h.dst : Nat), .slice ua on uc] w' ∧ BlkAt 46 w2.heap.size [.int .u8 (m.ty : Nat), .int .u8 (m.co : Nat), .int .u8 (m.r0 : Nat), .int .u8 (m.r1 : Nat), .int .u8 (m.r2 : Nat), .int .u8 (m.r3 : Nat), .slice ba bn bc] w' ∧ Below wm.heap.size wm w')) (by kernel_rfl) ?_ (fun hHeld => ?_); (focus ((try dsimp only); (exact ⟨HR8.out, HR11.out, HB8.out.drew⟩))))
  (try dsimp only at hHeld)
  obtain ⟨w0, hw0⟩ : ∃ w0, w0 = World.drew (w2.alloc (.cells #[.int .u8 (m.ty : Nat), .int .u8 (m.co : Nat), .int .u8 (m.r0 : Nat), .int .u8 (m.r1 : Nat), .int .u8 (m.r2 : Nat), .int .u8 (m.r3 : Nat), .slice ba bn bc] 46)) := ⟨_, rfl⟩
  have R3 : Hid (BlkAt 46 wm.heap.size [.int .u8 0, .int .u8 0, .int .u8 0, .int .u8 0, .int .u8 0, .int .u8 0, .slice none 0 0] w0) := by rw [hw0]; exact HR6.out
  have RO : Hid (OwnB w0 (w1.alloc (.cells #[.int .u8 (h.tos : Nat), .int .u16 (h.id : Nat), .bool h.ev, .bool h.df, .bool h.mf, .int .i64 h.off, .int .u8 (h.ttl : Nat), .int .u8 (h.pr : Nat), .int .u32 (h.src : Nat), .int .u32 (h.dst : Nat), .slice ua on uc] 28)).heap.size (.slice ba bn bc) D) := by rw [hw0]; exact HO8.out.drew
  rw [← hw0]
  rw [← hw0] at hHeld
  clear hw0 HR6 HR8 HR11 HB8 HO8
  (refine wpAnyH_take (i := 0) (v := ?_) rfl (by kernel_rfl) (by kernel_rfl) (by kernel_rfl) (fun _ _ _ h => h) (Or.inl ⟨by rfl, ?_⟩) hHeld ?_; rotate_left; (focus (intro w hSw; (try dsimp only at hSw); go_simp; (have e0 := BlkAt.cell hSw.2.1 (j := 0) rfl; have e1 := BlkAt.cell hSw.2.1 (j := 1) rfl; have e2 := BlkAt.cell hSw.2.1 (j := 2) rfl; have e3 := BlkAt.cell hSw.2.1 (j := 3) rfl; have e4 := BlkAt.cell hSw.2.1 (j := 4) rfl; have e5 := BlkAt.cell hSw.2.1 (j := 5) rfl; have e6 := BlkAt.cell hSw.2.1 (j := 6) rfl; go_simp; try with_reducible rfl))); (try simp only [Act.put, List.setIfInBounds_toArray, List.set_cons_zero, List.set_cons_succ, List.getElem_toArray, List.getElem_cons_zero]))
  (refine wpAnyH_take (i := 1) (v := ?_) rfl (by kernel_rfl) (by kernel_rfl) (by kernel_rfl) (fun _ _ _ h => h) (Or.inl ⟨by rfl, ?_⟩) hHeld ?_; rotate_left; (focus (intro w hSw; (try dsimp only at hSw); go_simp; try with_reducible rfl)); (try simp only [Act.put, List.setIfInBounds_toArray, List.set_cons_zero, List.set_cons_succ, List.getElem_toArray, List.getElem_cons_zero, List.getElem_cons_succ])); (refine wpAnyH_take (i := 2) (v := ?_) rfl (by kernel_rfl) (by kernel_rfl) (by kernel_rfl) (fun _ _ _ h => h) (Or.inl ⟨by rfl, ?_⟩) hHeld ?_; rotate_left; (focus (intro w hSw; (try dsimp only at hSw); go_simp; try with_reducible rfl)); (try simp only [Act.put, List.setIfInBounds_toArray, List.set_cons_zero, List.set_cons_succ, List.getElem_toArray, List.getElem_cons_zero, List.getElem_cons_succ])); (refine wpAnyH_take (i := 3) (v := ?_) rfl (by kernel_rfl) (by kernel_rfl) (by kernel_rfl) (fun _ _ _ h => h) (Or.inl ⟨by rfl, ?_⟩) hHeld ?_; rotate_left; (focus (intro w hSw; (try dsimp only at hSw); go_simp; try with_reducible rfl)); (try simp only [Act.put, List.setIfInBounds_toArray, List.set_cons_zero, List.set_cons_succ, List.getElem_toArray, List.getElem_cons_zero, List.getElem_cons_succ])); (refine wpAnyH_take (i := 4) (v := ?_) rfl (by kernel_rfl) (by kernel_rfl) (by kernel_rfl) (fun _ _ _ h => h) (Or.inl ⟨by rfl, ?_⟩) hHeld ?_; rotate_left; (focus (intro w hSw; (try dsimp only at hSw); go_simp; try with_reducible rfl)); (try simp only [Act.put, List.setIfInBounds_toArray, List.set_cons_zero, List.set_cons_succ, List.getElem_toArray, List.getElem_cons_zero, List.getElem_cons_succ]))
  (refine wpAnyH_take (i := 5) (v := ?_) rfl (by kernel_rfl) (by kernel_rfl) (by kernel_rfl) (fun _ _ _ h => h) (Or.inl ⟨by rfl, ?_⟩) hHeld ?_; rotate_left; (focus (intro w hSw; (try dsimp only at hSw); go_simp; (have e7 := BlkAt.cell hSw.1 (j := 7) rfl; go_simp; try with_reducible rfl))); (try simp only [Act.put, List.setIfInBounds_toArray, List.set_cons_zero, List.set_cons_succ, List.getElem_toArray, List.getElem_cons_zero, List.getElem_cons_succ]))
  (refine wpAnyH_take (i := 6) (v := ?_) rfl (by kernel_rfl) (by kernel_rfl) (by kernel_rfl) (fun _ _ _ h => h) (Or.inl ⟨by rfl, ?_⟩) hHeld ?_; rotate_left; (focus (intro w hSw; (try dsimp only at hSw); go_simp; try with_reducible rfl)); (try simp only [Act.put, List.setIfInBounds_toArray, List.set_cons_zero, List.set_cons_succ, List.getElem_toArray, List.getElem_cons_zero, List.getElem_cons_succ])); (refine wpAnyH_take (i := 7) (v := ?_) rfl (by kernel_rfl) (by kernel_rfl) (by kernel_rfl) (fun _ _ _ h => h) (Or.inl ⟨by rfl, ?_⟩) hHeld ?_; rotate_left; (focus (intro w hSw; (try dsimp only at hSw); go_simp; try with_reducible rfl)); (try simp only [Act.put, List.setIfInBounds_toArray, List.set_cons_zero, List.set_cons_succ, List.getElem_toArray, List.getElem_cons_zero, List.getElem_cons_succ])); (refine wpAnyH_take (i := 8) (v := ?_) rfl (by kernel_rfl) (by kernel_rfl) (by kernel_rfl) (fun _ _ _ h => h) (Or.inl ⟨by rfl, ?_⟩) hHeld ?_; rotate_left; (focus (intro w hSw; (try dsimp only at hSw); go_simp; try with_reducible rfl)); (try simp only [Act.put, List.setIfInBounds_toArray, List.set_cons_zero, List.set_cons_succ, List.getElem_toArray, List.getElem_cons_zero, List.getElem_cons_succ])); (refine wpAnyH_take (i := 9) (v := ?_) rfl (by kernel_rfl) (by kernel_rfl) (by kernel_rfl) (fun _ _ _ h => h) (Or.inl ⟨by rfl, ?_⟩) hHeld ?_; rotate_left; (focus (intro w hSw; (try dsimp only at hSw); go_simp; try with_reducible rfl)); (try simp only [Act.put, List.setIfInBounds_toArray, List.set_cons_zero, List.set_cons_succ, List.getElem_toArray, List.getElem_cons_zero, List.getElem_cons_succ]))
  (refine wpAnyH_take (i := 10) (v := ?_) rfl (by kernel_rfl) (by kernel_rfl) (by kernel_rfl) (fun _ _ _ h => h) (Or.inl ⟨by rfl, ?_⟩) hHeld ?_; rotate_left; (focus (intro w hSw; (try dsimp only at hSw); go_simp; (have e7 := BlkAt.cell hSw.1 (j := 6) rfl; go_simp; try with_reducible rfl))); (try simp only [Act.put, List.setIfInBounds_toArray, List.set_cons_zero, List.set_cons_succ, List.getElem_toArray, List.getElem_cons_zero, List.getElem_cons_succ]))
  (refine wpAnyH_take (i := 11) (v := ?_) rfl (by kernel_rfl) (by kernel_rfl) (by kernel_rfl) (fun _ _ _ h => h) (Or.inl ⟨by rfl, ?_⟩) hHeld ?_; rotate_left; (focus (intro w hSw; (try dsimp only at hSw); go_simp; try with_reducible rfl)); (try simp only [Act.put, List.setIfInBounds_toArray, List.set_cons_zero, List.set_cons_succ, List.getElem_toArray, List.getElem_cons_zero, List.getElem_cons_succ])); (refine wpAnyH_take (i := 12) (v := ?_) rfl (by kernel_rfl) (by kernel_rfl) (by kernel_rfl) (fun _ _ _ h => h) (Or.inl ⟨by rfl, ?_⟩) hHeld ?_; rotate_left; (focus (intro w hSw; (try dsimp only at hSw); go_simp; try with_reducible rfl)); (try simp only [Act.put, List.setIfInBounds_toArray, List.set_cons_zero, List.set_cons_succ, List.getElem_toArray, List.getElem_cons_zero, List.getElem_cons_succ])); (refine wpAnyH_take (i := 13) (v := ?_) rfl (by kernel_rfl) (by kernel_rfl) (by kernel_rfl) (fun _ _ _ h => h) (Or.inl ⟨by rfl, ?_⟩) hHeld ?_; rotate_left; (focus (intro w hSw; (try dsimp only at hSw); go_simp; try with_reducible rfl)); (try simp only [Act.put, List.setIfInBounds_toArray, List.set_cons_zero, List.set_cons_succ, List.getElem_toArray, List.getElem_cons_zero, List.getElem_cons_succ])); (refine wpAnyH_take (i := 14) (v := ?_) rfl (by kernel_rfl) (by kernel_rfl) (by kernel_rfl) (fun _ _ _ h => h) (Or.inl ⟨by rfl, ?_⟩) hHeld ?_; rotate_left; (focus (intro w hSw; (try dsimp only at hSw); go_simp; try with_reducible rfl)); (try simp only [Act.put, List.setIfInBounds_toArray, List.set_cons_zero, List.set_cons_succ, List.getElem_toArray, List.getElem_cons_zero, List.getElem_cons_succ]))
  (refine wpAnyH_take (i := 15) (v := ?_) rfl (by kernel_rfl) (by kernel_rfl) (by kernel_rfl) (fun _ _ _ h => h) (Or.inl ⟨by rfl, ?_⟩) hHeld ?_; rotate_left; (focus (intro w hSw; (try dsimp only at hSw); go_simp; (have e7 := BlkAt.cell hSw.1 (j := 8) rfl; go_simp; try with_reducible rfl))); (try simp only [Act.put, List.setIfInBounds_toArray, List.set_cons_zero, List.set_cons_succ, List.getElem_toArray, List.getElem_cons_zero, List.getElem_cons_succ]))
  (refine wpAnyH_take (i := 16) (v := ?_) rfl (by kernel_rfl) (by kernel_rfl) (by kernel_rfl) (fun _ _ _ h => h) (Or.inl ⟨by rfl, ?_⟩) hHeld ?_; rotate_left; (focus (intro w hSw; (try dsimp only at hSw); go_simp; try with_reducible rfl)); (try simp only [Act.put, List.setIfInBounds_toArray, List.set_cons_zero, List.set_cons_succ, List.getElem_toArray, List.getElem_cons_zero, List.getElem_cons_succ])); (refine wpAnyH_take (i := 17) (v := ?_) rfl (by kernel_rfl) (by kernel_rfl) (by kernel_rfl) (fun _ _ _ h => h) (Or.inl ⟨by rfl, ?_⟩) hHeld ?_; rotate_left; (focus (intro w hSw; (try dsimp only at hSw); go_simp; try with_reducible rfl)); (try simp only [Act.put, List.setIfInBounds_toArray, List.set_cons_zero, List.set_cons_succ, List.getElem_toArray, List.getElem_cons_zero, List.getElem_cons_succ])); (refine wpAnyH_take (i := 18) (v := ?_) rfl (by kernel_rfl) (by kernel_rfl) (by kernel_rfl) (fun _ _ _ h => h) (Or.inl ⟨by rfl, ?_⟩) hHeld ?_; rotate_left; (focus (intro w hSw; (try dsimp only at hSw); go_simp; try with_reducible rfl)); (try simp only [Act.put, List.setIfInBounds_toArray, List.set_cons_zero, List.set_cons_succ, List.getElem_toArray, List.getElem_cons_zero, List.getElem_cons_succ])); (refine wpAnyH_take (i := 19) (v := ?_) rfl (by kernel_rfl) (by kernel_rfl) (by kernel_rfl) (fun _ _ _ h => h) (Or.inl ⟨by rfl, ?_⟩) hHeld ?_; rotate_left; (focus (intro w hSw; (try dsimp only at hSw); go_simp; try with_reducible rfl)); (try simp only [Act.put, List.setIfInBounds_toArray, List.set_cons_zero, List.set_cons_succ, List.getElem_toArray, List.getElem_cons_zero, List.getElem_cons_succ])); (refine wpAnyH_take (i := 20) (v := ?_) rfl (by kernel_rfl) (by kernel_rfl) (by kernel_rfl) (fun _ _ _ h => h) (Or.inl ⟨by rfl, ?_⟩) hHeld ?_; rotate_left; (focus (intro w hSw; (try dsimp only at hSw); go_simp; try with_reducible rfl)); (try simp only [Act.put, List.setIfInBounds_toArray, List.set_cons_zero, List.set_cons_succ, List.getElem_toArray, List.getElem_cons_zero, List.getElem_cons_succ]))
  (refine wpAnyH_take (i := 21) (v := ?_) rfl (by kernel_rfl) (by kernel_rfl) (by kernel_rfl) (fun _ _ _ h => h) (Or.inl ⟨by rfl, ?_⟩) hHeld ?_; rotate_left; (focus (intro w hSw; (try dsimp only at hSw); go_simp; (have e7 := BlkAt.cell hSw.1 (j := 9) rfl; go_simp; try with_reducible rfl))); (try simp only [Act.put, List.setIfInBounds_toArray, List.set_cons_zero, List.set_cons_succ, List.getElem_toArray, List.getElem_cons_zero, List.getElem_cons_succ]))
  (refine wpAnyH_take (i := 22) (v := ?_) rfl (by kernel_rfl) (by kernel_rfl) (by kernel_rfl) (fun _ _ _ h => h) (Or.inl ⟨by rfl, ?_⟩) hHeld ?_; rotate_left; (focus (intro w hSw; (try dsimp only at hSw); go_simp; try with_reducible rfl)); (try simp only [Act.put, List.setIfInBounds_toArray, List.set_cons_zero, List.set_cons_succ, List.getElem_toArray, List.getElem_cons_zero, List.getElem_cons_succ])); (refine wpAnyH_take (i := 23) (v := ?_) rfl (by kernel_rfl) (by kernel_rfl) (by kernel_rfl) (fun _ _ _ h => h) (Or.inl ⟨by rfl, ?_⟩) hHeld ?_; rotate_left; (focus (intro w hSw; (try dsimp only at hSw); go_simp; try with_reducible rfl)); (try simp only [Act.put, List.setIfInBounds_toArray, List.set_cons_zero, List.set_cons_succ, List.getElem_toArray, List.getElem_cons_zero, List.getElem_cons_succ])); (refine wpAnyH_take (i := 24) (v := ?_) rfl (by kernel_rfl) (by kernel_rfl) (by kernel_rfl) (fun _ _ _ h => h) (Or.inl ⟨by rfl, ?_⟩) hHeld ?_; rotate_left; (focus (intro w hSw; (try dsimp only at hSw); go_simp; try with_reducible rfl)); (try simp only [Act.put, List.setIfInBounds_toArray, List.set_cons_zero, List.set_cons_succ, List.getElem_toArray, List.getElem_cons_zero, List.getElem_cons_succ])); (refine wpAnyH_take (i := 25) (v := ?_) rfl (by kernel_rfl) (by kernel_rfl) (by kernel_rfl) (fun _ _ _ h => h) (Or.inl ⟨by rfl, ?_⟩) hHeld ?_; rotate_left; (focus (intro w hSw; (try dsimp only at hSw); go_simp; try with_reducible rfl)); (try simp only [Act.put, List.setIfInBounds_toArray, List.set_cons_zero, List.set_cons_succ, List.getElem_toArray, List.getElem_cons_zero, List.getElem_cons_succ])); (refine wpAnyH_take (i := 26) (v := ?_) rfl (by kernel_rfl) (by kernel_rfl) (by kernel_rfl) (fun _ _ _ h => h) (Or.inl ⟨by rfl, ?_⟩) hHeld ?_; rotate_left; (focus (intro w hSw; (try dsimp only at hSw); go_simp; try with_reducible rfl)); (try simp only [Act.put, List.setIfInBounds_toArray, List.set_cons_zero, List.set_cons_succ, List.getElem_toArray, List.getElem_cons_zero, List.getElem_cons_succ]))
  refine wpAnyH_at (m := #[true, true, true, true, true, true, true, true, true, true, true, true, true, true, true, true, true, true, true, true, true, true, true, true, true, true, true, false, false, false, false, false]) (by kernel_rfl) ?_
  (refine wpAnyH_ready (rs := [27]) (by kernel_rfl) (by simp) ?_; refine AllReadyH.cons rfl (fun K hK => ?_) AllReadyH.nil; go_simp; refine (num4_any 0 w0).mono ?_; rintro e y4 ⟨rfl, rfl⟩; refine hK.out _ _ ?_ (fun hHeldN => ?_); (focus ((try dsimp only); (exact hHeld))); clear hK K hHeld; have hHeld := hHeldN; clear hHeldN; (try simp only [Act.put, List.setIfInBounds_toArray, List.set_cons_zero, List.set_cons_succ, List.getElem_toArray, List.getElem_cons_zero, List.getElem_cons_succ]))
  refine wpAnyH_at (m := #[true, true, true, true, true, true, true, true, true, true, true, true, true, true, true, true, true, true, true, true, true, true, true, true, true, true, true, true, false, false, false, false]) (by kernel_rfl) ?_
  (refine wpAnyH_take (i := 28) (v := ?_) rfl (by kernel_rfl) (by kernel_rfl) (by kernel_rfl) (fun _ _ _ h => h) (Or.inl ⟨by rfl, ?_⟩) hHeld ?_; rotate_left; (focus (intro w hSw; (try dsimp only at hSw); go_simp; try with_reducible rfl)); (try simp only [Act.put, List.setIfInBounds_toArray, List.set_cons_zero, List.set_cons_succ, List.getElem_toArray, List.getElem_cons_zero, List.getElem_cons_succ])); (refine wpAnyH_take (i := 29) (v := ?_) rfl (by kernel_rfl) (by kernel_rfl) (by kernel_rfl) (fun _ _ _ h => h) (Or.inl ⟨by rfl, ?_⟩) hHeld ?_; rotate_left; (focus (intro w hSw; (try dsimp only at hSw); go_simp; try with_reducible rfl)); (try simp only [Act.put, List.setIfInBounds_toArray, List.set_cons_zero, List.set_cons_succ, List.getElem_toArray, List.getElem_cons_zero, List.getElem_cons_succ]))
  refine wpAnyH_at (m := #[true, true, true, true, true, true, true, true, true, true, true, true, true, true, true, true, true, true, true, true, true, true, true, true, true, true, true, true, true, true, false, false]) (by kernel_rfl) ?_
  have hz3 : ∀ j, w0.frozen? ⟨wm.heap.size, j, none⟩ = false := fun j => R3.out.frozen j
  have d0 := R3.out.cell (j := 0) rfl
  have d1 := R3.out.cell (j := 1) rfl
  have d2 := R3.out.cell (j := 2) rfl
  have d3 := R3.out.cell (j := 3) rfl
  have d4 := R3.out.cell (j := 4) rfl
  have d5 := R3.out.cell (j := 5) rfl
  have d6 := R3.out.cell (j := 6) rfl
  obtain ⟨s4, sO, s5⟩ := BlkAt.set7 ic_ne R3.out (.int .u8 (m.ty : Nat)) (.int .u8 (m.co : Nat)) (.int .u8 (m.r0 : Nat)) (.int .u8 (m.r1 : Nat)) (.int .u8 (m.r2 : Nat)) (.int .u8 (m.r3 : Nat)) (.slice ba bn bc)
  have J3 := Lib.hid s4
  have JO := Lib.hid (sO _ _ _ RO.out)
  have Q5 := Lib.hid (blk_other7 hHeld.1 HN1.out.1 (.int .u8 (m.ty : Nat)) (.int .u8 (m.co : Nat)) (.int .u8 (m.r0 : Nat)) (.int .u8 (m.r1 : Nat)) (.int .u8 (m.r2 : Nat)) (.int .u8 (m.r3 : Nat)) (.slice ba bn bc))
  have Q8 := Lib.hid (blk_other7 hHeld.2.1 HN1.out.2 (.int .u8 (m.ty : Nat)) (.int .u8 (m.co : Nat)) (.int .u8 (m.r0 : Nat)) (.int .u8 (m.r1 : Nat)) (.int .u8 (m.r2 : Nat)) (.int .u8 (m.r3 : Nat)) (.slice ba bn bc))
  have QX := Lib.hid (hHeld.2.2.trans (s5 _ (Nat.le_refl _)))
  clear s4 s5 sO
  refine wpAnyH_ready (rs := [30]) (by kernel_rfl) (by simp) ?_
  refine AllReadyH.cons rfl (fun K hK => ?_) AllReadyH.nil
  go_simp
  refine hK.out _ _ ⟨Q5.out, Q8.out, QX.out⟩ (fun hHeldN => ?_)
  clear hK K hHeld; have hHeld := hHeldN; clear hHeldN
  try simp only [Act.put, List.setIfInBounds_toArray, List.set_cons_zero, List.set_cons_succ, List.getElem_toArray, List.getElem_cons_zero, List.getElem_cons_succ]
  clear hz3 d0 d1 d2 d3 d4 d5 d6 Q5 Q8 QX R3 RO
  obtain ⟨wb, hwb⟩ : ∃ wb, wb = (((((((w0.setCell ⟨wm.heap.size, 0, none⟩ (.int .u8 (m.ty : Nat))).setCell ⟨wm.heap.size, 1, none⟩ (.int .u8 (m.co : Nat))).setCell ⟨wm.heap.size, 2, none⟩ (.int .u8 (m.r0 : Nat))).setCell ⟨wm.heap.size, 3, none⟩ (.int .u8 (m.r1 : Nat))).setCell ⟨wm.heap.size, 4, none⟩ (.int .u8 (m.r2 : Nat))).setCell ⟨wm.heap.size, 5, none⟩ (.int .u8 (m.r3 : Nat))).setCell ⟨wm.heap.size, 6, none⟩ (.slice ba bn bc)) := ⟨_, rfl⟩
  rw [← hwb] at hHeld J3 JO ⊢
  clear hwb
  (refine wpAnyH_take (i := 31) (v := ?_) rfl (by kernel_rfl) (by kernel_rfl) (by kernel_rfl) (fun _ _ _ h => h) (Or.inl ⟨by rfl, ?_⟩) hHeld ?_; rotate_left; (focus (intro w hSw; (try dsimp only at hSw); go_simp; try with_reducible rfl)); (try simp only [Act.put, List.setIfInBounds_toArray, List.set_cons_zero, List.set_cons_succ, List.getElem_toArray, List.getElem_cons_zero, List.getElem_cons_succ]))
  refine wpAnyH_done (by kernel_rfl) ?_ _
  have HE := Lib.hid hHeld.2.2
  clear hHeld
  go_wp2_with fail
  have z0 := J3.out.cell (j := 0) rfl
  have z1 := J3.out.cell (j := 1) rfl
  have z2 := J3.out.cell (j := 2) rfl
  have z3 := J3.out.cell (j := 3) rfl
  have z4 := J3.out.cell (j := 4) rfl
  have z5 := J3.out.cell (j := 5) rfl
  have z6 := J3.out.cell (j := 6) rfl
  exact bodyPost_ret (v := .tuple #[.agg #[.int .u8 (m.ty : Nat), .int .u8 (m.co : Nat), .int .u8 (m.r0 : Nat), .int .u8 (m.r1 : Nat), .int .u8 (m.r2 : Nat), .int .u8 (m.r3 : Nat), .slice ba bn bc], .bool true]) (by simp [results, Try.results46, go_sem, z0, z1, z2, z3, z4, z5, z6]) rfl ⟨_, rfl, JO.out.bytes, HE.out⟩
theorem right_ans {h : Hd} (hh : h.Ok) (ho : h.off = 0) {m : Mg} (hm : m.Ok) {B : List UInt8} (hB : B.length ≤ 65507) (v : Value) (wm : World) (hv : Bytes wm v (ansL h m B)) :
    Calls Try.prog 46 #[v, .int .u32 (h.src : Nat), .int .u32 (h.dst : Nat)] wm fun e w' => ∃ b, e = .returned (.tuple #[.agg #[.int .u8 (m.ty : Nat), .int .u8 (m.co : Nat), .int .u8 (m.r0 : Nat), .int .u8 (m.r1 : Nat), .int .u8 (m.r2 : Nat), .int .u8 (m.r3 : Nat), b], .bool true]) ∧ Bytes w' b B ∧ Below wm.heap.size wm w' := by
  obtain ⟨f1, f2, f3, f4⟩ := ans_facts hh ho m hB
  have h9 := right_yes v (ansL h m B) (by rw [ans_len]; omega) h.src h.dst wm hv f1 (by rw [f2]; rfl) (by rw [f2]; rfl) (by rw [f2]; rfl) (by rw [f2]; rfl) (by rw [f4]; exact okM_msg m B)
  rw [f4, msg_at m hm, msg_body] at h9
  exact h9
end Go.Proofs.Ytnhkkpcepppgoaa
