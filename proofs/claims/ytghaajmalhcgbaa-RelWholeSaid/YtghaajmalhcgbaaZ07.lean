/- RelWhole's take: both ends. -/
import Derived.Test.YtghaajmalhcgbaaZ04
import Derived.Test.YtghaajmalhcgbaaZ06

set_option linter.unusedSimpArgs false
set_option linter.unusedVariables false
namespace Go.Proofs.Ytghaajmalhcgbaa
open Go.RowKit
attribute [local go_sem ↓] Go.wp_at_zero Go.wp_at_succ

theorem takeW_on (σ : Wn) (d : Bool) (g : Sg) (h : g.q = (σ.s (!d)).tk + 1) : takeW σ d g = ⟨upB σ.s (!d) (takeM (σ.s (!d)) g.q g.a), σ.f, σ.x, upB σ.y (!d) (σ.y (!d) ++ g.b)⟩ := by
  unfold takeW; rw [if_pos h]
theorem takeW_off (σ : Wn) (d : Bool) (g : Sg) (h : ¬ g.q = (σ.s (!d)).tk + 1) : takeW σ d g = ⟨upB σ.s (!d) (takeM (σ.s (!d)) g.q g.a), σ.f, σ.x, σ.y⟩ := by
  unfold takeW; rw [if_neg h, upB_same]
set_option maxHeartbeats 8000000 in
set_option maxRecDepth 100000 in
theorem takeF_false {w0 : World} {P : Bool → Nat} {eb fb : Nat} {A G : Bool → Nat} {X : List Nat} {V : Bool → Value} {R : Bool → Bool → Value} {σ : Wn} {w : World} {N : Nat} (h : WM w0 P eb fb A G X V R σ w) (hi : WInv σ N) (hN : N ≤ 1000) (q a : Nat) (v : Value) (b : List UInt8) (hg : Ad (σ.s false) (σ.x false) ⟨q, a, b⟩) (hv : Bod w X v b) :
    Calls Try.prog 28 #[.int .i64 0, .agg #[.int .u64 (q : Int), .int .u64 (a : Int), v], .pointer (some ⟨eb, 0, none⟩), .pointer (some ⟨A true, 0, none⟩)] w (FA w0 P eb fb A X V σ false ⟨q, a, b⟩ w) := by
  have hqb : q ≤ 1000 := by
    rcases Nat.eq_zero_or_pos q with e | e
    · omega
    · have h1 := (hg.q (by simp only; omega)).1
      have h2 := (hi.d false).top_le (hi.o false)
      have h3 := hi.xl false
      simp only at h1
      omega
  have hab : a ≤ 1000 := by
    have h1 := hg.a
    have h2 := (hi.o false).tkN
    simp only at h1
    omega
  have hbl : b.length ≤ 1 := hg.b
  obtain ⟨va, vc, rfl⟩ := hv.form
  obtain ⟨z, hz⟩ : ∃ z, z = w.heap.size := ⟨_, rfl⟩
  obtain ⟨m, hm⟩ : ∃ m, m = b.length := ⟨_, rfl⟩
  rw [← hm] at hv ⊢
  obtain ⟨w1, hw1⟩ : ∃ w1, w1 = w.alloc (.cells #[.int .u64 (q : Int), .int .u64 (a : Int), .slice va m vc] 94) := ⟨_, rfl⟩
  have hb1 : Below w.heap.size w w1 := by rw [hw1]; exact ba1 _ _
  have hZ : BlkAt 94 z [.int .u64 (q : Int), .int .u64 (a : Int), .slice va m vc] w1 := by rw [hw1, hz]; exact BlkAt.new w _
  have hd : Below w.heap.size w w1.drew := hb1.trans (Below.refl _ _).drew
  have h2 := h.later hd
  have hv2 : Bod w1.drew X (.slice va m vc) b := hv.later hd
  have hZ2 : BlkAt 94 z [.int .u64 (q : Int), .int .u64 (a : Int), .slice va m vc] w1.drew := hZ.later (Below.refl _ _).drew
  have nob : ∀ k ∈ [P true, G true], NoB w1.drew k ∨ k ∈ X := by
    intro k hk
    simp at hk
    rcases hk with e | e
    · rw [e]; exact .inl (h2.s true).noB.1
    · rw [e]; exact .inl (h2.s true).noB.2
  obtain ⟨ps, hps⟩ : ∃ ps, ps = P true := ⟨_, rfl⟩
  have tyP := psm_ty (h2.s true)
  have zP : z ∉ [P true, G true] := by
    have hzt := blk_ty hZ2
    simp only [List.mem_cons, List.not_mem_nil, or_false, not_or]
    refine ⟨ne_ty hzt tyP.1 (by decide), ?_⟩
    rcases tyP.2 with e | e
    · rw [e]; exact ne_ty hzt tyP.1 (by decide)
    · exact ne_ty hzt e (by decide)
  have eP : eb ∉ [P true, G true] := by
    have hzt := blk_ty h2.e
    simp only [List.mem_cons, List.not_mem_nil, or_false, not_or]
    refine ⟨ne_ty hzt tyP.1 (by decide), ?_⟩
    rcases tyP.2 with e | e
    · rw [e]; exact ne_ty hzt tyP.1 (by decide)
    · exact ne_ty hzt e (by decide)
  have tyL : ∀ k ∈ [P true, G true], ty w1.drew k ≠ some 94 := by
    intro k hk
    simp at hk
    rcases tyP with ⟨t1, t2⟩
    rcases hk with rfl | rfl
    · rw [t1]; decide
    · rcases t2 with e | e
      · rw [e, t1]; decide
      · rw [e]; decide
  have HTYW : Hid (∀ k ∈ [P true, G true], ty w k ≠ some 94) := by
    have : ∀ k ∈ [P true, G true], ty w k ≠ some 94 := by
      intro k hk
      simp at hk
      rcases psm_ty (h.s true) with ⟨t1, t2⟩
      rcases hk with rfl | rfl
      · rw [t1]; decide
      · rcases t2 with e | e
        · rw [e, t1]; decide
        · rw [e]; decide
    exact this
  have HZP : Hid (z ∉ [P true, G true]) := zP
  have HEP : Hid (eb ∉ [P true, G true]) := eP
  have HTYX : Hid (∀ k, (R true true).ownBlock = some k → ty w k ≠ some 94) := by
    have : ∀ k, (R true true).ownBlock = some k → ty w k ≠ some 94 := fun k hk => by rw [own_ty (h.r true true) hk]; decide
    exact this
  have HTYA : Hid (ty w (A true) ≠ some 94) := by
    show _ ≠ _
    rw [blk_ty (h.a true)]; decide
  have HT := takeC (h2.s true) (hi.o true) h2.xl q a (by omega) (by omega) (.slice va m vc) b (fun W hW => (hv2.chg hW nob).bytes) (by omega)
  unfold TkA at HT
  obtain ⟨AC, hAC⟩ : ∃ AC : Int, AC = (takeM (σ.s true) q a).ac := ⟨_, rfl⟩
  rw [← hAC] at HT
  have HTYL : Hid (∀ k ∈ [P true, G true], ty w1.drew k ≠ some 94) := tyL
  have HNOB : Hid (∀ k ∈ [P true, G true], NoB w1.drew k ∨ k ∈ X) := nob
  have HM2 := Lib.hid h2
  have HI := Lib.hid hi
  have HG := Lib.hid hg
  have HV := Lib.hid hv
  have HW1 := Lib.hid hw1
  have HZZ : Hid (z = w.heap.size) := hz
  have HZ2 := Lib.hid hZ2
  have HD := Lib.hid hd
  have HC0 : Hid (w1.drew.cell? ⟨eb, 1, none⟩ = some (.pointer (some ⟨ps, 0, none⟩)) ∧ w1.drew.cell? ⟨z, 0, none⟩ = some (.int .u64 (q : Int)) ∧ w1.drew.cell? ⟨z, 1, none⟩ = some (.int .u64 (a : Int)) ∧ w1.drew.cell? ⟨z, 2, none⟩ = some (.slice va m vc)) := by
    refine ⟨?_, BlkAt.cell hZ2 (j := 0) rfl, BlkAt.cell hZ2 (j := 1) rfl, BlkAt.cell hZ2 (j := 2) rfl⟩
    rw [hps]; exact BlkAt.cell h2.e (j := 1) rfl
  have HE2 := Lib.hid h2.e
  have HPS : Hid (P true = ps) := hps.symm
  rw [← hps] at HT
  have HM : Hid (m = b.length) := hm
  clear h hw1 hb1 hZ hd h2 hv2 hZ2 nob zP eP tyL tyP hAC hv hi hg hz hqb hab hps hm
  by_cases hk : q = (σ.s true).tk + 1
  · rw [if_pos hk, decide_eq_true hk] at HT
    have hE : ∃ c, b = [c] := by
      obtain ⟨c, _, hb⟩ := (HG.out.q (by simp only; omega)).2
      exact ⟨c, hb⟩
    obtain ⟨c, rfl⟩ := hE
    have HT := Lib.hid HT
    have HK := Lib.hid hk
    clear hk
    go_enter Try.func28, Try.ntmps28
    go_wp2_with fail
    rw [← HZZ.out, ← HW1.out]
    have ew : IntKind.i64.wrap 1 = 1 := by decide
    (refine wp_region_held_drew (S := (fun w' => w'.cell? ⟨eb, 1, none⟩ = some (.pointer (some ⟨ps, 0, none⟩)) ∧ w'.cell? ⟨z, 0, none⟩ = some (.int .u64 (q : Int)) ∧ w'.cell? ⟨z, 1, none⟩ = some (.int .u64 (a : Int)) ∧ w'.cell? ⟨z, 2, none⟩ = some (.slice va m vc))) (by kernel_rfl) ?_ (fun hHeld => ?_); (focus ((try dsimp only); (exact HC0.out))))
    (try dsimp only at hHeld)
    (refine wpAnyH_take (i := 0) (v := ?_) rfl (by kernel_rfl) (by kernel_rfl) (by kernel_rfl) (fun _ _ _ h => h) (Or.inl ⟨by rfl, ?_⟩) hHeld ?_; rotate_left; (focus (intro w hSw; (try dsimp only at hSw); go_simp; try with_reducible rfl)); (try simp only [Act.put, List.setIfInBounds_toArray, List.set_cons_zero, List.set_cons_succ, List.getElem_toArray, List.getElem_cons_zero])); (refine wpAnyH_take (i := 1) (v := ?_) rfl (by kernel_rfl) (by kernel_rfl) (by kernel_rfl) (fun _ _ _ h => h) (Or.inl ⟨by rfl, ?_⟩) hHeld ?_; rotate_left; (focus (intro w hSw; (try dsimp only at hSw); go_simp; try with_reducible rfl)); (try simp only [Act.put, List.setIfInBounds_toArray, List.set_cons_zero, List.set_cons_succ, List.getElem_toArray, List.getElem_cons_zero, List.getElem_cons_succ])); (refine wpAnyH_take (i := 2) (v := ?_) rfl (by kernel_rfl) (by kernel_rfl) (by kernel_rfl) (fun _ _ _ h => h) (Or.inl ⟨by rfl, ?_⟩) hHeld ?_; rotate_left; (focus (intro w hSw; (try dsimp only at hSw); go_simp; try with_reducible rfl)); (try simp only [Act.put, List.setIfInBounds_toArray, List.set_cons_zero, List.set_cons_succ, List.getElem_toArray, List.getElem_cons_zero, List.getElem_cons_succ]))
    (refine wpAnyH_take (i := 3) (v := ?_) rfl (by kernel_rfl) (by kernel_rfl) (by kernel_rfl) (fun _ _ _ h => h) (Or.inl ⟨by rfl, ?_⟩) hHeld ?_; rotate_left; (focus (intro w hSw; (try dsimp only at hSw); go_simp; (have cc := hSw.1; go_simp; try with_reducible rfl))); (try simp only [Act.put, List.setIfInBounds_toArray, List.set_cons_zero, List.set_cons_succ, List.getElem_toArray, List.getElem_cons_zero, List.getElem_cons_succ]))
    (refine wpAnyH_take (i := 4) (v := ?_) rfl (by kernel_rfl) (by kernel_rfl) (by kernel_rfl) (fun _ _ _ h => h) (Or.inl ⟨by rfl, ?_⟩) hHeld ?_; rotate_left; (focus (intro w hSw; (try dsimp only at hSw); go_simp; (have cc := hSw.2.1; have cd := hSw.2.2.1; have ce := hSw.2.2.2; go_simp; try with_reducible rfl))); (try simp only [Act.put, List.setIfInBounds_toArray, List.set_cons_zero, List.set_cons_succ, List.getElem_toArray, List.getElem_cons_zero, List.getElem_cons_succ]))
    (refine wpAnyH_ready (rs := [5]) (by kernel_rfl) (by simp) ?_; refine AllReadyH.cons rfl (fun K hK => ?_) AllReadyH.nil; go_simp; refine HT.out.mono ?_; rintro e w3 ⟨u, rfl, hu, hP, hC⟩; obtain ⟨xb, xo, xk, rfl⟩ := bod1 hu; refine hK.out _ _ ?_ (fun hHeldN => ?_); (focus ((try dsimp only); (rw [← HPS.out] at hC; have q0 := hC.blk HE2.out HEP.out; have q1 := hC.blk HZ2.out HZP.out; exact ⟨by rw [← HPS.out]; exact q0.cell (j := 1) rfl, q1.cell (j := 0) rfl, q1.cell (j := 1) rfl, q1.cell (j := 2) rfl⟩))); clear hK K hHeld; have hHeld := hHeldN; clear hHeldN; (try simp only [Act.put, List.setIfInBounds_toArray, List.set_cons_zero, List.set_cons_succ, List.getElem_toArray, List.getElem_cons_zero, List.getElem_cons_succ]))
    (refine wpAnyH_take (i := 6) (v := ?_) rfl (by kernel_rfl) (by kernel_rfl) (by kernel_rfl) (fun _ _ _ h => h) (Or.inl ⟨by rfl, ?_⟩) hHeld ?_; rotate_left; (focus (intro w hSw; (try dsimp only at hSw); go_simp; try with_reducible rfl)); (try simp only [Act.put, List.setIfInBounds_toArray, List.set_cons_zero, List.set_cons_succ, List.getElem_toArray, List.getElem_cons_zero, List.getElem_cons_succ])); (refine wpAnyH_take (i := 7) (v := ?_) rfl (by kernel_rfl) (by kernel_rfl) (by kernel_rfl) (fun _ _ _ h => h) (Or.inl ⟨by rfl, ?_⟩) hHeld ?_; rotate_left; (focus (intro w hSw; (try dsimp only at hSw); go_simp; try with_reducible rfl)); (try simp only [Act.put, List.setIfInBounds_toArray, List.set_cons_zero, List.set_cons_succ, List.getElem_toArray, List.getElem_cons_zero, List.getElem_cons_succ])); (refine wpAnyH_take (i := 8) (v := ?_) rfl (by kernel_rfl) (by kernel_rfl) (by kernel_rfl) (fun _ _ _ h => h) (Or.inl ⟨by rfl, ?_⟩) hHeld ?_; rotate_left; (focus (intro w hSw; (try dsimp only at hSw); go_simp; try with_reducible rfl)); (try simp only [Act.put, List.setIfInBounds_toArray, List.set_cons_zero, List.set_cons_succ, List.getElem_toArray, List.getElem_cons_zero, List.getElem_cons_succ])); (refine wpAnyH_take (i := 9) (v := ?_) rfl (by kernel_rfl) (by kernel_rfl) (by kernel_rfl) (fun _ _ _ h => h) (Or.inl ⟨by rfl, ?_⟩) hHeld ?_; rotate_left; (focus (intro w hSw; (try dsimp only at hSw); go_simp; try with_reducible rfl)); (try simp only [Act.put, List.setIfInBounds_toArray, List.set_cons_zero, List.set_cons_succ, List.getElem_toArray, List.getElem_cons_zero, List.getElem_cons_succ])); (refine wpAnyH_take (i := 10) (v := ?_) rfl (by kernel_rfl) (by kernel_rfl) (by kernel_rfl) (fun _ _ _ h => h) (Or.inl ⟨by rfl, ?_⟩) hHeld ?_; rotate_left; (focus (intro w hSw; (try dsimp only at hSw); go_simp; try with_reducible rfl)); (try simp only [Act.put, List.setIfInBounds_toArray, List.set_cons_zero, List.set_cons_succ, List.getElem_toArray, List.getElem_cons_zero, List.getElem_cons_succ])); (refine wpAnyH_take (i := 11) (v := ?_) rfl (by kernel_rfl) (by kernel_rfl) (by kernel_rfl) (fun _ _ _ h => h) (Or.inl ⟨by rfl, ?_⟩) hHeld ?_; rotate_left; (focus (intro w hSw; (try dsimp only at hSw); go_simp; try with_reducible rfl)); (try simp only [Act.put, List.setIfInBounds_toArray, List.set_cons_zero, List.set_cons_succ, List.getElem_toArray, List.getElem_cons_zero, List.getElem_cons_succ])); (refine wpAnyH_take (i := 12) (v := ?_) rfl (by kernel_rfl) (by kernel_rfl) (by kernel_rfl) (fun _ _ _ h => h) (Or.inl ⟨by rfl, ?_⟩) hHeld ?_; rotate_left; (focus (intro w hSw; (try dsimp only at hSw); go_simp; try with_reducible rfl)); (try simp only [Act.put, List.setIfInBounds_toArray, List.set_cons_zero, List.set_cons_succ, List.getElem_toArray, List.getElem_cons_zero, List.getElem_cons_succ])); (refine wpAnyH_take (i := 13) (v := ?_) rfl (by kernel_rfl) (by kernel_rfl) (by kernel_rfl) (fun _ _ _ h => h) (Or.inl ⟨by rfl, ?_⟩) hHeld ?_; rotate_left; (focus (intro w hSw; (try dsimp only at hSw); go_simp; try with_reducible rfl)); (try simp only [Act.put, List.setIfInBounds_toArray, List.set_cons_zero, List.set_cons_succ, List.getElem_toArray, List.getElem_cons_zero, List.getElem_cons_succ])); (refine wpAnyH_take (i := 14) (v := ?_) rfl (by kernel_rfl) (by kernel_rfl) (by kernel_rfl) (fun _ _ _ h => h) (Or.inl ⟨by rfl, ?_⟩) hHeld ?_; rotate_left; (focus (intro w hSw; (try dsimp only at hSw); go_simp; try with_reducible rfl)); (try simp only [Act.put, List.setIfInBounds_toArray, List.set_cons_zero, List.set_cons_succ, List.getElem_toArray, List.getElem_cons_zero, List.getElem_cons_succ]))
    refine wpAnyH_done (by kernel_rfl) ?_ _
    rw [← HPS.out] at hP hC
    have HU := Lib.hid hu
    have HM3 := Lib.hid (HM2.out.stream true hP hC (.inl rfl))
    have HBD : Hid (∀ M, Bods w X M → Bods w3 X M) := fun M hM => (hM.later HD.out).chg hC HNOB.out
    have HC3 : Hid (Chg [P true, G true] w1.drew w3) := hC
    clear hHeld hu hP hC HT
    go_wp2_with fail
    obtain ⟨ra, rc, hrf⟩ := (HM3.out.r true true).form
    obtain ⟨ys, hys⟩ : ∃ ys, ys = σ.y true := ⟨_, rfl⟩
    have hco : cont (⟨upB σ.s true (takeM (σ.s true) q a), σ.f, σ.x, σ.y⟩ : Wn) true true = ys := hys.symm
    rw [hco] at hrf
    obtain ⟨n, hn⟩ : ∃ n, n = ys.length := ⟨_, rfl⟩
    rw [← hn] at hrf
    obtain ⟨O, hO⟩ : ∃ O, O = (R true true).ownBlock.toList := ⟨_, rfl⟩
    have HOM : Hid (∀ k, k ∈ O ↔ (R true true).ownBlock = some k) := by
      have : ∀ k, k ∈ O ↔ (R true true).ownBlock = some k := fun k => by rw [hO]; simp
      exact this
    have hOW := HM3.out.r true true
    rw [hco, hrf] at hOW
    have HNL : Hid (ys.length ≤ 1000) := by
      have h1 := (HI.out.d false).y
      have h2 := HI.out.xl false
      show _ ≤ _
      rw [hys]
      simp only [Bool.not_false, Bool.not_true] at h1
      rw [h1]; simp; omega
    have HOW := Lib.hid hOW
    have HAB := Lib.hid (HM3.out.a true)
    have HNA : Hid (A true ∉ O) := fun hm => ne_ty (own_ty (HM3.out.r true true) ((HOM.out _).1 hm)) (blk_ty HAB.out) (by decide) rfl
    have HNO : Hid (∀ k ∈ O, NoB w3 k ∨ k ∈ X) := by
      have : ∀ k ∈ O, NoB w3 k ∨ k ∈ X := fun k hk => .inr (HM3.out.rx true true k ((HOM.out k).1 hk))
      exact this
    have HCW : Hid (∀ W, Chg O w3 W → W.cell? ⟨A true, 1, none⟩ = some (.slice ra n rc) ∧ W.cell? ⟨xb, xo, none⟩ = some (.int .u8 (c.toNat : Int))) := by
      have : ∀ W, Chg O w3 W → W.cell? ⟨A true, 1, none⟩ = some (.slice ra n rc) ∧ W.cell? ⟨xb, xo, none⟩ = some (.int .u8 (c.toNat : Int)) := fun W hW => by
        refine ⟨?_, bod1c (HU.out.chg hW HNO.out)⟩
        rw [← hrf]; exact BlkAt.cell (hW.blk HAB.out HNA.out) (j := 1) rfl
      exact this
    have HRF : Hid (R true true = .slice ra n rc ∧ ys = σ.y true ∧ n = ys.length) := ⟨hrf, hys, hn⟩
    have HB0 : Hid (w0.heap.size ≤ w3.heap.size) := HM3.out.bel.size
    clear hrf hys hco hn hO hOW
    refine wp_region_last (S := fun w' => Chg O w3 w') (by simp only [List.pop_toArray, List.dropLast]; exact rfl) (by kernel_rfl) (by kernel_rfl) (Chg.refl _ _).drew (fun hHeld => ?_)
    (refine wpAnyH_take (i := 0) (v := ?_) rfl (by kernel_rfl) (by kernel_rfl) (by kernel_rfl) (fun _ _ _ h => h) (Or.inl ⟨by rfl, ?_⟩) hHeld ?_; rotate_left; (focus (intro w hSw; (try dsimp only at hSw); go_simp; try with_reducible rfl)); (try simp only [Act.put, List.setIfInBounds_toArray, List.set_cons_zero, List.set_cons_succ, List.getElem_toArray, List.getElem_cons_zero])); (refine wpAnyH_take (i := 1) (v := ?_) rfl (by kernel_rfl) (by kernel_rfl) (by kernel_rfl) (fun _ _ _ h => h) (Or.inl ⟨by rfl, ?_⟩) hHeld ?_; rotate_left; (focus (intro w hSw; (try dsimp only at hSw); go_simp; try with_reducible rfl)); (try simp only [Act.put, List.setIfInBounds_toArray, List.set_cons_zero, List.set_cons_succ, List.getElem_toArray, List.getElem_cons_zero, List.getElem_cons_succ])); (refine wpAnyH_take (i := 2) (v := ?_) rfl (by kernel_rfl) (by kernel_rfl) (by kernel_rfl) (fun _ _ _ h => h) (Or.inl ⟨by rfl, ?_⟩) hHeld ?_; rotate_left; (focus (intro w hSw; (try dsimp only at hSw); go_simp; try with_reducible rfl)); (try simp only [Act.put, List.setIfInBounds_toArray, List.set_cons_zero, List.set_cons_succ, List.getElem_toArray, List.getElem_cons_zero, List.getElem_cons_succ])); (refine wpAnyH_take (i := 3) (v := ?_) rfl (by kernel_rfl) (by kernel_rfl) (by kernel_rfl) (fun _ _ _ h => h) (Or.inl ⟨by rfl, ?_⟩) hHeld ?_; rotate_left; (focus (intro w hSw; (try dsimp only at hSw); go_simp; try with_reducible rfl)); (try simp only [Act.put, List.setIfInBounds_toArray, List.set_cons_zero, List.set_cons_succ, List.getElem_toArray, List.getElem_cons_zero, List.getElem_cons_succ])); (refine wpAnyH_take (i := 4) (v := ?_) rfl (by kernel_rfl) (by kernel_rfl) (by kernel_rfl) (fun _ _ _ h => h) (Or.inl ⟨by rfl, ?_⟩) hHeld ?_; rotate_left; (focus (intro w hSw; (try dsimp only at hSw); go_simp; try with_reducible rfl)); (try simp only [Act.put, List.setIfInBounds_toArray, List.set_cons_zero, List.set_cons_succ, List.getElem_toArray, List.getElem_cons_zero, List.getElem_cons_succ]))
    (refine wpAnyH_take (i := 5) (v := ?_) rfl (by kernel_rfl) (by kernel_rfl) (by kernel_rfl) (fun _ _ _ h => h) (Or.inl ⟨by rfl, ?_⟩) hHeld ?_; rotate_left; (focus (intro w hSw; (try dsimp only at hSw); go_simp; (have cc := (HCW.out _ hSw).1; go_simp; try with_reducible rfl))); (try simp only [Act.put, List.setIfInBounds_toArray, List.set_cons_zero, List.set_cons_succ, List.getElem_toArray, List.getElem_cons_zero, List.getElem_cons_succ]))
    (refine wpAnyH_take (i := 6) (v := ?_) rfl (by kernel_rfl) (by kernel_rfl) (by kernel_rfl) (fun _ _ _ h => h) (Or.inl ⟨by rfl, ?_⟩) hHeld ?_; rotate_left; (focus (intro w hSw; (try dsimp only at hSw); go_simp; try with_reducible rfl)); (try simp only [Act.put, List.setIfInBounds_toArray, List.set_cons_zero, List.set_cons_succ, List.getElem_toArray, List.getElem_cons_zero, List.getElem_cons_succ])); (refine wpAnyH_take (i := 7) (v := ?_) rfl (by kernel_rfl) (by kernel_rfl) (by kernel_rfl) (fun _ _ _ h => h) (Or.inl ⟨by rfl, ?_⟩) hHeld ?_; rotate_left; (focus (intro w hSw; (try dsimp only at hSw); go_simp; try with_reducible rfl)); (try simp only [Act.put, List.setIfInBounds_toArray, List.set_cons_zero, List.set_cons_succ, List.getElem_toArray, List.getElem_cons_zero, List.getElem_cons_succ]))
    (refine wpAnyH_take (i := 8) (v := ?_) rfl (by kernel_rfl) (by kernel_rfl) (by kernel_rfl) (fun _ _ _ h => h) (Or.inl ⟨by rfl, ?_⟩) hHeld ?_; rotate_left; (focus (intro w hSw; (try dsimp only at hSw); go_simp; (have cc := (HCW.out _ hSw).2; go_simp; try with_reducible rfl))); (try simp only [Act.put, List.setIfInBounds_toArray, List.set_cons_zero, List.set_cons_succ, List.getElem_toArray, List.getElem_cons_zero, List.getElem_cons_succ]))
    (refine wpAnyH_ready (rs := [9]) (by kernel_rfl) (by simp) ?_; refine AllReadyH.cons rfl (fun K hK => ?_) AllReadyH.nil; go_simp; skip; refine hK.out _ _ ?_ (fun hHeldN => ?_); (focus ((try dsimp only); (exact hHeld.alloc _))); clear hK K hHeld; have hHeld := hHeldN; clear hHeldN; (try simp only [Act.put, List.setIfInBounds_toArray, List.set_cons_zero, List.set_cons_succ, List.getElem_toArray, List.getElem_cons_zero, List.getElem_cons_succ]))
    have HR : Hid (∀ ty, ∃ v' w', (Builtin.append_ #[90, 90] ty #[.slice ra n rc, .slice (some ⟨w3.heap.size, 0, none⟩) 1 1]).run Try.prog (w3.drew.alloc (.cells #[.int .u8 (c.toNat : Int)] 5)) = .ok v' w' ∧ OwnB w' w0.heap.size v' (ys ++ [c]) ∧ (w3.drew.alloc (.cells #[.int .u8 (c.toNat : Int)] 5)).grownBy w' (Value.slice ra n rc).ownBlock ∧ ∀ g, v'.ownBlock = some g → (Value.slice ra n rc).ownBlock = some g ∨ (w3.drew.alloc (.cells #[.int .u8 (c.toNat : Int)] 5)).heap.size ≤ g) := fun ty =>
      run_app1 _ w0.heap.size ty (.slice ra n rc) ys c w3.heap.size (HOW.out.later ((Below.refl _ _).drew.trans (show Below w3.heap.size w3.drew _ from ba1 w3.drew _))) (BlkAt.new w3.drew _) (by have := HNL.out; omega) (Nat.le_trans HB0.out (by simp))
    (refine wpAnyH_ready (rs := [10]) (by kernel_rfl) (by simp) ?_; refine AllReadyH.cons rfl (fun K hK => ?_) AllReadyH.nil; refine step_appG rfl (.tmp 33) (.tmp 37) _ _ rfl _ _ _ rfl rfl HR.out ?_; rintro v4 w4 ⟨hO4, hg4, hf4⟩; refine hK.out _ _ ?_ (fun hHeldN => ?_); (focus ((try dsimp only); (refine hHeld.trans ((Chg.of_grown hg4).mono (fun k hk => ?_)); rw [HOM.out, HRF.out.1]; simpa using hk))); clear hK K hHeld; have hHeld := hHeldN; clear hHeldN; (try simp only [Act.put, List.setIfInBounds_toArray, List.set_cons_zero, List.set_cons_succ, List.getElem_toArray, List.getElem_cons_zero, List.getElem_cons_succ]))
    (refine wpAnyH_take (i := 11) (v := ?_) rfl (by kernel_rfl) (by kernel_rfl) (by kernel_rfl) (fun _ _ _ h => h) (Or.inl ⟨by rfl, ?_⟩) hHeld ?_; rotate_left; (focus (intro w hSw; (try dsimp only at hSw); go_simp; try with_reducible rfl)); (try simp only [Act.put, List.setIfInBounds_toArray, List.set_cons_zero, List.set_cons_succ, List.getElem_toArray, List.getElem_cons_zero, List.getElem_cons_succ]))
    refine wpAnyH_done (by kernel_rfl) ?_ _
    obtain ⟨a4, c4, rfl⟩ := hO4.form
    obtain ⟨n1, hn1⟩ : ∃ n1, n1 = (ys ++ [c]).length := ⟨_, rfl⟩
    rw [← hn1] at hO4 hf4 ⊢
    clear hn1
    have HA4 := Lib.hid (hHeld.blk HAB.out HNA.out)
    have HC4 := Lib.hid hHeld
    have HO4 := Lib.hid hO4
    have HF4 : Hid (∀ g, (Value.slice a4 n1 c4).ownBlock = some g → (R true true).ownBlock = some g ∨ w3.heap.size ≤ g) := by
      have : ∀ g, (Value.slice a4 n1 c4).ownBlock = some g → (R true true).ownBlock = some g ∨ w3.heap.size ≤ g := fun g hg => by
        rcases hf4 g hg with e | e
        · left; rw [HRF.out.1]; exact e
        · right; simp at e; omega
      exact this
    clear hHeld hO4 hg4 hf4
    have d1 := BlkAt.cell HA4.out (j := 1) rfl
    have hfz : ∀ j, w4.frozen? ⟨A true, j, none⟩ = false := fun j => BlkAt.frozen HA4.out j
    refine lastQ_at rfl ?_
    go_simp
    go_wp2_with fail
    obtain ⟨w5, hw5⟩ : ∃ w5, w5 = w4.setCell ⟨A true, 1, none⟩ (.slice a4 n1 c4) := ⟨_, rfl⟩
    rw [← hw5]
    have HC5 : Hid (Chg [A true] w4 w5) := by show Chg _ _ _; rw [hw5]; exact (Chg.refl _ _).set (by simp) _ _
    have HA5 : Hid (BlkAt 91 (A true) (pr2 (upB (R true) true (.slice a4 n1 c4))) w5) := by show BlkAt _ _ _ _; rw [hw5]; exact BlkAt.set HA4.out 1 _
    clear hw5 d1 hfz
    go_ret
    have hO5 : OwnB w5 w0.heap.size (.slice a4 n1 c4) (ys ++ [c]) := HC5.out.owns HO4.out (fun g hg => by
      have := ne_ty (own_ty HO4.out hg) (blk_ty HA4.out) (by decide)
      simpa using this)
    obtain ⟨X', hX', hXb⟩ := HM3.out.row true true (L := A true :: O) HA5.out hO5 ((HC4.out.mono (by intro b hb; simp [hb])).trans (HC5.out.mono (by simp))) (fun g hg => by
      rcases List.mem_cons.1 hg with e | e
      · exact .inl e
      · exact .inr ((HOM.out g).1 e)) HF4.out
    refine ⟨upB G true (G true), X', upR R true true (.slice a4 n1 c4), rfl, ?_, fun M hM => hXb M (HBD.out M hM), A true :: (O ++ [P true, G true]), (((Chg.of_below _ HD.out).trans (HC3.out.mono (by simp))).trans (HC4.out.mono (by intro b hb; simp [hb]))).trans (HC5.out.mono (by simp)), fun k hk => ?_⟩
    · have e := takeW_on σ false ⟨q, a, [c]⟩ HK.out
      rw [e]
      rw [HRF.out.2.1] at hX'
      exact hX'
    · rcases List.mem_cons.1 hk with rfl | hk
      · exact HTYA.out
      · rcases List.mem_append.1 hk with e | e
        · exact HTYX.out k ((HOM.out k).1 e)
        · exact HTYW.out k e

  · rw [if_neg hk, decide_eq_false hk] at HT
    have HT := Lib.hid HT
    have HK := Lib.hid hk
    clear hk
    go_enter Try.func28, Try.ntmps28
    go_wp2_with fail
    rw [← HZZ.out, ← HW1.out]
    have ew : IntKind.i64.wrap 1 = 1 := by decide
    (refine wp_region_held_drew (S := (fun w' => w'.cell? ⟨eb, 1, none⟩ = some (.pointer (some ⟨ps, 0, none⟩)) ∧ w'.cell? ⟨z, 0, none⟩ = some (.int .u64 (q : Int)) ∧ w'.cell? ⟨z, 1, none⟩ = some (.int .u64 (a : Int)) ∧ w'.cell? ⟨z, 2, none⟩ = some (.slice va m vc))) (by kernel_rfl) ?_ (fun hHeld => ?_); (focus ((try dsimp only); (exact HC0.out))))
    (try dsimp only at hHeld)
    (refine wpAnyH_take (i := 0) (v := ?_) rfl (by kernel_rfl) (by kernel_rfl) (by kernel_rfl) (fun _ _ _ h => h) (Or.inl ⟨by rfl, ?_⟩) hHeld ?_; rotate_left; (focus (intro w hSw; (try dsimp only at hSw); go_simp; try with_reducible rfl)); (try simp only [Act.put, List.setIfInBounds_toArray, List.set_cons_zero, List.set_cons_succ, List.getElem_toArray, List.getElem_cons_zero])); (refine wpAnyH_take (i := 1) (v := ?_) rfl (by kernel_rfl) (by kernel_rfl) (by kernel_rfl) (fun _ _ _ h => h) (Or.inl ⟨by rfl, ?_⟩) hHeld ?_; rotate_left; (focus (intro w hSw; (try dsimp only at hSw); go_simp; try with_reducible rfl)); (try simp only [Act.put, List.setIfInBounds_toArray, List.set_cons_zero, List.set_cons_succ, List.getElem_toArray, List.getElem_cons_zero, List.getElem_cons_succ])); (refine wpAnyH_take (i := 2) (v := ?_) rfl (by kernel_rfl) (by kernel_rfl) (by kernel_rfl) (fun _ _ _ h => h) (Or.inl ⟨by rfl, ?_⟩) hHeld ?_; rotate_left; (focus (intro w hSw; (try dsimp only at hSw); go_simp; try with_reducible rfl)); (try simp only [Act.put, List.setIfInBounds_toArray, List.set_cons_zero, List.set_cons_succ, List.getElem_toArray, List.getElem_cons_zero, List.getElem_cons_succ]))
    (refine wpAnyH_take (i := 3) (v := ?_) rfl (by kernel_rfl) (by kernel_rfl) (by kernel_rfl) (fun _ _ _ h => h) (Or.inl ⟨by rfl, ?_⟩) hHeld ?_; rotate_left; (focus (intro w hSw; (try dsimp only at hSw); go_simp; (have cc := hSw.1; go_simp; try with_reducible rfl))); (try simp only [Act.put, List.setIfInBounds_toArray, List.set_cons_zero, List.set_cons_succ, List.getElem_toArray, List.getElem_cons_zero, List.getElem_cons_succ]))
    (refine wpAnyH_take (i := 4) (v := ?_) rfl (by kernel_rfl) (by kernel_rfl) (by kernel_rfl) (fun _ _ _ h => h) (Or.inl ⟨by rfl, ?_⟩) hHeld ?_; rotate_left; (focus (intro w hSw; (try dsimp only at hSw); go_simp; (have cc := hSw.2.1; have cd := hSw.2.2.1; have ce := hSw.2.2.2; go_simp; try with_reducible rfl))); (try simp only [Act.put, List.setIfInBounds_toArray, List.set_cons_zero, List.set_cons_succ, List.getElem_toArray, List.getElem_cons_zero, List.getElem_cons_succ]))
    (refine wpAnyH_ready (rs := [5]) (by kernel_rfl) (by simp) ?_; refine AllReadyH.cons rfl (fun K hK => ?_) AllReadyH.nil; go_simp; refine HT.out.mono ?_; rintro e w3 ⟨u, rfl, hu, hP, hC⟩; obtain ⟨ya, yc, rfl⟩ := hu.form; refine hK.out _ _ ?_ (fun hHeldN => ?_); (focus ((try dsimp only); (rw [← HPS.out] at hC; have q0 := hC.blk HE2.out HEP.out; have q1 := hC.blk HZ2.out HZP.out; exact ⟨by rw [← HPS.out]; exact q0.cell (j := 1) rfl, q1.cell (j := 0) rfl, q1.cell (j := 1) rfl, q1.cell (j := 2) rfl⟩))); clear hK K hHeld; have hHeld := hHeldN; clear hHeldN; (try simp only [Act.put, List.setIfInBounds_toArray, List.set_cons_zero, List.set_cons_succ, List.getElem_toArray, List.getElem_cons_zero, List.getElem_cons_succ]))
    (refine wpAnyH_take (i := 6) (v := ?_) rfl (by kernel_rfl) (by kernel_rfl) (by kernel_rfl) (fun _ _ _ h => h) (Or.inl ⟨by rfl, ?_⟩) hHeld ?_; rotate_left; (focus (intro w hSw; (try dsimp only at hSw); go_simp; try with_reducible rfl)); (try simp only [Act.put, List.setIfInBounds_toArray, List.set_cons_zero, List.set_cons_succ, List.getElem_toArray, List.getElem_cons_zero, List.getElem_cons_succ])); (refine wpAnyH_take (i := 7) (v := ?_) rfl (by kernel_rfl) (by kernel_rfl) (by kernel_rfl) (fun _ _ _ h => h) (Or.inl ⟨by rfl, ?_⟩) hHeld ?_; rotate_left; (focus (intro w hSw; (try dsimp only at hSw); go_simp; try with_reducible rfl)); (try simp only [Act.put, List.setIfInBounds_toArray, List.set_cons_zero, List.set_cons_succ, List.getElem_toArray, List.getElem_cons_zero, List.getElem_cons_succ])); (refine wpAnyH_take (i := 8) (v := ?_) rfl (by kernel_rfl) (by kernel_rfl) (by kernel_rfl) (fun _ _ _ h => h) (Or.inl ⟨by rfl, ?_⟩) hHeld ?_; rotate_left; (focus (intro w hSw; (try dsimp only at hSw); go_simp; try with_reducible rfl)); (try simp only [Act.put, List.setIfInBounds_toArray, List.set_cons_zero, List.set_cons_succ, List.getElem_toArray, List.getElem_cons_zero, List.getElem_cons_succ])); (refine wpAnyH_take (i := 9) (v := ?_) rfl (by kernel_rfl) (by kernel_rfl) (by kernel_rfl) (fun _ _ _ h => h) (Or.inl ⟨by rfl, ?_⟩) hHeld ?_; rotate_left; (focus (intro w hSw; (try dsimp only at hSw); go_simp; try with_reducible rfl)); (try simp only [Act.put, List.setIfInBounds_toArray, List.set_cons_zero, List.set_cons_succ, List.getElem_toArray, List.getElem_cons_zero, List.getElem_cons_succ])); (refine wpAnyH_take (i := 10) (v := ?_) rfl (by kernel_rfl) (by kernel_rfl) (by kernel_rfl) (fun _ _ _ h => h) (Or.inl ⟨by rfl, ?_⟩) hHeld ?_; rotate_left; (focus (intro w hSw; (try dsimp only at hSw); go_simp; try with_reducible rfl)); (try simp only [Act.put, List.setIfInBounds_toArray, List.set_cons_zero, List.set_cons_succ, List.getElem_toArray, List.getElem_cons_zero, List.getElem_cons_succ])); (refine wpAnyH_take (i := 11) (v := ?_) rfl (by kernel_rfl) (by kernel_rfl) (by kernel_rfl) (fun _ _ _ h => h) (Or.inl ⟨by rfl, ?_⟩) hHeld ?_; rotate_left; (focus (intro w hSw; (try dsimp only at hSw); go_simp; try with_reducible rfl)); (try simp only [Act.put, List.setIfInBounds_toArray, List.set_cons_zero, List.set_cons_succ, List.getElem_toArray, List.getElem_cons_zero, List.getElem_cons_succ])); (refine wpAnyH_take (i := 12) (v := ?_) rfl (by kernel_rfl) (by kernel_rfl) (by kernel_rfl) (fun _ _ _ h => h) (Or.inl ⟨by rfl, ?_⟩) hHeld ?_; rotate_left; (focus (intro w hSw; (try dsimp only at hSw); go_simp; try with_reducible rfl)); (try simp only [Act.put, List.setIfInBounds_toArray, List.set_cons_zero, List.set_cons_succ, List.getElem_toArray, List.getElem_cons_zero, List.getElem_cons_succ])); (refine wpAnyH_take (i := 13) (v := ?_) rfl (by kernel_rfl) (by kernel_rfl) (by kernel_rfl) (fun _ _ _ h => h) (Or.inl ⟨by rfl, ?_⟩) hHeld ?_; rotate_left; (focus (intro w hSw; (try dsimp only at hSw); go_simp; try with_reducible rfl)); (try simp only [Act.put, List.setIfInBounds_toArray, List.set_cons_zero, List.set_cons_succ, List.getElem_toArray, List.getElem_cons_zero, List.getElem_cons_succ])); (refine wpAnyH_take (i := 14) (v := ?_) rfl (by kernel_rfl) (by kernel_rfl) (by kernel_rfl) (fun _ _ _ h => h) (Or.inl ⟨by rfl, ?_⟩) hHeld ?_; rotate_left; (focus (intro w hSw; (try dsimp only at hSw); go_simp; try with_reducible rfl)); (try simp only [Act.put, List.setIfInBounds_toArray, List.set_cons_zero, List.set_cons_succ, List.getElem_toArray, List.getElem_cons_zero, List.getElem_cons_succ]))
    refine wpAnyH_done (by kernel_rfl) ?_ _
    rw [← HPS.out] at hP hC
    have HU := Lib.hid hu
    have HM3 := Lib.hid (HM2.out.stream true hP hC (.inl rfl))
    have HBD : Hid (∀ M, Bods w X M → Bods w3 X M) := fun M hM => (hM.later HD.out).chg hC HNOB.out
    have HC3 : Hid (Chg [P true, G true] w1.drew w3) := hC
    clear hHeld hu hP hC HT
    go_wp2_with fail
    go_ret
    refine ⟨upB G true (G true), X, R, rfl, ?_, HBD.out, [P true, G true], (Chg.of_below _ HD.out).trans HC3.out, fun k hk => ?_⟩
    · have e := takeW_off σ false ⟨q, a, b⟩ HK.out
      rw [e]
      exact HM3.out
    · exact HTYW.out k hk

set_option maxHeartbeats 8000000 in
set_option maxRecDepth 100000 in
theorem takeF_true {w0 : World} {P : Bool → Nat} {eb fb : Nat} {A G : Bool → Nat} {X : List Nat} {V : Bool → Value} {R : Bool → Bool → Value} {σ : Wn} {w : World} {N : Nat} (h : WM w0 P eb fb A G X V R σ w) (hi : WInv σ N) (hN : N ≤ 1000) (q a : Nat) (v : Value) (b : List UInt8) (hg : Ad (σ.s true) (σ.x true) ⟨q, a, b⟩) (hv : Bod w X v b) :
    Calls Try.prog 28 #[.int .i64 1, .agg #[.int .u64 (q : Int), .int .u64 (a : Int), v], .pointer (some ⟨eb, 0, none⟩), .pointer (some ⟨A true, 0, none⟩)] w (FA w0 P eb fb A X V σ true ⟨q, a, b⟩ w) := by
  have hqb : q ≤ 1000 := by
    rcases Nat.eq_zero_or_pos q with e | e
    · omega
    · have h1 := (hg.q (by simp only; omega)).1
      have h2 := (hi.d true).top_le (hi.o true)
      have h3 := hi.xl true
      simp only at h1
      omega
  have hab : a ≤ 1000 := by
    have h1 := hg.a
    have h2 := (hi.o true).tkN
    simp only at h1
    omega
  have hbl : b.length ≤ 1 := hg.b
  obtain ⟨va, vc, rfl⟩ := hv.form
  obtain ⟨z, hz⟩ : ∃ z, z = w.heap.size := ⟨_, rfl⟩
  obtain ⟨m, hm⟩ : ∃ m, m = b.length := ⟨_, rfl⟩
  rw [← hm] at hv ⊢
  obtain ⟨w1, hw1⟩ : ∃ w1, w1 = w.alloc (.cells #[.int .u64 (q : Int), .int .u64 (a : Int), .slice va m vc] 94) := ⟨_, rfl⟩
  have hb1 : Below w.heap.size w w1 := by rw [hw1]; exact ba1 _ _
  have hZ : BlkAt 94 z [.int .u64 (q : Int), .int .u64 (a : Int), .slice va m vc] w1 := by rw [hw1, hz]; exact BlkAt.new w _
  have hd : Below w.heap.size w w1.drew := hb1.trans (Below.refl _ _).drew
  have h2 := h.later hd
  have hv2 : Bod w1.drew X (.slice va m vc) b := hv.later hd
  have hZ2 : BlkAt 94 z [.int .u64 (q : Int), .int .u64 (a : Int), .slice va m vc] w1.drew := hZ.later (Below.refl _ _).drew
  have nob : ∀ k ∈ [P false, G false], NoB w1.drew k ∨ k ∈ X := by
    intro k hk
    simp at hk
    rcases hk with e | e
    · rw [e]; exact .inl (h2.s false).noB.1
    · rw [e]; exact .inl (h2.s false).noB.2
  obtain ⟨ps, hps⟩ : ∃ ps, ps = P false := ⟨_, rfl⟩
  have tyP := psm_ty (h2.s false)
  have zP : z ∉ [P false, G false] := by
    have hzt := blk_ty hZ2
    simp only [List.mem_cons, List.not_mem_nil, or_false, not_or]
    refine ⟨ne_ty hzt tyP.1 (by decide), ?_⟩
    rcases tyP.2 with e | e
    · rw [e]; exact ne_ty hzt tyP.1 (by decide)
    · exact ne_ty hzt e (by decide)
  have eP : eb ∉ [P false, G false] := by
    have hzt := blk_ty h2.e
    simp only [List.mem_cons, List.not_mem_nil, or_false, not_or]
    refine ⟨ne_ty hzt tyP.1 (by decide), ?_⟩
    rcases tyP.2 with e | e
    · rw [e]; exact ne_ty hzt tyP.1 (by decide)
    · exact ne_ty hzt e (by decide)
  have tyL : ∀ k ∈ [P false, G false], ty w1.drew k ≠ some 94 := by
    intro k hk
    simp at hk
    rcases tyP with ⟨t1, t2⟩
    rcases hk with rfl | rfl
    · rw [t1]; decide
    · rcases t2 with e | e
      · rw [e, t1]; decide
      · rw [e]; decide
  have HTYW : Hid (∀ k ∈ [P false, G false], ty w k ≠ some 94) := by
    have : ∀ k ∈ [P false, G false], ty w k ≠ some 94 := by
      intro k hk
      simp at hk
      rcases psm_ty (h.s false) with ⟨t1, t2⟩
      rcases hk with rfl | rfl
      · rw [t1]; decide
      · rcases t2 with e | e
        · rw [e, t1]; decide
        · rw [e]; decide
    exact this
  have HZP : Hid (z ∉ [P false, G false]) := zP
  have HEP : Hid (eb ∉ [P false, G false]) := eP
  have HTYX : Hid (∀ k, (R true false).ownBlock = some k → ty w k ≠ some 94) := by
    have : ∀ k, (R true false).ownBlock = some k → ty w k ≠ some 94 := fun k hk => by rw [own_ty (h.r true false) hk]; decide
    exact this
  have HTYA : Hid (ty w (A true) ≠ some 94) := by
    show _ ≠ _
    rw [blk_ty (h.a true)]; decide
  have HT := takeC (h2.s false) (hi.o false) h2.xl q a (by omega) (by omega) (.slice va m vc) b (fun W hW => (hv2.chg hW nob).bytes) (by omega)
  unfold TkA at HT
  obtain ⟨AC, hAC⟩ : ∃ AC : Int, AC = (takeM (σ.s false) q a).ac := ⟨_, rfl⟩
  rw [← hAC] at HT
  have HTYL : Hid (∀ k ∈ [P false, G false], ty w1.drew k ≠ some 94) := tyL
  have HNOB : Hid (∀ k ∈ [P false, G false], NoB w1.drew k ∨ k ∈ X) := nob
  have HM2 := Lib.hid h2
  have HI := Lib.hid hi
  have HG := Lib.hid hg
  have HV := Lib.hid hv
  have HW1 := Lib.hid hw1
  have HZZ : Hid (z = w.heap.size) := hz
  have HZ2 := Lib.hid hZ2
  have HD := Lib.hid hd
  have HC0 : Hid (w1.drew.cell? ⟨eb, 0, none⟩ = some (.pointer (some ⟨ps, 0, none⟩)) ∧ w1.drew.cell? ⟨z, 0, none⟩ = some (.int .u64 (q : Int)) ∧ w1.drew.cell? ⟨z, 1, none⟩ = some (.int .u64 (a : Int)) ∧ w1.drew.cell? ⟨z, 2, none⟩ = some (.slice va m vc)) := by
    refine ⟨?_, BlkAt.cell hZ2 (j := 0) rfl, BlkAt.cell hZ2 (j := 1) rfl, BlkAt.cell hZ2 (j := 2) rfl⟩
    rw [hps]; exact BlkAt.cell h2.e (j := 0) rfl
  have HE2 := Lib.hid h2.e
  have HPS : Hid (P false = ps) := hps.symm
  rw [← hps] at HT
  have HM : Hid (m = b.length) := hm
  clear h hw1 hb1 hZ hd h2 hv2 hZ2 nob zP eP tyL tyP hAC hv hi hg hz hqb hab hps hm
  by_cases hk : q = (σ.s false).tk + 1
  · rw [if_pos hk, decide_eq_true hk] at HT
    have hE : ∃ c, b = [c] := by
      obtain ⟨c, _, hb⟩ := (HG.out.q (by simp only; omega)).2
      exact ⟨c, hb⟩
    obtain ⟨c, rfl⟩ := hE
    have HT := Lib.hid HT
    have HK := Lib.hid hk
    clear hk
    go_enter Try.func28, Try.ntmps28
    go_wp2_with fail
    rw [← HZZ.out, ← HW1.out]
    have ew : IntKind.i64.wrap 0 = 0 := by decide
    (refine wp_region_held_drew (S := (fun w' => w'.cell? ⟨eb, 0, none⟩ = some (.pointer (some ⟨ps, 0, none⟩)) ∧ w'.cell? ⟨z, 0, none⟩ = some (.int .u64 (q : Int)) ∧ w'.cell? ⟨z, 1, none⟩ = some (.int .u64 (a : Int)) ∧ w'.cell? ⟨z, 2, none⟩ = some (.slice va m vc))) (by kernel_rfl) ?_ (fun hHeld => ?_); (focus ((try dsimp only); (exact HC0.out))))
    (try dsimp only at hHeld)
    (refine wpAnyH_take (i := 0) (v := ?_) rfl (by kernel_rfl) (by kernel_rfl) (by kernel_rfl) (fun _ _ _ h => h) (Or.inl ⟨by rfl, ?_⟩) hHeld ?_; rotate_left; (focus (intro w hSw; (try dsimp only at hSw); go_simp; try with_reducible rfl)); (try simp only [Act.put, List.setIfInBounds_toArray, List.set_cons_zero, List.set_cons_succ, List.getElem_toArray, List.getElem_cons_zero])); (refine wpAnyH_take (i := 1) (v := ?_) rfl (by kernel_rfl) (by kernel_rfl) (by kernel_rfl) (fun _ _ _ h => h) (Or.inl ⟨by rfl, ?_⟩) hHeld ?_; rotate_left; (focus (intro w hSw; (try dsimp only at hSw); go_simp; try with_reducible rfl)); (try simp only [Act.put, List.setIfInBounds_toArray, List.set_cons_zero, List.set_cons_succ, List.getElem_toArray, List.getElem_cons_zero, List.getElem_cons_succ])); (refine wpAnyH_take (i := 2) (v := ?_) rfl (by kernel_rfl) (by kernel_rfl) (by kernel_rfl) (fun _ _ _ h => h) (Or.inl ⟨by rfl, ?_⟩) hHeld ?_; rotate_left; (focus (intro w hSw; (try dsimp only at hSw); go_simp; try with_reducible rfl)); (try simp only [Act.put, List.setIfInBounds_toArray, List.set_cons_zero, List.set_cons_succ, List.getElem_toArray, List.getElem_cons_zero, List.getElem_cons_succ]))
    (refine wpAnyH_take (i := 3) (v := ?_) rfl (by kernel_rfl) (by kernel_rfl) (by kernel_rfl) (fun _ _ _ h => h) (Or.inl ⟨by rfl, ?_⟩) hHeld ?_; rotate_left; (focus (intro w hSw; (try dsimp only at hSw); go_simp; (have cc := hSw.1; go_simp; try with_reducible rfl))); (try simp only [Act.put, List.setIfInBounds_toArray, List.set_cons_zero, List.set_cons_succ, List.getElem_toArray, List.getElem_cons_zero, List.getElem_cons_succ]))
    (refine wpAnyH_take (i := 4) (v := ?_) rfl (by kernel_rfl) (by kernel_rfl) (by kernel_rfl) (fun _ _ _ h => h) (Or.inl ⟨by rfl, ?_⟩) hHeld ?_; rotate_left; (focus (intro w hSw; (try dsimp only at hSw); go_simp; (have cc := hSw.2.1; have cd := hSw.2.2.1; have ce := hSw.2.2.2; go_simp; try with_reducible rfl))); (try simp only [Act.put, List.setIfInBounds_toArray, List.set_cons_zero, List.set_cons_succ, List.getElem_toArray, List.getElem_cons_zero, List.getElem_cons_succ]))
    (refine wpAnyH_ready (rs := [5]) (by kernel_rfl) (by simp) ?_; refine AllReadyH.cons rfl (fun K hK => ?_) AllReadyH.nil; go_simp; refine HT.out.mono ?_; rintro e w3 ⟨u, rfl, hu, hP, hC⟩; obtain ⟨xb, xo, xk, rfl⟩ := bod1 hu; refine hK.out _ _ ?_ (fun hHeldN => ?_); (focus ((try dsimp only); (rw [← HPS.out] at hC; have q0 := hC.blk HE2.out HEP.out; have q1 := hC.blk HZ2.out HZP.out; exact ⟨by rw [← HPS.out]; exact q0.cell (j := 0) rfl, q1.cell (j := 0) rfl, q1.cell (j := 1) rfl, q1.cell (j := 2) rfl⟩))); clear hK K hHeld; have hHeld := hHeldN; clear hHeldN; (try simp only [Act.put, List.setIfInBounds_toArray, List.set_cons_zero, List.set_cons_succ, List.getElem_toArray, List.getElem_cons_zero, List.getElem_cons_succ]))
    (refine wpAnyH_take (i := 6) (v := ?_) rfl (by kernel_rfl) (by kernel_rfl) (by kernel_rfl) (fun _ _ _ h => h) (Or.inl ⟨by rfl, ?_⟩) hHeld ?_; rotate_left; (focus (intro w hSw; (try dsimp only at hSw); go_simp; try with_reducible rfl)); (try simp only [Act.put, List.setIfInBounds_toArray, List.set_cons_zero, List.set_cons_succ, List.getElem_toArray, List.getElem_cons_zero, List.getElem_cons_succ])); (refine wpAnyH_take (i := 7) (v := ?_) rfl (by kernel_rfl) (by kernel_rfl) (by kernel_rfl) (fun _ _ _ h => h) (Or.inl ⟨by rfl, ?_⟩) hHeld ?_; rotate_left; (focus (intro w hSw; (try dsimp only at hSw); go_simp; try with_reducible rfl)); (try simp only [Act.put, List.setIfInBounds_toArray, List.set_cons_zero, List.set_cons_succ, List.getElem_toArray, List.getElem_cons_zero, List.getElem_cons_succ])); (refine wpAnyH_take (i := 8) (v := ?_) rfl (by kernel_rfl) (by kernel_rfl) (by kernel_rfl) (fun _ _ _ h => h) (Or.inl ⟨by rfl, ?_⟩) hHeld ?_; rotate_left; (focus (intro w hSw; (try dsimp only at hSw); go_simp; try with_reducible rfl)); (try simp only [Act.put, List.setIfInBounds_toArray, List.set_cons_zero, List.set_cons_succ, List.getElem_toArray, List.getElem_cons_zero, List.getElem_cons_succ])); (refine wpAnyH_take (i := 9) (v := ?_) rfl (by kernel_rfl) (by kernel_rfl) (by kernel_rfl) (fun _ _ _ h => h) (Or.inl ⟨by rfl, ?_⟩) hHeld ?_; rotate_left; (focus (intro w hSw; (try dsimp only at hSw); go_simp; try with_reducible rfl)); (try simp only [Act.put, List.setIfInBounds_toArray, List.set_cons_zero, List.set_cons_succ, List.getElem_toArray, List.getElem_cons_zero, List.getElem_cons_succ])); (refine wpAnyH_take (i := 10) (v := ?_) rfl (by kernel_rfl) (by kernel_rfl) (by kernel_rfl) (fun _ _ _ h => h) (Or.inl ⟨by rfl, ?_⟩) hHeld ?_; rotate_left; (focus (intro w hSw; (try dsimp only at hSw); go_simp; try with_reducible rfl)); (try simp only [Act.put, List.setIfInBounds_toArray, List.set_cons_zero, List.set_cons_succ, List.getElem_toArray, List.getElem_cons_zero, List.getElem_cons_succ])); (refine wpAnyH_take (i := 11) (v := ?_) rfl (by kernel_rfl) (by kernel_rfl) (by kernel_rfl) (fun _ _ _ h => h) (Or.inl ⟨by rfl, ?_⟩) hHeld ?_; rotate_left; (focus (intro w hSw; (try dsimp only at hSw); go_simp; try with_reducible rfl)); (try simp only [Act.put, List.setIfInBounds_toArray, List.set_cons_zero, List.set_cons_succ, List.getElem_toArray, List.getElem_cons_zero, List.getElem_cons_succ])); (refine wpAnyH_take (i := 12) (v := ?_) rfl (by kernel_rfl) (by kernel_rfl) (by kernel_rfl) (fun _ _ _ h => h) (Or.inl ⟨by rfl, ?_⟩) hHeld ?_; rotate_left; (focus (intro w hSw; (try dsimp only at hSw); go_simp; try with_reducible rfl)); (try simp only [Act.put, List.setIfInBounds_toArray, List.set_cons_zero, List.set_cons_succ, List.getElem_toArray, List.getElem_cons_zero, List.getElem_cons_succ])); (refine wpAnyH_take (i := 13) (v := ?_) rfl (by kernel_rfl) (by kernel_rfl) (by kernel_rfl) (fun _ _ _ h => h) (Or.inl ⟨by rfl, ?_⟩) hHeld ?_; rotate_left; (focus (intro w hSw; (try dsimp only at hSw); go_simp; try with_reducible rfl)); (try simp only [Act.put, List.setIfInBounds_toArray, List.set_cons_zero, List.set_cons_succ, List.getElem_toArray, List.getElem_cons_zero, List.getElem_cons_succ])); (refine wpAnyH_take (i := 14) (v := ?_) rfl (by kernel_rfl) (by kernel_rfl) (by kernel_rfl) (fun _ _ _ h => h) (Or.inl ⟨by rfl, ?_⟩) hHeld ?_; rotate_left; (focus (intro w hSw; (try dsimp only at hSw); go_simp; try with_reducible rfl)); (try simp only [Act.put, List.setIfInBounds_toArray, List.set_cons_zero, List.set_cons_succ, List.getElem_toArray, List.getElem_cons_zero, List.getElem_cons_succ]))
    refine wpAnyH_done (by kernel_rfl) ?_ _
    rw [← HPS.out] at hP hC
    have HU := Lib.hid hu
    have HM3 := Lib.hid (HM2.out.stream false hP hC (.inl rfl))
    have HBD : Hid (∀ M, Bods w X M → Bods w3 X M) := fun M hM => (hM.later HD.out).chg hC HNOB.out
    have HC3 : Hid (Chg [P false, G false] w1.drew w3) := hC
    clear hHeld hu hP hC HT
    go_wp2_with fail
    obtain ⟨ra, rc, hrf⟩ := (HM3.out.r true false).form
    obtain ⟨ys, hys⟩ : ∃ ys, ys = σ.y false := ⟨_, rfl⟩
    have hco : cont (⟨upB σ.s false (takeM (σ.s false) q a), σ.f, σ.x, σ.y⟩ : Wn) true false = ys := hys.symm
    rw [hco] at hrf
    obtain ⟨n, hn⟩ : ∃ n, n = ys.length := ⟨_, rfl⟩
    rw [← hn] at hrf
    obtain ⟨O, hO⟩ : ∃ O, O = (R true false).ownBlock.toList := ⟨_, rfl⟩
    have HOM : Hid (∀ k, k ∈ O ↔ (R true false).ownBlock = some k) := by
      have : ∀ k, k ∈ O ↔ (R true false).ownBlock = some k := fun k => by rw [hO]; simp
      exact this
    have hOW := HM3.out.r true false
    rw [hco, hrf] at hOW
    have HNL : Hid (ys.length ≤ 1000) := by
      have h1 := (HI.out.d true).y
      have h2 := HI.out.xl true
      show _ ≤ _
      rw [hys]
      simp only [Bool.not_false, Bool.not_true] at h1
      rw [h1]; simp; omega
    have HOW := Lib.hid hOW
    have HAB := Lib.hid (HM3.out.a true)
    have HNA : Hid (A true ∉ O) := fun hm => ne_ty (own_ty (HM3.out.r true false) ((HOM.out _).1 hm)) (blk_ty HAB.out) (by decide) rfl
    have HNO : Hid (∀ k ∈ O, NoB w3 k ∨ k ∈ X) := by
      have : ∀ k ∈ O, NoB w3 k ∨ k ∈ X := fun k hk => .inr (HM3.out.rx true false k ((HOM.out k).1 hk))
      exact this
    have HCW : Hid (∀ W, Chg O w3 W → W.cell? ⟨A true, 0, none⟩ = some (.slice ra n rc) ∧ W.cell? ⟨xb, xo, none⟩ = some (.int .u8 (c.toNat : Int))) := by
      have : ∀ W, Chg O w3 W → W.cell? ⟨A true, 0, none⟩ = some (.slice ra n rc) ∧ W.cell? ⟨xb, xo, none⟩ = some (.int .u8 (c.toNat : Int)) := fun W hW => by
        refine ⟨?_, bod1c (HU.out.chg hW HNO.out)⟩
        rw [← hrf]; exact BlkAt.cell (hW.blk HAB.out HNA.out) (j := 0) rfl
      exact this
    have HRF : Hid (R true false = .slice ra n rc ∧ ys = σ.y false ∧ n = ys.length) := ⟨hrf, hys, hn⟩
    have HB0 : Hid (w0.heap.size ≤ w3.heap.size) := HM3.out.bel.size
    clear hrf hys hco hn hO hOW
    refine wp_region_last (S := fun w' => Chg O w3 w') (by simp only [List.pop_toArray, List.dropLast]; exact rfl) (by kernel_rfl) (by kernel_rfl) (Chg.refl _ _).drew (fun hHeld => ?_)
    (refine wpAnyH_take (i := 0) (v := ?_) rfl (by kernel_rfl) (by kernel_rfl) (by kernel_rfl) (fun _ _ _ h => h) (Or.inl ⟨by rfl, ?_⟩) hHeld ?_; rotate_left; (focus (intro w hSw; (try dsimp only at hSw); go_simp; try with_reducible rfl)); (try simp only [Act.put, List.setIfInBounds_toArray, List.set_cons_zero, List.set_cons_succ, List.getElem_toArray, List.getElem_cons_zero])); (refine wpAnyH_take (i := 1) (v := ?_) rfl (by kernel_rfl) (by kernel_rfl) (by kernel_rfl) (fun _ _ _ h => h) (Or.inl ⟨by rfl, ?_⟩) hHeld ?_; rotate_left; (focus (intro w hSw; (try dsimp only at hSw); go_simp; try with_reducible rfl)); (try simp only [Act.put, List.setIfInBounds_toArray, List.set_cons_zero, List.set_cons_succ, List.getElem_toArray, List.getElem_cons_zero, List.getElem_cons_succ])); (refine wpAnyH_take (i := 2) (v := ?_) rfl (by kernel_rfl) (by kernel_rfl) (by kernel_rfl) (fun _ _ _ h => h) (Or.inl ⟨by rfl, ?_⟩) hHeld ?_; rotate_left; (focus (intro w hSw; (try dsimp only at hSw); go_simp; try with_reducible rfl)); (try simp only [Act.put, List.setIfInBounds_toArray, List.set_cons_zero, List.set_cons_succ, List.getElem_toArray, List.getElem_cons_zero, List.getElem_cons_succ])); (refine wpAnyH_take (i := 3) (v := ?_) rfl (by kernel_rfl) (by kernel_rfl) (by kernel_rfl) (fun _ _ _ h => h) (Or.inl ⟨by rfl, ?_⟩) hHeld ?_; rotate_left; (focus (intro w hSw; (try dsimp only at hSw); go_simp; try with_reducible rfl)); (try simp only [Act.put, List.setIfInBounds_toArray, List.set_cons_zero, List.set_cons_succ, List.getElem_toArray, List.getElem_cons_zero, List.getElem_cons_succ])); (refine wpAnyH_take (i := 4) (v := ?_) rfl (by kernel_rfl) (by kernel_rfl) (by kernel_rfl) (fun _ _ _ h => h) (Or.inl ⟨by rfl, ?_⟩) hHeld ?_; rotate_left; (focus (intro w hSw; (try dsimp only at hSw); go_simp; try with_reducible rfl)); (try simp only [Act.put, List.setIfInBounds_toArray, List.set_cons_zero, List.set_cons_succ, List.getElem_toArray, List.getElem_cons_zero, List.getElem_cons_succ]))
    (refine wpAnyH_take (i := 5) (v := ?_) rfl (by kernel_rfl) (by kernel_rfl) (by kernel_rfl) (fun _ _ _ h => h) (Or.inl ⟨by rfl, ?_⟩) hHeld ?_; rotate_left; (focus (intro w hSw; (try dsimp only at hSw); go_simp; (have cc := (HCW.out _ hSw).1; go_simp; try with_reducible rfl))); (try simp only [Act.put, List.setIfInBounds_toArray, List.set_cons_zero, List.set_cons_succ, List.getElem_toArray, List.getElem_cons_zero, List.getElem_cons_succ]))
    (refine wpAnyH_take (i := 6) (v := ?_) rfl (by kernel_rfl) (by kernel_rfl) (by kernel_rfl) (fun _ _ _ h => h) (Or.inl ⟨by rfl, ?_⟩) hHeld ?_; rotate_left; (focus (intro w hSw; (try dsimp only at hSw); go_simp; try with_reducible rfl)); (try simp only [Act.put, List.setIfInBounds_toArray, List.set_cons_zero, List.set_cons_succ, List.getElem_toArray, List.getElem_cons_zero, List.getElem_cons_succ])); (refine wpAnyH_take (i := 7) (v := ?_) rfl (by kernel_rfl) (by kernel_rfl) (by kernel_rfl) (fun _ _ _ h => h) (Or.inl ⟨by rfl, ?_⟩) hHeld ?_; rotate_left; (focus (intro w hSw; (try dsimp only at hSw); go_simp; try with_reducible rfl)); (try simp only [Act.put, List.setIfInBounds_toArray, List.set_cons_zero, List.set_cons_succ, List.getElem_toArray, List.getElem_cons_zero, List.getElem_cons_succ]))
    (refine wpAnyH_take (i := 8) (v := ?_) rfl (by kernel_rfl) (by kernel_rfl) (by kernel_rfl) (fun _ _ _ h => h) (Or.inl ⟨by rfl, ?_⟩) hHeld ?_; rotate_left; (focus (intro w hSw; (try dsimp only at hSw); go_simp; (have cc := (HCW.out _ hSw).2; go_simp; try with_reducible rfl))); (try simp only [Act.put, List.setIfInBounds_toArray, List.set_cons_zero, List.set_cons_succ, List.getElem_toArray, List.getElem_cons_zero, List.getElem_cons_succ]))
    (refine wpAnyH_ready (rs := [9]) (by kernel_rfl) (by simp) ?_; refine AllReadyH.cons rfl (fun K hK => ?_) AllReadyH.nil; go_simp; skip; refine hK.out _ _ ?_ (fun hHeldN => ?_); (focus ((try dsimp only); (exact hHeld.alloc _))); clear hK K hHeld; have hHeld := hHeldN; clear hHeldN; (try simp only [Act.put, List.setIfInBounds_toArray, List.set_cons_zero, List.set_cons_succ, List.getElem_toArray, List.getElem_cons_zero, List.getElem_cons_succ]))
    have HR : Hid (∀ ty, ∃ v' w', (Builtin.append_ #[90, 90] ty #[.slice ra n rc, .slice (some ⟨w3.heap.size, 0, none⟩) 1 1]).run Try.prog (w3.drew.alloc (.cells #[.int .u8 (c.toNat : Int)] 5)) = .ok v' w' ∧ OwnB w' w0.heap.size v' (ys ++ [c]) ∧ (w3.drew.alloc (.cells #[.int .u8 (c.toNat : Int)] 5)).grownBy w' (Value.slice ra n rc).ownBlock ∧ ∀ g, v'.ownBlock = some g → (Value.slice ra n rc).ownBlock = some g ∨ (w3.drew.alloc (.cells #[.int .u8 (c.toNat : Int)] 5)).heap.size ≤ g) := fun ty =>
      run_app1 _ w0.heap.size ty (.slice ra n rc) ys c w3.heap.size (HOW.out.later ((Below.refl _ _).drew.trans (show Below w3.heap.size w3.drew _ from ba1 w3.drew _))) (BlkAt.new w3.drew _) (by have := HNL.out; omega) (Nat.le_trans HB0.out (by simp))
    (refine wpAnyH_ready (rs := [10]) (by kernel_rfl) (by simp) ?_; refine AllReadyH.cons rfl (fun K hK => ?_) AllReadyH.nil; refine step_appG rfl (.tmp 33) (.tmp 37) _ _ rfl _ _ _ rfl rfl HR.out ?_; rintro v4 w4 ⟨hO4, hg4, hf4⟩; refine hK.out _ _ ?_ (fun hHeldN => ?_); (focus ((try dsimp only); (refine hHeld.trans ((Chg.of_grown hg4).mono (fun k hk => ?_)); rw [HOM.out, HRF.out.1]; simpa using hk))); clear hK K hHeld; have hHeld := hHeldN; clear hHeldN; (try simp only [Act.put, List.setIfInBounds_toArray, List.set_cons_zero, List.set_cons_succ, List.getElem_toArray, List.getElem_cons_zero, List.getElem_cons_succ]))
    (refine wpAnyH_take (i := 11) (v := ?_) rfl (by kernel_rfl) (by kernel_rfl) (by kernel_rfl) (fun _ _ _ h => h) (Or.inl ⟨by rfl, ?_⟩) hHeld ?_; rotate_left; (focus (intro w hSw; (try dsimp only at hSw); go_simp; try with_reducible rfl)); (try simp only [Act.put, List.setIfInBounds_toArray, List.set_cons_zero, List.set_cons_succ, List.getElem_toArray, List.getElem_cons_zero, List.getElem_cons_succ]))
    refine wpAnyH_done (by kernel_rfl) ?_ _
    obtain ⟨a4, c4, rfl⟩ := hO4.form
    obtain ⟨n1, hn1⟩ : ∃ n1, n1 = (ys ++ [c]).length := ⟨_, rfl⟩
    rw [← hn1] at hO4 hf4 ⊢
    clear hn1
    have HA4 := Lib.hid (hHeld.blk HAB.out HNA.out)
    have HC4 := Lib.hid hHeld
    have HO4 := Lib.hid hO4
    have HF4 : Hid (∀ g, (Value.slice a4 n1 c4).ownBlock = some g → (R true false).ownBlock = some g ∨ w3.heap.size ≤ g) := by
      have : ∀ g, (Value.slice a4 n1 c4).ownBlock = some g → (R true false).ownBlock = some g ∨ w3.heap.size ≤ g := fun g hg => by
        rcases hf4 g hg with e | e
        · left; rw [HRF.out.1]; exact e
        · right; simp at e; omega
      exact this
    clear hHeld hO4 hg4 hf4
    have d1 := BlkAt.cell HA4.out (j := 0) rfl
    have hfz : ∀ j, w4.frozen? ⟨A true, j, none⟩ = false := fun j => BlkAt.frozen HA4.out j
    refine lastQ_at rfl ?_
    go_simp
    go_wp2_with fail
    obtain ⟨w5, hw5⟩ : ∃ w5, w5 = w4.setCell ⟨A true, 0, none⟩ (.slice a4 n1 c4) := ⟨_, rfl⟩
    rw [← hw5]
    have HC5 : Hid (Chg [A true] w4 w5) := by show Chg _ _ _; rw [hw5]; exact (Chg.refl _ _).set (by simp) _ _
    have HA5 : Hid (BlkAt 91 (A true) (pr2 (upB (R true) false (.slice a4 n1 c4))) w5) := by show BlkAt _ _ _ _; rw [hw5]; exact BlkAt.set HA4.out 0 _
    clear hw5 d1 hfz
    go_ret
    have hO5 : OwnB w5 w0.heap.size (.slice a4 n1 c4) (ys ++ [c]) := HC5.out.owns HO4.out (fun g hg => by
      have := ne_ty (own_ty HO4.out hg) (blk_ty HA4.out) (by decide)
      simpa using this)
    obtain ⟨X', hX', hXb⟩ := HM3.out.row true false (L := A true :: O) HA5.out hO5 ((HC4.out.mono (by intro b hb; simp [hb])).trans (HC5.out.mono (by simp))) (fun g hg => by
      rcases List.mem_cons.1 hg with e | e
      · exact .inl e
      · exact .inr ((HOM.out g).1 e)) HF4.out
    refine ⟨upB G false (G false), X', upR R true false (.slice a4 n1 c4), rfl, ?_, fun M hM => hXb M (HBD.out M hM), A true :: (O ++ [P false, G false]), (((Chg.of_below _ HD.out).trans (HC3.out.mono (by simp))).trans (HC4.out.mono (by intro b hb; simp [hb]))).trans (HC5.out.mono (by simp)), fun k hk => ?_⟩
    · have e := takeW_on σ true ⟨q, a, [c]⟩ HK.out
      rw [e]
      rw [HRF.out.2.1] at hX'
      exact hX'
    · rcases List.mem_cons.1 hk with rfl | hk
      · exact HTYA.out
      · rcases List.mem_append.1 hk with e | e
        · exact HTYX.out k ((HOM.out k).1 e)
        · exact HTYW.out k e

  · rw [if_neg hk, decide_eq_false hk] at HT
    have HT := Lib.hid HT
    have HK := Lib.hid hk
    clear hk
    go_enter Try.func28, Try.ntmps28
    go_wp2_with fail
    rw [← HZZ.out, ← HW1.out]
    have ew : IntKind.i64.wrap 0 = 0 := by decide
    (refine wp_region_held_drew (S := (fun w' => w'.cell? ⟨eb, 0, none⟩ = some (.pointer (some ⟨ps, 0, none⟩)) ∧ w'.cell? ⟨z, 0, none⟩ = some (.int .u64 (q : Int)) ∧ w'.cell? ⟨z, 1, none⟩ = some (.int .u64 (a : Int)) ∧ w'.cell? ⟨z, 2, none⟩ = some (.slice va m vc))) (by kernel_rfl) ?_ (fun hHeld => ?_); (focus ((try dsimp only); (exact HC0.out))))
    (try dsimp only at hHeld)
    (refine wpAnyH_take (i := 0) (v := ?_) rfl (by kernel_rfl) (by kernel_rfl) (by kernel_rfl) (fun _ _ _ h => h) (Or.inl ⟨by rfl, ?_⟩) hHeld ?_; rotate_left; (focus (intro w hSw; (try dsimp only at hSw); go_simp; try with_reducible rfl)); (try simp only [Act.put, List.setIfInBounds_toArray, List.set_cons_zero, List.set_cons_succ, List.getElem_toArray, List.getElem_cons_zero])); (refine wpAnyH_take (i := 1) (v := ?_) rfl (by kernel_rfl) (by kernel_rfl) (by kernel_rfl) (fun _ _ _ h => h) (Or.inl ⟨by rfl, ?_⟩) hHeld ?_; rotate_left; (focus (intro w hSw; (try dsimp only at hSw); go_simp; try with_reducible rfl)); (try simp only [Act.put, List.setIfInBounds_toArray, List.set_cons_zero, List.set_cons_succ, List.getElem_toArray, List.getElem_cons_zero, List.getElem_cons_succ])); (refine wpAnyH_take (i := 2) (v := ?_) rfl (by kernel_rfl) (by kernel_rfl) (by kernel_rfl) (fun _ _ _ h => h) (Or.inl ⟨by rfl, ?_⟩) hHeld ?_; rotate_left; (focus (intro w hSw; (try dsimp only at hSw); go_simp; try with_reducible rfl)); (try simp only [Act.put, List.setIfInBounds_toArray, List.set_cons_zero, List.set_cons_succ, List.getElem_toArray, List.getElem_cons_zero, List.getElem_cons_succ]))
    (refine wpAnyH_take (i := 3) (v := ?_) rfl (by kernel_rfl) (by kernel_rfl) (by kernel_rfl) (fun _ _ _ h => h) (Or.inl ⟨by rfl, ?_⟩) hHeld ?_; rotate_left; (focus (intro w hSw; (try dsimp only at hSw); go_simp; (have cc := hSw.1; go_simp; try with_reducible rfl))); (try simp only [Act.put, List.setIfInBounds_toArray, List.set_cons_zero, List.set_cons_succ, List.getElem_toArray, List.getElem_cons_zero, List.getElem_cons_succ]))
    (refine wpAnyH_take (i := 4) (v := ?_) rfl (by kernel_rfl) (by kernel_rfl) (by kernel_rfl) (fun _ _ _ h => h) (Or.inl ⟨by rfl, ?_⟩) hHeld ?_; rotate_left; (focus (intro w hSw; (try dsimp only at hSw); go_simp; (have cc := hSw.2.1; have cd := hSw.2.2.1; have ce := hSw.2.2.2; go_simp; try with_reducible rfl))); (try simp only [Act.put, List.setIfInBounds_toArray, List.set_cons_zero, List.set_cons_succ, List.getElem_toArray, List.getElem_cons_zero, List.getElem_cons_succ]))
    (refine wpAnyH_ready (rs := [5]) (by kernel_rfl) (by simp) ?_; refine AllReadyH.cons rfl (fun K hK => ?_) AllReadyH.nil; go_simp; refine HT.out.mono ?_; rintro e w3 ⟨u, rfl, hu, hP, hC⟩; obtain ⟨ya, yc, rfl⟩ := hu.form; refine hK.out _ _ ?_ (fun hHeldN => ?_); (focus ((try dsimp only); (rw [← HPS.out] at hC; have q0 := hC.blk HE2.out HEP.out; have q1 := hC.blk HZ2.out HZP.out; exact ⟨by rw [← HPS.out]; exact q0.cell (j := 0) rfl, q1.cell (j := 0) rfl, q1.cell (j := 1) rfl, q1.cell (j := 2) rfl⟩))); clear hK K hHeld; have hHeld := hHeldN; clear hHeldN; (try simp only [Act.put, List.setIfInBounds_toArray, List.set_cons_zero, List.set_cons_succ, List.getElem_toArray, List.getElem_cons_zero, List.getElem_cons_succ]))
    (refine wpAnyH_take (i := 6) (v := ?_) rfl (by kernel_rfl) (by kernel_rfl) (by kernel_rfl) (fun _ _ _ h => h) (Or.inl ⟨by rfl, ?_⟩) hHeld ?_; rotate_left; (focus (intro w hSw; (try dsimp only at hSw); go_simp; try with_reducible rfl)); (try simp only [Act.put, List.setIfInBounds_toArray, List.set_cons_zero, List.set_cons_succ, List.getElem_toArray, List.getElem_cons_zero, List.getElem_cons_succ])); (refine wpAnyH_take (i := 7) (v := ?_) rfl (by kernel_rfl) (by kernel_rfl) (by kernel_rfl) (fun _ _ _ h => h) (Or.inl ⟨by rfl, ?_⟩) hHeld ?_; rotate_left; (focus (intro w hSw; (try dsimp only at hSw); go_simp; try with_reducible rfl)); (try simp only [Act.put, List.setIfInBounds_toArray, List.set_cons_zero, List.set_cons_succ, List.getElem_toArray, List.getElem_cons_zero, List.getElem_cons_succ])); (refine wpAnyH_take (i := 8) (v := ?_) rfl (by kernel_rfl) (by kernel_rfl) (by kernel_rfl) (fun _ _ _ h => h) (Or.inl ⟨by rfl, ?_⟩) hHeld ?_; rotate_left; (focus (intro w hSw; (try dsimp only at hSw); go_simp; try with_reducible rfl)); (try simp only [Act.put, List.setIfInBounds_toArray, List.set_cons_zero, List.set_cons_succ, List.getElem_toArray, List.getElem_cons_zero, List.getElem_cons_succ])); (refine wpAnyH_take (i := 9) (v := ?_) rfl (by kernel_rfl) (by kernel_rfl) (by kernel_rfl) (fun _ _ _ h => h) (Or.inl ⟨by rfl, ?_⟩) hHeld ?_; rotate_left; (focus (intro w hSw; (try dsimp only at hSw); go_simp; try with_reducible rfl)); (try simp only [Act.put, List.setIfInBounds_toArray, List.set_cons_zero, List.set_cons_succ, List.getElem_toArray, List.getElem_cons_zero, List.getElem_cons_succ])); (refine wpAnyH_take (i := 10) (v := ?_) rfl (by kernel_rfl) (by kernel_rfl) (by kernel_rfl) (fun _ _ _ h => h) (Or.inl ⟨by rfl, ?_⟩) hHeld ?_; rotate_left; (focus (intro w hSw; (try dsimp only at hSw); go_simp; try with_reducible rfl)); (try simp only [Act.put, List.setIfInBounds_toArray, List.set_cons_zero, List.set_cons_succ, List.getElem_toArray, List.getElem_cons_zero, List.getElem_cons_succ])); (refine wpAnyH_take (i := 11) (v := ?_) rfl (by kernel_rfl) (by kernel_rfl) (by kernel_rfl) (fun _ _ _ h => h) (Or.inl ⟨by rfl, ?_⟩) hHeld ?_; rotate_left; (focus (intro w hSw; (try dsimp only at hSw); go_simp; try with_reducible rfl)); (try simp only [Act.put, List.setIfInBounds_toArray, List.set_cons_zero, List.set_cons_succ, List.getElem_toArray, List.getElem_cons_zero, List.getElem_cons_succ])); (refine wpAnyH_take (i := 12) (v := ?_) rfl (by kernel_rfl) (by kernel_rfl) (by kernel_rfl) (fun _ _ _ h => h) (Or.inl ⟨by rfl, ?_⟩) hHeld ?_; rotate_left; (focus (intro w hSw; (try dsimp only at hSw); go_simp; try with_reducible rfl)); (try simp only [Act.put, List.setIfInBounds_toArray, List.set_cons_zero, List.set_cons_succ, List.getElem_toArray, List.getElem_cons_zero, List.getElem_cons_succ])); (refine wpAnyH_take (i := 13) (v := ?_) rfl (by kernel_rfl) (by kernel_rfl) (by kernel_rfl) (fun _ _ _ h => h) (Or.inl ⟨by rfl, ?_⟩) hHeld ?_; rotate_left; (focus (intro w hSw; (try dsimp only at hSw); go_simp; try with_reducible rfl)); (try simp only [Act.put, List.setIfInBounds_toArray, List.set_cons_zero, List.set_cons_succ, List.getElem_toArray, List.getElem_cons_zero, List.getElem_cons_succ])); (refine wpAnyH_take (i := 14) (v := ?_) rfl (by kernel_rfl) (by kernel_rfl) (by kernel_rfl) (fun _ _ _ h => h) (Or.inl ⟨by rfl, ?_⟩) hHeld ?_; rotate_left; (focus (intro w hSw; (try dsimp only at hSw); go_simp; try with_reducible rfl)); (try simp only [Act.put, List.setIfInBounds_toArray, List.set_cons_zero, List.set_cons_succ, List.getElem_toArray, List.getElem_cons_zero, List.getElem_cons_succ]))
    refine wpAnyH_done (by kernel_rfl) ?_ _
    rw [← HPS.out] at hP hC
    have HU := Lib.hid hu
    have HM3 := Lib.hid (HM2.out.stream false hP hC (.inl rfl))
    have HBD : Hid (∀ M, Bods w X M → Bods w3 X M) := fun M hM => (hM.later HD.out).chg hC HNOB.out
    have HC3 : Hid (Chg [P false, G false] w1.drew w3) := hC
    clear hHeld hu hP hC HT
    go_wp2_with fail
    go_ret
    refine ⟨upB G false (G false), X, R, rfl, ?_, HBD.out, [P false, G false], (Chg.of_below _ HD.out).trans HC3.out, fun k hk => ?_⟩
    · have e := takeW_off σ true ⟨q, a, b⟩ HK.out
      rw [e]
      exact HM3.out
    · exact HTYW.out k hk

/-- The number of an end. -/
def dN (d : Bool) : Nat := if d then 1 else 0
theorem takeF {w0 : World} {P : Bool → Nat} {eb fb : Nat} {A G : Bool → Nat} {X : List Nat} {V : Bool → Value} {R : Bool → Bool → Value} {σ : Wn} {w : World} {N : Nat} (h : WM w0 P eb fb A G X V R σ w) (hi : WInv σ N) (hN : N ≤ 1000) (d : Bool) (q a : Nat) (v : Value) (b : List UInt8) (hg : Ad (σ.s d) (σ.x d) ⟨q, a, b⟩) (hv : Bod w X v b) :
    Calls Try.prog 28 #[.int .i64 (dN d : Int), .agg #[.int .u64 (q : Int), .int .u64 (a : Int), v], .pointer (some ⟨eb, 0, none⟩), .pointer (some ⟨A true, 0, none⟩)] w (FA w0 P eb fb A X V σ d ⟨q, a, b⟩ w) := by
  cases d with
  | false => exact takeF_false h hi hN q a v b hg hv
  | true => exact takeF_true h hi hN q a v b hg hv
end Go.Proofs.Ytghaajmalhcgbaa
