/- The walks of the reference's Tick and Due.
   The walks of the reference's out, Tick, Due. -/
import Derived.Test.YtadcpmfphcapfaaZ02
import Derived.Test.YtadcpmfphcapfaaZ06

set_option linter.unusedSimpArgs false
set_option linter.unusedVariables false
namespace Go.Proofs.Ytadcpmfphcapfaa
open Go.RowKit
attribute [local go_sem ↓] Go.wp_at_zero Go.wp_at_succ

/-- The bodies are these, whatever is done behind a world. -/
def Kns (w0 : World) (L : List (Sg × Value)) : Prop := ∀ x ∈ L, Kn w0 x.2 x.1.b
/-- What the reference tells leaves. -/
def TrL (w0 : World) (p r : Nat) (s : Sm) (pre : List (List UInt8)) (L : List Sg) (w : World) (e : Ending) (w' : World) : Prop :=
  ∃ v M, e = .returned v ∧ M.map (·.1) = L ∧ OwnS w' w.heap.size v M ∧ Kns w0 M ∧ RSm w0 p r s pre w' ∧ Chg [p] w w'
def ouM (s : Sm) (f T : Nat) : Sm := if f < T then tellM s else offM s
set_option maxHeartbeats 8000000 in
set_option maxRecDepth 100000 in
theorem outR {w0 w : World} {p r : Nat} {s : Sm} {pre : List (List UInt8)} (h : RSm w0 p r s pre w) (hb0 : Below w0.heap.size w0 w) (f T : Nat) (hf : f ≤ T) (hT : T ≤ (pre ++ s.line).length) (hn : (pre ++ s.line).length ≤ 1000000) :
    Calls Try.prog 30 #[.pointer (some ⟨p, 0, none⟩), .int .i64 (f : Int), .int .i64 (T : Int)] w (TrL w0 p r (ouM s f T) pre (segL f s.tk (((pre ++ s.line).take T).drop f)) w) := by
  obtain ⟨v, hb, hal, hp⟩ := h
  obtain ⟨va, vc, rfl⟩ := hal.form
  obtain ⟨P, hP⟩ : ∃ P, P = pre ++ s.line := ⟨_, rfl⟩
  have HB := Lib.hid hb
  have HA := Lib.hid hal
  have HPR := Lib.hid hp
  rw [← hP] at hal hb hT hn ⊢
  obtain ⟨n, hnn⟩ : ∃ n, n = P.length := ⟨_, rfl⟩
  rw [← hnn] at hal hb hT hn
  have HAL := Lib.hid hal
  have HBK := Lib.hid hb
  have HB0 := Lib.hid hb0
  have HH : Hid (f ≤ T ∧ T ≤ n ∧ n ≤ 1000000 ∧ n = P.length ∧ P = pre ++ s.line) := ⟨hf, hT, hn, hnn, hP⟩
  have g0 : (n : Int) ≤ 1000000 := by omega
  have g9 : (T : Int) ≤ n := by omega
  clear hb hal hp hP hf hT hn hnn hb0
  go_enter Try.func30, Try.ntmps30
  go_wp2_with fail
  go_loopw [7, 8] (fun v i wr => ∃ (k : Nat) (M : List (Sg × Value)), k ≤ T ∧ i = .int .i64 k ∧ Hid (f ≤ k) ∧ Hid (M.map (·.1) = segL f s.tk ((P.take k).drop f)) ∧ Hid (OwnS wr w.heap.size v M) ∧ Hid (Kns w0 M) ∧ Hid (Below w.heap.size w wr)) (fun _ i _ => T - (intOf i).toNat)
  case atStart =>
    have hff := HH.out
    exact ⟨f, [], hff.1, rfl, Nat.le_refl _, by show _ = _; rw [List.drop_eq_nil_of_le (by simp; omega)]; rfl, OwnS.nil _ _, fun x hx => by simp at hx, Below.refl _ _⟩
  case round =>
    obtain ⟨i, M, hi, rfl, HFI, HM, HO, HKN, HBW⟩ := hrel
    rcases Nat.lt_or_ge i T with hlt | hge
    · have g1 : (i : Int) < T := by omega
      have hiL : i < P.length := by have := HH.out; omega
      obtain ⟨b, hbb⟩ : ∃ b, P[i]? = some b := ⟨_, List.getElem?_eq_getElem hiL⟩
      have hal := HAL.out
      obtain ⟨rfl, u, hu, hku⟩ := hal.at hbb
      obtain ⟨ua, uc, rfl⟩ := (hku w HB0.out).form
      obtain ⟨m, hm⟩ : ∃ m, m = b.length := ⟨_, rfl⟩
      rw [← hm] at hu hku
      have g2 : (i : Int) < n := by omega
      have hlen : i < n := by have := HH.out; omega
      obtain ⟨q, hq⟩ : ∃ q : Nat, q = i + 1 := ⟨_, rfl⟩
      have e1 : IntKind.i64.wrap ((i : Int) + 1) = (q : Int) := by rw [IntWalk.i64_in _ ⟨by omega, by omega⟩]; omega
      have e2 : IntKind.u64.wrap (q : Int) = (q : Int) := IntWalk.u64_in _ ⟨by omega, by omega⟩
      obtain ⟨x, hx⟩ : ∃ x : Int, x = s.tk := ⟨_, rfl⟩
      have HCE : Hid (∀ W, Below w.heap.size w W → W.cell? ⟨p, 4, none⟩ = some (.int .u64 x) ∧ W.cell? ⟨p, 1, none⟩ = some (.slice (some ⟨r, 0, none⟩) n vc) ∧ W.cell? ⟨r, i, none⟩ = some (.slice ua m uc)) := by
        have : ∀ W, Below w.heap.size w W → W.cell? ⟨p, 4, none⟩ = some (.int .u64 x) ∧ W.cell? ⟨p, 1, none⟩ = some (.slice (some ⟨r, 0, none⟩) n vc) ∧ W.cell? ⟨r, i, none⟩ = some (.slice ua m uc) := fun W hW => by
          rw [hx]; exact ⟨BlkAt.cell (BlkAt.later HBK.out hW) (j := 4) rfl, BlkAt.cell (BlkAt.later HBK.out hW) (j := 1) rfl, cell_later hW hu⟩
        exact this
      have HKU : Hid (Kn w0 (.slice ua m uc) b) := hku
      have HQ : Hid (q = i + 1) := hq
      have HX := Lib.hid hx
      have HBB := Lib.hid hbb
      have HMN : Hid (M.length + 1 ≤ 1000000) := by
        have h1 := congrArg List.length HM.out
        rw [List.length_map, segL_len] at h1
        have h2 := HH.out
        show _ ≤ _
        simp at h1; omega
      clear hal hiL hbb hu hku hm hx hq
      go_wp2_with fail
      (refine wp_region_held_drew (S := (fun w' => Below w.heap.size w w')) (by kernel_rfl) ?_ (fun hHeld => ?_); (focus ((try dsimp only); (exact HBW.out.drew))))
      (try dsimp only at hHeld)
      (refine wpAnyH_take (i := 0) (v := ?_) rfl (by kernel_rfl) (by kernel_rfl) (by kernel_rfl) (fun _ _ _ h => h) (Or.inl ⟨by rfl, ?_⟩) hHeld ?_; rotate_left; (focus (intro w hSw; (try dsimp only at hSw); go_simp; try with_reducible rfl)); (try simp only [Act.put, List.setIfInBounds_toArray, List.set_cons_zero, List.set_cons_succ, List.getElem_toArray, List.getElem_cons_zero])); (refine wpAnyH_take (i := 1) (v := ?_) rfl (by kernel_rfl) (by kernel_rfl) (by kernel_rfl) (fun _ _ _ h => h) (Or.inl ⟨by rfl, ?_⟩) hHeld ?_; rotate_left; (focus (intro w hSw; (try dsimp only at hSw); go_simp; try with_reducible rfl)); (try simp only [Act.put, List.setIfInBounds_toArray, List.set_cons_zero, List.set_cons_succ, List.getElem_toArray, List.getElem_cons_zero, List.getElem_cons_succ])); (refine wpAnyH_take (i := 2) (v := ?_) rfl (by kernel_rfl) (by kernel_rfl) (by kernel_rfl) (fun _ _ _ h => h) (Or.inl ⟨by rfl, ?_⟩) hHeld ?_; rotate_left; (focus (intro w hSw; (try dsimp only at hSw); go_simp; try with_reducible rfl)); (try simp only [Act.put, List.setIfInBounds_toArray, List.set_cons_zero, List.set_cons_succ, List.getElem_toArray, List.getElem_cons_zero, List.getElem_cons_succ])); (refine wpAnyH_take (i := 3) (v := ?_) rfl (by kernel_rfl) (by kernel_rfl) (by kernel_rfl) (fun _ _ _ h => h) (Or.inl ⟨by rfl, ?_⟩) hHeld ?_; rotate_left; (focus (intro w hSw; (try dsimp only at hSw); go_simp; try with_reducible rfl)); (try simp only [Act.put, List.setIfInBounds_toArray, List.set_cons_zero, List.set_cons_succ, List.getElem_toArray, List.getElem_cons_zero, List.getElem_cons_succ])); (refine wpAnyH_take (i := 4) (v := ?_) rfl (by kernel_rfl) (by kernel_rfl) (by kernel_rfl) (fun _ _ _ h => h) (Or.inl ⟨by rfl, ?_⟩) hHeld ?_; rotate_left; (focus (intro w hSw; (try dsimp only at hSw); go_simp; try with_reducible rfl)); (try simp only [Act.put, List.setIfInBounds_toArray, List.set_cons_zero, List.set_cons_succ, List.getElem_toArray, List.getElem_cons_zero, List.getElem_cons_succ])); (refine wpAnyH_take (i := 5) (v := ?_) rfl (by kernel_rfl) (by kernel_rfl) (by kernel_rfl) (fun _ _ _ h => h) (Or.inl ⟨by rfl, ?_⟩) hHeld ?_; rotate_left; (focus (intro w hSw; (try dsimp only at hSw); go_simp; try with_reducible rfl)); (try simp only [Act.put, List.setIfInBounds_toArray, List.set_cons_zero, List.set_cons_succ, List.getElem_toArray, List.getElem_cons_zero, List.getElem_cons_succ])); (refine wpAnyH_take (i := 6) (v := ?_) rfl (by kernel_rfl) (by kernel_rfl) (by kernel_rfl) (fun _ _ _ h => h) (Or.inl ⟨by rfl, ?_⟩) hHeld ?_; rotate_left; (focus (intro w hSw; (try dsimp only at hSw); go_simp; try with_reducible rfl)); (try simp only [Act.put, List.setIfInBounds_toArray, List.set_cons_zero, List.set_cons_succ, List.getElem_toArray, List.getElem_cons_zero, List.getElem_cons_succ]))
      (refine wpAnyH_take (i := 7) (v := ?_) rfl (by kernel_rfl) (by kernel_rfl) (by kernel_rfl) (fun _ _ _ h => h) (Or.inl ⟨by rfl, ?_⟩) hHeld ?_; rotate_left; (focus (intro w hSw; (try dsimp only at hSw); go_simp; (have c0 := (HCE.out _ hSw).1; go_simp; try with_reducible rfl))); (try simp only [Act.put, List.setIfInBounds_toArray, List.set_cons_zero, List.set_cons_succ, List.getElem_toArray, List.getElem_cons_zero, List.getElem_cons_succ]))
      (refine wpAnyH_take (i := 8) (v := ?_) rfl (by kernel_rfl) (by kernel_rfl) (by kernel_rfl) (fun _ _ _ h => h) (Or.inl ⟨by rfl, ?_⟩) hHeld ?_; rotate_left; (focus (intro w hSw; (try dsimp only at hSw); go_simp; try with_reducible rfl)); (try simp only [Act.put, List.setIfInBounds_toArray, List.set_cons_zero, List.set_cons_succ, List.getElem_toArray, List.getElem_cons_zero, List.getElem_cons_succ])); (refine wpAnyH_take (i := 9) (v := ?_) rfl (by kernel_rfl) (by kernel_rfl) (by kernel_rfl) (fun _ _ _ h => h) (Or.inl ⟨by rfl, ?_⟩) hHeld ?_; rotate_left; (focus (intro w hSw; (try dsimp only at hSw); go_simp; try with_reducible rfl)); (try simp only [Act.put, List.setIfInBounds_toArray, List.set_cons_zero, List.set_cons_succ, List.getElem_toArray, List.getElem_cons_zero, List.getElem_cons_succ])); (refine wpAnyH_take (i := 10) (v := ?_) rfl (by kernel_rfl) (by kernel_rfl) (by kernel_rfl) (fun _ _ _ h => h) (Or.inl ⟨by rfl, ?_⟩) hHeld ?_; rotate_left; (focus (intro w hSw; (try dsimp only at hSw); go_simp; try with_reducible rfl)); (try simp only [Act.put, List.setIfInBounds_toArray, List.set_cons_zero, List.set_cons_succ, List.getElem_toArray, List.getElem_cons_zero, List.getElem_cons_succ]))
      (refine wpAnyH_take (i := 11) (v := ?_) rfl (by kernel_rfl) (by kernel_rfl) (by kernel_rfl) (fun _ _ _ h => h) (Or.inl ⟨by rfl, ?_⟩) hHeld ?_; rotate_left; (focus (intro w hSw; (try dsimp only at hSw); go_simp; (have c0 := (HCE.out _ hSw).2.1; go_simp; try with_reducible rfl))); (try simp only [Act.put, List.setIfInBounds_toArray, List.set_cons_zero, List.set_cons_succ, List.getElem_toArray, List.getElem_cons_zero, List.getElem_cons_succ]))
      (refine wpAnyH_take (i := 12) (v := ?_) rfl (by kernel_rfl) (by kernel_rfl) (by kernel_rfl) (fun _ _ _ h => h) (Or.inl ⟨by rfl, ?_⟩) hHeld ?_; rotate_left; (focus (intro w hSw; (try dsimp only at hSw); go_simp; try with_reducible rfl)); (try simp only [Act.put, List.setIfInBounds_toArray, List.set_cons_zero, List.set_cons_succ, List.getElem_toArray, List.getElem_cons_zero, List.getElem_cons_succ])); (refine wpAnyH_take (i := 13) (v := ?_) rfl (by kernel_rfl) (by kernel_rfl) (by kernel_rfl) (fun _ _ _ h => h) (Or.inl ⟨by rfl, ?_⟩) hHeld ?_; rotate_left; (focus (intro w hSw; (try dsimp only at hSw); go_simp; try with_reducible rfl)); (try simp only [Act.put, List.setIfInBounds_toArray, List.set_cons_zero, List.set_cons_succ, List.getElem_toArray, List.getElem_cons_zero, List.getElem_cons_succ]))
      (refine wpAnyH_take (i := 14) (v := ?_) rfl (by kernel_rfl) (by kernel_rfl) (by kernel_rfl) (fun _ _ _ h => h) (Or.inl ⟨by rfl, ?_⟩) hHeld ?_; rotate_left; (focus (intro w hSw; (try dsimp only at hSw); go_simp; (have c0 := (HCE.out _ hSw).2.2; go_simp; try with_reducible rfl))); (try simp only [Act.put, List.setIfInBounds_toArray, List.set_cons_zero, List.set_cons_succ, List.getElem_toArray, List.getElem_cons_zero, List.getElem_cons_succ]))
      (refine wpAnyH_take (i := 15) (v := ?_) rfl (by kernel_rfl) (by kernel_rfl) (by kernel_rfl) (fun _ _ _ h => h) (Or.inl ⟨by rfl, ?_⟩) hHeld ?_; rotate_left; (focus (intro w hSw; (try dsimp only at hSw); go_simp; try with_reducible rfl)); (try simp only [Act.put, List.setIfInBounds_toArray, List.set_cons_zero, List.set_cons_succ, List.getElem_toArray, List.getElem_cons_zero, List.getElem_cons_succ]))
      have HO0 : Hid (OwnS wr.drew w.heap.size u7 M) := HO.out.later (Below.refl _ _).drew
      (refine wpAnyH_ready (rs := [16]) (by kernel_rfl) (by simp) ?_; refine AllReadyH.cons rfl (fun K hK => ?_) AllReadyH.nil; go_simp; skip; refine hK.out _ _ ?_ (fun hHeldN => ?_); (focus ((try dsimp only); (exact hHeld.alloc hHeld.size _))); clear hK K hHeld; have hHeld := hHeldN; clear hHeldN; (try simp only [Act.put, List.setIfInBounds_toArray, List.set_cons_zero, List.set_cons_succ, List.getElem_toArray, List.getElem_cons_zero, List.getElem_cons_succ]))
      (refine wpAnyH_ready (rs := [17]) (by kernel_rfl) (by simp) ?_; refine AllReadyH.cons rfl (fun K hK => ?_) AllReadyH.nil; refine step_appG rfl (.tmp 15) (.tmp 31) _ _ rfl _ _ (fun v' w' => OwnS w' w.heap.size v' (M ++ [(⟨q, s.tk, b⟩, .slice ua m uc)]) ∧ Below w.heap.size (wr.drew.alloc (.cells #[.int .u64 (q : Int), .int .u64 x, .slice ua m uc] 35)) w') rfl rfl (fun ty => ?_) ?_; (obtain ⟨v', w', h1, h2, h3, _⟩ := run_appSs (wr.drew.alloc (.cells #[.int .u64 (q : Int), .int .u64 x, .slice ua m uc] 35)) w.heap.size ty u7 M [(⟨q, s.tk, b⟩, .slice ua m uc)] ⟨wr.drew.heap.size, 0, none⟩ 1 (OwnS.later HO0.out (ba1 _ _)) (fun j y hj => by (rw [add0, HX.out]; exact (BlkAt.new (t := 35) wr.drew [.int .u64 (q : Int), .int .u64 (s.tk : Int), .slice ua m uc]).cell (by simpa [sc] using hj))) (by intro y hy; simp at hy; subst hy; rfl) HMN.out hHeld.size; exact ⟨v', w', h1, h2, h3⟩); rintro v4 w4 ⟨ho4, hb4⟩; refine hK.out _ _ ?_ (fun hHeldN => ?_); (focus ((try dsimp only); (exact hHeld.trans hb4))); clear hK K hHeld; have hHeld := hHeldN; clear hHeldN; (try simp only [Act.put, List.setIfInBounds_toArray, List.set_cons_zero, List.set_cons_succ, List.getElem_toArray, List.getElem_cons_zero, List.getElem_cons_succ]))
      (refine wpAnyH_take (i := 18) (v := ?_) rfl (by kernel_rfl) (by kernel_rfl) (by kernel_rfl) (fun _ _ _ h => h) (Or.inl ⟨by rfl, ?_⟩) hHeld ?_; rotate_left; (focus (intro w hSw; (try dsimp only at hSw); go_simp; try with_reducible rfl)); (try simp only [Act.put, List.setIfInBounds_toArray, List.set_cons_zero, List.set_cons_succ, List.getElem_toArray, List.getElem_cons_zero, List.getElem_cons_succ]))
      refine wpAnyH_done (by kernel_rfl) ?_ _
      have HO4 := Lib.hid ho4
      have HBW4 := Lib.hid hHeld
      have HK4 : Hid (Kns w0 (M ++ [(⟨q, s.tk, b⟩, .slice ua m uc)])) := by
        intro y hy
        rcases List.mem_append.1 hy with hy | hy
        · exact HKN.out y hy
        · simp at hy; subst hy; exact HKU.out
      have HM4 : Hid ((M ++ [((⟨q, s.tk, b⟩ : Sg), Value.slice ua m uc)]).map (·.1) = segL f s.tk ((P.take (i + 1)).drop f)) := by
        show _ = _
        have h9 := seg_step 0 s.tk P f i b HFI.out HBB.out
        simp only [Nat.zero_add] at h9
        rw [h9, List.map_append, HM.out, HQ.out]; rfl
      clear ho4 hb4 e1 e2
      go_wp2_with fail
      go_roundw
      case rel => exact ⟨i + 1, _, by omega, by go_num, by show _ ≤ _; have := HFI.out; omega, HM4, HO4, HK4, HBW4⟩
      case measure => simp [intOf]; omega
    · have e : i = T := by omega
      subst e
      obtain ⟨ma, mc, hform⟩ := HO.out.form
      have hml : M.length = i - f := by
        have h1 := congrArg List.length HM.out
        rw [List.length_map, segL_len] at h1
        have h2 := HH.out
        rw [h1]; simp; omega
      obtain ⟨ml, hmm⟩ : ∃ ml, ml = M.length := ⟨_, rfl⟩
      rw [← hmm] at hml hform
      subst hform
      have hbr := BlkAt.later HBK.out HBW.out
      have c5 := BlkAt.cell hbr (j := 5) rfl
      have c6 := BlkAt.cell hbr (j := 6) rfl
      have hfz : ∀ j, wr.frozen? ⟨p, j, none⟩ = false := fun j => hbr.frozen j
      have HAR := HA.out.chg (Chg.of_below [] HBW.out) (by simp)
      have HMM := Lib.hid hmm
      have e9 : (pre ++ s.line).length = n := by have := HH.out; rw [this.2.2.2.1, this.2.2.2.2]
      have HRS : Hid (∀ W, Chg [p] wr W → BlkAt 32 p (rcs (.slice va n vc) (ouM s f i)) W → RSm w0 p r (ouM s f i) pre W ∧ Chg [p] w W) := by
        intro W hW hb
        have hl : (ouM s f i).line = s.line ∧ (ouM s f i).ac = s.ac := by unfold ouM; split <;> exact ⟨rfl, rfl⟩
        refine ⟨⟨_, hb, ?_, by rw [hl.2]; exact HPR.out⟩, (Chg.of_below _ HBW.out).trans hW⟩
        rw [hl.1, ← e9]
        exact HAR.chg hW (fun h => by simpa using h)
      have HBR := Lib.hid hbr
      have HOW : Hid (∀ W, Chg [p] wr W → OwnS W w.heap.size (.slice ma ml mc) M) := by
        intro W hW
        refine hW.owns HO.out (fun g hg => ?_)
        have h1 := own_base HO.out hg
        have h2 := BlkAt.lt HBK.out
        simp; omega
      by_cases hft : f < i
      · have k1 : decide ((0 : Int) < (ml : Int)) = true := by simp; omega
        have k11 : decide (0 < ml) = true := by simp; omega
        have eo : ouM s f i = tellM s := if_pos hft
        rw [eo] at HRS
        have HEO := Lib.hid eo
        clear hbr HAR hmm hml e9 hft eo
        go_wp2_with fail
        go_ret
        have hq : Chg [p] wr ((wr.setCell ⟨p, 5, none⟩ (.bool false)).setCell ⟨p, 6, none⟩ (.int .i64 0)) := ((Chg.refl _ _).set (by simp) _ _).set (by simp) _ _
        obtain ⟨h1, h2⟩ := HRS.out _ hq (((HBR.out).set 5 (.bool false)).set 6 (.int .i64 0))
        exact ⟨_, M, rfl, HM.out, HOW.out _ hq, HKN.out, by rw [HEO.out]; exact h1, h2⟩
      · have k1 : decide ((0 : Int) < (ml : Int)) = false := by simp; omega
        have k11 : decide (0 < ml) = false := by simp; omega
        have eo : ouM s f i = offM s := if_neg hft
        rw [eo] at HRS
        have HEO := Lib.hid eo
        clear hbr HAR hmm hml e9 hft eo
        go_wp2_with fail
        go_ret
        have hq : Chg [p] wr (wr.setCell ⟨p, 5, none⟩ (.bool false)) := (Chg.refl _ _).set (by simp) _ _
        obtain ⟨h1, h2⟩ := HRS.out _ hq ((HBR.out).set 5 (.bool false))
        exact ⟨_, M, rfl, HM.out, HOW.out _ hq, HKN.out, by rw [HEO.out]; exact h1, h2⟩
end Go.Proofs.Ytadcpmfphcapfaa

namespace Go.Proofs.Ytadcpmfphcapfaa
open Go.RowKit
attribute [local go_sem ↓] Go.wp_at_zero Go.wp_at_succ

theorem TrL.nil {w0 w w' : World} {p r : Nat} {s : Sm} {pre : List (List UInt8)} (h : RSm w0 p r s pre w') (hc : Chg [p] w w') : TrL w0 p r s pre [] w (.returned (.slice none 0 0)) w' := ⟨_, [], rfl, rfl, OwnS.nil _ _, fun x hx => by simp at hx, h, hc⟩
theorem TrL.of {w0 w w2 w' : World} {p r : Nat} {s : Sm} {pre : List (List UInt8)} {L : List Sg} {e : Ending} (h : TrL w0 p r s pre L w2 e w') (hc : Chg [p] w w2) : TrL w0 p r s pre L w e w' := by
  obtain ⟨v, M, h1, h2, h3, h4, h5, h6⟩ := h
  exact ⟨v, M, h1, h2, h3.weak hc.size, h4, h5, hc.trans h6⟩
theorem all_part (pre line : List (List UInt8)) (a b : Nat) : ((pre ++ line).take (pre.length + b)).drop (pre.length + a) = (line.take b).drop a := by
  rw [List.take_length_add_append, ← List.drop_drop, List.drop_left]
set_option maxHeartbeats 8000000 in
set_option maxRecDepth 100000 in
theorem tickR {w0 w : World} {p r : Nat} {s : Sm} {pre : List (List UInt8)} {N : Nat} (h : RSm w0 p r s pre w) (ok : s.Ok N) (hb0 : Below w0.heap.size w0 w) (hpw : w0.heap.size ≤ p) :
    Calls Try.prog 18 #[.pointer (some ⟨p, 0, none⟩)] w (TrL w0 p r (tickM s) pre (tickL s) w) := by
  have HRS := Lib.hid h
  have HPW : Hid (w0.heap.size ≤ p) := hpw
  clear hpw
  obtain ⟨v, hb, hal, hp⟩ := h
  have b1 := ok.t1
  have b2 := ok.t8
  have b3 := ok.few
  have b4 := ok.NN
  have b5 := ok.ti1
  have b6 := ok.ti2
  obtain ⟨x, hx⟩ : ∃ x : Int, x = s.ac := ⟨_, rfl⟩
  obtain ⟨z, hz⟩ : ∃ z : Int, z = ((s.ac + s.told : Nat) : Int) := ⟨_, rfl⟩
  obtain ⟨I, hI⟩ : ∃ I : Int, I = s.ti := ⟨_, rfl⟩
  obtain ⟨G, hG⟩ : ∃ G : Int, G = s.ag := ⟨_, rfl⟩
  have HCE : Hid (∀ W, Below w.heap.size w W → W.cell? ⟨p, 2, none⟩ = some (.int .i64 x) ∧ W.cell? ⟨p, 3, none⟩ = some (.int .i64 z) ∧ W.cell? ⟨p, 6, none⟩ = some (.int .i64 I) ∧ (∀ j, W.frozen? ⟨p, j, none⟩ = false)) := by
    have : ∀ W, Below w.heap.size w W → W.cell? ⟨p, 2, none⟩ = some (.int .i64 x) ∧ W.cell? ⟨p, 3, none⟩ = some (.int .i64 z) ∧ W.cell? ⟨p, 6, none⟩ = some (.int .i64 I) ∧ (∀ j, W.frozen? ⟨p, j, none⟩ = false) := fun W hW => by
      rw [hx, hz, hI]; exact ⟨BlkAt.cell (hb.later hW) (j := 2) rfl, BlkAt.cell (hb.later hW) (j := 3) rfl, BlkAt.cell (hb.later hW) (j := 6) rfl, fun j => BlkAt.frozen (hb.later hW) j⟩
    exact this
  have HBK := Lib.hid hb
  have HAL := Lib.hid hal
  have HP := Lib.hid hp
  have HB0 := Lib.hid hb0
  have HOK := Lib.hid ok
  have HH : Hid (x = s.ac ∧ z = ((s.ac + s.told : Nat) : Int) ∧ I = s.ti ∧ G = s.ag) := ⟨hx, hz, hI, hG⟩
  have e1 : wrap64 (I + 1) = I + 1 := IntWalk.wrap64_in _ ⟨by omega, by omega⟩
  by_cases h0 : s.told = 0
  · have k0 : (z == x) = true := by rw [beq_iff_eq]; omega
    have HT : Hid (tickM s = s ∧ tickL s = [] ∧ s.ti = 0) := ⟨by unfold tickM; rw [if_pos h0], by unfold tickL; rw [if_pos h0], ok.ti0 h0⟩
    clear h0 b1 b2 b3 b4 b5 b6 hb hal hp hb0 ok hx hz hI hG
    go_enter Try.func18, Try.ntmps18
    go_wp2_with fail
    (refine wp_region_held_drew (S := (fun w' => Below w.heap.size w w')) (by kernel_rfl) ?_ (fun hHeld => ?_); (focus ((try dsimp only); (exact (Below.refl _ _).drew))))
    (try dsimp only at hHeld)
    (refine wpAnyH_take (i := 0) (v := ?_) rfl (by kernel_rfl) (by kernel_rfl) (by kernel_rfl) (fun _ _ _ h => h) (Or.inl ⟨by rfl, ?_⟩) hHeld ?_; rotate_left; (focus (intro w hSw; (try dsimp only at hSw); go_simp; try with_reducible rfl)); (try simp only [Act.put, List.setIfInBounds_toArray, List.set_cons_zero, List.set_cons_succ, List.getElem_toArray, List.getElem_cons_zero])); (refine wpAnyH_take (i := 1) (v := ?_) rfl (by kernel_rfl) (by kernel_rfl) (by kernel_rfl) (fun _ _ _ h => h) (Or.inl ⟨by rfl, ?_⟩) hHeld ?_; rotate_left; (focus (intro w hSw; (try dsimp only at hSw); go_simp; try with_reducible rfl)); (try simp only [Act.put, List.setIfInBounds_toArray, List.set_cons_zero, List.set_cons_succ, List.getElem_toArray, List.getElem_cons_zero, List.getElem_cons_succ])); (refine wpAnyH_take (i := 2) (v := ?_) rfl (by kernel_rfl) (by kernel_rfl) (by kernel_rfl) (fun _ _ _ h => h) (Or.inl ⟨by rfl, ?_⟩) hHeld ?_; rotate_left; (focus (intro w hSw; (try dsimp only at hSw); go_simp; try with_reducible rfl)); (try simp only [Act.put, List.setIfInBounds_toArray, List.set_cons_zero, List.set_cons_succ, List.getElem_toArray, List.getElem_cons_zero, List.getElem_cons_succ]))
    (refine wpAnyH_take (i := 3) (v := ?_) rfl (by kernel_rfl) (by kernel_rfl) (by kernel_rfl) (fun _ _ _ h => h) (Or.inl ⟨by rfl, ?_⟩) hHeld ?_; rotate_left; (focus (intro w hSw; (try dsimp only at hSw); go_simp; (have cc := (HCE.out _ hSw).2.1; go_simp; try with_reducible rfl))); (try simp only [Act.put, List.setIfInBounds_toArray, List.set_cons_zero, List.set_cons_succ, List.getElem_toArray, List.getElem_cons_zero, List.getElem_cons_succ]))
    (refine wpAnyH_take (i := 4) (v := ?_) rfl (by kernel_rfl) (by kernel_rfl) (by kernel_rfl) (fun _ _ _ h => h) (Or.inl ⟨by rfl, ?_⟩) hHeld ?_; rotate_left; (focus (intro w hSw; (try dsimp only at hSw); go_simp; try with_reducible rfl)); (try simp only [Act.put, List.setIfInBounds_toArray, List.set_cons_zero, List.set_cons_succ, List.getElem_toArray, List.getElem_cons_zero, List.getElem_cons_succ])); (refine wpAnyH_take (i := 5) (v := ?_) rfl (by kernel_rfl) (by kernel_rfl) (by kernel_rfl) (fun _ _ _ h => h) (Or.inl ⟨by rfl, ?_⟩) hHeld ?_; rotate_left; (focus (intro w hSw; (try dsimp only at hSw); go_simp; try with_reducible rfl)); (try simp only [Act.put, List.setIfInBounds_toArray, List.set_cons_zero, List.set_cons_succ, List.getElem_toArray, List.getElem_cons_zero, List.getElem_cons_succ])); (refine wpAnyH_take (i := 6) (v := ?_) rfl (by kernel_rfl) (by kernel_rfl) (by kernel_rfl) (fun _ _ _ h => h) (Or.inl ⟨by rfl, ?_⟩) hHeld ?_; rotate_left; (focus (intro w hSw; (try dsimp only at hSw); go_simp; try with_reducible rfl)); (try simp only [Act.put, List.setIfInBounds_toArray, List.set_cons_zero, List.set_cons_succ, List.getElem_toArray, List.getElem_cons_zero, List.getElem_cons_succ]))
    (refine wpAnyH_take (i := 7) (v := ?_) rfl (by kernel_rfl) (by kernel_rfl) (by kernel_rfl) (fun _ _ _ h => h) (Or.inl ⟨by rfl, ?_⟩) hHeld ?_; rotate_left; (focus (intro w hSw; (try dsimp only at hSw); go_simp; (have cc := (HCE.out _ hSw).1; go_simp; try with_reducible rfl))); (try simp only [Act.put, List.setIfInBounds_toArray, List.set_cons_zero, List.set_cons_succ, List.getElem_toArray, List.getElem_cons_zero, List.getElem_cons_succ]))
    (refine wpAnyH_take (i := 8) (v := ?_) rfl (by kernel_rfl) (by kernel_rfl) (by kernel_rfl) (fun _ _ _ h => h) (Or.inl ⟨by rfl, ?_⟩) hHeld ?_; rotate_left; (focus (intro w hSw; (try dsimp only at hSw); go_simp; try with_reducible rfl)); (try simp only [Act.put, List.setIfInBounds_toArray, List.set_cons_zero, List.set_cons_succ, List.getElem_toArray, List.getElem_cons_zero, List.getElem_cons_succ]))
    refine wpAnyH_done (by kernel_rfl) ?_ _
    obtain ⟨wd, hwd⟩ : ∃ wd, wd = World.drew w := ⟨_, rfl⟩
    rw [← hwd]
    rw [← hwd] at hHeld
    have c6 := (HCE.out _ hHeld).2.2.1
    have hfz := (HCE.out _ hHeld).2.2.2
    have HBD := Lib.hid hHeld
    clear hwd hHeld
    go_wp2_with fail
    go_ret
    have hq : Chg [p] wd (wd.setCell ⟨p, 6, none⟩ (.int .i64 0)) := (Chg.refl _ _).set (by simp) _ _
    rw [HT.out.1, HT.out.2.1]
    refine TrL.nil ⟨v, ?_, (HAL.out.chg (Chg.of_below [] HBD.out) (by simp)).chg hq (fun h => by simpa using h), HP.out⟩ ((Chg.of_below _ HBD.out).trans hq)
    have h9 := BlkAt.set (BlkAt.later HBK.out HBD.out) 6 (.int .i64 0)
    have e9 : (rcs v s).set 6 (.int .i64 0) = rcs v s := by unfold rcs; rw [HT.out.2.2]; rfl
    rw [e9] at h9
    exact h9
  · have k0 : (z == x) = false := by rw [beq_eq_false_iff_ne]; omega
    have HNT : Hid (¬ s.told = 0) := h0
    clear h0 b1 b2 b3 b4 b5 b6 hb hal hp hb0 ok hx hz hI hG
    go_enter Try.func18, Try.ntmps18
    go_wp2_with fail
    (refine wp_region_held_drew (S := (fun w' => Below w.heap.size w w')) (by kernel_rfl) ?_ (fun hHeld => ?_); (focus ((try dsimp only); (exact (Below.refl _ _).drew))))
    (try dsimp only at hHeld)
    (refine wpAnyH_take (i := 0) (v := ?_) rfl (by kernel_rfl) (by kernel_rfl) (by kernel_rfl) (fun _ _ _ h => h) (Or.inl ⟨by rfl, ?_⟩) hHeld ?_; rotate_left; (focus (intro w hSw; (try dsimp only at hSw); go_simp; try with_reducible rfl)); (try simp only [Act.put, List.setIfInBounds_toArray, List.set_cons_zero, List.set_cons_succ, List.getElem_toArray, List.getElem_cons_zero])); (refine wpAnyH_take (i := 1) (v := ?_) rfl (by kernel_rfl) (by kernel_rfl) (by kernel_rfl) (fun _ _ _ h => h) (Or.inl ⟨by rfl, ?_⟩) hHeld ?_; rotate_left; (focus (intro w hSw; (try dsimp only at hSw); go_simp; try with_reducible rfl)); (try simp only [Act.put, List.setIfInBounds_toArray, List.set_cons_zero, List.set_cons_succ, List.getElem_toArray, List.getElem_cons_zero, List.getElem_cons_succ])); (refine wpAnyH_take (i := 2) (v := ?_) rfl (by kernel_rfl) (by kernel_rfl) (by kernel_rfl) (fun _ _ _ h => h) (Or.inl ⟨by rfl, ?_⟩) hHeld ?_; rotate_left; (focus (intro w hSw; (try dsimp only at hSw); go_simp; try with_reducible rfl)); (try simp only [Act.put, List.setIfInBounds_toArray, List.set_cons_zero, List.set_cons_succ, List.getElem_toArray, List.getElem_cons_zero, List.getElem_cons_succ]))
    (refine wpAnyH_take (i := 3) (v := ?_) rfl (by kernel_rfl) (by kernel_rfl) (by kernel_rfl) (fun _ _ _ h => h) (Or.inl ⟨by rfl, ?_⟩) hHeld ?_; rotate_left; (focus (intro w hSw; (try dsimp only at hSw); go_simp; (have cc := (HCE.out _ hSw).2.1; go_simp; try with_reducible rfl))); (try simp only [Act.put, List.setIfInBounds_toArray, List.set_cons_zero, List.set_cons_succ, List.getElem_toArray, List.getElem_cons_zero, List.getElem_cons_succ]))
    (refine wpAnyH_take (i := 4) (v := ?_) rfl (by kernel_rfl) (by kernel_rfl) (by kernel_rfl) (fun _ _ _ h => h) (Or.inl ⟨by rfl, ?_⟩) hHeld ?_; rotate_left; (focus (intro w hSw; (try dsimp only at hSw); go_simp; try with_reducible rfl)); (try simp only [Act.put, List.setIfInBounds_toArray, List.set_cons_zero, List.set_cons_succ, List.getElem_toArray, List.getElem_cons_zero, List.getElem_cons_succ])); (refine wpAnyH_take (i := 5) (v := ?_) rfl (by kernel_rfl) (by kernel_rfl) (by kernel_rfl) (fun _ _ _ h => h) (Or.inl ⟨by rfl, ?_⟩) hHeld ?_; rotate_left; (focus (intro w hSw; (try dsimp only at hSw); go_simp; try with_reducible rfl)); (try simp only [Act.put, List.setIfInBounds_toArray, List.set_cons_zero, List.set_cons_succ, List.getElem_toArray, List.getElem_cons_zero, List.getElem_cons_succ])); (refine wpAnyH_take (i := 6) (v := ?_) rfl (by kernel_rfl) (by kernel_rfl) (by kernel_rfl) (fun _ _ _ h => h) (Or.inl ⟨by rfl, ?_⟩) hHeld ?_; rotate_left; (focus (intro w hSw; (try dsimp only at hSw); go_simp; try with_reducible rfl)); (try simp only [Act.put, List.setIfInBounds_toArray, List.set_cons_zero, List.set_cons_succ, List.getElem_toArray, List.getElem_cons_zero, List.getElem_cons_succ]))
    (refine wpAnyH_take (i := 7) (v := ?_) rfl (by kernel_rfl) (by kernel_rfl) (by kernel_rfl) (fun _ _ _ h => h) (Or.inl ⟨by rfl, ?_⟩) hHeld ?_; rotate_left; (focus (intro w hSw; (try dsimp only at hSw); go_simp; (have cc := (HCE.out _ hSw).1; go_simp; try with_reducible rfl))); (try simp only [Act.put, List.setIfInBounds_toArray, List.set_cons_zero, List.set_cons_succ, List.getElem_toArray, List.getElem_cons_zero, List.getElem_cons_succ]))
    (refine wpAnyH_take (i := 8) (v := ?_) rfl (by kernel_rfl) (by kernel_rfl) (by kernel_rfl) (fun _ _ _ h => h) (Or.inl ⟨by rfl, ?_⟩) hHeld ?_; rotate_left; (focus (intro w hSw; (try dsimp only at hSw); go_simp; try with_reducible rfl)); (try simp only [Act.put, List.setIfInBounds_toArray, List.set_cons_zero, List.set_cons_succ, List.getElem_toArray, List.getElem_cons_zero, List.getElem_cons_succ]))
    refine wpAnyH_done (by kernel_rfl) ?_ _
    obtain ⟨wd, hwd⟩ : ∃ wd, wd = World.drew w := ⟨_, rfl⟩
    rw [← hwd]
    rw [← hwd] at hHeld
    have c6 := (HCE.out _ hHeld).2.2.1
    have hfz := (HCE.out _ hHeld).2.2.2
    obtain ⟨w2, hw2⟩ : ∃ w2, w2 = wd.setCell ⟨p, 6, none⟩ (.int .i64 (I + 1)) := ⟨_, rfl⟩
    have hq : Chg [p] wd w2 := by rw [hw2]; exact (Chg.refl _ _).set (by simp) _ _
    have hb2 : BlkAt 32 p (rcs v { s with ti := s.ti + 1 }) w2 := by
      have h9 := BlkAt.set (BlkAt.later HBK.out hHeld) 6 (.int .i64 (I + 1))
      rw [hw2]; rw [HH.out.2.2.1] at h9 ⊢; exact h9
    have HR2 : Hid (RSm w0 p r { s with ti := s.ti + 1 } pre w2) := ⟨v, hb2, (HAL.out.chg (Chg.of_below [] hHeld) (by simp)).chg hq (fun h => by simpa using h), HP.out⟩
    have HC2 : Hid (Chg [p] w w2) := (Chg.of_below _ hHeld).trans hq
    have HCF : Hid (∀ W, Below w2.heap.size w2 W → W.cell? ⟨p, 6, none⟩ = some (.int .i64 (I + 1)) ∧ W.cell? ⟨p, 0, none⟩ = some (.int .i64 G) ∧ W.cell? ⟨p, 2, none⟩ = some (.int .i64 x) ∧ W.cell? ⟨p, 3, none⟩ = some (.int .i64 z)) := by
      have : ∀ W, Below w2.heap.size w2 W → W.cell? ⟨p, 6, none⟩ = some (.int .i64 (I + 1)) ∧ W.cell? ⟨p, 0, none⟩ = some (.int .i64 G) ∧ W.cell? ⟨p, 2, none⟩ = some (.int .i64 x) ∧ W.cell? ⟨p, 3, none⟩ = some (.int .i64 z) := fun W hW => by
        rw [HH.out.1, HH.out.2.1, HH.out.2.2.1, HH.out.2.2.2]; exact ⟨BlkAt.cell (hb2.later hW) (j := 6) rfl, BlkAt.cell (hb2.later hW) (j := 0) rfl, BlkAt.cell (hb2.later hW) (j := 2) rfl, BlkAt.cell (hb2.later hW) (j := 3) rfl⟩
      exact this
    have HW2 := Lib.hid hw2
    clear hwd hHeld hw2 hq hb2
    by_cases h1 : s.ti + 1 < s.ag
    · have k1 : decide (I + 1 < G) = true := by have := HH.out; simp; omega
      have HT : Hid (tickM s = { s with ti := s.ti + 1 } ∧ tickL s = []) := ⟨by unfold tickM; rw [if_neg HNT.out, if_pos h1], by unfold tickL; rw [if_neg HNT.out, if_pos h1]⟩
      clear h1
      go_wp2_with fail
      rw [← HW2.out]
      clear c6 hfz
      (refine wp_region_held_drew (S := (fun w' => Below w2.heap.size w2 w')) (by kernel_rfl) ?_ (fun hHeld => ?_); (focus ((try dsimp only); (exact (Below.refl _ _).drew))))
      (try dsimp only at hHeld)
      (refine wpAnyH_take (i := 0) (v := ?_) rfl (by kernel_rfl) (by kernel_rfl) (by kernel_rfl) (fun _ _ _ h => h) (Or.inl ⟨by rfl, ?_⟩) hHeld ?_; rotate_left; (focus (intro w hSw; (try dsimp only at hSw); go_simp; try with_reducible rfl)); (try simp only [Act.put, List.setIfInBounds_toArray, List.set_cons_zero, List.set_cons_succ, List.getElem_toArray, List.getElem_cons_zero])); (refine wpAnyH_take (i := 1) (v := ?_) rfl (by kernel_rfl) (by kernel_rfl) (by kernel_rfl) (fun _ _ _ h => h) (Or.inl ⟨by rfl, ?_⟩) hHeld ?_; rotate_left; (focus (intro w hSw; (try dsimp only at hSw); go_simp; try with_reducible rfl)); (try simp only [Act.put, List.setIfInBounds_toArray, List.set_cons_zero, List.set_cons_succ, List.getElem_toArray, List.getElem_cons_zero, List.getElem_cons_succ])); (refine wpAnyH_take (i := 2) (v := ?_) rfl (by kernel_rfl) (by kernel_rfl) (by kernel_rfl) (fun _ _ _ h => h) (Or.inl ⟨by rfl, ?_⟩) hHeld ?_; rotate_left; (focus (intro w hSw; (try dsimp only at hSw); go_simp; try with_reducible rfl)); (try simp only [Act.put, List.setIfInBounds_toArray, List.set_cons_zero, List.set_cons_succ, List.getElem_toArray, List.getElem_cons_zero, List.getElem_cons_succ]))
      (refine wpAnyH_take (i := 3) (v := ?_) rfl (by kernel_rfl) (by kernel_rfl) (by kernel_rfl) (fun _ _ _ h => h) (Or.inl ⟨by rfl, ?_⟩) hHeld ?_; rotate_left; (focus (intro w hSw; (try dsimp only at hSw); go_simp; (have cc := (HCF.out _ hSw).1; go_simp; try with_reducible rfl))); (try simp only [Act.put, List.setIfInBounds_toArray, List.set_cons_zero, List.set_cons_succ, List.getElem_toArray, List.getElem_cons_zero, List.getElem_cons_succ]))
      (refine wpAnyH_take (i := 4) (v := ?_) rfl (by kernel_rfl) (by kernel_rfl) (by kernel_rfl) (fun _ _ _ h => h) (Or.inl ⟨by rfl, ?_⟩) hHeld ?_; rotate_left; (focus (intro w hSw; (try dsimp only at hSw); go_simp; try with_reducible rfl)); (try simp only [Act.put, List.setIfInBounds_toArray, List.set_cons_zero, List.set_cons_succ, List.getElem_toArray, List.getElem_cons_zero, List.getElem_cons_succ])); (refine wpAnyH_take (i := 5) (v := ?_) rfl (by kernel_rfl) (by kernel_rfl) (by kernel_rfl) (fun _ _ _ h => h) (Or.inl ⟨by rfl, ?_⟩) hHeld ?_; rotate_left; (focus (intro w hSw; (try dsimp only at hSw); go_simp; try with_reducible rfl)); (try simp only [Act.put, List.setIfInBounds_toArray, List.set_cons_zero, List.set_cons_succ, List.getElem_toArray, List.getElem_cons_zero, List.getElem_cons_succ])); (refine wpAnyH_take (i := 6) (v := ?_) rfl (by kernel_rfl) (by kernel_rfl) (by kernel_rfl) (fun _ _ _ h => h) (Or.inl ⟨by rfl, ?_⟩) hHeld ?_; rotate_left; (focus (intro w hSw; (try dsimp only at hSw); go_simp; try with_reducible rfl)); (try simp only [Act.put, List.setIfInBounds_toArray, List.set_cons_zero, List.set_cons_succ, List.getElem_toArray, List.getElem_cons_zero, List.getElem_cons_succ]))
      (refine wpAnyH_take (i := 7) (v := ?_) rfl (by kernel_rfl) (by kernel_rfl) (by kernel_rfl) (fun _ _ _ h => h) (Or.inl ⟨by rfl, ?_⟩) hHeld ?_; rotate_left; (focus (intro w hSw; (try dsimp only at hSw); go_simp; (have cc := (HCF.out _ hSw).2.1; go_simp; try with_reducible rfl))); (try simp only [Act.put, List.setIfInBounds_toArray, List.set_cons_zero, List.set_cons_succ, List.getElem_toArray, List.getElem_cons_zero, List.getElem_cons_succ]))
      (refine wpAnyH_take (i := 8) (v := ?_) rfl (by kernel_rfl) (by kernel_rfl) (by kernel_rfl) (fun _ _ _ h => h) (Or.inl ⟨by rfl, ?_⟩) hHeld ?_; rotate_left; (focus (intro w hSw; (try dsimp only at hSw); go_simp; try with_reducible rfl)); (try simp only [Act.put, List.setIfInBounds_toArray, List.set_cons_zero, List.set_cons_succ, List.getElem_toArray, List.getElem_cons_zero, List.getElem_cons_succ]))
      refine wpAnyH_done (by kernel_rfl) ?_ _
      go_wp2_with fail
      go_ret
      rw [HT.out.1, HT.out.2]
      exact TrL.nil (HR2.out.later hHeld) (HC2.out.trans (Chg.of_below _ hHeld))
    · have k1 : decide (I + 1 < G) = false := by have := HH.out; simp; omega
      have HT : Hid (tickM s = tellM s ∧ tickL s = segL s.ac s.tk (s.line.take s.told)) := ⟨by unfold tickM; rw [if_neg HNT.out, if_neg h1], by unfold tickL; rw [if_neg HNT.out, if_neg h1]⟩
      clear h1
      go_wp2_with fail
      rw [← HW2.out]
      clear c6 hfz
      (refine wp_region_held_drew (S := (fun w' => Below w2.heap.size w2 w')) (by kernel_rfl) ?_ (fun hHeld => ?_); (focus ((try dsimp only); (exact (Below.refl _ _).drew))))
      (try dsimp only at hHeld)
      (refine wpAnyH_take (i := 0) (v := ?_) rfl (by kernel_rfl) (by kernel_rfl) (by kernel_rfl) (fun _ _ _ h => h) (Or.inl ⟨by rfl, ?_⟩) hHeld ?_; rotate_left; (focus (intro w hSw; (try dsimp only at hSw); go_simp; try with_reducible rfl)); (try simp only [Act.put, List.setIfInBounds_toArray, List.set_cons_zero, List.set_cons_succ, List.getElem_toArray, List.getElem_cons_zero])); (refine wpAnyH_take (i := 1) (v := ?_) rfl (by kernel_rfl) (by kernel_rfl) (by kernel_rfl) (fun _ _ _ h => h) (Or.inl ⟨by rfl, ?_⟩) hHeld ?_; rotate_left; (focus (intro w hSw; (try dsimp only at hSw); go_simp; try with_reducible rfl)); (try simp only [Act.put, List.setIfInBounds_toArray, List.set_cons_zero, List.set_cons_succ, List.getElem_toArray, List.getElem_cons_zero, List.getElem_cons_succ])); (refine wpAnyH_take (i := 2) (v := ?_) rfl (by kernel_rfl) (by kernel_rfl) (by kernel_rfl) (fun _ _ _ h => h) (Or.inl ⟨by rfl, ?_⟩) hHeld ?_; rotate_left; (focus (intro w hSw; (try dsimp only at hSw); go_simp; try with_reducible rfl)); (try simp only [Act.put, List.setIfInBounds_toArray, List.set_cons_zero, List.set_cons_succ, List.getElem_toArray, List.getElem_cons_zero, List.getElem_cons_succ]))
      (refine wpAnyH_take (i := 3) (v := ?_) rfl (by kernel_rfl) (by kernel_rfl) (by kernel_rfl) (fun _ _ _ h => h) (Or.inl ⟨by rfl, ?_⟩) hHeld ?_; rotate_left; (focus (intro w hSw; (try dsimp only at hSw); go_simp; (have cc := (HCF.out _ hSw).1; go_simp; try with_reducible rfl))); (try simp only [Act.put, List.setIfInBounds_toArray, List.set_cons_zero, List.set_cons_succ, List.getElem_toArray, List.getElem_cons_zero, List.getElem_cons_succ]))
      (refine wpAnyH_take (i := 4) (v := ?_) rfl (by kernel_rfl) (by kernel_rfl) (by kernel_rfl) (fun _ _ _ h => h) (Or.inl ⟨by rfl, ?_⟩) hHeld ?_; rotate_left; (focus (intro w hSw; (try dsimp only at hSw); go_simp; try with_reducible rfl)); (try simp only [Act.put, List.setIfInBounds_toArray, List.set_cons_zero, List.set_cons_succ, List.getElem_toArray, List.getElem_cons_zero, List.getElem_cons_succ])); (refine wpAnyH_take (i := 5) (v := ?_) rfl (by kernel_rfl) (by kernel_rfl) (by kernel_rfl) (fun _ _ _ h => h) (Or.inl ⟨by rfl, ?_⟩) hHeld ?_; rotate_left; (focus (intro w hSw; (try dsimp only at hSw); go_simp; try with_reducible rfl)); (try simp only [Act.put, List.setIfInBounds_toArray, List.set_cons_zero, List.set_cons_succ, List.getElem_toArray, List.getElem_cons_zero, List.getElem_cons_succ])); (refine wpAnyH_take (i := 6) (v := ?_) rfl (by kernel_rfl) (by kernel_rfl) (by kernel_rfl) (fun _ _ _ h => h) (Or.inl ⟨by rfl, ?_⟩) hHeld ?_; rotate_left; (focus (intro w hSw; (try dsimp only at hSw); go_simp; try with_reducible rfl)); (try simp only [Act.put, List.setIfInBounds_toArray, List.set_cons_zero, List.set_cons_succ, List.getElem_toArray, List.getElem_cons_zero, List.getElem_cons_succ]))
      (refine wpAnyH_take (i := 7) (v := ?_) rfl (by kernel_rfl) (by kernel_rfl) (by kernel_rfl) (fun _ _ _ h => h) (Or.inl ⟨by rfl, ?_⟩) hHeld ?_; rotate_left; (focus (intro w hSw; (try dsimp only at hSw); go_simp; (have cc := (HCF.out _ hSw).2.1; go_simp; try with_reducible rfl))); (try simp only [Act.put, List.setIfInBounds_toArray, List.set_cons_zero, List.set_cons_succ, List.getElem_toArray, List.getElem_cons_zero, List.getElem_cons_succ]))
      (refine wpAnyH_take (i := 8) (v := ?_) rfl (by kernel_rfl) (by kernel_rfl) (by kernel_rfl) (fun _ _ _ h => h) (Or.inl ⟨by rfl, ?_⟩) hHeld ?_; rotate_left; (focus (intro w hSw; (try dsimp only at hSw); go_simp; try with_reducible rfl)); (try simp only [Act.put, List.setIfInBounds_toArray, List.set_cons_zero, List.set_cons_succ, List.getElem_toArray, List.getElem_cons_zero, List.getElem_cons_succ]))
      refine wpAnyH_done (by kernel_rfl) ?_ _
      obtain ⟨w3, hw3⟩ : ∃ w3, w3 = World.drew w2 := ⟨_, rfl⟩
      rw [← hw3]
      rw [← hw3] at hHeld
      have HC3 : Hid (Chg [p] w w3) := HC2.out.trans (Chg.of_below _ hHeld)
      have HB23 := Lib.hid hHeld
      have HOU : Hid (∀ W, Below w3.heap.size w3 W → Calls Try.prog 30 #[.pointer (some ⟨p, 0, none⟩), .int .i64 x, .int .i64 z] W (TrL w0 p r (tellM s) pre (segL s.ac s.tk (s.line.take s.told)) W)) := by
        intro W hW
        have hB : Below w2.heap.size w2 W := HB23.out.trans (hW.mono HB23.out.size)
        have hR := HR2.out.later hB
        have h0W : Below w0.heap.size w0 W := (HB0.out.trans (HC2.out.below HB0.out.size (by intro b hb; simp at hb; subst hb; exact HPW.out))).trans (hB.mono (Nat.le_trans HB0.out.size HC2.out.size))
        have h9 := outR hR h0W s.ac (s.ac + s.told) (by omega) (by have := HOK.out.t1; have := HP.out; simp; omega) (by have := HOK.out.few; have := HOK.out.NN; have := HP.out; simp; omega)
        have e8 := all_part pre s.line 0 s.told
        rw [HP.out, Nat.add_zero, List.drop_zero] at e8
        simp only at h9
        rw [e8] at h9
        have e7 : ouM { s with ti := s.ti + 1 } s.ac (s.ac + s.told) = tellM s := by unfold ouM; rw [if_pos (by have := HNT.out; omega)]; rfl
        rw [e7] at h9
        rw [HH.out.1, HH.out.2.1]
        exact h9
      clear hw3 hHeld
      go_wp2_with fail
      have HCD : Hid (w3.cell? ⟨p, 2, none⟩ = some (.int .i64 x) ∧ w3.cell? ⟨p, 3, none⟩ = some (.int .i64 z)) := ⟨(HCF.out _ HB23.out).2.2.1, (HCF.out _ HB23.out).2.2.2⟩
      (refine wp_region_held_drew (S := (fun w' => w'.cell? ⟨p, 2, none⟩ = some (.int .i64 x) ∧ w'.cell? ⟨p, 3, none⟩ = some (.int .i64 z))) (by kernel_rfl) ?_ (fun hHeld => ?_); (focus ((try dsimp only); (exact HCD.out))))
      (try dsimp only at hHeld)
      (refine wpAnyH_take (i := 0) (v := ?_) rfl (by kernel_rfl) (by kernel_rfl) (by kernel_rfl) (fun _ _ _ h => h) (Or.inl ⟨by rfl, ?_⟩) hHeld ?_; rotate_left; (focus (intro w hSw; (try dsimp only at hSw); go_simp; try with_reducible rfl)); (try simp only [Act.put, List.setIfInBounds_toArray, List.set_cons_zero, List.set_cons_succ, List.getElem_toArray, List.getElem_cons_zero])); (refine wpAnyH_take (i := 1) (v := ?_) rfl (by kernel_rfl) (by kernel_rfl) (by kernel_rfl) (fun _ _ _ h => h) (Or.inl ⟨by rfl, ?_⟩) hHeld ?_; rotate_left; (focus (intro w hSw; (try dsimp only at hSw); go_simp; try with_reducible rfl)); (try simp only [Act.put, List.setIfInBounds_toArray, List.set_cons_zero, List.set_cons_succ, List.getElem_toArray, List.getElem_cons_zero, List.getElem_cons_succ])); (refine wpAnyH_take (i := 2) (v := ?_) rfl (by kernel_rfl) (by kernel_rfl) (by kernel_rfl) (fun _ _ _ h => h) (Or.inl ⟨by rfl, ?_⟩) hHeld ?_; rotate_left; (focus (intro w hSw; (try dsimp only at hSw); go_simp; try with_reducible rfl)); (try simp only [Act.put, List.setIfInBounds_toArray, List.set_cons_zero, List.set_cons_succ, List.getElem_toArray, List.getElem_cons_zero, List.getElem_cons_succ])); (refine wpAnyH_take (i := 3) (v := ?_) rfl (by kernel_rfl) (by kernel_rfl) (by kernel_rfl) (fun _ _ _ h => h) (Or.inl ⟨by rfl, ?_⟩) hHeld ?_; rotate_left; (focus (intro w hSw; (try dsimp only at hSw); go_simp; try with_reducible rfl)); (try simp only [Act.put, List.setIfInBounds_toArray, List.set_cons_zero, List.set_cons_succ, List.getElem_toArray, List.getElem_cons_zero, List.getElem_cons_succ]))
      (refine wpAnyH_take (i := 4) (v := ?_) rfl (by kernel_rfl) (by kernel_rfl) (by kernel_rfl) (fun _ _ _ h => h) (Or.inl ⟨by rfl, ?_⟩) hHeld ?_; rotate_left; (focus (intro w hSw; (try dsimp only at hSw); go_simp; (have cc := hSw.1; go_simp; try with_reducible rfl))); (try simp only [Act.put, List.setIfInBounds_toArray, List.set_cons_zero, List.set_cons_succ, List.getElem_toArray, List.getElem_cons_zero, List.getElem_cons_succ]))
      (refine wpAnyH_take (i := 5) (v := ?_) rfl (by kernel_rfl) (by kernel_rfl) (by kernel_rfl) (fun _ _ _ h => h) (Or.inl ⟨by rfl, ?_⟩) hHeld ?_; rotate_left; (focus (intro w hSw; (try dsimp only at hSw); go_simp; try with_reducible rfl)); (try simp only [Act.put, List.setIfInBounds_toArray, List.set_cons_zero, List.set_cons_succ, List.getElem_toArray, List.getElem_cons_zero, List.getElem_cons_succ])); (refine wpAnyH_take (i := 6) (v := ?_) rfl (by kernel_rfl) (by kernel_rfl) (by kernel_rfl) (fun _ _ _ h => h) (Or.inl ⟨by rfl, ?_⟩) hHeld ?_; rotate_left; (focus (intro w hSw; (try dsimp only at hSw); go_simp; try with_reducible rfl)); (try simp only [Act.put, List.setIfInBounds_toArray, List.set_cons_zero, List.set_cons_succ, List.getElem_toArray, List.getElem_cons_zero, List.getElem_cons_succ])); (refine wpAnyH_take (i := 7) (v := ?_) rfl (by kernel_rfl) (by kernel_rfl) (by kernel_rfl) (fun _ _ _ h => h) (Or.inl ⟨by rfl, ?_⟩) hHeld ?_; rotate_left; (focus (intro w hSw; (try dsimp only at hSw); go_simp; try with_reducible rfl)); (try simp only [Act.put, List.setIfInBounds_toArray, List.set_cons_zero, List.set_cons_succ, List.getElem_toArray, List.getElem_cons_zero, List.getElem_cons_succ]))
      (refine wpAnyH_take (i := 8) (v := ?_) rfl (by kernel_rfl) (by kernel_rfl) (by kernel_rfl) (fun _ _ _ h => h) (Or.inl ⟨by rfl, ?_⟩) hHeld ?_; rotate_left; (focus (intro w hSw; (try dsimp only at hSw); go_simp; (have cc := hSw.2; go_simp; try with_reducible rfl))); (try simp only [Act.put, List.setIfInBounds_toArray, List.set_cons_zero, List.set_cons_succ, List.getElem_toArray, List.getElem_cons_zero, List.getElem_cons_succ]))
      (refine wpAnyH_ready (rs := [9]) (by kernel_rfl) (by simp) ?_; refine AllReadyH.cons rfl (fun K hK => ?_) AllReadyH.nil; go_simp; refine (HOU.out _ (Below.refl _ _).drew).mono ?_; rintro e w4 ⟨u, M, rfl, h2, h3, h4, h5, h6⟩; obtain ⟨v9, hb9, hx9⟩ := id h5; refine hK.out _ _ ?_ (fun hHeldN => ?_); (focus ((try dsimp only); (rw [HH.out.1, HH.out.2.1]; exact ⟨hb9.cell (j := 2) rfl, hb9.cell (j := 3) rfl⟩))); clear hK K hHeld; have hHeld := hHeldN; clear hHeldN; (try simp only [Act.put, List.setIfInBounds_toArray, List.set_cons_zero, List.set_cons_succ, List.getElem_toArray, List.getElem_cons_zero, List.getElem_cons_succ]))
      (refine wpAnyH_take (i := 10) (v := ?_) rfl (by kernel_rfl) (by kernel_rfl) (by kernel_rfl) (fun _ _ _ h => h) (Or.inl ⟨by rfl, ?_⟩) hHeld ?_; rotate_left; (focus (intro w hSw; (try dsimp only at hSw); go_simp; try with_reducible rfl)); (try simp only [Act.put, List.setIfInBounds_toArray, List.set_cons_zero, List.set_cons_succ, List.getElem_toArray, List.getElem_cons_zero, List.getElem_cons_succ]))
      refine wpAnyH_done (by kernel_rfl) ?_ _
      have HR9 : Hid (TrL w0 p r (tellM s) pre (segL s.ac s.tk (s.line.take s.told)) w (.returned u) w4) := TrL.of (w2 := w3.drew) ⟨u, M, rfl, h2, h3, h4, h5, h6⟩ (HC3.out.trans (Chg.of_below _ (Below.refl _ _).drew))
      clear h2 h3 h4 h5 h6 hb9 hx9
      go_wp2_with fail
      go_ret
      rw [HT.out.1, HT.out.2]
      exact HR9.out
def rest8 (s : Sm) : Nat := upM s
set_option maxHeartbeats 8000000 in
set_option maxRecDepth 100000 in
theorem dueR {w0 w : World} {p r : Nat} {s : Sm} {pre : List (List UInt8)} {N : Nat} (h : RSm w0 p r s pre w) (ok : s.Ok N) (hb0 : Below w0.heap.size w0 w) (hpw : w0.heap.size ≤ p) :
    Calls Try.prog 20 #[.pointer (some ⟨p, 0, none⟩)] w (TrL w0 p r (dueM s) pre (dueL s) w) := by
  have HRS := Lib.hid h
  have HPW : Hid (w0.heap.size ≤ p) := hpw
  obtain ⟨v, hb, hal, hp⟩ := h
  obtain ⟨va, vc, rfl⟩ := hal.form
  have b1 := ok.t1
  have b2 := ok.t8
  have b3 := ok.few
  have b4 := ok.NN
  have hup := up_told ok
  obtain ⟨n, hn⟩ : ∃ n, n = (pre ++ s.line).length := ⟨_, rfl⟩
  have hn2 : n = s.ac + s.line.length := by rw [hn]; simp [hp]
  have hal0 := hal
  rw [← hn] at hb hal
  obtain ⟨x, hx⟩ : ∃ x : Nat, x = s.ac := ⟨_, rfl⟩
  obtain ⟨z, hz⟩ : ∃ z : Nat, z = s.ac + s.told := ⟨_, rfl⟩
  obtain ⟨to, hto⟩ : ∃ to : Nat, to = s.ac + upM s := ⟨_, rfl⟩
  have hton : to ≤ n ∧ to ≤ x + 8 ∧ (n < x + 8 → to = n) ∧ (¬ n < x + 8 → to = x + 8) := by unfold upM at hto; omega
  have c1 := BlkAt.cell hb (j := 1) rfl
  have c2 : w.cell? ⟨p, 2, none⟩ = some (.int .i64 (x : Int)) := by rw [hx]; exact BlkAt.cell hb (j := 2) rfl
  have c3 : w.cell? ⟨p, 3, none⟩ = some (.int .i64 (z : Int)) := by rw [hz]; exact BlkAt.cell hb (j := 3) rfl
  have c5 := BlkAt.cell hb (j := 5) rfl
  have hfz : ∀ j, w.frozen? ⟨p, j, none⟩ = false := fun j => hb.frozen j
  have g1 : (x : Int) ≤ 1000000 := by omega
  have g2 : (n : Int) ≤ 1000000 := by omega
  have HBK := Lib.hid hb
  have HAL := Lib.hid hal
  have HP := Lib.hid hp
  by_cases hlt : s.told < upM s
  · have HT : Hid (dueM s = tellM { s with told := upM s } ∧ dueL s = segL (s.ac + s.told) s.tk ((s.line.take (upM s)).drop s.told)) := ⟨by unfold dueM; rw [if_pos hlt], by unfold dueL; rw [if_pos hlt]⟩
    have k3 : decide (z < to) = true := by simp; omega
    obtain ⟨w2, hw2⟩ : ∃ w2, w2 = w.setCell ⟨p, 3, none⟩ (.int .i64 (to : Int)) := ⟨_, rfl⟩
    have hq : Chg [p] w w2 := by rw [hw2]; exact (Chg.refl _ _).set (by simp) _ _
    have hR : RSm w0 p r { s with told := upM s } pre w2 := by
      refine ⟨.slice va (pre ++ s.line).length vc, ?_, hal0.chg hq (fun h => by simpa using h), hp⟩
      have h9 := hb.set 3 (.int .i64 (to : Int))
      rw [← hn, hw2]
      rw [hto] at h9 ⊢
      exact h9
    have HOU := outR hR (hb0.trans (hq.below hb0.size (by intro b hb; simp at hb; subst hb; exact hpw))) z to (by omega) (by simp only; omega) (by simp only; omega)
    have e8 := all_part pre s.line s.told (upM s)
    rw [hp] at e8
    simp only at HOU
    rw [hto, hz, e8] at HOU
    have e7 : ouM { s with told := upM s } (s.ac + s.told) (s.ac + upM s) = tellM { s with told := upM s } := by unfold ouM; rw [if_pos (by omega)]
    rw [e7, ← hto, ← hz] at HOU
    have HO := Lib.hid (show Calls Try.prog 30 #[.pointer (some ⟨p, 0, none⟩), .int .i64 (z : Int), .int .i64 (to : Int)] w2 (TrL w0 p r (dueM s) pre (dueL s) w2) by rw [HT.out.1, HT.out.2, ← hz]; exact HOU)
    have HC2 := Lib.hid hq
    have HW2 := Lib.hid hw2
    by_cases hbig : n < x + 8
    · have k2 : decide ((n : Int) < (x : Int) + 8) = true := by simp; omega
      have et : to = n := hton.2.2.1 hbig
      rw [et] at HO HW2 k3
      clear HT HRS hpw hb hal hal0 hp b1 b2 b3 b4 hup hn hn2 hx hz hto hton hlt hw2 hq hR HOU e8 e7 hbig et ok hb0 c5
      go_enter Try.func20, Try.ntmps20
      go_wp2_with fail
      rw [← HW2.out]
      refine HO.out.mono ?_
      rintro e w3 h9
      have HR := Lib.hid (TrL.of h9 HC2.out)
      obtain ⟨u, M, rfl, _⟩ := h9
      go_wp2_with fail
      go_ret
      exact HR.out

    · have k2 : decide ((n : Int) < (x : Int) + 8) = false := by simp; omega
      have et : to = x + 8 := hton.2.2.2 hbig
      have et2 : (to : Int) = (x : Int) + 8 := by omega
      rw [et2] at HO HW2
      have k33 : decide ((z : Int) < (x : Int) + 8) = true := by rw [← et2]; simpa using k3
      clear HT HRS hpw hb hal hal0 hp b1 b2 b3 b4 hup hn hn2 hx hz hto hton hlt hw2 hq hR HOU e8 e7 hbig et et2 ok hb0 c5 k3
      go_enter Try.func20, Try.ntmps20
      go_wp2_with fail
      rw [← HW2.out]
      refine HO.out.mono ?_
      rintro e w3 h9
      have HR := Lib.hid (TrL.of h9 HC2.out)
      obtain ⟨u, M, rfl, _⟩ := h9
      go_wp2_with fail
      go_ret
      exact HR.out

  · have hez : to = z := by omega
    have k3 : decide (z < to) = false := by simp; omega
    have eM : dueM s = offM s := by unfold dueM offM; rw [if_neg hlt]
    cases how : s.ow with
    | false =>
      have HT : Hid (dueM s = s ∧ dueL s = []) := ⟨by rw [eM]; unfold offM; rw [← how], by unfold dueL; rw [if_neg hlt, how]; simp⟩
      have c7 : w.cell? ⟨p, 5, none⟩ = some (.bool false) := by rw [← how]; exact c5
      by_cases hbig : n < x + 8
      · have k2 : decide ((n : Int) < (x : Int) + 8) = true := by simp; omega
        have k33 : decide (z < n) = false := by simp; omega
        clear c5 hpw hb hal hal0 hp b1 b2 b3 b4 hup hn hn2 hx hz hto hton hlt hbig ok hb0 how eM hez k3
        go_enter Try.func20, Try.ntmps20
        go_wp2_with fail
        go_ret
        rw [HT.out.1, HT.out.2]
        exact TrL.nil HRS.out (Chg.refl _ _)

      · have k2 : decide ((n : Int) < (x : Int) + 8) = false := by simp; omega
        have k33 : decide ((z : Int) < (x : Int) + 8) = false := by simp; omega
        clear c5 hpw hb hal hal0 hp b1 b2 b3 b4 hup hn hn2 hx hz hto hton hlt hbig ok hb0 how eM hez k3
        go_enter Try.func20, Try.ntmps20
        go_wp2_with fail
        go_ret
        rw [HT.out.1, HT.out.2]
        exact TrL.nil HRS.out (Chg.refl _ _)

    | true =>
      have HT : Hid (dueM s = offM s ∧ dueL s = [⟨0, s.tk, []⟩]) := ⟨eM, by unfold dueL; rw [if_neg hlt, how]; simp⟩
      have c7 : w.cell? ⟨p, 5, none⟩ = some (.bool true) := by rw [← how]; exact c5
      obtain ⟨T, hT⟩ : ∃ T : Int, T = s.tk := ⟨_, rfl⟩
      have c4 : w.cell? ⟨p, 4, none⟩ = some (.int .u64 T) := by rw [hT]; exact BlkAt.cell hb (j := 4) rfl
      obtain ⟨w2, hw2⟩ : ∃ w2, w2 = w.setCell ⟨p, 5, none⟩ (.bool false) := ⟨_, rfl⟩
      have hq : Chg [p] w w2 := by rw [hw2]; exact (Chg.refl _ _).set (by simp) _ _
      have HR2 : Hid (RSm w0 p r (offM s) pre w2) := by
        refine ⟨.slice va (pre ++ s.line).length vc, ?_, hal0.chg hq (fun h => by simpa using h), hp⟩
        have h9 := hb.set 5 (.bool false)
        rw [← hn, hw2]
        exact h9
      have HC2 := Lib.hid hq
      have HW2 := Lib.hid hw2
      have HTT := Lib.hid hT
      by_cases hbig : n < x + 8
      · have k2 : decide ((n : Int) < (x : Int) + 8) = true := by simp; omega
        have k33 : decide (z < n) = false := by simp; omega
        clear c5 hpw hb hal hal0 hp b1 b2 b3 b4 hup hn hn2 hx hz hto hton hlt hbig ok hb0 how eM hez k3 hT hw2 hq
        go_enter Try.func20, Try.ntmps20
        go_wp2_with fail
        go_ret
        rw [← HW2.out, HT.out.1, HT.out.2]
        refine ⟨_, [(⟨0, s.tk, []⟩, .slice none 0 0)], rfl, rfl, ?_, fun x hx => by simp at hx; subst hx; exact kn_nil _, HR2.out.later (ba1 _ _), HC2.out.alloc _⟩
        rw [HTT.out]
        have h9 := World.ownsRow_lit (base := w.heap.size) (e := 35) (size := 3) w2 #[.int .u64 0, .int .u64 (s.tk : Int), .slice none 0 0] 1 HC2.out.size (by decide) rfl
        rw [show w2.heap.size = w.heap.size by rw [HW2.out]; simp] at h9
        exact h9

      · have k2 : decide ((n : Int) < (x : Int) + 8) = false := by simp; omega
        have k33 : decide ((z : Int) < (x : Int) + 8) = false := by simp; omega
        clear c5 hpw hb hal hal0 hp b1 b2 b3 b4 hup hn hn2 hx hz hto hton hlt hbig ok hb0 how eM hez k3 hT hw2 hq
        go_enter Try.func20, Try.ntmps20
        go_wp2_with fail
        go_ret
        rw [← HW2.out, HT.out.1, HT.out.2]
        refine ⟨_, [(⟨0, s.tk, []⟩, .slice none 0 0)], rfl, rfl, ?_, fun x hx => by simp at hx; subst hx; exact kn_nil _, HR2.out.later (ba1 _ _), HC2.out.alloc _⟩
        rw [HTT.out]
        have h9 := World.ownsRow_lit (base := w.heap.size) (e := 35) (size := 3) w2 #[.int .u64 0, .int .u64 (s.tk : Int), .slice none 0 0] 1 HC2.out.size (by decide) rfl
        rw [show w2.heap.size = w.heap.size by rw [HW2.out]; simp] at h9
        exact h9

end Go.Proofs.Ytadcpmfphcapfaa
