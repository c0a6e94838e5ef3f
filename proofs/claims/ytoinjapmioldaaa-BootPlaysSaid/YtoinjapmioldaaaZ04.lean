/- The reference's Slots: the walk.
   The walk of the reference's Read.
   The walk of the reference's Write.
   The reference's Good: the walk.
   boot.ready, boot.both: the walks. -/
import Derived.Deep.QuietTactic
import Derived.BigQuiet
import Derived.StillTailTactics
import Derived.Test.YtoinjapmioldaaaZ01
import Derived.Test.YtoinjapmioldaaaZ02
import Derived.Test.YtoinjapmioldaaaZ03

set_option linter.unusedSimpArgs false
set_option linter.unusedVariables false
namespace Go.Proofs.Ytoinjapmioldaaa
open Go.RowKit
attribute [local go_sem ↓] Go.wp_at_zero Go.wp_at_succ

def rE (s : St) : Int := if s.c.length < 32 then 2 else if s.dead = true then 7 else 0
set_option maxHeartbeats 1000000 in
set_option maxRecDepth 100000 in
theorem readyB {p g cap : Nat} {s : St} {w : World} (h : PSt p g cap s w) :
    Calls Try.prog 43 #[.pointer (some ⟨p, 0, none⟩)] w fun e w' => e = .returned (.int .i64 (rE s)) ∧ w = w' := by
  have HL := Lib.hid (lenS h)
  have HD := Lib.hid (deadS h)
  have t0 : ((s.c.length : Int) == 0) = false := by have := h.pos; rw [beq_eq_false_iff_ne]; omega
  by_cases hl : s.c.length < 32
  · have t1 : decide ((s.c.length : Int) < 32) = true := by simp; omega
    have HE : Hid (rE s = 2) := by
      have : rE s = 2 := if_pos hl
      exact this
    clear h hl
    go_enter Try.func43, Try.ntmps43
    go_wp2_with fail
    refine HL.out.mono ?_
    rintro e w1 ⟨rfl, rfl⟩
    go_wp2_with fail
    refine HL.out.mono ?_
    rintro e w1 ⟨rfl, rfl⟩
    go_wp2_with fail
    go_ret
    rw [HE.out]
    exact ⟨rfl, rfl⟩
  · have t1 : decide ((s.c.length : Int) < 32) = false := by simp; omega
    have HE : Hid (rE s = if s.dead = true then 7 else 0) := by
      have : rE s = if s.dead = true then 7 else 0 := if_neg hl
      exact this
    obtain ⟨d, hd⟩ : ∃ d, d = s.dead := ⟨_, rfl⟩
    rw [← hd] at HD HE
    clear h hl hd
    cases d
    · go_enter Try.func43, Try.ntmps43
      go_wp2_with fail
      refine HL.out.mono ?_
      rintro e w1 ⟨rfl, rfl⟩
      go_wp2_with fail
      refine HL.out.mono ?_
      rintro e w1 ⟨rfl, rfl⟩
      go_wp2_with fail
      refine HD.out.mono ?_
      rintro e w1 ⟨rfl, rfl⟩
      go_wp2_with fail
      go_ret
      rw [HE.out]
      exact ⟨rfl, rfl⟩
    · go_enter Try.func43, Try.ntmps43
      go_wp2_with fail
      refine HL.out.mono ?_
      rintro e w1 ⟨rfl, rfl⟩
      go_wp2_with fail
      refine HL.out.mono ?_
      rintro e w1 ⟨rfl, rfl⟩
      go_wp2_with fail
      refine HD.out.mono ?_
      rintro e w1 ⟨rfl, rfl⟩
      go_wp2_with fail
      go_ret
      rw [HE.out]
      exact ⟨rfl, rfl⟩
/-- Two numbers' block, two flags' block. -/
def nB (b x y : Nat) (w : World) : Prop := BlkAt 63 b [.int .u64 (x : Int), .int .u64 (y : Int)] w
def oB (b : Nat) (x y : Bool) (w : World) : Prop := BlkAt 64 b [.bool x, .bool y] w
/-- What is read of both, so many rounds on. -/
def kN (s : St) (k j : Nat) : Nat := if j < k then sN s j else 0
def kO (s : St) (k j : Nat) : Bool := if j < k then sO s j else false
def nA (x y : Nat) : Value := .agg #[.int .u64 (x : Int), .int .u64 (y : Int)]
def oA (x y : Bool) : Value := .agg #[.bool x, .bool y]
theorem load_nB {b x y : Nat} {w : World} (h : nB b x y w) : (loadVar 63 ⟨b, 0, none⟩).run Try.prog w = .ok (nA x y) w :=
  run_loadVar_row w b _ _ _ (0, 0) _ h Try.underlying63 (by rfl) (by kernel_rfl)
theorem load_oB {b : Nat} {x y : Bool} {w : World} (h : oB b x y w) : (loadVar 64 ⟨b, 0, none⟩).run Try.prog w = .ok (oA x y) w :=
  run_loadVar_row w b _ _ _ (0, 0) _ h Try.underlying64 (by rfl) (by kernel_rfl)
/-- Two arrays told by named results. -/
theorem results_cell2 {fn : Func} {p u : Tmp} {ty ty2 : TypeId} (h : fn.results = #[.cell p ty, .cell u ty2]) {tmps : Array Value} {P : Program} {w : World} {g g2 : Nat} {v v2 : Value}
    (hp : tmps.getD p undef = .pointer (some ⟨g, 0, none⟩)) (hg : (loadVar ty ⟨g, 0, none⟩).run P w = .ok v w)
    (hp2 : tmps.getD u undef = .pointer (some ⟨g2, 0, none⟩)) (hg2 : (loadVar ty2 ⟨g2, 0, none⟩).run P w = .ok v2 w) :
    (results fn tmps).run P w = .ok (.tuple #[v, v2]) w := by
  have hp' : tmps[p]?.getD undef = .pointer (some ⟨g, 0, none⟩) := by simpa using hp
  have hp2' : tmps[u]?.getD undef = .pointer (some ⟨g2, 0, none⟩) := by simpa using hp2
  simp [results, h, hp', hp2', asAddr, hg, hg2, Result.andThen]
/-- What stands behind so many rounds. -/
structure BW (s : St) (k : Nat) (w wr : World) : Prop where
  nb : nB w.heap.size (kN s k 0) (kN s k 1) wr
  ob : oB (w.heap.size + 1) (kO s k 0) (kO s k 1) wr
  bel : Below w.heap.size w wr
  sz : w.heap.size + 2 ≤ wr.heap.size
set_option maxHeartbeats 4000000 in
set_option maxRecDepth 100000 in
theorem BW.step {s : St} {k : Nat} {w wr : World} (h : BW s k w wr) (hk : k < 2) : BW s (k + 1) w ((wr.setCell ⟨w.heap.size, k, none⟩ (.int .u64 (sN s k : Int))).setCell ⟨w.heap.size + 1, k, none⟩ (.bool (sO s k))) := by
  obtain ⟨h1, h2, h3, h4⟩ := h
  have h1a := h1.set k (.int .u64 (sN s k : Int))
  have h2a := BlkAt.other h2 (b := w.heap.size) (by omega) k (.int .u64 (sN s k : Int))
  have h1b := BlkAt.other h1a (b := w.heap.size + 1) (by omega) k (.bool (sO s k))
  have h2b := h2a.set k (.bool (sO s k))
  refine ⟨?_, ?_, (h3.setCell (Nat.le_refl _) _).setCell (by simp) _, by simpa using h4⟩
  · match k, hk with
    | 0, _ => exact h1b
    | 1, _ => exact h1b
  · match k, hk with
    | 0, _ => exact h2b
    | 1, _ => exact h2b
theorem BW.drew {s : St} {k : Nat} {w wr : World} (h : BW s k w wr) : BW s k w wr.drew := ⟨h.nb, h.ob, h.bel.drew, h.sz⟩
theorem BW.putN {s : St} {k : Nat} {w wr : World} (h : BW s k w wr) : BW s k w ((wr.setCell ⟨w.heap.size, 0, none⟩ (.int .u64 (kN s k 0 : Int))).setCell ⟨w.heap.size, 1, none⟩ (.int .u64 (kN s k 1 : Int))) :=
  ⟨BlkAt.set (BlkAt.set h.nb 0 _) 1 _, BlkAt.other (BlkAt.other h.ob (by omega) 0 _) (by omega) 1 _, (h.bel.setCell (Nat.le_refl _) _).setCell (Nat.le_refl _) _, by simpa using h.sz⟩
theorem BW.putO {s : St} {k : Nat} {w wr : World} (h : BW s k w wr) : BW s k w ((wr.setCell ⟨w.heap.size + 1, 0, none⟩ (.bool (kO s k 0))).setCell ⟨w.heap.size + 1, 1, none⟩ (.bool (kO s k 1))) :=
  ⟨BlkAt.other (BlkAt.other h.nb (by omega) 0 _) (by omega) 1 _, BlkAt.set (BlkAt.set h.ob 0 _) 1 _, (h.bel.setCell (by simp) _).setCell (by simp) _, by simpa using h.sz⟩
theorem BW.later {s : St} {k : Nat} {w wr w' : World} (h : BW s k w wr) (hb : Below wr.heap.size wr w') : BW s k w w' := by
  have := h.sz
  exact ⟨BlkAt.later h.nb hb, BlkAt.later h.ob hb, below_of h.bel hb, Nat.le_trans h.sz hb.size⟩
set_option maxHeartbeats 4000000 in
set_option maxRecDepth 100000 in
theorem bothB {p g cap : Nat} {s : St} {w : World} (h : PSt p g cap s w) :
    Calls Try.prog 44 #[.pointer (some ⟨p, 0, none⟩)] w fun e w' => e = .returned (.tuple #[nA (sN s 0) (sN s 1), oA (sO s 0) (sO s 1)]) ∧ Below w.heap.size w w' := by
  obtain ⟨w1, hw1⟩ : ∃ w1, w1 = (w.alloc (.cells #[.int .u64 0, .int .u64 0] 63)).alloc (.cells #[.bool false, .bool false] 64) := ⟨_, rfl⟩
  have HW0 : Hid (BW s 0 w w1) := by
    have hb : BW s 0 w w1 := by
      have hn := (BlkAt.new (t := 63) w [.int .u64 0, .int .u64 0]).later (ba1 _ (.cells #[.bool false, .bool false] 64))
      have ho := BlkAt.new (t := 64) (w.alloc (.cells #[.int .u64 0, .int .u64 0] 63)) [.bool false, .bool false]
      rw [hw1]
      exact ⟨hn, (by simpa using ho : BlkAt 64 (w.heap.size + 1) [.bool false, .bool false] _), by go_grown, by simp⟩
    exact hb
  have HP := Lib.hid h
  have HW := Lib.hid hw1
  clear h hw1
  go_enter Try.func44, Try.ntmps44
  go_wp2_with fail
  rw [← HW.out]
  go_loopw [7] (fun x wr => ∃ k : Nat, k ≤ 2 ∧ x = .int .i64 k ∧ Hid (BW s k w wr)) (fun x _ => 2 - (intOf x).toNat)
  case atStart => exact ⟨0, by omega, rfl, HW0.out⟩
  case round =>
    obtain ⟨k, hk, rfl, HR⟩ := hrel
    have hP := HP.out.later HR.out.bel
    rcases Nat.lt_or_ge k 2 with hlt | hge
    · have q : k = 0 ∨ k = 1 := by omega
      have HBL := Lib.hid HR.out.bel
      rcases q with rfl | rfl
      · have HRD := Lib.hid (readS hP 0 16 (by omega))
        unfold RdA at HRD
        clear hP hlt hk
        go_wp2_with fail
        refine HRD.out.mono ?_
        rintro e w2 ⟨v, rfl, hv, hb⟩
        have HR2 := Lib.hid (HR.out.later hb)
        have HG := Lib.hid (goodW hv)
        obtain ⟨a, c, rfl⟩ := hv.form
        clear hv hb HBL HRD
        go_wp2_with fail
        refine HG.out.mono ?_
        rintro e w3 ⟨rfl, rfl⟩
        have hn0 := BlkAt.cell HR2.out.nb (j := 0) rfl
        have ho0 := BlkAt.cell HR2.out.ob (j := 0) rfl
        have hf1 := fun j => BlkAt.frozen HR2.out.nb j
        have hf2 := fun j => BlkAt.frozen HR2.out.ob j
        go_wp2_with fail
        go_roundw
        case rel => exact ⟨1, by omega, rfl, HR2.out.step (by omega)⟩
        case measure => simp [intOf]
      · have HRD := Lib.hid (readS hP 16 16 (by omega))
        unfold RdA at HRD
        clear hP hlt hk
        go_wp2_with fail
        refine HRD.out.mono ?_
        rintro e w2 ⟨v, rfl, hv, hb⟩
        have HR2 := Lib.hid (HR.out.later hb)
        have HG := Lib.hid (goodW hv)
        obtain ⟨a, c, rfl⟩ := hv.form
        clear hv hb HBL HRD
        go_wp2_with fail
        refine HG.out.mono ?_
        rintro e w3 ⟨rfl, rfl⟩
        have hn0 := BlkAt.cell HR2.out.nb (j := 1) rfl
        have ho0 := BlkAt.cell HR2.out.ob (j := 1) rfl
        have hf1 := fun j => BlkAt.frozen HR2.out.nb j
        have hf2 := fun j => BlkAt.frozen HR2.out.ob j
        go_wp2_with fail
        go_roundw
        case rel => exact ⟨2, by omega, rfl, HR2.out.step (by omega)⟩
        case measure => simp [intOf]
    · obtain rfl : k = 2 := by omega
      clear hP hge hk
      have hn0 := BlkAt.cell HR.out.nb (j := 0) rfl
      have hn1 := BlkAt.cell HR.out.nb (j := 1) rfl
      have ho0 := BlkAt.cell HR.out.ob (j := 0) rfl
      have ho1 := BlkAt.cell HR.out.ob (j := 1) rfl
      have hf1 := fun j => BlkAt.frozen HR.out.nb j
      have hf2 := fun j => BlkAt.frozen HR.out.ob j
      go_wp2_with fail
      (refine wp_region_held_drew (S := (fun w' => BW s 2 w w')) (by kernel_rfl) ?_ (fun hHeld => ?_); (focus ((try dsimp only); (exact HR.out.drew))))
      (try dsimp only at hHeld)
      (refine wpAnyH_take (i := 0) (v := ?_) rfl (by kernel_rfl) (by kernel_rfl) (by kernel_rfl) (fun _ _ _ h => h) (Or.inl ⟨by rfl, ?_⟩) hHeld ?_; rotate_left; (focus (intro w hSw; (try dsimp only at hSw); go_simp; (have c0 := BlkAt.cell (BW.nb hSw) (j := 0) rfl; have c1 := BlkAt.cell (BW.nb hSw) (j := 1) rfl; go_simp; try with_reducible rfl))); (try simp only [Act.put, List.setIfInBounds_toArray, List.set_cons_zero, List.set_cons_succ, List.getElem_toArray, List.getElem_cons_zero]))
      (refine wpAnyH_take (i := 1) (v := ?_) rfl (by kernel_rfl) (by kernel_rfl) (by kernel_rfl) (fun _ _ _ h => h) (Or.inl ⟨by rfl, ?_⟩) hHeld ?_; rotate_left; (focus (intro w hSw; (try dsimp only at hSw); go_simp; (have c0 := BlkAt.cell (BW.ob hSw) (j := 0) rfl; have c1 := BlkAt.cell (BW.ob hSw) (j := 1) rfl; go_simp; try with_reducible rfl))); (try simp only [Act.put, List.setIfInBounds_toArray, List.set_cons_zero, List.set_cons_succ, List.getElem_toArray, List.getElem_cons_zero, List.getElem_cons_succ]))
      clear hn0 hn1 ho0 ho1 hf1 hf2
      obtain ⟨wd, hwd⟩ : ∃ wd, wd = wr.drew := ⟨_, rfl⟩
      rw [← hwd] at hHeld ⊢
      clear hwd
      have hf1 := fun j => BlkAt.frozen hHeld.nb j
      have hn0 := BlkAt.cell hHeld.nb (j := 0) rfl
      have hn1 := BlkAt.cell hHeld.nb (j := 1) rfl
      have hf2 := fun j => BlkAt.frozen hHeld.putN.ob j
      have ho0 := BlkAt.cell hHeld.putN.ob (j := 0) rfl
      have ho1 := BlkAt.cell hHeld.putN.ob (j := 1) rfl
      (refine wpAnyH_ready (rs := [2]) (by kernel_rfl) (by simp) ?_; refine AllReadyH.cons rfl (fun K hK => ?_) AllReadyH.nil; go_simp; skip; refine hK.out _ _ ?_ (fun hHeldN => ?_); (focus ((try dsimp only); exact hHeld.putN)); clear hK K hHeld; have hHeld := hHeldN; clear hHeldN; (try simp only [Act.put, List.setIfInBounds_toArray, List.set_cons_zero, List.set_cons_succ, List.getElem_toArray, List.getElem_cons_zero, List.getElem_cons_succ]))
      (refine wpAnyH_ready (rs := [3]) (by kernel_rfl) (by simp) ?_; refine AllReadyH.cons rfl (fun K hK => ?_) AllReadyH.nil; go_simp; skip; refine hK.out _ _ ?_ (fun hHeldN => ?_); (focus ((try dsimp only); exact hHeld.putO)); clear hK K hHeld; have hHeld := hHeldN; clear hHeldN; (try simp only [Act.put, List.setIfInBounds_toArray, List.set_cons_zero, List.set_cons_succ, List.getElem_toArray, List.getElem_cons_zero, List.getElem_cons_succ]))
      refine wpAnyH_done (by kernel_rfl) ?_ _
      go_wp2_with fail
      (try simp only [Exit.inBlock, Exit.then])
      refine ⟨rfl, _, results_cell2 rfl rfl (load_nB hHeld.nb) rfl (load_oB hHeld.ob), ?_⟩
      exact ⟨rfl, hHeld.bel⟩
end Go.Proofs.Ytoinjapmioldaaa

namespace Go.Proofs.Ytoinjapmioldaaa
open Go.RowKit
attribute [local go_sem ↓] Go.wp_at_zero Go.wp_at_succ

theorem w64x {x : Nat} (h : x < 256) : IntKind.u64.wrap (x : Int) = (x : Int) := IntWalk.u64_in _ ⟨by omega, by omega⟩
theorem w64s {m x : Nat} (hm : m < 72057594037927936) (h : x < 256) : IntKind.u64.wrap ((m : Int) * 256 + (x : Int)) = (m : Int) * 256 + (x : Int) := IntWalk.u64_in _ ⟨by omega, by omega⟩
theorem w64i {k : Nat} (h : k < 8) : IntKind.i64.wrap (8 + (k : Int)) = 8 + (k : Int) := IntWalk.i64_in _ ⟨by omega, by omega⟩
theorem w8s {x y : Nat} (hx : x < 256) (hy : y < 256) : (((x : Int) + (y : Int)) % 256 != 255) = decide (x + y ≠ 255) := by
  by_cases h : x + y = 255
  · rw [decide_eq_false (by omega), show (x : Int) + (y : Int) = 255 by omega]; rfl
  · rw [decide_eq_true h]
    exact bne_iff_ne.2 (by omega)
/-- So many bytes fit. -/
def fits (l : List UInt8) (k : Nat) : Prop := ∀ (i : Nat) (x y : UInt8), i < k → l[i]? = some x → l[8 + i]? = some y → x.toNat + y.toNat = 255
theorem fits_step {l : List UInt8} {k : Nat} {x y : UInt8} (h : fits l k) (hx : l[k]? = some x) (hy : l[8 + k]? = some y) (e : x.toNat + y.toNat = 255) : fits l (k + 1) := by
  intro i u v hi hu hv
  rcases Nat.lt_or_ge i k with h1 | h1
  · exact h i u v h1 hu hv
  · obtain rfl : i = k := by omega
    rw [hx] at hu; rw [hy] at hv
    cases hu; cases hv; exact e
theorem gd_fits {l : List UInt8} (hl : l.length = 16) (h : fits l 8) : gdO l = true ∧ gdN l = getL (l.take 8) := by
  have e : gdO l = true := (gdO_all hl).2 h
  exact ⟨e, by unfold gdN; rw [if_pos e]⟩
theorem gd_bad {l : List UInt8} (hl : l.length = 16) {k : Nat} {x y : UInt8} (hk : k < 8) (hx : l[k]? = some x) (hy : l[8 + k]? = some y) (e : x.toNat + y.toNat ≠ 255) : gdO l = false ∧ gdN l = 0 := by
  have : gdO l = false := by
    cases h : gdO l with
    | false => rfl
    | true => exact absurd ((gdO_all hl).1 h k x y hk hx hy) e
  exact ⟨this, gdN_no this⟩
set_option maxHeartbeats 4000000 in
set_option maxRecDepth 100000 in
theorem goodR {v : Value} {l : List UInt8} {w : World} (hv : Bytes w v l) :
    Calls Try.prog 25 #[v] w fun e w' => e = .returned (.tuple #[.int .u64 (gdN l : Nat), .bool (gdO l)]) ∧ Below w.heap.size w w' := by
  obtain ⟨a, c, rfl⟩ := hv.form
  have HV := Lib.hid hv
  clear hv
  by_cases h : l.length = 16
  · rw [h] at HV ⊢
    have HH := Lib.hid h
    clear h
    go_enter Try.func25, Try.ntmps25
    go_wp2_with fail
    go_loopw [4, 5] (fun n i wr => ∃ k : Nat, k ≤ 8 ∧ i = .int .i64 (k : Int) ∧ n = .int .u64 ((getL (l.take k) : Nat) : Int) ∧ Hid (fits l k) ∧ Hid (Below w.heap.size w wr)) (fun _ i _ => 8 - (intOf i).toNat)
    case atStart => exact ⟨0, by omega, rfl, by simp [getL], fun i x y hi => by omega, Below.refl _ _⟩
    case round =>
      obtain ⟨k, hk, rfl, rfl, HF, HB⟩ := hrel
      have hlen := HH.out
      rcases Nat.lt_or_ge k 8 with hlt | hge
      · have g1 : (k : Int) < 8 := by omega
        have HVW := HV.out.later HB.out
        obtain ⟨bl, bo, rfl, hbl, hc1⟩ := Bytes.at HVW (i := k) (by omega)
        obtain ⟨_, _, e9, _, hc2⟩ := Bytes.at HVW (i := 8 + k) (by omega)
        cases e9
        obtain ⟨x, hx⟩ : ∃ x, x = l[k] := ⟨_, rfl⟩
        obtain ⟨y, hy⟩ : ∃ y, y = l[8 + k] := ⟨_, rfl⟩
        have HX : Hid (l[k]? = some x ∧ l[8 + k]? = some y) := ⟨by rw [hx]; exact List.getElem?_eq_getElem (by omega), by rw [hy]; exact List.getElem?_eq_getElem (by omega)⟩
        have hs := getL_take l k (by omega)
        have hb := getL_take_lt l (k := k) (by omega) (by omega)
        rw [← hx] at hc1 hs
        rw [← hy] at hc2
        obtain ⟨m, hm⟩ : ∃ m, m = getL (l.take k) := ⟨_, rfl⟩
        rw [← hm] at hs hb ⊢
        have HS := Lib.hid hs
        have g2 : (k : Int) < 16 := by omega
        have g3 : (8 + (k : Int)) < 16 := by omega
        have g4 : k < 16 := by omega
        have g5 : 8 + k < 16 := by omega
        have xb := x.toNat_lt
        have yb := y.toNat_lt
        have u1 := w64x xb
        have u2 := w64s hb xb
        obtain ⟨k8, hk8⟩ : ∃ k8, k8 = 8 + k := ⟨_, rfl⟩
        have u3 : IntKind.i64.wrap (8 + (k : Int)) = (k8 : Int) := by rw [w64i hlt]; omega
        rw [← hk8] at hc2 g5
        have g6 : (k8 : Int) < 16 := by omega
        have q9 := w8s xb yb
        have HFS : Hid (x.toNat + y.toNat = 255 → fits l (k + 1)) := fun e => fits_step HF.out HX.out.1 HX.out.2 e
        have HBD : Hid (x.toNat + y.toNat ≠ 255 → gdO l = false ∧ gdN l = 0) := fun e => gd_bad hlen hlt HX.out.1 HX.out.2 e
        clear hx hy hs hm HVW hk hlen hk8 g3
        by_cases he : x.toNat + y.toNat = 255
        · have HF2 := Lib.hid (HFS.out he)
          rw [decide_eq_false (by omega)] at q9
          clear he hlt xb yb
          go_wp2_with fail
          go_quiet (fail)
          go_wp2_with fail
          go_roundw
          case rel => exact ⟨k + 1, by omega, by go_num, by rw [HS.out]; go_num, HF2, HB.out.trans (below_dr0 _ _ _)⟩
          case measure => simp [intOf]; omega
        · have HF2 := Lib.hid (HBD.out he)
          rw [decide_eq_true he] at q9
          clear he hlt xb yb
          go_wp2_with fail
          go_quiet (fail)
          go_wp2_with fail
          go_ret2
          rw [HF2.out.1, HF2.out.2]
          exact ⟨rfl, HB.out.trans (below_dr0 _ _ _)⟩
      · obtain rfl : k = 8 := by omega
        have HG := Lib.hid (gd_fits hlen HF.out)
        clear hk hge hlen
        go_wp2_with fail
        go_ret2
        rw [HG.out.1, HG.out.2]
        exact ⟨rfl, HB.out⟩
  · have e : gdO l = false ∧ gdN l = 0 := by
      have : gdO l = false := by unfold gdO; simp [h]
      exact ⟨this, gdN_no this⟩
    have ht : ((l.length : Int) != 16) = true := bne_iff_ne.2 (by omega)
    clear h
    go_enter Try.func25, Try.ntmps25
    go_wp2_with fail
    go_ret2
    rw [e.1, e.2]
    exact ⟨rfl, Below.refl _ _⟩
end Go.Proofs.Ytoinjapmioldaaa

namespace Go.Proofs.Ytoinjapmioldaaa
open Go.RowKit
attribute [local go_sem ↓] Go.wp_at_zero Go.wp_at_succ

theorem RSt.put {q b u cb cu : Nat} {s : St} {w : World} (h : RSt q b u cb cu s w) (k : Nat) (c : Ce) (hk : k < s.c.length) :
    RSt q b u cb cu { s with c := s.c.set k c } ((w.setCell ⟨b, k, none⟩ (.int .u8 (c.1.toNat : Int))).setCell ⟨u, k, none⟩ (.bool c.2)) ∧ Chg [b, u] w ((w.setCell ⟨b, k, none⟩ (.int .u8 (c.1.toNat : Int))).setCell ⟨u, k, none⟩ (.bool c.2)) := by
  have hc1 : Chg [b] w (w.setCell ⟨b, k, none⟩ (.int .u8 (c.1.toNat : Int))) := (Chg.refl _ _).set (by simp) _ _
  have hc2 : Chg [u] (w.setCell ⟨b, k, none⟩ (.int .u8 (c.1.toNat : Int))) ((w.setCell ⟨b, k, none⟩ (.int .u8 (c.1.toNat : Int))).setCell ⟨u, k, none⟩ (.bool c.2)) := (Chg.refl _ _).set (by simp) _ _
  have hc : Chg [b, u] w _ := (hc1.mono (l' := [b, u]) (by simp)).trans (hc2.mono (l' := [b, u]) (by simp))
  have h1 := (World.ownsRow.stored h.row k (.int .u8 (c.1.toNat : Int))).1
  rw [bv_put] at h1
  have h2 := hc2.owns h1 (fun j hj => by simp [Value.ownBlock] at hj; have := h.n3; simp; omega)
  have h3 := hc1.owns h.flg (fun j hj => by simp [Value.ownBlock] at hj; have := h.n3; simp; omega)
  have h4 := (World.ownsRow.stored h3 k (.bool c.2)).1
  refine ⟨⟨?_, ?_, ?_, h.n1, h.n2, h.n3, ?_, ?_, ?_, ?_, h.fu⟩, hc⟩
  · have := hc.blk h.blk (by have := h.n1; have := h.n2; simp; omega)
    unfold rcs at this ⊢
    simp only [List.length_set]
    exact this
  · simp only [List.length_set, List.map_set]; exact h2
  · simp only [List.length_set]
    rw [show fv (s.c.set k c) = (fv s.c).set k (.bool c.2) by unfold fv; rw [List.map_set]]
    exact h4
  · have := h.pos; simp only [List.length_set]; omega
  · have := h.few; simp only [List.length_set]; omega
  · have := h.cb; simp only [List.length_set]; omega
  · have := h.cu; simp only [List.length_set]; omega
theorem RSt.die {q b u cb cu : Nat} {s : St} {w : World} (h : RSt q b u cb cu s w) : RSt q b u cb cu { s with dead := true } (w.setCell ⟨q, 5, none⟩ (.bool true)) ∧ Chg [q] w (w.setCell ⟨q, 5, none⟩ (.bool true)) := by
  have hc : Chg [q] w (w.setCell ⟨q, 5, none⟩ (.bool true)) := (Chg.refl _ _).set (by simp) _ _
  exact ⟨⟨h.blk.set 5 _, hc.owns h.row (fun k hk => by simp [Value.ownBlock] at hk; have := h.n1; simp; omega), hc.owns h.flg (fun k hk => by simp [Value.ownBlock] at hk; have := h.n2; simp; omega), h.n1, h.n2, h.n3, h.pos, h.few, h.cb, h.cu, h.fu⟩, hc⟩
theorem RSt.burn {q b u cb cu : Nat} {s : St} {w : World} (h : RSt q b u cb cu s w) (f : Int) (hf : f ≤ 9223372036854775807) : RSt q b u cb cu { s with fuse := f } (w.setCell ⟨q, 2, none⟩ (.int .i64 f)) ∧ Chg [q] w (w.setCell ⟨q, 2, none⟩ (.int .i64 f)) := by
  have hc : Chg [q] w (w.setCell ⟨q, 2, none⟩ (.int .i64 f)) := (Chg.refl _ _).set (by simp) _ _
  exact ⟨⟨h.blk.set 2 _, hc.owns h.row (fun k hk => by simp [Value.ownBlock] at hk; have := h.n1; simp; omega), hc.owns h.flg (fun k hk => by simp [Value.ownBlock] at hk; have := h.n2; simp; omega), h.n1, h.n2, h.n3, h.pos, h.few, h.cb, h.cu, hf⟩, hc⟩
theorem RSt.drew {q b u cb cu : Nat} {s : St} {w : World} (h : RSt q b u cb cu s w) : RSt q b u cb cu s w.drew := ⟨h.blk, h.row, h.flg, h.n1, h.n2, h.n3, h.pos, h.few, h.cb, h.cu, h.fu⟩
theorem RSt.put2 {q b u cb cu : Nat} {s : St} {w : World} (h : RSt q b u cb cu s w) (k : Nat) (c : Ce) (hk : k < s.c.length) :
    RSt q b u cb cu { s with c := s.c.set k c } ((w.setCell ⟨b, k, none⟩ (.int .u8 (c.1.toNat : Int))).drew.setCell ⟨u, k, none⟩ (.bool c.2)) ∧ Chg [b, u] w ((w.setCell ⟨b, k, none⟩ (.int .u8 (c.1.toNat : Int))).drew.setCell ⟨u, k, none⟩ (.bool c.2)) := by
  obtain ⟨h1, h2⟩ := h.put k c hk
  exact ⟨h1.drew, h2.drew⟩
theorem Bytes.cellAt {w : World} {bl bo n c : Nat} {l : List UInt8} (h : Bytes w (.slice (some ⟨bl, bo, none⟩) n c) l) {i : Nat} (hi : i < l.length) : w.cell? ⟨bl, bo + i, none⟩ = some (.int .u8 (l[i].toNat : Int)) := by
  obtain ⟨b', o', e, _, h2⟩ := h.at hi
  simp only [Option.some.injEq, Addr.mk.injEq, and_true] at e
  obtain ⟨rfl, rfl⟩ := e
  exact h2
theorem RSt.put3 {q b u cb cu : Nat} {s : St} {w : World} (h : RSt q b u cb cu s w) (k : Nat) (c : Ce) (hk : k < s.c.length) :
    RSt q b u cb cu { s with c := s.c.set k c } ((w.setCell ⟨b, k, none⟩ (.int .u8 (c.1.toNat : Int))).setCell ⟨u, k, none⟩ (.bool c.2)) ∧ Chg [q, b, u] w ((w.setCell ⟨b, k, none⟩ (.int .u8 (c.1.toNat : Int))).setCell ⟨u, k, none⟩ (.bool c.2)) := by
  obtain ⟨h1, h2⟩ := h.put k c hk
  exact ⟨h1, h2.mono (by simp)⟩
/-- Between both stores. -/
theorem RSt.half {q b u cb cu : Nat} {s : St} {w : World} (h : RSt q b u cb cu s w) (k : Nat) (x : Value) {y : Value} (hy : w.cell? ⟨u, k, none⟩ = some y) :
    ((w.setCell ⟨b, k, none⟩ x).cell? ⟨q, 1, none⟩ = some (.slice (some ⟨u, 0, none⟩) s.c.length cu) ∧ (w.setCell ⟨b, k, none⟩ x).cell? ⟨q, 4, none⟩ = some (.bool s.torn)) ∧ (w.setCell ⟨b, k, none⟩ x).cell? ⟨u, k, none⟩ = some y ∧ (w.setCell ⟨b, k, none⟩ x).frozen? ⟨u, k, none⟩ = false := by
  have hc : Chg [b] w (w.setCell ⟨b, k, none⟩ x) := (Chg.refl _ _).set (by simp) _ _
  have hb := hc.blk h.blk (by have := h.n1; simp; omega)
  have hu := hc.rest u h.lt.2.2 (by have := h.n3; simp; omega)
  refine ⟨⟨hb.cell (j := 1) rfl, hb.cell (j := 4) rfl⟩, ?_, ?_⟩
  · rw [World.cell?_of_block (a := ⟨u, k, none⟩) hu]; exact hy
  · rw [World.frozen?_of_block (a := ⟨u, k, none⟩) hu]; exact h.flg.frozenAt k
/-- What the reference's Write leaves. -/
def WrR (q b u cb cu : Nat) (s : St) (a : Int) (l : List UInt8) (w : World) (e : Ending) (w' : World) : Prop :=
  e = .returned (.int .i64 (wrE s a l)) ∧ RSt q b u cb cu (wrS s a l) w' ∧ Chg [q, b, u] w w'
set_option maxHeartbeats 4000000 in
set_option maxRecDepth 100000 in
theorem writeR {q b u cb cu : Nat} {s : St} {w : World} (h : RSt q b u cb cu s w) (a : Int) (v : Value) (l : List UInt8) (hl : l.length ≤ 9223372036854775807) (hv : ∀ W, Chg [q, b, u] w W → Bytes W v l) :
    Calls Try.prog 36 #[.pointer (some ⟨q, 0, none⟩), .int .i64 a, v] w (WrR q b u cb cu s a l w) := by
  obtain ⟨va, vc, rfl⟩ := (hv w (Chg.refl _ _)).form
  have H := Lib.hid (withinS h a l.length (by omega))
  obtain ⟨c0, c1, c2, c3, c4, c5⟩ := h.cells
  unfold WrR
  by_cases hr : redE s a l.length = 0
  · obtain ⟨h0, h1, h2, h3, h4⟩ := wr_yes hr
    obtain ⟨k, rfl⟩ := Int.eq_ofNat_of_zero_le h0
    simp only [Int.toNat_natCast] at h1 h3 h4
    rw [inn_iff.2 ⟨by omega, by omega, by omega⟩] at H
    rw [h2] at c5
    have HP := Lib.hid h
    have HV := Lib.hid hv
    obtain ⟨R, hR⟩ : ∃ R, R = wgo l k s := ⟨_, rfl⟩
    rw [h3, h4, ← hR]
    have HR := Lib.hid hR.symm
    have HD := Lib.hid h2
    obtain ⟨n, hn⟩ : ∃ n, n = s.c.length := ⟨_, rfl⟩
    have HL : Hid (n = s.c.length ∧ k + l.length ≤ n ∧ n ≤ 4096 ∧ q ≠ b ∧ q ≠ u ∧ b ≠ u) := ⟨hn, by omega, by have := h.few; omega, h.n1, h.n2, h.n3⟩
    have g0 : (k : Int) + l.length ≤ n := by omega
    have g9 : (n : Int) ≤ 4096 := by have := h.few; omega
    clear h hv hr h0 h1 h2 h3 h4 hR hn hl c0 c1 c2 c3 c4
    go_enter Try.func36, Try.ntmps36
    go_wp2_with fail
    refine H.out.mono ?_
    rintro e w1 ⟨rfl, rfl⟩
    go_wp2_with fail
    clear c5 H
    go_loopw [7] (fun x wr => ∃ (i : Nat) (si : St), i ≤ l.length ∧ x = .int .i64 i ∧ Hid (RSt q b u cb cu si wr) ∧ Hid (Chg [q, b, u] w wr) ∧ Hid (si.dead = false) ∧ Hid (si.c.length = n) ∧ Hid (wgo (l.drop i) (k + i) si = R)) (fun x _ => l.length - (intOf x).toNat)
    case atStart => exact ⟨0, s, Nat.zero_le _, rfl, HP.out, Chg.refl _ _, HD.out, HL.out.1.symm, by rw [List.drop_zero, Nat.add_zero]; exact HR.out⟩
    case round =>
      obtain ⟨i, si, hi, rfl, HP, HC, HD, HN, HW⟩ := hrel
      rcases Nat.lt_or_ge i l.length with hlt | hge
      · have g1 : (i : Int) < l.length := by omega
        have hw := HW.out
        rw [wgo_at hlt] at hw
        obtain ⟨bl, bo, hva, hbl, hcell⟩ := (show Bytes wr (.slice va l.length vc) l from HV.out _ HC.out).at hlt
        subst hva
        have hki : k + i < si.c.length := by have := HL.out; have := HN.out; omega
        obtain ⟨d0, hfb⟩ := HP.out.atB (List.getElem?_eq_getElem hki)
        obtain ⟨d1, hfu⟩ := HP.out.atU (List.getElem?_eq_getElem hki)
        obtain ⟨c0, c1, c2, c3, c4, c5⟩ := HP.out.cells
        have hfq : ∀ j, wr.frozen? ⟨q, j, none⟩ = false := fun j => HP.out.blk.frozen j
        have e1 : wrap64 ((k : Int) + i) = ((k + i : Nat) : Int) := by rw [IntWalk.wrap64_in _ ⟨by omega, by omega⟩]; omega
        have e2 : IntKind.i64.wrap ((k : Int) + i) = ((k + i : Nat) : Int) := by rw [IntWalk.i64_in _ ⟨by omega, by omega⟩]; omega
        obtain ⟨y, hy⟩ : ∃ y, y = si.c[k + i] := ⟨_, rfl⟩
        rw [← hy] at d0 d1
        have HY0 : Hid (si.c[k + i]? = some y) := by show _ = _; rw [List.getElem?_eq_getElem hki, hy]
        clear hy
        obtain ⟨r, hr⟩ : ∃ r, r = k + i := ⟨_, rfl⟩
        have HY : Hid (si.c[r]? = some y) := by rw [hr]; exact HY0.out
        rw [← hr] at e1 e2 d0 d1 hw
        have hrn : r < n := by have := HN.out; omega
        have g2 : (r : Int) < n := by omega
        obtain ⟨x, hx⟩ : ∃ x, x = l[i] := ⟨_, rfl⟩
        rw [← hx] at hcell hw
        rw [HN.out] at c0 c1
        have HXX := Lib.hid hx
        have HKI := Lib.hid hki
        have HRR := Lib.hid hr
        have HWW := Lib.hid hw
        have HNE := Lib.hid (And.intro HP.out.n1 (And.intro HP.out.n2 HP.out.n3))
        clear hki hr hw hx
        by_cases hf : si.fuse = 0
        · have k1 : (si.fuse == 0) = true := by simp [hf]
          have HF := Lib.hid hf
          clear hf
          go_wp2_with fail
          go_still_tail 12, (by kernel_rfl)
          change wpList _ _ _ _ _ wr.drew
          obtain ⟨w2, hw2⟩ : ∃ w2, w2 = wr.drew := ⟨_, rfl⟩
          rw [← hw2]
          have HP2 : Hid (RSt q b u cb cu si w2) := by rw [hw2]; exact HP.out.drew
          have HC2 : Hid (Chg [q, b, u] w w2) := by rw [hw2]; exact HC.out.drew
          have d0 : w2.cell? ⟨b, r, none⟩ = some (.int .u8 (y.1.toNat : Int)) := by rw [hw2]; exact d0
          have d1 : w2.cell? ⟨u, r, none⟩ = some (.bool y.2) := by rw [hw2]; exact d1
          have hfb : ∀ i, w2.frozen? ⟨b, i, none⟩ = false := by rw [hw2]; exact hfb
          obtain ⟨⟨z1, z4⟩, z5, z6⟩ := HP2.out.half r (.int .u8 (si.by_.toNat : Int)) d1
          rw [HN.out] at z1
          obtain ⟨p1, p2⟩ := HP2.out.put2 r (si.by_, si.torn) (by have := HN.out; omega)
          obtain ⟨p3, p4⟩ := p1.die
          have p5 : Chg [q, b, u] w2 _ := (p2.mono (l' := [q, b, u]) (by simp)).trans (p4.mono (by simp))
          have p6 := HC2.out.trans p5
          have hw := HWW.out
          rw [if_pos HF.out] at hw
          have p7 : RSt q b u cb cu (si.tear r) _ := p3
          rw [hw] at p7
          have HDD := HD.out
          obtain ⟨w3, hw3⟩ : ∃ w3, w3 = w2.setCell ⟨b, r, none⟩ (.int .u8 (si.by_.toNat : Int)) := ⟨_, rfl⟩
          simp only [← hw3] at z1 z4 z5 z6 p1 p6 p7
          obtain ⟨w5, hw5⟩ : ∃ w5, w5 = w3.drew := ⟨_, rfl⟩
          simp only [← hw5] at p1 p6 p7
          obtain ⟨w4, hw4⟩ : ∃ w4, w4 = w5.setCell ⟨u, r, none⟩ (.bool si.torn) := ⟨_, rfl⟩
          simp only [← hw4] at p1 p6 p7
          have HW3 := Lib.hid hw3
          have HW4 := Lib.hid hw4
          have HW5 := Lib.hid hw5
          have HZ := Lib.hid p7
          have HZC := Lib.hid p6
          have hfr : ∀ j, w5.frozen? ⟨q, j, none⟩ = false := fun j => by have := p1.blk.frozen (j := j); rw [hw4, World.frozen?_setCell] at this; exact this
          have x7 := p1.cells.2.2.2.2.2
          simp only at x7
          rw [hw4] at x7
          have x5 : w5.cell? ⟨u, r, none⟩ = some (.bool y.2) := by rw [hw5]; exact z5
          have x6 : w5.frozen? ⟨u, r, none⟩ = false := by rw [hw5]; exact z6
          have hre : (R.dead = true) := by rw [← hw]; rfl
          have HRE := Lib.hid hre
          clear hw2 hw3 hw4 hw5 hw hre p1 p2 p3 p4 p5 p6 p7 HDD c0 c1 c2 c3 c4 c5 hcell hfu hfq
          go_wp2_with fail
          rw [← HW3.out]
          go_still_tail 12, (by kernel_rfl)
          change wpList _ _ _ _ _ w3.drew
          rw [← HW5.out]
          go_wp2_with fail
          go_ret
          rw [← HW4.out]
          exact ⟨by unfold pe; rw [if_pos HRE.out]; rfl, HZ.out, HZC.out⟩
        · have k1 : (si.fuse == 0) = false := by simp [hf]
          have HF := Lib.hid hf
          by_cases hp : 0 < si.fuse
          · clear hf
            have k2 : decide (0 < si.fuse) = true := by simp [hp]
            have hfu0 := HP.out.fu
            have e3 : wrap64 (si.fuse - 1) = si.fuse - 1 := IntWalk.wrap64_in _ ⟨by omega, by omega⟩
            obtain ⟨p1, p2⟩ := HP.out.burn (si.fuse - 1) (by omega)
            obtain ⟨w1, hw1⟩ : ∃ w1, w1 = wr.setCell ⟨q, 2, none⟩ (.int .i64 (si.fuse - 1)) := ⟨_, rfl⟩
            rw [← hw1] at p1 p2
            have HP1 := Lib.hid p1
            have HC1 := Lib.hid (HC.out.trans (p2.mono (l' := [q, b, u]) (by simp)))
            have HW1 := Lib.hid hw1
            have es : si.step r x = { si with c := si.c.set r (x, false), fuse := si.fuse - 1 } := by unfold St.step; rw [if_pos hp]
            have HES := Lib.hid es
            clear hw1 es p1 p2 hfu0 hp
            go_wp2_with fail
            rw [← HW1.out]
            obtain ⟨w2, hw2⟩ : ∃ w2, w2 = w1.drew := ⟨_, rfl⟩
            have HP2 : Hid (RSt q b u cb cu { si with fuse := si.fuse - 1 } w2) := by rw [hw2]; exact HP1.out.drew
            have HC2 : Hid (Chg [q, b, u] w w2) := by rw [hw2]; exact HC1.out.drew
            obtain ⟨c0, c1, c2, c3, c4, c5⟩ := HP1.out.cells
            have hcell := (HV.out _ HC1.out).cellAt (show i < l.length by omega)
            rw [← HXX.out] at hcell
            (try simp only at c0 c1)
            rw [HN.out] at c0 c1
            obtain ⟨d0, hfb⟩ := HP2.out.atB HY.out
            obtain ⟨d1, hfu⟩ := HP2.out.atU HY.out
            obtain ⟨⟨z1, z4⟩, z5, z6⟩ := HP2.out.half r (.int .u8 (x.toNat : Int)) d1
            (try simp only at z1 z4)
            rw [HN.out] at z1
            obtain ⟨p3, p4⟩ := HP2.out.put3 r (x, false) (by have := HN.out; (try simp only); omega)
            have p5 := HC2.out.trans p4
            have hw := HWW.out
            rw [if_neg HF.out] at hw
            have p6 : RSt q b u cb cu { si with c := si.c.set r (x, false), fuse := si.fuse - 1 } _ := p3
            rw [← HES.out] at p6
            have HZ := Lib.hid p6
            have HZC := Lib.hid p5
            have HZW := Lib.hid hw
            have HW2 := Lib.hid hw2
            clear hw hw2 p3 p4 p5 p6
            go_still_tail 12, (by kernel_rfl)
            change wpList _ _ _ _ _ w1.drew
            rw [← HW2.out]
            go_wp2_with fail
            go_roundw
            case rel => exact ⟨i + 1, si.step r x, by omega, by go_num, HZ, HZC, HD.out, by show _ = _; unfold St.step; simp only [List.length_set]; exact HN.out, by show _ = _; rw [← Nat.add_assoc, ← HRR.out]; exact HZW.out⟩
            case measure => simp [intOf]; omega
          · clear hf
            have k2 : decide (0 < si.fuse) = false := by simp; omega
            obtain ⟨w1, hw1⟩ : ∃ w1, w1 = wr := ⟨_, rfl⟩
            have HP1 : Hid (RSt q b u cb cu si w1) := by rw [hw1]; exact HP.out
            have HC1 : Hid (Chg [q, b, u] w w1) := by rw [hw1]; exact HC.out
            have HW1 := Lib.hid hw1
            have es : si.step r x = { si with c := si.c.set r (x, false) } := by unfold St.step; rw [if_neg hp]
            have HES := Lib.hid es
            clear hw1 es hp
            go_wp2_with fail
            rw [← HW1.out]
            obtain ⟨w2, hw2⟩ : ∃ w2, w2 = w1.drew := ⟨_, rfl⟩
            have HP2 : Hid (RSt q b u cb cu si w2) := by rw [hw2]; exact HP1.out.drew
            have HC2 : Hid (Chg [q, b, u] w w2) := by rw [hw2]; exact HC1.out.drew
            obtain ⟨c0, c1, c2, c3, c4, c5⟩ := HP1.out.cells
            have hcell := (HV.out _ HC1.out).cellAt (show i < l.length by omega)
            rw [← HXX.out] at hcell
            (try simp only at c0 c1)
            rw [HN.out] at c0 c1
            obtain ⟨d0, hfb⟩ := HP2.out.atB HY.out
            obtain ⟨d1, hfu⟩ := HP2.out.atU HY.out
            obtain ⟨⟨z1, z4⟩, z5, z6⟩ := HP2.out.half r (.int .u8 (x.toNat : Int)) d1
            (try simp only at z1 z4)
            rw [HN.out] at z1
            obtain ⟨p3, p4⟩ := HP2.out.put3 r (x, false) (by have := HN.out; (try simp only); omega)
            have p5 := HC2.out.trans p4
            have hw := HWW.out
            rw [if_neg HF.out] at hw
            have p6 : RSt q b u cb cu { si with c := si.c.set r (x, false) } _ := p3
            rw [← HES.out] at p6
            have HZ := Lib.hid p6
            have HZC := Lib.hid p5
            have HZW := Lib.hid hw
            have HW2 := Lib.hid hw2
            clear hw hw2 p3 p4 p5 p6
            go_still_tail 12, (by kernel_rfl)
            change wpList _ _ _ _ _ w1.drew
            rw [← HW2.out]
            go_wp2_with fail
            go_roundw
            case rel => exact ⟨i + 1, si.step r x, by omega, by go_num, HZ, HZC, HD.out, by show _ = _; unfold St.step; simp only [List.length_set]; exact HN.out, by show _ = _; rw [← Nat.add_assoc, ← HRR.out]; exact HZW.out⟩
            case measure => simp [intOf]; omega
      · have e : i = l.length := by omega
        have hw := HW.out
        rw [List.drop_eq_nil_of_le hge] at hw
        have hw2 : si = R := hw
        subst hw2
        subst e
        have HRE : Hid (pe si = 0) := by show _ = _; unfold pe; rw [if_neg (by rw [HD.out]; simp)]
        have g1 : ¬ (l.length : Int) < l.length := by omega
        clear hw
        go_wp2_with fail
        go_ret
        exact ⟨by rw [HRE.out]; rfl, HP.out, HC.out⟩
  · have hr2 := wr_no hr
    rw [hr2.1, hr2.2]
    have HP := Lib.hid h
    unfold redE at hr ⊢
    by_cases h1 : inn s.c.length a l.length = true
    · rw [if_pos h1] at hr ⊢
      rw [h1] at H
      cases hd : s.dead with
      | false => rw [hd] at hr; simp at hr
      | true =>
        rw [hd] at c5
        rw [if_pos rfl]
        clear hr hr2 hv h hd h1 hl
        go_enter Try.func36, Try.ntmps36
        go_wp2_with fail
        refine H.out.mono ?_
        rintro e w1 ⟨rfl, rfl⟩
        go_wp2_with fail
        go_ret
        exact ⟨rfl, HP.out, Chg.refl _ _⟩
    · rw [if_neg h1]
      rw [Bool.eq_false_iff.2 h1] at H
      clear hr hr2 hv h h1 hl
      go_enter Try.func36, Try.ntmps36
      go_wp2_with fail
      refine H.out.mono ?_
      rintro e w1 ⟨rfl, rfl⟩
      go_wp2_with fail
      go_ret
      exact ⟨rfl, HP.out, Chg.refl _ _⟩
end Go.Proofs.Ytoinjapmioldaaa

namespace Go.Proofs.Ytoinjapmioldaaa
open Go.RowKit
attribute [local go_sem ↓] Go.wp_at_zero Go.wp_at_succ

theorem cut_b2 (g n c k m q : Nat) (hq : q = k + m) (h1 : q ≤ n) (h2 : n ≤ c) : ∃ A c', (∀ w, (Instr.slice 22 (.slice (some ⟨g, 0, none⟩) n c) (some (.int .i64 (k : Int))) (some (.int .i64 (q : Int))) none).run Try.prog w = .ok (.slice A m c') w) ∧ A ≠ none ∧ m ≤ c' ∧ (0 < m → A = some ⟨g, k, none⟩) := by
  by_cases h : k = c
  · refine ⟨some ⟨g, 0, none⟩, c - k, fun w => ?_, by simp, by omega, fun h2 => by omega⟩
    rw [run_slice_lh w _ _ _ _ cells1 _ _ _ _ (by omega) (by omega) (by omega), size1]
    show Result.ok (Go.sliced _ _ _ _ 1) w = _
    unfold Go.sliced
    rw [if_pos (by simp; omega)]
    simp; omega
  · refine ⟨some ⟨g, k, none⟩, c - k, fun w => ?_, by simp, by omega, fun _ => rfl⟩
    rw [run_slice_lh w _ _ _ _ cells1 _ _ _ _ (by omega) (by omega) (by omega), size1]
    show Result.ok (Go.sliced _ _ _ _ 1) w = _
    unfold Go.sliced
    rw [if_neg (by simp; omega)]
    simp [add0]; omega
/-- What the reference's Read leaves. -/
def RdR (s : St) (a n : Int) (w : World) (e : Ending) (w' : World) : Prop :=
  ∃ v, e = .returned (.tuple #[v, .int .i64 (rdE s a n)]) ∧ Bytes w' v (rdB s a n) ∧ Below w.heap.size w w'
set_option maxHeartbeats 4000000 in
set_option maxRecDepth 100000 in
theorem readR {q b u cb cu : Nat} {s : St} {w : World} (h : RSt q b u cb cu s w) (a n : Int) (hn : -9223372036854775808 ≤ n) :
    Calls Try.prog 45 #[.pointer (some ⟨q, 0, none⟩), .int .i64 a, .int .i64 n] w (RdR s a n w) := by
  have H := Lib.hid (withinS h a n hn)
  obtain ⟨c0, c1, c2, c3, c4, c5⟩ := h.cells
  unfold RdR
  by_cases hr : redE s a n = 0
  · obtain ⟨h0, h1, h2, h3, h4, h5, h6⟩ := rd_yes hr
    obtain ⟨k, rfl⟩ := Int.eq_ofNat_of_zero_le h0
    obtain ⟨m, rfl⟩ := Int.eq_ofNat_of_zero_le h1
    simp only [Int.toNat_natCast] at h2 h4
    rw [inn_iff.2 ⟨by omega, by omega, by omega⟩] at H
    rw [h3] at c5
    obtain ⟨z, hz⟩ : ∃ q, q = k + m := ⟨_, rfl⟩
    obtain ⟨A, c', hcut, hA0, hA1, hA2⟩ := cut_b2 b s.c.length cb k m z hz (by omega) h.cb
    obtain ⟨L, hL⟩ : ∃ L, L = rdL s k m := ⟨_, rfl⟩
    have hat : ∀ i (hi : i < L.length), s.c[k + i]? = some L[i] := fun i hi => by
      subst hL
      have h7 : i < (s.c.drop k).length ∧ i < m := by simp only [rdL, Int.toNat_natCast, List.length_take, List.length_drop] at hi; simp; omega
      have e2 : (rdL s k m)[i]? = s.c[k + i]? := by simp only [rdL, Int.toNat_natCast, List.getElem?_take, List.getElem?_drop]; rw [if_pos h7.2]
      rw [← e2, List.getElem?_eq_getElem hi]
    rw [h5, h6]
    rw [← hL] at h4 ⊢
    have HP : Hid (RSt q b u cb cu s w) := h
    have HAT := Lib.hid hat
    have HL : Hid (L.length = m ∧ k + m ≤ s.c.length ∧ s.c.length ≤ cb ∧ s.c.length ≤ 4096) := ⟨h4, h2, h.cb, h.few⟩
    have HA : Hid (A ≠ none ∧ m ≤ c' ∧ (0 < m → A = some ⟨b, k, none⟩)) := ⟨hA0, hA1, hA2⟩
    obtain ⟨N, hN⟩ : ∃ N, N = s.c.length := ⟨_, rfl⟩
    rw [← hN] at c0 c1 hcut
    have HN := Lib.hid hN
    have G8 := Lib.hid (show (k : Int) + m ≤ N by omega)
    have g7 : (m : Int) ≤ 4096 := by have := h.few; omega
    have e1 : wrap64 ((k : Int) + m) = (z : Int) := by rw [IntWalk.wrap64_in _ ⟨by omega, by have := h.few; omega⟩]; omega
    have g9 : (N : Int) ≤ 4096 := by have := h.few; omega
    clear h hr h0 h1 h2 h3 h4 h5 h6 hA0 hA1 hA2 hat hL hN hz hn c2 c3 c4
    go_enter Try.func45, Try.ntmps45
    go_wp2_with fail
    refine H.out.mono ?_
    rintro e w2 ⟨rfl, rfl⟩
    go_wp2_with fail
    clear c0 c1 c5 H
    go_loopw [8] (fun x wr => ∃ (i : Nat), i ≤ m ∧ x = .int .i64 i ∧ Hid (Below w.heap.size w wr) ∧ Hid ((L.take i).any (fun c => c.2) = false)) (fun x _ => m - (intOf x).toNat)
    case atStart => exact ⟨0, Nat.zero_le _, rfl, Below.refl _ _, rfl⟩
    case round =>
      obtain ⟨i, hi, rfl, HB, HT⟩ := hrel
      have hS := HP.out.later HB.out
      obtain ⟨c0, c1, c2, c3, c4, c5⟩ := hS.cells
      rw [← HN.out] at c0 c1
      rcases Nat.lt_or_ge i m with hlt | hge
      · have g1 : (i : Int) < m := by omega
        have hiL : i < L.length := by have := HL.out; omega
        obtain ⟨d1, hfu⟩ := hS.atU (HAT.out i hiL)
        have e2 : wrap64 ((k : Int) + i) = ((k + i : Nat) : Int) := by have := G8.out; rw [IntWalk.wrap64_in _ ⟨by omega, by omega⟩]; omega
        obtain ⟨r, hr⟩ : ∃ r, r = k + i := ⟨_, rfl⟩
        rw [← hr] at e2 d1
        have g2 : (r : Int) < N := by have := G8.out; omega
        obtain ⟨x, hx⟩ : ∃ x, x = L[i].2 := ⟨_, rfl⟩
        rw [← hx] at d1
        have HX := Lib.hid hx
        have HIL := Lib.hid hiL
        clear hx hr hS c0 c2 c3 c4 c5
        cases x
        · have HT2 : Hid ((L.take (i + 1)).any (fun c => c.2) = false) := any_step HIL.out HT.out HX.out.symm
          go_wp2_with fail
          go_roundw
          case rel => exact ⟨i + 1, by omega, by go_num, HB, HT2⟩
          case measure => simp [intOf]; omega
        · have HH := Lib.hid (any_hit HIL.out HX.out.symm)
          go_wp2_with fail
          go_ret2
          exact ⟨_, by unfold ndE; rw [if_pos HH.out]; rfl, by unfold ndB; rw [if_pos HH.out]; exact Bytes.nil _ _ _, HB.out⟩
      · have e : i = m := by omega
        subst e
        have hn : ¬ L.any (fun c => c.2) = true := by
          have := HT.out
          rw [← HL.out.1, List.take_length] at this
          rw [this]; simp
        have HH := Lib.hid hn
        have g1 : ¬ (i : Int) < i := by omega
        have HS := Lib.hid hS
        clear hn hS
        go_wp2_with fail
        go_ret2
        refine ⟨_, by unfold ndE; rw [if_neg HH.out]; rfl, ?_, HB.out⟩
        unfold ndB
        rw [if_neg HH.out]
        rcases Nat.eq_zero_or_pos i with h0 | h0
        · subst h0
          have : L = [] := List.length_eq_zero_iff.1 HL.out.1
          subst this
          exact Bytes.nil _ _ _ (fun e => absurd e HA.out.1)
        · have hA := HA.out.2.2 h0
          refine .inr ⟨b, k, c', ?_, HS.out.lt.2.1, ?_, fun j y hj => ?_⟩
          · rw [List.length_map, HL.out.1]; show Value.slice A i c' = _; rw [hA]
          · rw [List.length_map, HL.out.1]; exact HA.out.2.1
          · simp only [List.getElem?_map, Option.map_eq_some_iff] at hj
            obtain ⟨c, hc, rfl⟩ := hj
            have hj2 := (List.getElem?_eq_some_iff.1 hc).1
            have h9 := HAT.out j hj2
            rw [← List.getElem?_eq_getElem hj2, hc] at h9
            exact (HS.out.atB h9).1
  · obtain ⟨h1, h2⟩ := rd_no hr
    rw [h1, h2]
    unfold redE at hr ⊢
    by_cases h3 : inn s.c.length a n = true
    · rw [if_pos h3] at hr ⊢
      rw [h3] at H
      cases hd : s.dead with
      | false => rw [hd] at hr; simp at hr
      | true =>
        rw [hd] at c5
        rw [if_pos rfl]
        clear hr h1 h2 h3 hd h hn
        go_enter Try.func45, Try.ntmps45
        go_wp2_with fail
        refine H.out.mono ?_
        rintro e w1 ⟨rfl, rfl⟩
        go_wp2_with fail
        go_ret2
        exact ⟨_, rfl, Bytes.nil _ _ _, Below.refl _ _⟩
    · rw [if_neg h3]
      rw [Bool.eq_false_iff.2 h3] at H
      clear hr h1 h2 h3 h hn
      go_enter Try.func45, Try.ntmps45
      go_wp2_with fail
      refine H.out.mono ?_
      rintro e w1 ⟨rfl, rfl⟩
      go_wp2_with fail
      go_ret2
      exact ⟨_, rfl, Bytes.nil _ _ _, Below.refl _ _⟩
end Go.Proofs.Ytoinjapmioldaaa

namespace Go.Proofs.Ytoinjapmioldaaa
open Go.RowKit
attribute [local go_sem ↓] Go.wp_at_zero Go.wp_at_succ

/-- What stands behind so many rounds: the named results' blocks, the numbers', the flags'. -/
structure SW (s : St) (k a b : Nat) (c d : Bool) (w wr : World) : Prop where
  r1 : nB w.heap.size a b wr
  r2 : oB (w.heap.size + 1) c d wr
  nb : nB (w.heap.size + 2) (kN s k 0) (kN s k 1) wr
  ob : oB (w.heap.size + 3) (kO s k 0) (kO s k 1) wr
  bel : Below w.heap.size w wr
  sz : w.heap.size + 4 ≤ wr.heap.size
set_option maxHeartbeats 4000000 in
set_option maxRecDepth 100000 in
theorem SW.step {s : St} {k a b : Nat} {c d : Bool} {w wr : World} (h : SW s k a b c d w wr) (hk : k < 2) : SW s (k + 1) a b c d w ((wr.setCell ⟨w.heap.size + 2, k, none⟩ (.int .u64 (sN s k : Int))).setCell ⟨w.heap.size + 3, k, none⟩ (.bool (sO s k))) := by
  obtain ⟨h1, h2, h3, h4, h5, h6⟩ := h
  have h3a := BlkAt.set h3 k (.int .u64 (sN s k : Int))
  have h4a := BlkAt.other h4 (b := w.heap.size + 2) (by omega) k (.int .u64 (sN s k : Int))
  have h3b := BlkAt.other h3a (b := w.heap.size + 3) (by omega) k (.bool (sO s k))
  have h4b := BlkAt.set h4a k (.bool (sO s k))
  refine ⟨BlkAt.other (BlkAt.other h1 (by omega) k _) (by omega) k _, BlkAt.other (BlkAt.other h2 (by omega) k _) (by omega) k _, ?_, ?_, (h5.setCell (by simp) _).setCell (by simp) _, by simpa using h6⟩
  · match k, hk with
    | 0, _ => exact h3b
    | 1, _ => exact h3b
  · match k, hk with
    | 0, _ => exact h4b
    | 1, _ => exact h4b
theorem SW.skip {s : St} {k a b : Nat} {c d : Bool} {w wr : World} (h : SW s k a b c d w wr) (hk : k < 2) (hr : rdE s ((16 * k : Nat) : Int) 16 ≠ 0) : SW s (k + 1) a b c d w wr := by
  have e : rdB s ((16 * k : Nat) : Int) 16 = [] := by unfold rdB; rw [if_neg hr]
  have e1 : sN s k = 0 := by unfold sN; rw [e]; exact gd_nil.2
  have e2 : sO s k = false := by unfold sO; rw [e]; exact gd_nil.1
  have f1 : ∀ j, kN s (k + 1) j = kN s k j := by
    intro j; unfold kN
    by_cases h1 : j < k
    · rw [if_pos h1, if_pos (by omega)]
    · rw [if_neg h1]
      by_cases h2 : j < k + 1
      · rw [if_pos h2, show j = k by omega, e1]
      · rw [if_neg h2]
  have f2 : ∀ j, kO s (k + 1) j = kO s k j := by
    intro j; unfold kO
    by_cases h1 : j < k
    · rw [if_pos h1, if_pos (by omega)]
    · rw [if_neg h1]
      by_cases h2 : j < k + 1
      · rw [if_pos h2, show j = k by omega, e2]
      · rw [if_neg h2]
  exact ⟨h.r1, h.r2, by rw [f1, f1]; exact h.nb, by rw [f2, f2]; exact h.ob, h.bel, h.sz⟩
theorem SW.drew {s : St} {k a b : Nat} {c d : Bool} {w wr : World} (h : SW s k a b c d w wr) : SW s k a b c d w wr.drew := ⟨h.r1, h.r2, h.nb, h.ob, h.bel.drew, h.sz⟩
theorem SW.putN {s : St} {k a b : Nat} {c d : Bool} {w wr : World} (h : SW s k a b c d w wr) : SW s k (kN s k 0) (kN s k 1) c d w ((wr.setCell ⟨w.heap.size, 0, none⟩ (.int .u64 (kN s k 0 : Int))).setCell ⟨w.heap.size, 1, none⟩ (.int .u64 (kN s k 1 : Int))) :=
  ⟨BlkAt.set (BlkAt.set h.r1 0 _) 1 _, BlkAt.other (BlkAt.other h.r2 (by omega) 0 _) (by omega) 1 _, BlkAt.other (BlkAt.other h.nb (by omega) 0 _) (by omega) 1 _, BlkAt.other (BlkAt.other h.ob (by omega) 0 _) (by omega) 1 _, (h.bel.setCell (Nat.le_refl _) _).setCell (Nat.le_refl _) _, by simpa using h.sz⟩
theorem SW.putO {s : St} {k a b : Nat} {c d : Bool} {w wr : World} (h : SW s k a b c d w wr) : SW s k a b (kO s k 0) (kO s k 1) w ((wr.setCell ⟨w.heap.size + 1, 0, none⟩ (.bool (kO s k 0))).setCell ⟨w.heap.size + 1, 1, none⟩ (.bool (kO s k 1))) :=
  ⟨BlkAt.other (BlkAt.other h.r1 (by omega) 0 _) (by omega) 1 _, BlkAt.set (BlkAt.set h.r2 0 _) 1 _, BlkAt.other (BlkAt.other h.nb (by omega) 0 _) (by omega) 1 _, BlkAt.other (BlkAt.other h.ob (by omega) 0 _) (by omega) 1 _, (h.bel.setCell (by simp) _).setCell (by simp) _, by simpa using h.sz⟩
theorem SW.later {s : St} {k a b : Nat} {c d : Bool} {w wr w' : World} (h : SW s k a b c d w wr) (hb : Below wr.heap.size wr w') : SW s k a b c d w w' :=
  ⟨BlkAt.later h.r1 hb, BlkAt.later h.r2 hb, BlkAt.later h.nb hb, BlkAt.later h.ob hb, below_of h.bel hb, Nat.le_trans h.sz hb.size⟩
theorem SW.new (s : St) (w : World) : SW s 0 0 0 false false w ((((w.alloc (.cells #[.int .u64 0, .int .u64 0] 63)).alloc (.cells #[.bool false, .bool false] 64)).alloc (.cells #[.int .u64 0, .int .u64 0] 63)).alloc (.cells #[.bool false, .bool false] 64)) := by
  have h1 := BlkAt.new (t := 63) w [.int .u64 0, .int .u64 0]
  have h2 := BlkAt.new (t := 64) (w.alloc (.cells #[.int .u64 0, .int .u64 0] 63)) [.bool false, .bool false]
  have h3 := BlkAt.new (t := 63) ((w.alloc (.cells #[.int .u64 0, .int .u64 0] 63)).alloc (.cells #[.bool false, .bool false] 64)) [.int .u64 0, .int .u64 0]
  have h4 := BlkAt.new (t := 64) (((w.alloc (.cells #[.int .u64 0, .int .u64 0] 63)).alloc (.cells #[.bool false, .bool false] 64)).alloc (.cells #[.int .u64 0, .int .u64 0] 63)) [.bool false, .bool false]
  have h3' := h3.later (ba1 _ (.cells #[.bool false, .bool false] 64))
  have h2' := (h2.later (ba1 _ (.cells #[.int .u64 0, .int .u64 0] 63))).later (ba1 _ (.cells #[.bool false, .bool false] 64))
  have h1' := ((h1.later (ba1 _ (.cells #[.bool false, .bool false] 64))).later (ba1 _ (.cells #[.int .u64 0, .int .u64 0] 63))).later (ba1 _ (.cells #[.bool false, .bool false] 64))
  exact ⟨h1', (by simpa using h2' : BlkAt 64 (w.heap.size + 1) [.bool false, .bool false] _), (by simpa using h3' : BlkAt 63 (w.heap.size + 2) [.int .u64 0, .int .u64 0] _), (by simpa using h4 : BlkAt 64 (w.heap.size + 3) [.bool false, .bool false] _), by go_grown, by simp⟩
set_option maxHeartbeats 8000000 in
set_option maxRecDepth 100000 in
theorem slotsR {q b u cb cu : Nat} {s : St} {w : World} (h : RSt q b u cb cu s w) :
    Calls Try.prog 32 #[.pointer (some ⟨q, 0, none⟩)] w fun e w' => e = .returned (.tuple #[nA (sN s 0) (sN s 1), oA (sO s 0) (sO s 1)]) ∧ Below w.heap.size w w' := by
  obtain ⟨w1, hw1⟩ : ∃ w1, w1 = (((w.alloc (.cells #[.int .u64 0, .int .u64 0] 63)).alloc (.cells #[.bool false, .bool false] 64)).alloc (.cells #[.int .u64 0, .int .u64 0] 63)).alloc (.cells #[.bool false, .bool false] 64) := ⟨_, rfl⟩
  have HW0 : Hid (SW s 0 0 0 false false w w1) := by
    have := SW.new s w
    rw [← hw1] at this
    exact this
  have HP := Lib.hid h
  have HW := Lib.hid hw1
  clear h hw1
  go_enter Try.func32, Try.ntmps32
  go_wp2_with fail
  rw [← HW.out]
  go_loopw [6] (fun x wr => ∃ k : Nat, k ≤ 2 ∧ x = .int .i64 k ∧ Hid (SW s k 0 0 false false w wr)) (fun x _ => 2 - (intOf x).toNat)
  case atStart => exact ⟨0, by omega, rfl, HW0.out⟩
  case round =>
    obtain ⟨k, hk, rfl, HR⟩ := hrel
    have hP := HP.out.later HR.out.bel
    rcases Nat.lt_or_ge k 2 with hlt | hge
    · have q9 : k = 0 ∨ k = 1 := by omega
      rcases q9 with rfl | rfl
      · have HRD := Lib.hid (readR hP 0 16 (by omega))
        unfold RdR at HRD
        have HSK : Hid (rdE s 0 16 ≠ 0 → SW s 0 0 0 false false w wr → SW s 1 0 0 false false w wr) := fun he hs => hs.skip (by omega) he
        clear hP hlt hk
        by_cases he : rdE s 0 16 = 0
        · rw [he] at HRD
          clear he HSK
          go_wp2_with fail
          refine HRD.out.mono ?_
          rintro e w2 ⟨v, rfl, hv, hb⟩
          have HR2 := Lib.hid (HR.out.later hb)
          have HG := Lib.hid (goodR hv)
          obtain ⟨av, cv, rfl⟩ := hv.form
          clear hv hb HRD
          go_wp2_with fail
          refine HG.out.mono ?_
          rintro e w3 ⟨rfl, hb⟩
          have HR3 := Lib.hid (HR2.out.later hb)
          clear hb
          have hn0 := BlkAt.cell HR3.out.nb (j := 0) rfl
          have ho0 := BlkAt.cell HR3.out.ob (j := 0) rfl
          have hf1 := fun j => BlkAt.frozen HR3.out.nb j
          have hf2 := fun j => BlkAt.frozen HR3.out.ob j
          go_wp2_with fail
          go_roundw
          case rel => exact ⟨1, by omega, rfl, HR3.out.step (by omega)⟩
          case measure => simp [intOf]
        · have hq : (rdE s 0 16 == 0) = false := beq_eq_false_iff_ne.2 he
          have HSK2 := Lib.hid (HSK.out he)
          obtain ⟨r, hr⟩ : ∃ r, r = rdE s 0 16 := ⟨_, rfl⟩
          rw [← hr] at HRD hq
          clear he hr HSK
          go_wp2_with fail
          refine HRD.out.mono ?_
          rintro e w2 ⟨v, rfl, hv, hb⟩
          have HR2 := Lib.hid ((HSK2.out HR.out).later hb)
          obtain ⟨av, cv, rfl⟩ := hv.form
          clear hv hb HRD
          go_wp2_with fail
          go_roundw
          case rel => exact ⟨1, by omega, rfl, HR2.out⟩
          case measure => simp [intOf]
      · have HRD := Lib.hid (readR hP 16 16 (by omega))
        unfold RdR at HRD
        have HSK : Hid (rdE s 16 16 ≠ 0 → SW s 1 0 0 false false w wr → SW s 2 0 0 false false w wr) := fun he hs => hs.skip (by omega) he
        clear hP hlt hk
        by_cases he : rdE s 16 16 = 0
        · rw [he] at HRD
          clear he HSK
          go_wp2_with fail
          refine HRD.out.mono ?_
          rintro e w2 ⟨v, rfl, hv, hb⟩
          have HR2 := Lib.hid (HR.out.later hb)
          have HG := Lib.hid (goodR hv)
          obtain ⟨av, cv, rfl⟩ := hv.form
          clear hv hb HRD
          go_wp2_with fail
          refine HG.out.mono ?_
          rintro e w3 ⟨rfl, hb⟩
          have HR3 := Lib.hid (HR2.out.later hb)
          clear hb
          have hn0 := BlkAt.cell HR3.out.nb (j := 1) rfl
          have ho0 := BlkAt.cell HR3.out.ob (j := 1) rfl
          have hf1 := fun j => BlkAt.frozen HR3.out.nb j
          have hf2 := fun j => BlkAt.frozen HR3.out.ob j
          go_wp2_with fail
          go_roundw
          case rel => exact ⟨2, by omega, rfl, HR3.out.step (by omega)⟩
          case measure => simp [intOf]
        · have hq : (rdE s 16 16 == 0) = false := beq_eq_false_iff_ne.2 he
          have HSK2 := Lib.hid (HSK.out he)
          obtain ⟨r, hr⟩ : ∃ r, r = rdE s 16 16 := ⟨_, rfl⟩
          rw [← hr] at HRD hq
          clear he hr HSK
          go_wp2_with fail
          refine HRD.out.mono ?_
          rintro e w2 ⟨v, rfl, hv, hb⟩
          have HR2 := Lib.hid ((HSK2.out HR.out).later hb)
          obtain ⟨av, cv, rfl⟩ := hv.form
          clear hv hb HRD
          go_wp2_with fail
          go_roundw
          case rel => exact ⟨2, by omega, rfl, HR2.out⟩
          case measure => simp [intOf]
    · obtain rfl : k = 2 := by omega
      clear hP hge hk
      go_wp2_with fail
      (refine wp_region_held_drew (S := (fun w' => ∃ a b c d, SW s 2 a b c d w w')) (by kernel_rfl) ?_ (fun hHeld => ?_); (focus ((try dsimp only); (exact ⟨_, _, _, _, HR.out.drew⟩))))
      (try dsimp only at hHeld)
      (refine wpAnyH_take (i := 0) (v := ?_) rfl (by kernel_rfl) (by kernel_rfl) (by kernel_rfl) (fun _ _ _ h => h) (Or.inl ⟨by rfl, ?_⟩) hHeld ?_; rotate_left; (focus (intro w hSw; (try dsimp only at hSw); go_simp; (obtain ⟨_, _, _, _, hq⟩ := hSw; have c0 := BlkAt.cell (SW.nb hq) (j := 0) rfl; have c1 := BlkAt.cell (SW.nb hq) (j := 1) rfl; go_simp; try with_reducible rfl))); (try simp only [Act.put, List.setIfInBounds_toArray, List.set_cons_zero, List.set_cons_succ, List.getElem_toArray, List.getElem_cons_zero]))
      (refine wpAnyH_take (i := 1) (v := ?_) rfl (by kernel_rfl) (by kernel_rfl) (by kernel_rfl) (fun _ _ _ h => h) (Or.inl ⟨by rfl, ?_⟩) hHeld ?_; rotate_left; (focus (intro w hSw; (try dsimp only at hSw); go_simp; (obtain ⟨_, _, _, _, hq⟩ := hSw; have c0 := BlkAt.cell (SW.ob hq) (j := 0) rfl; have c1 := BlkAt.cell (SW.ob hq) (j := 1) rfl; go_simp; try with_reducible rfl))); (try simp only [Act.put, List.setIfInBounds_toArray, List.set_cons_zero, List.set_cons_succ, List.getElem_toArray, List.getElem_cons_zero, List.getElem_cons_succ]))
      obtain ⟨wd, hwd⟩ : ∃ wd, wd = wr.drew := ⟨_, rfl⟩
      rw [← hwd] at hHeld ⊢
      clear hwd
      obtain ⟨ra, rb, rc, rd, hq⟩ := hHeld
      have HQ1 := Lib.hid (SW.putN hq)
      have HQ2 := Lib.hid (SW.putO HQ1.out)
      have hf1 := fun j => BlkAt.frozen hq.r1 j
      have hn0 := BlkAt.cell hq.r1 (j := 0) rfl
      have hn1 := BlkAt.cell hq.r1 (j := 1) rfl
      have hf2 := fun j => BlkAt.frozen HQ1.out.r2 j
      have ho0 := BlkAt.cell HQ1.out.r2 (j := 0) rfl
      have ho1 := BlkAt.cell HQ1.out.r2 (j := 1) rfl
      have hHeld : (fun w' => ∃ a b c d, SW s 2 a b c d w w') wd := ⟨_, _, _, _, hq⟩
      clear hq
      (refine wpAnyH_ready (rs := [2]) (by kernel_rfl) (by simp) ?_; refine AllReadyH.cons rfl (fun K hK => ?_) AllReadyH.nil; go_simp; skip; refine hK.out _ _ ?_ (fun hHeldN => ?_); (focus ((try dsimp only); exact ⟨_, _, _, _, HQ1.out⟩)); clear hK K hHeld; have hHeld := hHeldN; clear hHeldN; (try simp only [Act.put, List.setIfInBounds_toArray, List.set_cons_zero, List.set_cons_succ, List.getElem_toArray, List.getElem_cons_zero, List.getElem_cons_succ]))
      (refine wpAnyH_ready (rs := [3]) (by kernel_rfl) (by simp) ?_; refine AllReadyH.cons rfl (fun K hK => ?_) AllReadyH.nil; go_simp; skip; refine hK.out _ _ ?_ (fun hHeldN => ?_); (focus ((try dsimp only); exact ⟨_, _, _, _, HQ2.out⟩)); clear hK K hHeld; have hHeld := hHeldN; clear hHeldN; (try simp only [Act.put, List.setIfInBounds_toArray, List.set_cons_zero, List.set_cons_succ, List.getElem_toArray, List.getElem_cons_zero, List.getElem_cons_succ]))
      refine wpAnyH_done (by kernel_rfl) ?_ _
      go_wp2_with fail
      (try simp only [Exit.inBlock, Exit.then])
      refine ⟨rfl, _, results_cell2 rfl rfl (load_nB HQ2.out.r1) rfl (load_oB HQ2.out.r2), ?_⟩
      exact ⟨rfl, HQ2.out.bel⟩
end Go.Proofs.Ytoinjapmioldaaa
