/- ref06.Of: the walk. -/
import Derived.Test.YtcahfapffhcceaaZ08
import Derived.Test.YtcahfapffhcceaaZ09
import Derived.Test.YtcahfapffhcceaaZ13

set_option linter.unusedSimpArgs false
set_option linter.unusedVariables false
namespace Go.Proofs.Ytcahfapffhcceaa
open Go.RowKit
attribute [local go_sem ↓] Go.wp_at_zero Go.wp_at_succ

def OfR (l : List UInt8) (wm : World) (e : Ending) (w' : World) : Prop :=
  ∃ u, e = .returned (.tuple #[.agg #[.int .i64 (oF l).k, .int .i64 (oF l).n, .int .u64 ((oF l).mb : Nat), .int .u64 ((oF l).mt : Nat), .int .u64 ((oF l).tb : Nat), .int .u64 ((oF l).tt : Nat), .int .u64 ((oF l).s : Nat), .int .u64 ((oF l).a : Nat), u], .bool (okF l)]) ∧ Bytes w' u (oB l) ∧ Below wm.heap.size wm w'
theorem of_zeroR {l : List UInt8} (h : okF l = false) : Ending.returned (.tuple #[.agg #[.int .i64 0, .int .i64 0, .int .u64 0, .int .u64 0, .int .u64 0, .int .u64 0, .int .u64 0, .int .u64 0, .slice none 0 0], .bool false]) = .returned (.tuple #[.agg #[.int .i64 (oF l).k, .int .i64 (oF l).n, .int .u64 ((oF l).mb : Nat), .int .u64 ((oF l).mt : Nat), .int .u64 ((oF l).tb : Nat), .int .u64 ((oF l).tt : Nat), .int .u64 ((oF l).s : Nat), .int .u64 ((oF l).a : Nat), .slice none 0 0], .bool (okF l)]) := by
  obtain ⟨e1, _, e3⟩ := o_no h
  rw [e1, h]; rfl
set_option maxHeartbeats 8000000 in
set_option maxRecDepth 100000 in
theorem of6R_short (v : Value) (l : List UInt8) (wm : World) (hv : Bytes wm v l) (h54 : l.length < 54) : Calls Try.prog 15 #[v] wm (OfR l wm) := by
  obtain ⟨a, c, rfl⟩ := hv.form
  have hno : okF l = false := by unfold okF; rw [decide_eq_false (by omega)]; rfl
  have HY := Lib.hid (of_zeroR hno)
  have HO : Hid (oB l = []) := (o_no hno).2.1
  have k1 : (l.length : Int) < 54 := by omega
  obtain ⟨n, hn⟩ : ∃ n, n = l.length := ⟨_, rfl⟩
  rw [← hn] at k1 ⊢
  clear hno hv h54 hn
  go_enter Try.func15, Try.ntmps15
  go_wp2_with fail
  exact bodyPost_ret (v := .tuple #[.agg #[.int .i64 0, .int .i64 0, .int .u64 0, .int .u64 0, .int .u64 0, .int .u64 0, .int .u64 0, .int .u64 0, .slice none 0 0], .bool false]) (by simp [results, Try.results15, go_sem]) rfl ⟨_, HY.out, by rw [HO.out]; exact Bytes.nil _ _ _, by go_grown⟩
theorem fld_one {l : List UInt8} {i : Nat} (h : i < l.length) : fld l i 1 = l[i].toNat := by
  unfold fld
  rw [List.drop_take, show i + 1 - i = 1 by omega, List.drop_eq_getElem_cons h, List.take_succ_cons, List.take_zero]
  unfold getL
  rw [List.foldl_cons, List.foldl_nil]; omega

set_option maxHeartbeats 32000000 in
set_option maxRecDepth 100000 in
theorem of6R_long (v : Value) (l : List UInt8) (wm : World) (hv : Bytes wm v l) (h54 : 54 ≤ l.length) (hl : l.length ≤ 9000) : Calls Try.prog 15 #[v] wm (OfR l wm) := by
  obtain ⟨b, o, c, rfl, hbl, hlc⟩ := long_form hv (by omega)
  obtain ⟨a5, hs5, hb5⟩ := hv.cut_l 54 54 rfl h54
  obtain ⟨x, hx⟩ : ∃ x : Fx, x.k0 = fld l 0 1 ∧ x.n0 = fld l 1 1 ∧ x.mb = fld l 2 8 ∧ x.mt = fld l 10 8 ∧ x.tb = fld l 18 8 ∧ x.tt = fld l 26 8 ∧ x.s = fld l 34 8 ∧ x.a = fld l 42 8 := ⟨⟨_, _, _, _, _, _, _, _⟩, rfl, rfl, rfl, rfl, rfl, rfl, rfl, rfl⟩
  have hfr : x.fr = frP l := by
    obtain ⟨e1, e2, e3, e4, e5, e6, e7, e8⟩ := hx
    show Fr.mk _ _ _ _ _ _ _ _ = Fr.mk _ _ _ _ _ _ _ _
    rw [e1, e2, e3, e4, e5, e6, e7, e8]
  have HK : Hid (x.k0 < 256 ∧ x.n0 < 256) := by
    have h0 := fld_lt (l := l) (i := 0) (k := 1) (by omega)
    have h1 := fld_lt (l := l) (i := 1) (k := 1) (by omega)
    show x.k0 < 256 ∧ x.n0 < 256
    rw [hx.1, hx.2.1]; simpa using ⟨h0, h1⟩
  have hcl : ∀ k, k < l.length → wm.cell? ⟨b, o + k, none⟩ = some (.int .u8 (fld l k 1 : Nat)) := fun k hk => by
    obtain ⟨b', o', e, _, h9⟩ := hv.at hk
    simp only [Option.some.injEq, Addr.mk.injEq] at e
    obtain ⟨rfl, rfl, _⟩ := e
    rw [fld_one hk]; exact h9
  have C2 : Hid (wm.cell? ⟨b, o, none⟩ = some (.int .u8 (x.k0 : Nat))) := by rw [hx.1]; exact hcl 0 (by omega)
  have C6 : Hid (wm.cell? ⟨b, o + 1, none⟩ = some (.int .u8 (x.n0 : Nat))) := by rw [hx.2.1]; exact hcl 1 (by omega)
  have hgt : ∀ (i : Nat) (y : Nat), i + 8 ≤ l.length → y = fld l i 8 → ∀ W, Below wm.heap.size wm W → Calls Try.prog 40 #[.slice (some ⟨b, o + i, none⟩) 8 (c - i)] W fun e w' => e = .returned (.int .u64 (y : Nat)) ∧ W = w' := fun i y hi hy W hW => by
    have h9 := getR_any _ _ W (bytes_part (hv.later hW) i 8 hi rfl) (by simp; omega)
    rw [show getL ((l.take (i + 8)).drop i) = y from hy.symm] at h9; exact h9
  have HN0 := Lib.hid (hgt 2 x.mb (by omega) hx.2.2.1)
  have HN1 := Lib.hid (hgt 10 x.mt (by omega) hx.2.2.2.1)
  have HN2 := Lib.hid (hgt 18 x.tb (by omega) hx.2.2.2.2.1)
  have HN3 := Lib.hid (hgt 26 x.tt (by omega) hx.2.2.2.2.2.1)
  have HN4 := Lib.hid (hgt 34 x.s (by omega) hx.2.2.2.2.2.2.1)
  have HN5 := Lib.hid (hgt 42 x.a (by omega) hx.2.2.2.2.2.2.2)
  have u1 : IntKind.i64.wrap (x.k0 : Int) = x.k0 := IntWalk.i64_in _ ⟨by omega, by have := HK.out; omega⟩
  have u2 : IntKind.i64.wrap (x.n0 : Int) = x.n0 := IntWalk.i64_in _ ⟨by omega, by have := HK.out; omega⟩
  have hdl : (l.drop 54).length ≤ 9000 := by simp; omega
  have HBD : Hid (∀ W, Below wm.heap.size wm W → Bytes W (.slice a5 (l.length - 54) (c - 54)) (l.drop 54)) := fun W hW => hb5.later hW
  have HBV : Hid (∀ W, Below wm.heap.size wm W → Bytes W (.slice (some ⟨b, o, none⟩) l.length c) l) := fun W hW => hv.later hW
  have HMY : Hid (∀ W, Below wm.heap.size wm W → Calls Try.prog 11 #[.agg #[.int .i64 (x.k0 : Nat), .int .i64 (x.n0 : Nat), .int .u64 (x.mb : Nat), .int .u64 (x.mt : Nat), .int .u64 (x.tb : Nat), .int .u64 (x.tt : Nat), .int .u64 (x.s : Nat), .int .u64 (x.a : Nat), .slice a5 (l.length - 54) (c - 54)]] W fun e w' => e = .returned (.bool (mayF x.fr (l.drop 54))) ∧ Below W.heap.size W w') :=
    fun W hW => mayR6_any x.fr _ (l.drop 54) W (hb5.later hW) hdl
  have HBY : Hid (mayF x.fr (l.drop 54) = true → ∀ W, Below wm.heap.size wm W → Calls Try.prog 12 #[.agg #[.int .i64 (x.k0 : Nat), .int .i64 (x.n0 : Nat), .int .u64 (x.mb : Nat), .int .u64 (x.mt : Nat), .int .u64 (x.tb : Nat), .int .u64 (x.tt : Nat), .int .u64 (x.s : Nat), .int .u64 (x.a : Nat), .slice a5 (l.length - 54) (c - 54)]] W fun e w' => ∃ v, e = .returned v ∧ OwnB w' W.heap.size v (frL x.fr (l.drop 54)) ∧ Below W.heap.size W w') :=
    fun h W hW => bytesR6_any x.fr (by rw [hfr]; exact frP_ok l h54) _ (l.drop 54) W (hb5.later hW) h
  have HD : Hid ((mayF x.fr (l.drop 54) = false ∧ okF l = false) ∨ (mayF x.fr (l.drop 54) = true ∧ (frL x.fr (l.drop 54) == l) = false ∧ okF l = false) ∨ (mayF x.fr (l.drop 54) = true ∧ frL x.fr (l.drop 54) = l ∧ okF l = true)) := by
    show _ ∨ _ ∨ _
    unfold okF
    rw [hfr, decide_eq_true h54]
    cases mayF (frP l) (l.drop 54) <;> cases h9 : (frL (frP l) (l.drop 54) == l) <;> simp
    exact beq_iff_eq.1 h9
  have HOY : Hid (okF l = true → ∀ u, Ending.returned (.tuple #[.agg #[.int .i64 (x.k0 : Nat), .int .i64 (x.n0 : Nat), .int .u64 (x.mb : Nat), .int .u64 (x.mt : Nat), .int .u64 (x.tb : Nat), .int .u64 (x.tt : Nat), .int .u64 (x.s : Nat), .int .u64 (x.a : Nat), u], .bool true]) = .returned (.tuple #[.agg #[.int .i64 (oF l).k, .int .i64 (oF l).n, .int .u64 ((oF l).mb : Nat), .int .u64 ((oF l).mt : Nat), .int .u64 ((oF l).tb : Nat), .int .u64 ((oF l).tt : Nat), .int .u64 ((oF l).s : Nat), .int .u64 ((oF l).a : Nat), u], .bool (okF l)])) := fun h u => by
    obtain ⟨e1, _, e3⟩ := o_yes h
    rw [e1, h, ← hfr]; rfl
  have hc2 : ∀ W, (Instr.slice 26 (.slice (some ⟨b, o, none⟩) l.length c) (some (.int .i64 2)) (some (.int .i64 10)) none).run Try.prog W = .ok (.slice (some ⟨b, o + 2, none⟩) 8 (c - 2)) W := fun W => cut_both b o c 2 10 l.length (by omega) (by omega) (by omega) W
  have hc3 : ∀ W, (Instr.slice 26 (.slice (some ⟨b, o, none⟩) l.length c) (some (.int .i64 10)) (some (.int .i64 18)) none).run Try.prog W = .ok (.slice (some ⟨b, o + 10, none⟩) 8 (c - 10)) W := fun W => cut_both b o c 10 18 l.length (by omega) (by omega) (by omega) W
  have hc4 : ∀ W, (Instr.slice 26 (.slice (some ⟨b, o, none⟩) l.length c) (some (.int .i64 18)) (some (.int .i64 26)) none).run Try.prog W = .ok (.slice (some ⟨b, o + 18, none⟩) 8 (c - 18)) W := fun W => cut_both b o c 18 26 l.length (by omega) (by omega) (by omega) W
  have hc5 : ∀ W, (Instr.slice 26 (.slice (some ⟨b, o, none⟩) l.length c) (some (.int .i64 26)) (some (.int .i64 34)) none).run Try.prog W = .ok (.slice (some ⟨b, o + 26, none⟩) 8 (c - 26)) W := fun W => cut_both b o c 26 34 l.length (by omega) (by omega) (by omega) W
  have hc6 : ∀ W, (Instr.slice 26 (.slice (some ⟨b, o, none⟩) l.length c) (some (.int .i64 34)) (some (.int .i64 42)) none).run Try.prog W = .ok (.slice (some ⟨b, o + 34, none⟩) 8 (c - 34)) W := fun W => cut_both b o c 34 42 l.length (by omega) (by omega) (by omega) W
  have hc7 : ∀ W, (Instr.slice 26 (.slice (some ⟨b, o, none⟩) l.length c) (some (.int .i64 42)) (some (.int .i64 50)) none).run Try.prog W = .ok (.slice (some ⟨b, o + 42, none⟩) 8 (c - 42)) W := fun W => cut_both b o c 42 50 l.length (by omega) (by omega) (by omega) W
  obtain ⟨n, hn⟩ : ∃ n, n = l.length := ⟨_, rfl⟩
  rw [← hn] at HBD HBV HMY HBY hs5 hc2 hc3 hc4 hc5 hc6 hc7 ⊢
  obtain ⟨wb, hwb⟩ : ∃ wb, wb = wm.alloc (.cells #[.int .i64 0, .int .i64 0, .int .u64 0, .int .u64 0, .int .u64 0, .int .u64 0, .int .u64 0, .int .u64 0, .slice none 0 0] 28) := ⟨_, rfl⟩
  have HM : Hid (Below wm.heap.size wm wb) := by rw [hwb]; exact (Below.refl _ _).alloc (Nat.le_refl _) _
  have HR0 : Hid (BlkAt 28 wm.heap.size [.int .i64 0, .int .i64 0, .int .u64 0, .int .u64 0, .int .u64 0, .int .u64 0, .int .u64 0, .int .u64 0, .slice none 0 0] wb) := by rw [hwb]; exact BlkAt.new wm _
  have k1 : (54 : Int) ≤ n := by omega
  have k2 : n ≤ c := by omega
  have k3 : 0 < n := by omega
  have k4 : (0 : Int) < n := by omega
  have k5 : 1 < n := by omega
  have k6 : (1 : Int) < n := by omega
  have HH : Hid (54 ≤ n ∧ n ≤ 9000 ∧ n = l.length ∧ n ≤ c ∧ b < wm.heap.size ∧ wm.heap.size < wb.heap.size) := ⟨by omega, by omega, hn, by omega, hbl, HR0.out.lt⟩
  clear hx hfr hdl hv hb5 h54 hl hlc hbl hn hcl hgt
  go_enter Try.func15, Try.ntmps15
  go_wp2_with fail
  rw [← hwb]
  clear hwb
  (refine wp_region_held_drew (S := (fun w' => Below wb.heap.size wb w')) (by kernel_rfl) ?_ (fun hHeld => ?_); (focus ((try dsimp only); (exact (Below.refl _ _).drew))))
  (try dsimp only at hHeld)
  obtain ⟨w0, hw0⟩ : ∃ w4, w4 = World.drew wb := ⟨_, rfl⟩
  rw [← hw0]
  rw [← hw0] at hHeld
  clear hw0
  refine wpAnyH_cut #[true, true, true, true, true, true, true, true, true, true, true, true, true, true, true, true, true, true, true, true, true, true, true, true, true, true, true, true, true, true, true, true, false] 1 (fun A w1 => ∃ (g4 : Nat), A = ⟨#[.slice (some ⟨b, o, none⟩) n c, undef, .pointer (some ⟨wm.heap.size, 0, none⟩), .bool false, .pointer (some ⟨g4, 0, none⟩), .slice (some ⟨b, o, none⟩) n c, .int .i64 n, .bool (decide ((n : Int) < 54)), undef, .slice (some ⟨b, o, none⟩) n c, .pointer (some ⟨b, o, none⟩), .int .u8 (x.k0 : Nat), .int .i64 (x.k0 : Nat), .slice (some ⟨b, o, none⟩) n c, .pointer (some ⟨b, o + 1, none⟩), .int .u8 (x.n0 : Nat), .int .i64 (x.n0 : Nat), .slice (some ⟨b, o, none⟩) n c, .slice (some ⟨b, o + 2, none⟩) 8 (c - 2), .int .u64 (x.mb : Nat), .slice (some ⟨b, o, none⟩) n c, .slice (some ⟨b, o + 10, none⟩) 8 (c - 10), .int .u64 (x.mt : Nat), .agg #[.int .u64 (x.mb : Nat), .int .u64 (x.mt : Nat)], .slice (some ⟨b, o, none⟩) n c, .slice (some ⟨b, o + 18, none⟩) 8 (c - 18), .int .u64 (x.tb : Nat), .slice (some ⟨b, o, none⟩) n c, .slice (some ⟨b, o + 26, none⟩) 8 (c - 26), .int .u64 (x.tt : Nat), .agg #[.int .u64 (x.tb : Nat), .int .u64 (x.tt : Nat)], .slice (some ⟨b, o, none⟩) n c, .slice (some ⟨b, o + 34, none⟩) 8 (c - 34), .int .u64 (x.s : Nat), .slice (some ⟨b, o, none⟩) n c, .slice (some ⟨b, o + 42, none⟩) 8 (c - 42), .int .u64 (x.a : Nat), .slice (some ⟨b, o, none⟩) n c, .slice a5 (n - 54) (c - 54), .agg #[.int .i64 (x.k0 : Nat), .int .i64 (x.n0 : Nat), .int .u64 (x.mb : Nat), .int .u64 (x.mt : Nat), .int .u64 (x.tb : Nat), .int .u64 (x.tt : Nat), .int .u64 (x.s : Nat), .int .u64 (x.a : Nat), .slice a5 (n - 54) (c - 54)], undef, undef, undef, undef, undef, undef, undef, undef, undef, undef, undef, undef, undef], []⟩ ∧ Hid (BlkG 28 wb g4 [.int .i64 0, .int .i64 0, .int .u64 0, .int .u64 0, .int .u64 0, .int .u64 0, .int .u64 0, .int .u64 0, .slice none 0 0] w1)) ?_ (fun m0 => ?_)
  · rintro l' A w1 rfl ⟨g4, rfl, HF⟩ hHeld
    refine wpAnyH_ready (rs := [32]) (by kernel_rfl) (by simp) ?_
    refine AllReadyH.cons rfl (fun K hK => ?_) AllReadyH.nil
    obtain ⟨c0, c1, c2, c3, c4, c5, c6, c7, c8⟩ := blk9 HF.out.1
    have hfz : ∀ j, w1.frozen? ⟨g4, j, none⟩ = false := fun j => BlkAt.frozen HF.out.1 j
    obtain ⟨s1, s2, s3⟩ := BlkAt.set9 HF.out.1 (.int .i64 (x.k0 : Nat)) (.int .i64 (x.n0 : Nat)) (.int .u64 (x.mb : Nat)) (.int .u64 (x.mt : Nat)) (.int .u64 (x.tb : Nat)) (.int .u64 (x.tt : Nat)) (.int .u64 (x.s : Nat)) (.int .u64 (x.a : Nat)) (.slice a5 (n - 54) (c - 54))
    have HMV := Lib.hid (hHeld.trans (s2 _ HF.out.2))
    have G1 := Lib.hid s1
    clear s1 s2 s3
    go_simp
    refine hK.out _ _ HMV.out (fun hHeldN => ?_)
    refine wpAnyH_done (by kernel_rfl) ?_ _
    clear hHeldN hHeld hK c0 c1 c2 c3 c4 c5 c6 c7 c8 hfz hc2 hc3 hc4 hc5 hc6 hc7
    obtain ⟨w2, hw2⟩ : ∃ w2, w2 = (((((((((w1.setCell ⟨g4, 0, none⟩ (.int .i64 (x.k0 : Nat))).setCell ⟨g4, 1, none⟩ (.int .i64 (x.n0 : Nat))).setCell ⟨g4, 2, none⟩ (.int .u64 (x.mb : Nat))).setCell ⟨g4, 3, none⟩ (.int .u64 (x.mt : Nat))).setCell ⟨g4, 4, none⟩ (.int .u64 (x.tb : Nat))).setCell ⟨g4, 5, none⟩ (.int .u64 (x.tt : Nat))).setCell ⟨g4, 6, none⟩ (.int .u64 (x.s : Nat))).setCell ⟨g4, 7, none⟩ (.int .u64 (x.a : Nat))).setCell ⟨g4, 8, none⟩ (.slice a5 (n - 54) (c - 54))) := ⟨_, rfl⟩
    rw [← hw2] at HMV G1 ⊢
    clear hw2
    have HB2 : Hid (Below wm.heap.size wm w2) := HM.out.trans (HMV.out.mono HM.out.size)
    have R2 : Hid (BlkAt 28 wm.heap.size [.int .i64 0, .int .i64 0, .int .u64 0, .int .u64 0, .int .u64 0, .int .u64 0, .int .u64 0, .int .u64 0, .slice none 0 0] w2) := HR0.out.later HMV.out
    clear HMV HF HR0 HM
    go_wp2_with fail
    (refine wp_region_held_drew (S := (fun w' => Below w2.heap.size w2 w')) (by kernel_rfl) ?_ (fun hHeld => ?_); (focus ((try dsimp only); (exact (Below.refl _ _).drew))))
    (try dsimp only at hHeld)
    obtain ⟨w0', hw0'⟩ : ∃ w4, w4 = World.drew w2 := ⟨_, rfl⟩
    rw [← hw0']
    rw [← hw0'] at hHeld
    clear hw0'
    (refine wpAnyH_take (i := 0) (v := ?_) rfl (by kernel_rfl) (by kernel_rfl) (by kernel_rfl) (fun _ _ _ h => h) (Or.inl ⟨by rfl, ?_⟩) hHeld ?_; rotate_left; (focus (intro w hSw; (try dsimp only at hSw); go_simp; (have hq := BlkAt.later G1.out hSw; obtain ⟨c0, c1, c2, c3, c4, c5, c6, c7, c8⟩ := blk9 hq; go_simp; try with_reducible rfl))); (try simp only [Act.put, List.setIfInBounds_toArray, List.set_cons_zero, List.set_cons_succ, List.getElem_toArray, List.getElem_cons_zero]))
    rcases HD.out with ⟨d1, d3⟩ | ⟨d1, d2, d3⟩ | ⟨d1, d2, d3⟩
    · have HZ := Lib.hid (of_zeroR d3)
      have HO : Hid (oB l = []) := (o_no d3).2.1
      have HD1 := Lib.hid d1
      clear d1 d3
      (refine wpAnyH_ready (rs := [1]) (by kernel_rfl) (by simp) ?_; refine AllReadyH.cons rfl (fun K hK => ?_) AllReadyH.nil; go_simp; refine (HMY.out _ (below_of HB2.out hHeld)).mono ?_; rintro e y1 ⟨rfl, hs⟩; rw [HD1.out]; refine hK.out _ _ ?_ (fun hHeldN => ?_); (focus ((try dsimp only); (exact hHeld.trans (hs.mono hHeld.size)))); clear hK K hHeld; have hHeld := hHeldN; clear hHeldN; (try simp only [Act.put, List.setIfInBounds_toArray, List.set_cons_zero, List.set_cons_succ, List.getElem_toArray, List.getElem_cons_zero, List.getElem_cons_succ]))
      clear hs
      (refine wpAnyH_take (i := 2) (v := ?_) rfl (by kernel_rfl) (by kernel_rfl) (by kernel_rfl) (fun _ _ _ h => h) (Or.inl ⟨by rfl, ?_⟩) hHeld ?_; rotate_left; (focus (intro w hSw; (try dsimp only at hSw); go_simp; try with_reducible rfl)); (try simp only [Act.put, List.setIfInBounds_toArray, List.set_cons_zero, List.set_cons_succ, List.getElem_toArray, List.getElem_cons_zero, List.getElem_cons_succ])); (refine wpAnyH_take (i := 3) (v := ?_) rfl (by kernel_rfl) (by kernel_rfl) (by kernel_rfl) (fun _ _ _ h => h) (Or.inl ⟨by rfl, ?_⟩) hHeld ?_; rotate_left; (focus (intro w hSw; (try dsimp only at hSw); go_simp; try with_reducible rfl)); (try simp only [Act.put, List.setIfInBounds_toArray, List.set_cons_zero, List.set_cons_succ, List.getElem_toArray, List.getElem_cons_zero, List.getElem_cons_succ]))
      (refine wpAnyH_take (i := 4) (v := undef) rfl (by kernel_rfl) (by kernel_rfl) (by kernel_rfl) (fun _ _ _ h => h) (Or.inr ⟨by rfl, rfl⟩) hHeld ?_; (try simp only [Act.put, List.setIfInBounds_toArray, List.set_cons_zero, List.set_cons_succ, List.getElem_toArray, List.getElem_cons_zero, List.getElem_cons_succ])); (refine wpAnyH_take (i := 5) (v := undef) rfl (by kernel_rfl) (by kernel_rfl) (by kernel_rfl) (fun _ _ _ h => h) (Or.inr ⟨by rfl, rfl⟩) hHeld ?_; (try simp only [Act.put, List.setIfInBounds_toArray, List.set_cons_zero, List.set_cons_succ, List.getElem_toArray, List.getElem_cons_zero, List.getElem_cons_succ])); (refine wpAnyH_take (i := 6) (v := undef) rfl (by kernel_rfl) (by kernel_rfl) (by kernel_rfl) (fun _ _ _ h => h) (Or.inr ⟨by rfl, rfl⟩) hHeld ?_; (try simp only [Act.put, List.setIfInBounds_toArray, List.set_cons_zero, List.set_cons_succ, List.getElem_toArray, List.getElem_cons_zero, List.getElem_cons_succ])); (refine wpAnyH_take (i := 7) (v := undef) rfl (by kernel_rfl) (by kernel_rfl) (by kernel_rfl) (fun _ _ _ h => h) (Or.inr ⟨by rfl, rfl⟩) hHeld ?_; (try simp only [Act.put, List.setIfInBounds_toArray, List.set_cons_zero, List.set_cons_succ, List.getElem_toArray, List.getElem_cons_zero, List.getElem_cons_succ])); (refine wpAnyH_take (i := 8) (v := undef) rfl (by kernel_rfl) (by kernel_rfl) (by kernel_rfl) (fun _ _ _ h => h) (Or.inr ⟨by rfl, rfl⟩) hHeld ?_; (try simp only [Act.put, List.setIfInBounds_toArray, List.set_cons_zero, List.set_cons_succ, List.getElem_toArray, List.getElem_cons_zero, List.getElem_cons_succ])); (refine wpAnyH_take (i := 9) (v := undef) rfl (by kernel_rfl) (by kernel_rfl) (by kernel_rfl) (fun _ _ _ h => h) (Or.inr ⟨by rfl, rfl⟩) hHeld ?_; (try simp only [Act.put, List.setIfInBounds_toArray, List.set_cons_zero, List.set_cons_succ, List.getElem_toArray, List.getElem_cons_zero, List.getElem_cons_succ]))
      (refine wpAnyH_take (i := 10) (v := ?_) rfl (by kernel_rfl) (by kernel_rfl) (by kernel_rfl) (fun _ _ _ h => h) (Or.inl ⟨by rfl, ?_⟩) hHeld ?_; rotate_left; (focus (intro w hSw; (try dsimp only at hSw); go_simp; try with_reducible rfl)); (try simp only [Act.put, List.setIfInBounds_toArray, List.set_cons_zero, List.set_cons_succ, List.getElem_toArray, List.getElem_cons_zero, List.getElem_cons_succ]))
      refine wpAnyH_done (by kernel_rfl) ?_ _
      have HB4 := Lib.hid (below_of HB2.out hHeld)
      have R4 := Lib.hid (R2.out.later hHeld)
      clear hHeld
      obtain ⟨c0, c1, c2, c3, c4, c5, c6, c7, c8⟩ := blk9 R4.out
      have hfz : ∀ j, y1.frozen? ⟨wm.heap.size, j, none⟩ = false := fun j => BlkAt.frozen R4.out j
      obtain ⟨s1, s2, _⟩ := BlkAt.set9 R4.out (.int .i64 0) (.int .i64 0) (.int .u64 0) (.int .u64 0) (.int .u64 0) (.int .u64 0) (.int .u64 0) (.int .u64 0) (.slice none 0 0)
      have S1 := Lib.hid s1
      have S3 := Lib.hid (HB4.out.trans (s2 _ (Nat.le_refl _)))
      clear s1 s2
      go_wp2_with fail
      obtain ⟨d0, d1, d2, d3, d4, d5, d6, d7, d8⟩ := blk9 S1.out
      exact bodyPost_ret (v := .tuple #[.agg #[.int .i64 0, .int .i64 0, .int .u64 0, .int .u64 0, .int .u64 0, .int .u64 0, .int .u64 0, .int .u64 0, .slice none 0 0], .bool false]) (by simp [results, Try.results15, go_sem, d0, d1, d2, d3, d4, d5, d6, d7, d8]) rfl ⟨_, HZ.out, by rw [HO.out]; exact Bytes.nil _ _ _, S3.out⟩
    · have HZ := Lib.hid (of_zeroR d3)
      have HO : Hid (oB l = []) := (o_no d3).2.1
      have HD1 := Lib.hid d1
      have HBW := Lib.hid (HBY.out d1)
      obtain ⟨K1, hK1⟩ : ∃ k, k = frL x.fr (l.drop 54) := ⟨_, rfl⟩
      rw [← hK1] at HBW d2
      clear d1 d3 hK1
      (refine wpAnyH_ready (rs := [1]) (by kernel_rfl) (by simp) ?_; refine AllReadyH.cons rfl (fun K hK => ?_) AllReadyH.nil; go_simp; refine (HMY.out _ (below_of HB2.out hHeld)).mono ?_; rintro e y1 ⟨rfl, hs⟩; rw [HD1.out]; refine hK.out _ _ ?_ (fun hHeldN => ?_); (focus ((try dsimp only); (exact hHeld.trans (hs.mono hHeld.size)))); clear hK K hHeld; have hHeld := hHeldN; clear hHeldN; (try simp only [Act.put, List.setIfInBounds_toArray, List.set_cons_zero, List.set_cons_succ, List.getElem_toArray, List.getElem_cons_zero, List.getElem_cons_succ]))
      clear hs
      (refine wpAnyH_take (i := 2) (v := ?_) rfl (by kernel_rfl) (by kernel_rfl) (by kernel_rfl) (fun _ _ _ h => h) (Or.inl ⟨by rfl, ?_⟩) hHeld ?_; rotate_left; (focus (intro w hSw; (try dsimp only at hSw); go_simp; try with_reducible rfl)); (try simp only [Act.put, List.setIfInBounds_toArray, List.set_cons_zero, List.set_cons_succ, List.getElem_toArray, List.getElem_cons_zero, List.getElem_cons_succ])); (refine wpAnyH_take (i := 3) (v := ?_) rfl (by kernel_rfl) (by kernel_rfl) (by kernel_rfl) (fun _ _ _ h => h) (Or.inl ⟨by rfl, ?_⟩) hHeld ?_; rotate_left; (focus (intro w hSw; (try dsimp only at hSw); go_simp; try with_reducible rfl)); (try simp only [Act.put, List.setIfInBounds_toArray, List.set_cons_zero, List.set_cons_succ, List.getElem_toArray, List.getElem_cons_zero, List.getElem_cons_succ]))
      (refine wpAnyH_take (i := 4) (v := ?_) rfl (by kernel_rfl) (by kernel_rfl) (by kernel_rfl) (fun _ _ _ h => h) (Or.inl ⟨by rfl, ?_⟩) hHeld ?_; rotate_left; (focus (intro w hSw; (try dsimp only at hSw); go_simp; (have hq := BlkAt.later G1.out hSw; obtain ⟨c0, c1, c2, c3, c4, c5, c6, c7, c8⟩ := blk9 hq; go_simp; try with_reducible rfl))); (try simp only [Act.put, List.setIfInBounds_toArray, List.set_cons_zero, List.set_cons_succ, List.getElem_toArray, List.getElem_cons_zero, List.getElem_cons_succ]))
      (refine wpAnyH_take (i := 7) (v := ?_) rfl (by kernel_rfl) (by kernel_rfl) (by kernel_rfl) (fun _ _ _ h => h) (Or.inl ⟨by rfl, ?_⟩) hHeld ?_; rotate_left; (focus (intro w hSw; (try dsimp only at hSw); go_simp; try with_reducible rfl)); (try simp only [Act.put, List.setIfInBounds_toArray, List.set_cons_zero, List.set_cons_succ, List.getElem_toArray, List.getElem_cons_zero, List.getElem_cons_succ]))
      (refine wpAnyH_take (i := 8) (v := ?_) rfl (by kernel_rfl) (by kernel_rfl) (by kernel_rfl) (fun _ _ _ h => h) (Or.inl ⟨by rfl, ?_⟩) hHeld ?_; rotate_left; (focus (intro w hSw; (try dsimp only at hSw); go_simp; (have hz := (HBV.out w (below_of HB2.out hSw)).str (P := Try.prog) (src := 26) (dst := 9) Try.underlying26 Try.underlying5 Try.underlying9; go_simp; try with_reducible rfl))); (try simp only [Act.put, List.setIfInBounds_toArray, List.set_cons_zero, List.set_cons_succ, List.getElem_toArray, List.getElem_cons_zero, List.getElem_cons_succ]))
      (refine wpAnyH_ready (rs := [5]) (by kernel_rfl) (by simp) ?_; refine AllReadyH.cons rfl (fun K hK => ?_) AllReadyH.nil; go_simp; refine (HBW.out _ (below_of HB2.out hHeld)).mono ?_; rintro e y2 ⟨v2, rfl, ho2, hs⟩; have HV2 := Lib.hid ho2.bytes; refine hK.out _ _ ?_ (fun hHeldN => ?_); (focus ((try dsimp only); (exact hHeld.trans (hs.mono hHeld.size)))); clear hK K hHeld; have hHeld := hHeldN; clear hHeldN; (try simp only [Act.put, List.setIfInBounds_toArray, List.set_cons_zero, List.set_cons_succ, List.getElem_toArray, List.getElem_cons_zero, List.getElem_cons_succ]))
      clear hs ho2
      have HHB := Lib.hid hHeld
      clear hHeld
      refine wpAnyH_str (S' := fun w' => Below y2.heap.size y2 w') (fun w' h => HHB.out.trans (h.mono HHB.out.size)) _ _ _ _ ?_
      have hHeld := Below.refl y2.heap.size y2
      (refine wpAnyH_take (i := 6) (v := ?_) rfl (by kernel_rfl) (by kernel_rfl) (by kernel_rfl) (fun _ _ _ h => h) (Or.inl ⟨by rfl, ?_⟩) hHeld ?_; rotate_left; (focus (intro w hSw; (try dsimp only at hSw); go_simp; (have hz := (Bytes.later HV2.out hSw).str (P := Try.prog) (src := 26) (dst := 9) Try.underlying26 Try.underlying5 Try.underlying9; go_simp; try with_reducible rfl))); (try simp only [Act.put, List.setIfInBounds_toArray, List.set_cons_zero, List.set_cons_succ, List.getElem_toArray, List.getElem_cons_zero, List.getElem_cons_succ]))
      (refine wpAnyH_take (i := 9) (v := ?_) rfl (by kernel_rfl) (by kernel_rfl) (by kernel_rfl) (fun _ _ _ h => h) (Or.inl ⟨by rfl, ?_⟩) hHeld ?_; rotate_left; (focus (intro w hSw; (try dsimp only at hSw); go_simp; try with_reducible rfl)); (try simp only [Act.put, List.setIfInBounds_toArray, List.set_cons_zero, List.set_cons_succ, List.getElem_toArray, List.getElem_cons_zero, List.getElem_cons_succ])); (refine wpAnyH_take (i := 10) (v := ?_) rfl (by kernel_rfl) (by kernel_rfl) (by kernel_rfl) (fun _ _ _ h => h) (Or.inl ⟨by rfl, ?_⟩) hHeld ?_; rotate_left; (focus (intro w hSw; (try dsimp only at hSw); go_simp; try with_reducible rfl)); (try simp only [Act.put, List.setIfInBounds_toArray, List.set_cons_zero, List.set_cons_succ, List.getElem_toArray, List.getElem_cons_zero, List.getElem_cons_succ]))
      refine wpAnyH_done (by kernel_rfl) ?_ _
      have HB4 := Lib.hid (below_of HB2.out HHB.out)
      have R4 := Lib.hid (R2.out.later HHB.out)
      clear hHeld HHB
      obtain ⟨c0, c1, c2, c3, c4, c5, c6, c7, c8⟩ := blk9 R4.out
      have hfz : ∀ j, y2.frozen? ⟨wm.heap.size, j, none⟩ = false := fun j => BlkAt.frozen R4.out j
      obtain ⟨s1, s2, _⟩ := BlkAt.set9 R4.out (.int .i64 0) (.int .i64 0) (.int .u64 0) (.int .u64 0) (.int .u64 0) (.int .u64 0) (.int .u64 0) (.int .u64 0) (.slice none 0 0)
      have S1 := Lib.hid s1
      have S3 := Lib.hid (HB4.out.trans (s2 _ (Nat.le_refl _)))
      clear s1 s2
      go_wp2_with fail
      obtain ⟨d0, d1, d2, d3, d4, d5, d6, d7, d8⟩ := blk9 S1.out
      exact bodyPost_ret (v := .tuple #[.agg #[.int .i64 0, .int .i64 0, .int .u64 0, .int .u64 0, .int .u64 0, .int .u64 0, .int .u64 0, .int .u64 0, .slice none 0 0], .bool false]) (by simp [results, Try.results15, go_sem, d0, d1, d2, d3, d4, d5, d6, d7, d8]) rfl ⟨_, HZ.out, by rw [HO.out]; exact Bytes.nil _ _ _, S3.out⟩
    · have HZ := Lib.hid (HOY.out d3)
      have HO : Hid (oB l = l.drop 54) := (o_yes d3).2.1
      have HD1 := Lib.hid d1
      have hbw := HBY.out d1
      rw [d2] at hbw
      have HBW := Lib.hid hbw
      clear d1 d2 d3 hbw
      (refine wpAnyH_ready (rs := [1]) (by kernel_rfl) (by simp) ?_; refine AllReadyH.cons rfl (fun K hK => ?_) AllReadyH.nil; go_simp; refine (HMY.out _ (below_of HB2.out hHeld)).mono ?_; rintro e y1 ⟨rfl, hs⟩; rw [HD1.out]; refine hK.out _ _ ?_ (fun hHeldN => ?_); (focus ((try dsimp only); (exact hHeld.trans (hs.mono hHeld.size)))); clear hK K hHeld; have hHeld := hHeldN; clear hHeldN; (try simp only [Act.put, List.setIfInBounds_toArray, List.set_cons_zero, List.set_cons_succ, List.getElem_toArray, List.getElem_cons_zero, List.getElem_cons_succ]))
      clear hs
      (refine wpAnyH_take (i := 2) (v := ?_) rfl (by kernel_rfl) (by kernel_rfl) (by kernel_rfl) (fun _ _ _ h => h) (Or.inl ⟨by rfl, ?_⟩) hHeld ?_; rotate_left; (focus (intro w hSw; (try dsimp only at hSw); go_simp; try with_reducible rfl)); (try simp only [Act.put, List.setIfInBounds_toArray, List.set_cons_zero, List.set_cons_succ, List.getElem_toArray, List.getElem_cons_zero, List.getElem_cons_succ])); (refine wpAnyH_take (i := 3) (v := ?_) rfl (by kernel_rfl) (by kernel_rfl) (by kernel_rfl) (fun _ _ _ h => h) (Or.inl ⟨by rfl, ?_⟩) hHeld ?_; rotate_left; (focus (intro w hSw; (try dsimp only at hSw); go_simp; try with_reducible rfl)); (try simp only [Act.put, List.setIfInBounds_toArray, List.set_cons_zero, List.set_cons_succ, List.getElem_toArray, List.getElem_cons_zero, List.getElem_cons_succ]))
      (refine wpAnyH_take (i := 4) (v := ?_) rfl (by kernel_rfl) (by kernel_rfl) (by kernel_rfl) (fun _ _ _ h => h) (Or.inl ⟨by rfl, ?_⟩) hHeld ?_; rotate_left; (focus (intro w hSw; (try dsimp only at hSw); go_simp; (have hq := BlkAt.later G1.out hSw; obtain ⟨c0, c1, c2, c3, c4, c5, c6, c7, c8⟩ := blk9 hq; go_simp; try with_reducible rfl))); (try simp only [Act.put, List.setIfInBounds_toArray, List.set_cons_zero, List.set_cons_succ, List.getElem_toArray, List.getElem_cons_zero, List.getElem_cons_succ]))
      (refine wpAnyH_take (i := 7) (v := ?_) rfl (by kernel_rfl) (by kernel_rfl) (by kernel_rfl) (fun _ _ _ h => h) (Or.inl ⟨by rfl, ?_⟩) hHeld ?_; rotate_left; (focus (intro w hSw; (try dsimp only at hSw); go_simp; try with_reducible rfl)); (try simp only [Act.put, List.setIfInBounds_toArray, List.set_cons_zero, List.set_cons_succ, List.getElem_toArray, List.getElem_cons_zero, List.getElem_cons_succ]))
      (refine wpAnyH_take (i := 8) (v := ?_) rfl (by kernel_rfl) (by kernel_rfl) (by kernel_rfl) (fun _ _ _ h => h) (Or.inl ⟨by rfl, ?_⟩) hHeld ?_; rotate_left; (focus (intro w hSw; (try dsimp only at hSw); go_simp; (have hz := (HBV.out w (below_of HB2.out hSw)).str (P := Try.prog) (src := 26) (dst := 9) Try.underlying26 Try.underlying5 Try.underlying9; go_simp; try with_reducible rfl))); (try simp only [Act.put, List.setIfInBounds_toArray, List.set_cons_zero, List.set_cons_succ, List.getElem_toArray, List.getElem_cons_zero, List.getElem_cons_succ]))
      (refine wpAnyH_ready (rs := [5]) (by kernel_rfl) (by simp) ?_; refine AllReadyH.cons rfl (fun K hK => ?_) AllReadyH.nil; go_simp; refine (HBW.out _ (below_of HB2.out hHeld)).mono ?_; rintro e y2 ⟨v2, rfl, ho2, hs⟩; have HV2 := Lib.hid ho2.bytes; refine hK.out _ _ ?_ (fun hHeldN => ?_); (focus ((try dsimp only); (exact hHeld.trans (hs.mono hHeld.size)))); clear hK K hHeld; have hHeld := hHeldN; clear hHeldN; (try simp only [Act.put, List.setIfInBounds_toArray, List.set_cons_zero, List.set_cons_succ, List.getElem_toArray, List.getElem_cons_zero, List.getElem_cons_succ]))
      clear hs ho2
      have HHB := Lib.hid hHeld
      clear hHeld
      refine wpAnyH_str (S' := fun w' => Below y2.heap.size y2 w') (fun w' h => HHB.out.trans (h.mono HHB.out.size)) _ _ _ _ ?_
      have hHeld := Below.refl y2.heap.size y2
      (refine wpAnyH_take (i := 6) (v := ?_) rfl (by kernel_rfl) (by kernel_rfl) (by kernel_rfl) (fun _ _ _ h => h) (Or.inl ⟨by rfl, ?_⟩) hHeld ?_; rotate_left; (focus (intro w hSw; (try dsimp only at hSw); go_simp; (have hz := (Bytes.later HV2.out hSw).str (P := Try.prog) (src := 26) (dst := 9) Try.underlying26 Try.underlying5 Try.underlying9; go_simp; try with_reducible rfl))); (try simp only [Act.put, List.setIfInBounds_toArray, List.set_cons_zero, List.set_cons_succ, List.getElem_toArray, List.getElem_cons_zero, List.getElem_cons_succ]))
      (refine wpAnyH_take (i := 9) (v := ?_) rfl (by kernel_rfl) (by kernel_rfl) (by kernel_rfl) (fun _ _ _ h => h) (Or.inl ⟨by rfl, ?_⟩) hHeld ?_; rotate_left; (focus (intro w hSw; (try dsimp only at hSw); go_simp; try with_reducible rfl)); (try simp only [Act.put, List.setIfInBounds_toArray, List.set_cons_zero, List.set_cons_succ, List.getElem_toArray, List.getElem_cons_zero, List.getElem_cons_succ])); (refine wpAnyH_take (i := 10) (v := ?_) rfl (by kernel_rfl) (by kernel_rfl) (by kernel_rfl) (fun _ _ _ h => h) (Or.inl ⟨by rfl, ?_⟩) hHeld ?_; rotate_left; (focus (intro w hSw; (try dsimp only at hSw); go_simp; try with_reducible rfl)); (try simp only [Act.put, List.setIfInBounds_toArray, List.set_cons_zero, List.set_cons_succ, List.getElem_toArray, List.getElem_cons_zero, List.getElem_cons_succ]))
      refine wpAnyH_done (by kernel_rfl) ?_ _
      have HB4 := Lib.hid (below_of HB2.out HHB.out)
      have R4 := Lib.hid (R2.out.later HHB.out)
      have G4 := Lib.hid (G1.out.later HHB.out)
      clear hHeld HHB
      obtain ⟨c0, c1, c2, c3, c4, c5, c6, c7, c8⟩ := blk9 R4.out
      obtain ⟨b0, b1, b2, b3, b4, b5, b6, b7, b8⟩ := blk9 G4.out
      have hfz : ∀ j, y2.frozen? ⟨wm.heap.size, j, none⟩ = false := fun j => BlkAt.frozen R4.out j
      obtain ⟨s1, s2, _⟩ := BlkAt.set9 R4.out (.int .i64 (x.k0 : Nat)) (.int .i64 (x.n0 : Nat)) (.int .u64 (x.mb : Nat)) (.int .u64 (x.mt : Nat)) (.int .u64 (x.tb : Nat)) (.int .u64 (x.tt : Nat)) (.int .u64 (x.s : Nat)) (.int .u64 (x.a : Nat)) (.slice a5 (n - 54) (c - 54))
      have S1 := Lib.hid s1
      have S3 := Lib.hid (HB4.out.trans (s2 _ (Nat.le_refl _)))
      have S5 := Lib.hid (HBD.out _ S3.out)
      clear s1 s2
      go_wp2_with fail
      obtain ⟨d0, d1, d2, d3, d4, d5, d6, d7, d8⟩ := blk9 S1.out
      exact bodyPost_ret (v := .tuple #[.agg #[.int .i64 (x.k0 : Nat), .int .i64 (x.n0 : Nat), .int .u64 (x.mb : Nat), .int .u64 (x.mt : Nat), .int .u64 (x.tb : Nat), .int .u64 (x.tt : Nat), .int .u64 (x.s : Nat), .int .u64 (x.a : Nat), .slice a5 (n - 54) (c - 54)], .bool true]) (by simp [results, Try.results15, go_sem, d0, d1, d2, d3, d4, d5, d6, d7, d8]) rfl ⟨_, HZ.out _, by rw [HO.out]; exact S5.out, S3.out⟩
  refine wpAnyH_cut #[true, true, true, true, true, true, true, true, true, true, true, true, true, true, true, true, true, true, true, true, true, true, true, true, true, true, true, true, true, true, true, false, false] 2 (fun A w1 => A = ⟨#[.slice (some ⟨b, o, none⟩) n c, undef, .pointer (some ⟨wm.heap.size, 0, none⟩), .bool false, undef, .slice (some ⟨b, o, none⟩) n c, .int .i64 n, .bool (decide ((n : Int) < 54)), undef, .slice (some ⟨b, o, none⟩) n c, .pointer (some ⟨b, o, none⟩), .int .u8 (x.k0 : Nat), .int .i64 (x.k0 : Nat), .slice (some ⟨b, o, none⟩) n c, .pointer (some ⟨b, o + 1, none⟩), .int .u8 (x.n0 : Nat), .int .i64 (x.n0 : Nat), .slice (some ⟨b, o, none⟩) n c, .slice (some ⟨b, o + 2, none⟩) 8 (c - 2), .int .u64 (x.mb : Nat), .slice (some ⟨b, o, none⟩) n c, .slice (some ⟨b, o + 10, none⟩) 8 (c - 10), .int .u64 (x.mt : Nat), .agg #[.int .u64 (x.mb : Nat), .int .u64 (x.mt : Nat)], .slice (some ⟨b, o, none⟩) n c, .slice (some ⟨b, o + 18, none⟩) 8 (c - 18), .int .u64 (x.tb : Nat), .slice (some ⟨b, o, none⟩) n c, .slice (some ⟨b, o + 26, none⟩) 8 (c - 26), .int .u64 (x.tt : Nat), .agg #[.int .u64 (x.tb : Nat), .int .u64 (x.tt : Nat)], .slice (some ⟨b, o, none⟩) n c, .slice (some ⟨b, o + 34, none⟩) 8 (c - 34), .int .u64 (x.s : Nat), .slice (some ⟨b, o, none⟩) n c, .slice (some ⟨b, o + 42, none⟩) 8 (c - 42), .int .u64 (x.a : Nat), .slice (some ⟨b, o, none⟩) n c, .slice a5 (n - 54) (c - 54), .agg #[.int .i64 (x.k0 : Nat), .int .i64 (x.n0 : Nat), .int .u64 (x.mb : Nat), .int .u64 (x.mt : Nat), .int .u64 (x.tb : Nat), .int .u64 (x.tt : Nat), .int .u64 (x.s : Nat), .int .u64 (x.a : Nat), .slice a5 (n - 54) (c - 54)], undef, undef, undef, undef, undef, undef, undef, undef, undef, undef, undef, undef, undef], []⟩) ?_ (fun m1 => ?_)
  · rintro l' A w1 rfl rfl hHeld
    refine wpAnyH_ready (rs := [31]) (by kernel_rfl) (by simp) ?_
    refine AllReadyH.cons rfl (fun K hK => ?_) AllReadyH.nil
    go_simp
    have hs : Below (World.heap w1).size w1 (w1.alloc (.cells #[.int .i64 0, .int .i64 0, .int .u64 0, .int .u64 0, .int .u64 0, .int .u64 0, .int .u64 0, .int .u64 0, .slice none 0 0] 28)) := (Below.refl _ _).alloc (Nat.le_refl _) _
    have hF : Hid (BlkG 28 wb (World.heap w1).size [.int .i64 0, .int .i64 0, .int .u64 0, .int .u64 0, .int .u64 0, .int .u64 0, .int .u64 0, .int .u64 0, .slice none 0 0] (w1.alloc (.cells #[.int .i64 0, .int .i64 0, .int .u64 0, .int .u64 0, .int .u64 0, .int .u64 0, .int .u64 0, .int .u64 0, .slice none 0 0] 28))) := ⟨BlkAt.new w1 _, hHeld.size⟩
    refine hK.out _ _ (hHeld.trans (hs.mono hHeld.size)) (fun hHeldN => ?_)
    exact m0 _ _ _ (by kernel_rfl) ⟨_, rfl, hF⟩ hHeldN
  refine wpAnyH_cut #[true, true, true, true, true, true, true, true, true, true, true, true, true, true, true, true, true, true, true, true, true, true, true, true, true, true, true, false, true, true, false, true, false] 3 (fun A w1 => ∃ (g4 : Nat), A = ⟨#[.slice (some ⟨b, o, none⟩) n c, undef, .pointer (some ⟨wm.heap.size, 0, none⟩), .bool false, .pointer (some ⟨g4, 0, none⟩), .slice (some ⟨b, o, none⟩) n c, .int .i64 n, .bool (decide ((n : Int) < 54)), undef, .slice (some ⟨b, o, none⟩) n c, .pointer (some ⟨b, o, none⟩), .int .u8 (x.k0 : Nat), .int .i64 (x.k0 : Nat), .slice (some ⟨b, o, none⟩) n c, .pointer (some ⟨b, o + 1, none⟩), .int .u8 (x.n0 : Nat), .int .i64 (x.n0 : Nat), .slice (some ⟨b, o, none⟩) n c, .slice (some ⟨b, o + 2, none⟩) 8 (c - 2), .int .u64 (x.mb : Nat), .slice (some ⟨b, o, none⟩) n c, .slice (some ⟨b, o + 10, none⟩) 8 (c - 10), .int .u64 (x.mt : Nat), .agg #[.int .u64 (x.mb : Nat), .int .u64 (x.mt : Nat)], .slice (some ⟨b, o, none⟩) n c, .slice (some ⟨b, o + 18, none⟩) 8 (c - 18), .int .u64 (x.tb : Nat), .slice (some ⟨b, o, none⟩) n c, .slice (some ⟨b, o + 26, none⟩) 8 (c - 26), .int .u64 (x.tt : Nat), .agg #[.int .u64 (x.tb : Nat), .int .u64 (x.tt : Nat)], .slice (some ⟨b, o, none⟩) n c, .slice (some ⟨b, o + 34, none⟩) 8 (c - 34), .int .u64 (x.s : Nat), .slice (some ⟨b, o, none⟩) n c, .slice (some ⟨b, o + 42, none⟩) 8 (c - 42), undef, .slice (some ⟨b, o, none⟩) n c, .slice a5 (n - 54) (c - 54), undef, undef, undef, undef, undef, undef, undef, undef, undef, undef, undef, undef, undef, undef], []⟩ ∧ Hid (BlkG 28 wb g4 [.int .i64 0, .int .i64 0, .int .u64 0, .int .u64 0, .int .u64 0, .int .u64 0, .int .u64 0, .int .u64 0, .slice none 0 0] w1)) ?_ (fun m2 => ?_)
  · rintro l' A w1 rfl ⟨g4, rfl, HF⟩ hHeld
    refine wpAnyH_ready (rs := [27]) (by kernel_rfl) (by simp) ?_
    refine AllReadyH.cons rfl (fun K hK => ?_) AllReadyH.nil
    go_simp
    refine (HN5.out _ (HM.out.trans (hHeld.mono HM.out.size))).mono ?_
    rintro e w_n ⟨rfl, hs0⟩
    subst hs0
    simp only []
    refine hK.out _ _ hHeld (fun hHeldN => ?_)
    try simp only [Act.put, List.setIfInBounds_toArray, List.set_cons_zero, List.set_cons_succ, List.getElem_toArray, List.getElem_cons_zero, List.getElem_cons_succ]
    (have hHeldO := hHeld; clear hHeld; have hHeld := hHeldN)
    (refine wpAnyH_take (i := 30) (v := ?_) rfl (by kernel_rfl) (by kernel_rfl) (by kernel_rfl) (fun _ _ _ h => h) (Or.inl ⟨by rfl, ?_⟩) hHeld ?_; rotate_left; (focus (intro w hSw; (try dsimp only at hSw); go_simp; try with_reducible rfl)); (try simp only [Act.put, List.setIfInBounds_toArray, List.set_cons_zero, List.set_cons_succ, List.getElem_toArray, List.getElem_cons_zero, List.getElem_cons_succ]))
    exact m0 _ _ _ (by kernel_rfl) ⟨_, rfl, HF⟩ hHeld
  refine wpAnyH_cut #[true, true, true, true, true, true, true, true, true, true, true, true, true, true, true, true, true, true, true, true, true, true, true, true, true, true, true, false, true, true, false, false, false] 4 (fun A w1 => A = ⟨#[.slice (some ⟨b, o, none⟩) n c, undef, .pointer (some ⟨wm.heap.size, 0, none⟩), .bool false, undef, .slice (some ⟨b, o, none⟩) n c, .int .i64 n, .bool (decide ((n : Int) < 54)), undef, .slice (some ⟨b, o, none⟩) n c, .pointer (some ⟨b, o, none⟩), .int .u8 (x.k0 : Nat), .int .i64 (x.k0 : Nat), .slice (some ⟨b, o, none⟩) n c, .pointer (some ⟨b, o + 1, none⟩), .int .u8 (x.n0 : Nat), .int .i64 (x.n0 : Nat), .slice (some ⟨b, o, none⟩) n c, .slice (some ⟨b, o + 2, none⟩) 8 (c - 2), .int .u64 (x.mb : Nat), .slice (some ⟨b, o, none⟩) n c, .slice (some ⟨b, o + 10, none⟩) 8 (c - 10), .int .u64 (x.mt : Nat), .agg #[.int .u64 (x.mb : Nat), .int .u64 (x.mt : Nat)], .slice (some ⟨b, o, none⟩) n c, .slice (some ⟨b, o + 18, none⟩) 8 (c - 18), .int .u64 (x.tb : Nat), .slice (some ⟨b, o, none⟩) n c, .slice (some ⟨b, o + 26, none⟩) 8 (c - 26), .int .u64 (x.tt : Nat), .agg #[.int .u64 (x.tb : Nat), .int .u64 (x.tt : Nat)], .slice (some ⟨b, o, none⟩) n c, .slice (some ⟨b, o + 34, none⟩) 8 (c - 34), .int .u64 (x.s : Nat), .slice (some ⟨b, o, none⟩) n c, .slice (some ⟨b, o + 42, none⟩) 8 (c - 42), undef, .slice (some ⟨b, o, none⟩) n c, .slice a5 (n - 54) (c - 54), undef, undef, undef, undef, undef, undef, undef, undef, undef, undef, undef, undef, undef, undef], []⟩) ?_ (fun m3 => ?_)
  · rintro l' A w1 rfl rfl hHeld
    refine wpAnyH_ready (rs := [27, 31]) (by kernel_rfl) (by simp) ?_
    refine AllReadyH.cons rfl (fun K hK => ?_) (AllReadyH.cons rfl (fun K hK => ?_) AllReadyH.nil)
    · go_simp
      refine (HN5.out _ (HM.out.trans (hHeld.mono HM.out.size))).mono ?_
      rintro e w_n ⟨rfl, hs0⟩
      subst hs0
      simp only []
      refine hK.out _ _ hHeld (fun hHeldN => ?_)
      try simp only [Act.put, List.setIfInBounds_toArray, List.set_cons_zero, List.set_cons_succ, List.getElem_toArray, List.getElem_cons_zero, List.getElem_cons_succ]
      (have hHeldO := hHeld; clear hHeld; have hHeld := hHeldN)
      (refine wpAnyH_take (i := 30) (v := ?_) rfl (by kernel_rfl) (by kernel_rfl) (by kernel_rfl) (fun _ _ _ h => h) (Or.inl ⟨by rfl, ?_⟩) hHeld ?_; rotate_left; (focus (intro w hSw; (try dsimp only at hSw); go_simp; try with_reducible rfl)); (try simp only [Act.put, List.setIfInBounds_toArray, List.set_cons_zero, List.set_cons_succ, List.getElem_toArray, List.getElem_cons_zero, List.getElem_cons_succ]))
      exact m1 _ _ _ (by kernel_rfl) rfl hHeld
    · go_simp
      have hs : Below (World.heap w1).size w1 (w1.alloc (.cells #[.int .i64 0, .int .i64 0, .int .u64 0, .int .u64 0, .int .u64 0, .int .u64 0, .int .u64 0, .int .u64 0, .slice none 0 0] 28)) := (Below.refl _ _).alloc (Nat.le_refl _) _
      have hF : Hid (BlkG 28 wb (World.heap w1).size [.int .i64 0, .int .i64 0, .int .u64 0, .int .u64 0, .int .u64 0, .int .u64 0, .int .u64 0, .int .u64 0, .slice none 0 0] (w1.alloc (.cells #[.int .i64 0, .int .i64 0, .int .u64 0, .int .u64 0, .int .u64 0, .int .u64 0, .int .u64 0, .int .u64 0, .slice none 0 0] 28))) := ⟨BlkAt.new w1 _, hHeld.size⟩
      refine hK.out _ _ (hHeld.trans (hs.mono hHeld.size)) (fun hHeldN => ?_)
      exact m2 _ _ _ (by kernel_rfl) ⟨_, rfl, hF⟩ hHeldN
  refine wpAnyH_cut #[true, true, true, true, true, true, true, true, true, true, true, true, true, true, true, true, true, true, true, true, true, true, true, true, false, true, true, false, true, true, false, true, false] 4 (fun A w1 => ∃ (g4 : Nat), A = ⟨#[.slice (some ⟨b, o, none⟩) n c, undef, .pointer (some ⟨wm.heap.size, 0, none⟩), .bool false, .pointer (some ⟨g4, 0, none⟩), .slice (some ⟨b, o, none⟩) n c, .int .i64 n, .bool (decide ((n : Int) < 54)), undef, .slice (some ⟨b, o, none⟩) n c, .pointer (some ⟨b, o, none⟩), .int .u8 (x.k0 : Nat), .int .i64 (x.k0 : Nat), .slice (some ⟨b, o, none⟩) n c, .pointer (some ⟨b, o + 1, none⟩), .int .u8 (x.n0 : Nat), .int .i64 (x.n0 : Nat), .slice (some ⟨b, o, none⟩) n c, .slice (some ⟨b, o + 2, none⟩) 8 (c - 2), .int .u64 (x.mb : Nat), .slice (some ⟨b, o, none⟩) n c, .slice (some ⟨b, o + 10, none⟩) 8 (c - 10), .int .u64 (x.mt : Nat), .agg #[.int .u64 (x.mb : Nat), .int .u64 (x.mt : Nat)], .slice (some ⟨b, o, none⟩) n c, .slice (some ⟨b, o + 18, none⟩) 8 (c - 18), .int .u64 (x.tb : Nat), .slice (some ⟨b, o, none⟩) n c, .slice (some ⟨b, o + 26, none⟩) 8 (c - 26), .int .u64 (x.tt : Nat), .agg #[.int .u64 (x.tb : Nat), .int .u64 (x.tt : Nat)], .slice (some ⟨b, o, none⟩) n c, .slice (some ⟨b, o + 34, none⟩) 8 (c - 34), undef, .slice (some ⟨b, o, none⟩) n c, .slice (some ⟨b, o + 42, none⟩) 8 (c - 42), undef, .slice (some ⟨b, o, none⟩) n c, .slice a5 (n - 54) (c - 54), undef, undef, undef, undef, undef, undef, undef, undef, undef, undef, undef, undef, undef, undef], []⟩ ∧ Hid (BlkG 28 wb g4 [.int .i64 0, .int .i64 0, .int .u64 0, .int .u64 0, .int .u64 0, .int .u64 0, .int .u64 0, .int .u64 0, .slice none 0 0] w1)) ?_ (fun m4 => ?_)
  · rintro l' A w1 rfl ⟨g4, rfl, HF⟩ hHeld
    refine wpAnyH_ready (rs := [24]) (by kernel_rfl) (by simp) ?_
    refine AllReadyH.cons rfl (fun K hK => ?_) AllReadyH.nil
    go_simp
    refine (HN4.out _ (HM.out.trans (hHeld.mono HM.out.size))).mono ?_
    rintro e w_n ⟨rfl, hs0⟩
    subst hs0
    simp only []
    refine hK.out _ _ hHeld (fun hHeldN => ?_)
    try simp only [Act.put, List.setIfInBounds_toArray, List.set_cons_zero, List.set_cons_succ, List.getElem_toArray, List.getElem_cons_zero, List.getElem_cons_succ]
    (have hHeldO := hHeld; clear hHeld; have hHeld := hHeldN)
    exact m2 _ _ _ (by kernel_rfl) ⟨_, rfl, HF⟩ hHeld
  refine wpAnyH_cut #[true, true, true, true, true, true, true, true, true, true, true, true, true, true, true, true, true, true, true, true, true, true, true, true, false, true, true, false, true, true, false, false, false] 5 (fun A w1 => A = ⟨#[.slice (some ⟨b, o, none⟩) n c, undef, .pointer (some ⟨wm.heap.size, 0, none⟩), .bool false, undef, .slice (some ⟨b, o, none⟩) n c, .int .i64 n, .bool (decide ((n : Int) < 54)), undef, .slice (some ⟨b, o, none⟩) n c, .pointer (some ⟨b, o, none⟩), .int .u8 (x.k0 : Nat), .int .i64 (x.k0 : Nat), .slice (some ⟨b, o, none⟩) n c, .pointer (some ⟨b, o + 1, none⟩), .int .u8 (x.n0 : Nat), .int .i64 (x.n0 : Nat), .slice (some ⟨b, o, none⟩) n c, .slice (some ⟨b, o + 2, none⟩) 8 (c - 2), .int .u64 (x.mb : Nat), .slice (some ⟨b, o, none⟩) n c, .slice (some ⟨b, o + 10, none⟩) 8 (c - 10), .int .u64 (x.mt : Nat), .agg #[.int .u64 (x.mb : Nat), .int .u64 (x.mt : Nat)], .slice (some ⟨b, o, none⟩) n c, .slice (some ⟨b, o + 18, none⟩) 8 (c - 18), .int .u64 (x.tb : Nat), .slice (some ⟨b, o, none⟩) n c, .slice (some ⟨b, o + 26, none⟩) 8 (c - 26), .int .u64 (x.tt : Nat), .agg #[.int .u64 (x.tb : Nat), .int .u64 (x.tt : Nat)], .slice (some ⟨b, o, none⟩) n c, .slice (some ⟨b, o + 34, none⟩) 8 (c - 34), undef, .slice (some ⟨b, o, none⟩) n c, .slice (some ⟨b, o + 42, none⟩) 8 (c - 42), undef, .slice (some ⟨b, o, none⟩) n c, .slice a5 (n - 54) (c - 54), undef, undef, undef, undef, undef, undef, undef, undef, undef, undef, undef, undef, undef, undef], []⟩) ?_ (fun m5 => ?_)
  · rintro l' A w1 rfl rfl hHeld
    refine wpAnyH_ready (rs := [24, 31]) (by kernel_rfl) (by simp) ?_
    refine AllReadyH.cons rfl (fun K hK => ?_) (AllReadyH.cons rfl (fun K hK => ?_) AllReadyH.nil)
    · go_simp
      refine (HN4.out _ (HM.out.trans (hHeld.mono HM.out.size))).mono ?_
      rintro e w_n ⟨rfl, hs0⟩
      subst hs0
      simp only []
      refine hK.out _ _ hHeld (fun hHeldN => ?_)
      try simp only [Act.put, List.setIfInBounds_toArray, List.set_cons_zero, List.set_cons_succ, List.getElem_toArray, List.getElem_cons_zero, List.getElem_cons_succ]
      (have hHeldO := hHeld; clear hHeld; have hHeld := hHeldN)
      exact m3 _ _ _ (by kernel_rfl) rfl hHeld
    · go_simp
      have hs : Below (World.heap w1).size w1 (w1.alloc (.cells #[.int .i64 0, .int .i64 0, .int .u64 0, .int .u64 0, .int .u64 0, .int .u64 0, .int .u64 0, .int .u64 0, .slice none 0 0] 28)) := (Below.refl _ _).alloc (Nat.le_refl _) _
      have hF : Hid (BlkG 28 wb (World.heap w1).size [.int .i64 0, .int .i64 0, .int .u64 0, .int .u64 0, .int .u64 0, .int .u64 0, .int .u64 0, .int .u64 0, .slice none 0 0] (w1.alloc (.cells #[.int .i64 0, .int .i64 0, .int .u64 0, .int .u64 0, .int .u64 0, .int .u64 0, .int .u64 0, .int .u64 0, .slice none 0 0] 28))) := ⟨BlkAt.new w1 _, hHeld.size⟩
      refine hK.out _ _ (hHeld.trans (hs.mono hHeld.size)) (fun hHeldN => ?_)
      exact m4 _ _ _ (by kernel_rfl) ⟨_, rfl, hF⟩ hHeldN
  refine wpAnyH_cut #[true, true, true, true, true, true, true, true, true, true, true, true, true, true, true, true, true, true, true, true, false, false, true, true, false, true, true, false, true, true, false, true, false] 6 (fun A w1 => ∃ (g4 : Nat), A = ⟨#[.slice (some ⟨b, o, none⟩) n c, undef, .pointer (some ⟨wm.heap.size, 0, none⟩), .bool false, .pointer (some ⟨g4, 0, none⟩), .slice (some ⟨b, o, none⟩) n c, .int .i64 n, .bool (decide ((n : Int) < 54)), undef, .slice (some ⟨b, o, none⟩) n c, .pointer (some ⟨b, o, none⟩), .int .u8 (x.k0 : Nat), .int .i64 (x.k0 : Nat), .slice (some ⟨b, o, none⟩) n c, .pointer (some ⟨b, o + 1, none⟩), .int .u8 (x.n0 : Nat), .int .i64 (x.n0 : Nat), .slice (some ⟨b, o, none⟩) n c, .slice (some ⟨b, o + 2, none⟩) 8 (c - 2), .int .u64 (x.mb : Nat), .slice (some ⟨b, o, none⟩) n c, .slice (some ⟨b, o + 10, none⟩) 8 (c - 10), .int .u64 (x.mt : Nat), .agg #[.int .u64 (x.mb : Nat), .int .u64 (x.mt : Nat)], .slice (some ⟨b, o, none⟩) n c, .slice (some ⟨b, o + 18, none⟩) 8 (c - 18), .int .u64 (x.tb : Nat), .slice (some ⟨b, o, none⟩) n c, .slice (some ⟨b, o + 26, none⟩) 8 (c - 26), undef, undef, .slice (some ⟨b, o, none⟩) n c, .slice (some ⟨b, o + 34, none⟩) 8 (c - 34), undef, .slice (some ⟨b, o, none⟩) n c, .slice (some ⟨b, o + 42, none⟩) 8 (c - 42), undef, .slice (some ⟨b, o, none⟩) n c, .slice a5 (n - 54) (c - 54), undef, undef, undef, undef, undef, undef, undef, undef, undef, undef, undef, undef, undef, undef], []⟩ ∧ Hid (BlkG 28 wb g4 [.int .i64 0, .int .i64 0, .int .u64 0, .int .u64 0, .int .u64 0, .int .u64 0, .int .u64 0, .int .u64 0, .slice none 0 0] w1)) ?_ (fun m6 => ?_)
  · rintro l' A w1 rfl ⟨g4, rfl, HF⟩ hHeld
    refine wpAnyH_ready (rs := [20]) (by kernel_rfl) (by simp) ?_
    refine AllReadyH.cons rfl (fun K hK => ?_) AllReadyH.nil
    go_simp
    refine (HN3.out _ (HM.out.trans (hHeld.mono HM.out.size))).mono ?_
    rintro e w_n ⟨rfl, hs0⟩
    subst hs0
    simp only []
    refine hK.out _ _ hHeld (fun hHeldN => ?_)
    try simp only [Act.put, List.setIfInBounds_toArray, List.set_cons_zero, List.set_cons_succ, List.getElem_toArray, List.getElem_cons_zero, List.getElem_cons_succ]
    (have hHeldO := hHeld; clear hHeld; have hHeld := hHeldN)
    (refine wpAnyH_take (i := 21) (v := ?_) rfl (by kernel_rfl) (by kernel_rfl) (by kernel_rfl) (fun _ _ _ h => h) (Or.inl ⟨by rfl, ?_⟩) hHeld ?_; rotate_left; (focus (intro w hSw; (try dsimp only at hSw); go_simp; try with_reducible rfl)); (try simp only [Act.put, List.setIfInBounds_toArray, List.set_cons_zero, List.set_cons_succ, List.getElem_toArray, List.getElem_cons_zero, List.getElem_cons_succ]))
    exact m4 _ _ _ (by kernel_rfl) ⟨_, rfl, HF⟩ hHeld
  refine wpAnyH_cut #[true, true, true, true, true, true, true, true, true, true, true, true, true, true, true, true, true, true, true, true, false, false, true, true, false, true, true, false, true, true, false, false, false] 7 (fun A w1 => A = ⟨#[.slice (some ⟨b, o, none⟩) n c, undef, .pointer (some ⟨wm.heap.size, 0, none⟩), .bool false, undef, .slice (some ⟨b, o, none⟩) n c, .int .i64 n, .bool (decide ((n : Int) < 54)), undef, .slice (some ⟨b, o, none⟩) n c, .pointer (some ⟨b, o, none⟩), .int .u8 (x.k0 : Nat), .int .i64 (x.k0 : Nat), .slice (some ⟨b, o, none⟩) n c, .pointer (some ⟨b, o + 1, none⟩), .int .u8 (x.n0 : Nat), .int .i64 (x.n0 : Nat), .slice (some ⟨b, o, none⟩) n c, .slice (some ⟨b, o + 2, none⟩) 8 (c - 2), .int .u64 (x.mb : Nat), .slice (some ⟨b, o, none⟩) n c, .slice (some ⟨b, o + 10, none⟩) 8 (c - 10), .int .u64 (x.mt : Nat), .agg #[.int .u64 (x.mb : Nat), .int .u64 (x.mt : Nat)], .slice (some ⟨b, o, none⟩) n c, .slice (some ⟨b, o + 18, none⟩) 8 (c - 18), .int .u64 (x.tb : Nat), .slice (some ⟨b, o, none⟩) n c, .slice (some ⟨b, o + 26, none⟩) 8 (c - 26), undef, undef, .slice (some ⟨b, o, none⟩) n c, .slice (some ⟨b, o + 34, none⟩) 8 (c - 34), undef, .slice (some ⟨b, o, none⟩) n c, .slice (some ⟨b, o + 42, none⟩) 8 (c - 42), undef, .slice (some ⟨b, o, none⟩) n c, .slice a5 (n - 54) (c - 54), undef, undef, undef, undef, undef, undef, undef, undef, undef, undef, undef, undef, undef, undef], []⟩) ?_ (fun m7 => ?_)
  · rintro l' A w1 rfl rfl hHeld
    refine wpAnyH_ready (rs := [20, 31]) (by kernel_rfl) (by simp) ?_
    refine AllReadyH.cons rfl (fun K hK => ?_) (AllReadyH.cons rfl (fun K hK => ?_) AllReadyH.nil)
    · go_simp
      refine (HN3.out _ (HM.out.trans (hHeld.mono HM.out.size))).mono ?_
      rintro e w_n ⟨rfl, hs0⟩
      subst hs0
      simp only []
      refine hK.out _ _ hHeld (fun hHeldN => ?_)
      try simp only [Act.put, List.setIfInBounds_toArray, List.set_cons_zero, List.set_cons_succ, List.getElem_toArray, List.getElem_cons_zero, List.getElem_cons_succ]
      (have hHeldO := hHeld; clear hHeld; have hHeld := hHeldN)
      (refine wpAnyH_take (i := 21) (v := ?_) rfl (by kernel_rfl) (by kernel_rfl) (by kernel_rfl) (fun _ _ _ h => h) (Or.inl ⟨by rfl, ?_⟩) hHeld ?_; rotate_left; (focus (intro w hSw; (try dsimp only at hSw); go_simp; try with_reducible rfl)); (try simp only [Act.put, List.setIfInBounds_toArray, List.set_cons_zero, List.set_cons_succ, List.getElem_toArray, List.getElem_cons_zero, List.getElem_cons_succ]))
      exact m5 _ _ _ (by kernel_rfl) rfl hHeld
    · go_simp
      have hs : Below (World.heap w1).size w1 (w1.alloc (.cells #[.int .i64 0, .int .i64 0, .int .u64 0, .int .u64 0, .int .u64 0, .int .u64 0, .int .u64 0, .int .u64 0, .slice none 0 0] 28)) := (Below.refl _ _).alloc (Nat.le_refl _) _
      have hF : Hid (BlkG 28 wb (World.heap w1).size [.int .i64 0, .int .i64 0, .int .u64 0, .int .u64 0, .int .u64 0, .int .u64 0, .int .u64 0, .int .u64 0, .slice none 0 0] (w1.alloc (.cells #[.int .i64 0, .int .i64 0, .int .u64 0, .int .u64 0, .int .u64 0, .int .u64 0, .int .u64 0, .int .u64 0, .slice none 0 0] 28))) := ⟨BlkAt.new w1 _, hHeld.size⟩
      refine hK.out _ _ (hHeld.trans (hs.mono hHeld.size)) (fun hHeldN => ?_)
      exact m6 _ _ _ (by kernel_rfl) ⟨_, rfl, hF⟩ hHeldN
  refine wpAnyH_cut #[true, true, true, true, true, true, true, true, true, true, true, true, true, true, true, true, true, false, true, true, false, false, true, true, false, true, true, false, true, true, false, true, false] 7 (fun A w1 => ∃ (g4 : Nat), A = ⟨#[.slice (some ⟨b, o, none⟩) n c, undef, .pointer (some ⟨wm.heap.size, 0, none⟩), .bool false, .pointer (some ⟨g4, 0, none⟩), .slice (some ⟨b, o, none⟩) n c, .int .i64 n, .bool (decide ((n : Int) < 54)), undef, .slice (some ⟨b, o, none⟩) n c, .pointer (some ⟨b, o, none⟩), .int .u8 (x.k0 : Nat), .int .i64 (x.k0 : Nat), .slice (some ⟨b, o, none⟩) n c, .pointer (some ⟨b, o + 1, none⟩), .int .u8 (x.n0 : Nat), .int .i64 (x.n0 : Nat), .slice (some ⟨b, o, none⟩) n c, .slice (some ⟨b, o + 2, none⟩) 8 (c - 2), .int .u64 (x.mb : Nat), .slice (some ⟨b, o, none⟩) n c, .slice (some ⟨b, o + 10, none⟩) 8 (c - 10), .int .u64 (x.mt : Nat), .agg #[.int .u64 (x.mb : Nat), .int .u64 (x.mt : Nat)], .slice (some ⟨b, o, none⟩) n c, .slice (some ⟨b, o + 18, none⟩) 8 (c - 18), undef, .slice (some ⟨b, o, none⟩) n c, .slice (some ⟨b, o + 26, none⟩) 8 (c - 26), undef, undef, .slice (some ⟨b, o, none⟩) n c, .slice (some ⟨b, o + 34, none⟩) 8 (c - 34), undef, .slice (some ⟨b, o, none⟩) n c, .slice (some ⟨b, o + 42, none⟩) 8 (c - 42), undef, .slice (some ⟨b, o, none⟩) n c, .slice a5 (n - 54) (c - 54), undef, undef, undef, undef, undef, undef, undef, undef, undef, undef, undef, undef, undef, undef], []⟩ ∧ Hid (BlkG 28 wb g4 [.int .i64 0, .int .i64 0, .int .u64 0, .int .u64 0, .int .u64 0, .int .u64 0, .int .u64 0, .int .u64 0, .slice none 0 0] w1)) ?_ (fun m8 => ?_)
  · rintro l' A w1 rfl ⟨g4, rfl, HF⟩ hHeld
    refine wpAnyH_ready (rs := [17]) (by kernel_rfl) (by simp) ?_
    refine AllReadyH.cons rfl (fun K hK => ?_) AllReadyH.nil
    go_simp
    refine (HN2.out _ (HM.out.trans (hHeld.mono HM.out.size))).mono ?_
    rintro e w_n ⟨rfl, hs0⟩
    subst hs0
    simp only []
    refine hK.out _ _ hHeld (fun hHeldN => ?_)
    try simp only [Act.put, List.setIfInBounds_toArray, List.set_cons_zero, List.set_cons_succ, List.getElem_toArray, List.getElem_cons_zero, List.getElem_cons_succ]
    (have hHeldO := hHeld; clear hHeld; have hHeld := hHeldN)
    exact m6 _ _ _ (by kernel_rfl) ⟨_, rfl, HF⟩ hHeld
  refine wpAnyH_cut #[true, true, true, true, true, true, true, true, true, true, true, true, true, true, true, true, true, false, true, true, false, false, true, true, false, true, true, false, true, true, false, false, false] 8 (fun A w1 => A = ⟨#[.slice (some ⟨b, o, none⟩) n c, undef, .pointer (some ⟨wm.heap.size, 0, none⟩), .bool false, undef, .slice (some ⟨b, o, none⟩) n c, .int .i64 n, .bool (decide ((n : Int) < 54)), undef, .slice (some ⟨b, o, none⟩) n c, .pointer (some ⟨b, o, none⟩), .int .u8 (x.k0 : Nat), .int .i64 (x.k0 : Nat), .slice (some ⟨b, o, none⟩) n c, .pointer (some ⟨b, o + 1, none⟩), .int .u8 (x.n0 : Nat), .int .i64 (x.n0 : Nat), .slice (some ⟨b, o, none⟩) n c, .slice (some ⟨b, o + 2, none⟩) 8 (c - 2), .int .u64 (x.mb : Nat), .slice (some ⟨b, o, none⟩) n c, .slice (some ⟨b, o + 10, none⟩) 8 (c - 10), .int .u64 (x.mt : Nat), .agg #[.int .u64 (x.mb : Nat), .int .u64 (x.mt : Nat)], .slice (some ⟨b, o, none⟩) n c, .slice (some ⟨b, o + 18, none⟩) 8 (c - 18), undef, .slice (some ⟨b, o, none⟩) n c, .slice (some ⟨b, o + 26, none⟩) 8 (c - 26), undef, undef, .slice (some ⟨b, o, none⟩) n c, .slice (some ⟨b, o + 34, none⟩) 8 (c - 34), undef, .slice (some ⟨b, o, none⟩) n c, .slice (some ⟨b, o + 42, none⟩) 8 (c - 42), undef, .slice (some ⟨b, o, none⟩) n c, .slice a5 (n - 54) (c - 54), undef, undef, undef, undef, undef, undef, undef, undef, undef, undef, undef, undef, undef, undef], []⟩) ?_ (fun m9 => ?_)
  · rintro l' A w1 rfl rfl hHeld
    refine wpAnyH_ready (rs := [17, 31]) (by kernel_rfl) (by simp) ?_
    refine AllReadyH.cons rfl (fun K hK => ?_) (AllReadyH.cons rfl (fun K hK => ?_) AllReadyH.nil)
    · go_simp
      refine (HN2.out _ (HM.out.trans (hHeld.mono HM.out.size))).mono ?_
      rintro e w_n ⟨rfl, hs0⟩
      subst hs0
      simp only []
      refine hK.out _ _ hHeld (fun hHeldN => ?_)
      try simp only [Act.put, List.setIfInBounds_toArray, List.set_cons_zero, List.set_cons_succ, List.getElem_toArray, List.getElem_cons_zero, List.getElem_cons_succ]
      (have hHeldO := hHeld; clear hHeld; have hHeld := hHeldN)
      exact m7 _ _ _ (by kernel_rfl) rfl hHeld
    · go_simp
      have hs : Below (World.heap w1).size w1 (w1.alloc (.cells #[.int .i64 0, .int .i64 0, .int .u64 0, .int .u64 0, .int .u64 0, .int .u64 0, .int .u64 0, .int .u64 0, .slice none 0 0] 28)) := (Below.refl _ _).alloc (Nat.le_refl _) _
      have hF : Hid (BlkG 28 wb (World.heap w1).size [.int .i64 0, .int .i64 0, .int .u64 0, .int .u64 0, .int .u64 0, .int .u64 0, .int .u64 0, .int .u64 0, .slice none 0 0] (w1.alloc (.cells #[.int .i64 0, .int .i64 0, .int .u64 0, .int .u64 0, .int .u64 0, .int .u64 0, .int .u64 0, .int .u64 0, .slice none 0 0] 28))) := ⟨BlkAt.new w1 _, hHeld.size⟩
      refine hK.out _ _ (hHeld.trans (hs.mono hHeld.size)) (fun hHeldN => ?_)
      exact m8 _ _ _ (by kernel_rfl) ⟨_, rfl, hF⟩ hHeldN
  refine wpAnyH_cut #[true, true, true, true, true, true, true, true, true, true, true, true, true, false, false, true, true, false, true, true, false, false, true, true, false, true, true, false, true, true, false, true, false] 9 (fun A w1 => ∃ (g4 : Nat), A = ⟨#[.slice (some ⟨b, o, none⟩) n c, undef, .pointer (some ⟨wm.heap.size, 0, none⟩), .bool false, .pointer (some ⟨g4, 0, none⟩), .slice (some ⟨b, o, none⟩) n c, .int .i64 n, .bool (decide ((n : Int) < 54)), undef, .slice (some ⟨b, o, none⟩) n c, .pointer (some ⟨b, o, none⟩), .int .u8 (x.k0 : Nat), .int .i64 (x.k0 : Nat), .slice (some ⟨b, o, none⟩) n c, .pointer (some ⟨b, o + 1, none⟩), .int .u8 (x.n0 : Nat), .int .i64 (x.n0 : Nat), .slice (some ⟨b, o, none⟩) n c, .slice (some ⟨b, o + 2, none⟩) 8 (c - 2), .int .u64 (x.mb : Nat), .slice (some ⟨b, o, none⟩) n c, .slice (some ⟨b, o + 10, none⟩) 8 (c - 10), undef, undef, .slice (some ⟨b, o, none⟩) n c, .slice (some ⟨b, o + 18, none⟩) 8 (c - 18), undef, .slice (some ⟨b, o, none⟩) n c, .slice (some ⟨b, o + 26, none⟩) 8 (c - 26), undef, undef, .slice (some ⟨b, o, none⟩) n c, .slice (some ⟨b, o + 34, none⟩) 8 (c - 34), undef, .slice (some ⟨b, o, none⟩) n c, .slice (some ⟨b, o + 42, none⟩) 8 (c - 42), undef, .slice (some ⟨b, o, none⟩) n c, .slice a5 (n - 54) (c - 54), undef, undef, undef, undef, undef, undef, undef, undef, undef, undef, undef, undef, undef, undef], []⟩ ∧ Hid (BlkG 28 wb g4 [.int .i64 0, .int .i64 0, .int .u64 0, .int .u64 0, .int .u64 0, .int .u64 0, .int .u64 0, .int .u64 0, .slice none 0 0] w1)) ?_ (fun m10 => ?_)
  · rintro l' A w1 rfl ⟨g4, rfl, HF⟩ hHeld
    refine wpAnyH_ready (rs := [13]) (by kernel_rfl) (by simp) ?_
    refine AllReadyH.cons rfl (fun K hK => ?_) AllReadyH.nil
    go_simp
    refine (HN1.out _ (HM.out.trans (hHeld.mono HM.out.size))).mono ?_
    rintro e w_n ⟨rfl, hs0⟩
    subst hs0
    simp only []
    refine hK.out _ _ hHeld (fun hHeldN => ?_)
    try simp only [Act.put, List.setIfInBounds_toArray, List.set_cons_zero, List.set_cons_succ, List.getElem_toArray, List.getElem_cons_zero, List.getElem_cons_succ]
    (have hHeldO := hHeld; clear hHeld; have hHeld := hHeldN)
    (refine wpAnyH_take (i := 14) (v := ?_) rfl (by kernel_rfl) (by kernel_rfl) (by kernel_rfl) (fun _ _ _ h => h) (Or.inl ⟨by rfl, ?_⟩) hHeld ?_; rotate_left; (focus (intro w hSw; (try dsimp only at hSw); go_simp; try with_reducible rfl)); (try simp only [Act.put, List.setIfInBounds_toArray, List.set_cons_zero, List.set_cons_succ, List.getElem_toArray, List.getElem_cons_zero, List.getElem_cons_succ]))
    exact m8 _ _ _ (by kernel_rfl) ⟨_, rfl, HF⟩ hHeld
  refine wpAnyH_cut #[true, true, true, true, true, true, true, true, true, true, true, true, true, false, false, true, true, false, true, true, false, false, true, true, false, true, true, false, true, true, false, false, false] 10 (fun A w1 => A = ⟨#[.slice (some ⟨b, o, none⟩) n c, undef, .pointer (some ⟨wm.heap.size, 0, none⟩), .bool false, undef, .slice (some ⟨b, o, none⟩) n c, .int .i64 n, .bool (decide ((n : Int) < 54)), undef, .slice (some ⟨b, o, none⟩) n c, .pointer (some ⟨b, o, none⟩), .int .u8 (x.k0 : Nat), .int .i64 (x.k0 : Nat), .slice (some ⟨b, o, none⟩) n c, .pointer (some ⟨b, o + 1, none⟩), .int .u8 (x.n0 : Nat), .int .i64 (x.n0 : Nat), .slice (some ⟨b, o, none⟩) n c, .slice (some ⟨b, o + 2, none⟩) 8 (c - 2), .int .u64 (x.mb : Nat), .slice (some ⟨b, o, none⟩) n c, .slice (some ⟨b, o + 10, none⟩) 8 (c - 10), undef, undef, .slice (some ⟨b, o, none⟩) n c, .slice (some ⟨b, o + 18, none⟩) 8 (c - 18), undef, .slice (some ⟨b, o, none⟩) n c, .slice (some ⟨b, o + 26, none⟩) 8 (c - 26), undef, undef, .slice (some ⟨b, o, none⟩) n c, .slice (some ⟨b, o + 34, none⟩) 8 (c - 34), undef, .slice (some ⟨b, o, none⟩) n c, .slice (some ⟨b, o + 42, none⟩) 8 (c - 42), undef, .slice (some ⟨b, o, none⟩) n c, .slice a5 (n - 54) (c - 54), undef, undef, undef, undef, undef, undef, undef, undef, undef, undef, undef, undef, undef, undef], []⟩) ?_ (fun m11 => ?_)
  · rintro l' A w1 rfl rfl hHeld
    refine wpAnyH_ready (rs := [13, 31]) (by kernel_rfl) (by simp) ?_
    refine AllReadyH.cons rfl (fun K hK => ?_) (AllReadyH.cons rfl (fun K hK => ?_) AllReadyH.nil)
    · go_simp
      refine (HN1.out _ (HM.out.trans (hHeld.mono HM.out.size))).mono ?_
      rintro e w_n ⟨rfl, hs0⟩
      subst hs0
      simp only []
      refine hK.out _ _ hHeld (fun hHeldN => ?_)
      try simp only [Act.put, List.setIfInBounds_toArray, List.set_cons_zero, List.set_cons_succ, List.getElem_toArray, List.getElem_cons_zero, List.getElem_cons_succ]
      (have hHeldO := hHeld; clear hHeld; have hHeld := hHeldN)
      (refine wpAnyH_take (i := 14) (v := ?_) rfl (by kernel_rfl) (by kernel_rfl) (by kernel_rfl) (fun _ _ _ h => h) (Or.inl ⟨by rfl, ?_⟩) hHeld ?_; rotate_left; (focus (intro w hSw; (try dsimp only at hSw); go_simp; try with_reducible rfl)); (try simp only [Act.put, List.setIfInBounds_toArray, List.set_cons_zero, List.set_cons_succ, List.getElem_toArray, List.getElem_cons_zero, List.getElem_cons_succ]))
      exact m9 _ _ _ (by kernel_rfl) rfl hHeld
    · go_simp
      have hs : Below (World.heap w1).size w1 (w1.alloc (.cells #[.int .i64 0, .int .i64 0, .int .u64 0, .int .u64 0, .int .u64 0, .int .u64 0, .int .u64 0, .int .u64 0, .slice none 0 0] 28)) := (Below.refl _ _).alloc (Nat.le_refl _) _
      have hF : Hid (BlkG 28 wb (World.heap w1).size [.int .i64 0, .int .i64 0, .int .u64 0, .int .u64 0, .int .u64 0, .int .u64 0, .int .u64 0, .int .u64 0, .slice none 0 0] (w1.alloc (.cells #[.int .i64 0, .int .i64 0, .int .u64 0, .int .u64 0, .int .u64 0, .int .u64 0, .int .u64 0, .int .u64 0, .slice none 0 0] 28))) := ⟨BlkAt.new w1 _, hHeld.size⟩
      refine hK.out _ _ (hHeld.trans (hs.mono hHeld.size)) (fun hHeldN => ?_)
      exact m10 _ _ _ (by kernel_rfl) ⟨_, rfl, hF⟩ hHeldN
  refine wpAnyH_cut #[true, true, true, true, true, true, true, true, true, true, false, true, true, false, false, true, true, false, true, true, false, false, true, true, false, true, true, false, true, true, false, true, false] 10 (fun A w1 => ∃ (g4 : Nat), A = ⟨#[.slice (some ⟨b, o, none⟩) n c, undef, .pointer (some ⟨wm.heap.size, 0, none⟩), .bool false, .pointer (some ⟨g4, 0, none⟩), .slice (some ⟨b, o, none⟩) n c, .int .i64 n, .bool (decide ((n : Int) < 54)), undef, .slice (some ⟨b, o, none⟩) n c, .pointer (some ⟨b, o, none⟩), .int .u8 (x.k0 : Nat), .int .i64 (x.k0 : Nat), .slice (some ⟨b, o, none⟩) n c, .pointer (some ⟨b, o + 1, none⟩), .int .u8 (x.n0 : Nat), .int .i64 (x.n0 : Nat), .slice (some ⟨b, o, none⟩) n c, .slice (some ⟨b, o + 2, none⟩) 8 (c - 2), undef, .slice (some ⟨b, o, none⟩) n c, .slice (some ⟨b, o + 10, none⟩) 8 (c - 10), undef, undef, .slice (some ⟨b, o, none⟩) n c, .slice (some ⟨b, o + 18, none⟩) 8 (c - 18), undef, .slice (some ⟨b, o, none⟩) n c, .slice (some ⟨b, o + 26, none⟩) 8 (c - 26), undef, undef, .slice (some ⟨b, o, none⟩) n c, .slice (some ⟨b, o + 34, none⟩) 8 (c - 34), undef, .slice (some ⟨b, o, none⟩) n c, .slice (some ⟨b, o + 42, none⟩) 8 (c - 42), undef, .slice (some ⟨b, o, none⟩) n c, .slice a5 (n - 54) (c - 54), undef, undef, undef, undef, undef, undef, undef, undef, undef, undef, undef, undef, undef, undef], []⟩ ∧ Hid (BlkG 28 wb g4 [.int .i64 0, .int .i64 0, .int .u64 0, .int .u64 0, .int .u64 0, .int .u64 0, .int .u64 0, .int .u64 0, .slice none 0 0] w1)) ?_ (fun m12 => ?_)
  · rintro l' A w1 rfl ⟨g4, rfl, HF⟩ hHeld
    refine wpAnyH_ready (rs := [10]) (by kernel_rfl) (by simp) ?_
    refine AllReadyH.cons rfl (fun K hK => ?_) AllReadyH.nil
    go_simp
    refine (HN0.out _ (HM.out.trans (hHeld.mono HM.out.size))).mono ?_
    rintro e w_n ⟨rfl, hs0⟩
    subst hs0
    simp only []
    refine hK.out _ _ hHeld (fun hHeldN => ?_)
    try simp only [Act.put, List.setIfInBounds_toArray, List.set_cons_zero, List.set_cons_succ, List.getElem_toArray, List.getElem_cons_zero, List.getElem_cons_succ]
    (have hHeldO := hHeld; clear hHeld; have hHeld := hHeldN)
    exact m10 _ _ _ (by kernel_rfl) ⟨_, rfl, HF⟩ hHeld
  refine wpAnyH_cut #[true, true, true, true, true, true, true, true, true, true, false, true, true, false, false, true, true, false, true, true, false, false, true, true, false, true, true, false, true, true, false, false, false] 11 (fun A w1 => A = ⟨#[.slice (some ⟨b, o, none⟩) n c, undef, .pointer (some ⟨wm.heap.size, 0, none⟩), .bool false, undef, .slice (some ⟨b, o, none⟩) n c, .int .i64 n, .bool (decide ((n : Int) < 54)), undef, .slice (some ⟨b, o, none⟩) n c, .pointer (some ⟨b, o, none⟩), .int .u8 (x.k0 : Nat), .int .i64 (x.k0 : Nat), .slice (some ⟨b, o, none⟩) n c, .pointer (some ⟨b, o + 1, none⟩), .int .u8 (x.n0 : Nat), .int .i64 (x.n0 : Nat), .slice (some ⟨b, o, none⟩) n c, .slice (some ⟨b, o + 2, none⟩) 8 (c - 2), undef, .slice (some ⟨b, o, none⟩) n c, .slice (some ⟨b, o + 10, none⟩) 8 (c - 10), undef, undef, .slice (some ⟨b, o, none⟩) n c, .slice (some ⟨b, o + 18, none⟩) 8 (c - 18), undef, .slice (some ⟨b, o, none⟩) n c, .slice (some ⟨b, o + 26, none⟩) 8 (c - 26), undef, undef, .slice (some ⟨b, o, none⟩) n c, .slice (some ⟨b, o + 34, none⟩) 8 (c - 34), undef, .slice (some ⟨b, o, none⟩) n c, .slice (some ⟨b, o + 42, none⟩) 8 (c - 42), undef, .slice (some ⟨b, o, none⟩) n c, .slice a5 (n - 54) (c - 54), undef, undef, undef, undef, undef, undef, undef, undef, undef, undef, undef, undef, undef, undef], []⟩) ?_ (fun m13 => ?_)
  · rintro l' A w1 rfl rfl hHeld
    refine wpAnyH_ready (rs := [10, 31]) (by kernel_rfl) (by simp) ?_
    refine AllReadyH.cons rfl (fun K hK => ?_) (AllReadyH.cons rfl (fun K hK => ?_) AllReadyH.nil)
    · go_simp
      refine (HN0.out _ (HM.out.trans (hHeld.mono HM.out.size))).mono ?_
      rintro e w_n ⟨rfl, hs0⟩
      subst hs0
      simp only []
      refine hK.out _ _ hHeld (fun hHeldN => ?_)
      try simp only [Act.put, List.setIfInBounds_toArray, List.set_cons_zero, List.set_cons_succ, List.getElem_toArray, List.getElem_cons_zero, List.getElem_cons_succ]
      (have hHeldO := hHeld; clear hHeld; have hHeld := hHeldN)
      exact m11 _ _ _ (by kernel_rfl) rfl hHeld
    · go_simp
      have hs : Below (World.heap w1).size w1 (w1.alloc (.cells #[.int .i64 0, .int .i64 0, .int .u64 0, .int .u64 0, .int .u64 0, .int .u64 0, .int .u64 0, .int .u64 0, .slice none 0 0] 28)) := (Below.refl _ _).alloc (Nat.le_refl _) _
      have hF : Hid (BlkG 28 wb (World.heap w1).size [.int .i64 0, .int .i64 0, .int .u64 0, .int .u64 0, .int .u64 0, .int .u64 0, .int .u64 0, .int .u64 0, .slice none 0 0] (w1.alloc (.cells #[.int .i64 0, .int .i64 0, .int .u64 0, .int .u64 0, .int .u64 0, .int .u64 0, .int .u64 0, .int .u64 0, .slice none 0 0] 28))) := ⟨BlkAt.new w1 _, hHeld.size⟩
      refine hK.out _ _ (hHeld.trans (hs.mono hHeld.size)) (fun hHeldN => ?_)
      exact m12 _ _ _ (by kernel_rfl) ⟨_, rfl, hF⟩ hHeldN
  (refine wpAnyH_take (i := 0) (v := ?_) rfl (by kernel_rfl) (by kernel_rfl) (by kernel_rfl) (fun _ _ _ h => h) (Or.inl ⟨by rfl, ?_⟩) hHeld ?_; rotate_left; (focus (intro w hSw; (try dsimp only at hSw); go_simp; try with_reducible rfl)); (try simp only [Act.put, List.setIfInBounds_toArray, List.set_cons_zero, List.set_cons_succ, List.getElem_toArray, List.getElem_cons_zero]))
  (refine wpAnyH_take (i := 1) (v := ?_) rfl (by kernel_rfl) (by kernel_rfl) (by kernel_rfl) (fun _ _ _ h => h) (Or.inl ⟨by rfl, ?_⟩) hHeld ?_; rotate_left; (focus (intro w hSw; (try dsimp only at hSw); go_simp; try with_reducible rfl)); (try simp only [Act.put, List.setIfInBounds_toArray, List.set_cons_zero, List.set_cons_succ, List.getElem_toArray, List.getElem_cons_zero, List.getElem_cons_succ]))
  (refine wpAnyH_take (i := 2) (v := ?_) rfl (by kernel_rfl) (by kernel_rfl) (by kernel_rfl) (fun _ _ _ h => h) (Or.inl ⟨by rfl, ?_⟩) hHeld ?_; rotate_left; (focus (intro w hSw; (try dsimp only at hSw); go_simp; (have hcc := cell_later' (HM.out.trans (hSw.mono HM.out.size)) HH.out.2.2.2.2.1 C2.out; go_simp; try with_reducible rfl))); (try simp only [Act.put, List.setIfInBounds_toArray, List.set_cons_zero, List.set_cons_succ, List.getElem_toArray, List.getElem_cons_zero, List.getElem_cons_succ]))
  (refine wpAnyH_take (i := 3) (v := ?_) rfl (by kernel_rfl) (by kernel_rfl) (by kernel_rfl) (fun _ _ _ h => h) (Or.inl ⟨by rfl, ?_⟩) hHeld ?_; rotate_left; (focus (intro w hSw; (try dsimp only at hSw); go_simp; try with_reducible rfl)); (try simp only [Act.put, List.setIfInBounds_toArray, List.set_cons_zero, List.set_cons_succ, List.getElem_toArray, List.getElem_cons_zero, List.getElem_cons_succ]))
  (refine wpAnyH_take (i := 4) (v := ?_) rfl (by kernel_rfl) (by kernel_rfl) (by kernel_rfl) (fun _ _ _ h => h) (Or.inl ⟨by rfl, ?_⟩) hHeld ?_; rotate_left; (focus (intro w hSw; (try dsimp only at hSw); go_simp; try with_reducible rfl)); (try simp only [Act.put, List.setIfInBounds_toArray, List.set_cons_zero, List.set_cons_succ, List.getElem_toArray, List.getElem_cons_zero, List.getElem_cons_succ]))
  (refine wpAnyH_take (i := 5) (v := ?_) rfl (by kernel_rfl) (by kernel_rfl) (by kernel_rfl) (fun _ _ _ h => h) (Or.inl ⟨by rfl, ?_⟩) hHeld ?_; rotate_left; (focus (intro w hSw; (try dsimp only at hSw); go_simp; try with_reducible rfl)); (try simp only [Act.put, List.setIfInBounds_toArray, List.set_cons_zero, List.set_cons_succ, List.getElem_toArray, List.getElem_cons_zero, List.getElem_cons_succ]))
  (refine wpAnyH_take (i := 6) (v := ?_) rfl (by kernel_rfl) (by kernel_rfl) (by kernel_rfl) (fun _ _ _ h => h) (Or.inl ⟨by rfl, ?_⟩) hHeld ?_; rotate_left; (focus (intro w hSw; (try dsimp only at hSw); go_simp; (have hcc := cell_later' (HM.out.trans (hSw.mono HM.out.size)) HH.out.2.2.2.2.1 C6.out; go_simp; try with_reducible rfl))); (try simp only [Act.put, List.setIfInBounds_toArray, List.set_cons_zero, List.set_cons_succ, List.getElem_toArray, List.getElem_cons_zero, List.getElem_cons_succ]))
  (refine wpAnyH_take (i := 7) (v := ?_) rfl (by kernel_rfl) (by kernel_rfl) (by kernel_rfl) (fun _ _ _ h => h) (Or.inl ⟨by rfl, ?_⟩) hHeld ?_; rotate_left; (focus (intro w hSw; (try dsimp only at hSw); go_simp; try with_reducible rfl)); (try simp only [Act.put, List.setIfInBounds_toArray, List.set_cons_zero, List.set_cons_succ, List.getElem_toArray, List.getElem_cons_zero, List.getElem_cons_succ]))
  (refine wpAnyH_take (i := 8) (v := ?_) rfl (by kernel_rfl) (by kernel_rfl) (by kernel_rfl) (fun _ _ _ h => h) (Or.inl ⟨by rfl, ?_⟩) hHeld ?_; rotate_left; (focus (intro w hSw; (try dsimp only at hSw); go_simp; try with_reducible rfl)); (try simp only [Act.put, List.setIfInBounds_toArray, List.set_cons_zero, List.set_cons_succ, List.getElem_toArray, List.getElem_cons_zero, List.getElem_cons_succ]))
  (refine wpAnyH_take (i := 9) (v := ?_) rfl (by kernel_rfl) (by kernel_rfl) (by kernel_rfl) (fun _ _ _ h => h) (Or.inl ⟨by rfl, ?_⟩) hHeld ?_; rotate_left; (focus (intro w hSw; (try dsimp only at hSw); go_simp; try with_reducible rfl)); (try simp only [Act.put, List.setIfInBounds_toArray, List.set_cons_zero, List.set_cons_succ, List.getElem_toArray, List.getElem_cons_zero, List.getElem_cons_succ]))
  (refine wpAnyH_take (i := 11) (v := ?_) rfl (by kernel_rfl) (by kernel_rfl) (by kernel_rfl) (fun _ _ _ h => h) (Or.inl ⟨by rfl, ?_⟩) hHeld ?_; rotate_left; (focus (intro w hSw; (try dsimp only at hSw); go_simp; try with_reducible rfl)); (try simp only [Act.put, List.setIfInBounds_toArray, List.set_cons_zero, List.set_cons_succ, List.getElem_toArray, List.getElem_cons_zero, List.getElem_cons_succ]))
  (refine wpAnyH_take (i := 12) (v := ?_) rfl (by kernel_rfl) (by kernel_rfl) (by kernel_rfl) (fun _ _ _ h => h) (Or.inl ⟨by rfl, ?_⟩) hHeld ?_; rotate_left; (focus (intro w hSw; (try dsimp only at hSw); go_simp; try with_reducible rfl)); (try simp only [Act.put, List.setIfInBounds_toArray, List.set_cons_zero, List.set_cons_succ, List.getElem_toArray, List.getElem_cons_zero, List.getElem_cons_succ]))
  (refine wpAnyH_take (i := 15) (v := ?_) rfl (by kernel_rfl) (by kernel_rfl) (by kernel_rfl) (fun _ _ _ h => h) (Or.inl ⟨by rfl, ?_⟩) hHeld ?_; rotate_left; (focus (intro w hSw; (try dsimp only at hSw); go_simp; try with_reducible rfl)); (try simp only [Act.put, List.setIfInBounds_toArray, List.set_cons_zero, List.set_cons_succ, List.getElem_toArray, List.getElem_cons_zero, List.getElem_cons_succ]))
  (refine wpAnyH_take (i := 16) (v := ?_) rfl (by kernel_rfl) (by kernel_rfl) (by kernel_rfl) (fun _ _ _ h => h) (Or.inl ⟨by rfl, ?_⟩) hHeld ?_; rotate_left; (focus (intro w hSw; (try dsimp only at hSw); go_simp; try with_reducible rfl)); (try simp only [Act.put, List.setIfInBounds_toArray, List.set_cons_zero, List.set_cons_succ, List.getElem_toArray, List.getElem_cons_zero, List.getElem_cons_succ]))
  (refine wpAnyH_take (i := 18) (v := ?_) rfl (by kernel_rfl) (by kernel_rfl) (by kernel_rfl) (fun _ _ _ h => h) (Or.inl ⟨by rfl, ?_⟩) hHeld ?_; rotate_left; (focus (intro w hSw; (try dsimp only at hSw); go_simp; try with_reducible rfl)); (try simp only [Act.put, List.setIfInBounds_toArray, List.set_cons_zero, List.set_cons_succ, List.getElem_toArray, List.getElem_cons_zero, List.getElem_cons_succ]))
  (refine wpAnyH_take (i := 19) (v := ?_) rfl (by kernel_rfl) (by kernel_rfl) (by kernel_rfl) (fun _ _ _ h => h) (Or.inl ⟨by rfl, ?_⟩) hHeld ?_; rotate_left; (focus (intro w hSw; (try dsimp only at hSw); go_simp; try with_reducible rfl)); (try simp only [Act.put, List.setIfInBounds_toArray, List.set_cons_zero, List.set_cons_succ, List.getElem_toArray, List.getElem_cons_zero, List.getElem_cons_succ]))
  (refine wpAnyH_take (i := 22) (v := ?_) rfl (by kernel_rfl) (by kernel_rfl) (by kernel_rfl) (fun _ _ _ h => h) (Or.inl ⟨by rfl, ?_⟩) hHeld ?_; rotate_left; (focus (intro w hSw; (try dsimp only at hSw); go_simp; try with_reducible rfl)); (try simp only [Act.put, List.setIfInBounds_toArray, List.set_cons_zero, List.set_cons_succ, List.getElem_toArray, List.getElem_cons_zero, List.getElem_cons_succ]))
  (refine wpAnyH_take (i := 23) (v := ?_) rfl (by kernel_rfl) (by kernel_rfl) (by kernel_rfl) (fun _ _ _ h => h) (Or.inl ⟨by rfl, ?_⟩) hHeld ?_; rotate_left; (focus (intro w hSw; (try dsimp only at hSw); go_simp; try with_reducible rfl)); (try simp only [Act.put, List.setIfInBounds_toArray, List.set_cons_zero, List.set_cons_succ, List.getElem_toArray, List.getElem_cons_zero, List.getElem_cons_succ]))
  (refine wpAnyH_take (i := 25) (v := ?_) rfl (by kernel_rfl) (by kernel_rfl) (by kernel_rfl) (fun _ _ _ h => h) (Or.inl ⟨by rfl, ?_⟩) hHeld ?_; rotate_left; (focus (intro w hSw; (try dsimp only at hSw); go_simp; try with_reducible rfl)); (try simp only [Act.put, List.setIfInBounds_toArray, List.set_cons_zero, List.set_cons_succ, List.getElem_toArray, List.getElem_cons_zero, List.getElem_cons_succ]))
  (refine wpAnyH_take (i := 26) (v := ?_) rfl (by kernel_rfl) (by kernel_rfl) (by kernel_rfl) (fun _ _ _ h => h) (Or.inl ⟨by rfl, ?_⟩) hHeld ?_; rotate_left; (focus (intro w hSw; (try dsimp only at hSw); go_simp; try with_reducible rfl)); (try simp only [Act.put, List.setIfInBounds_toArray, List.set_cons_zero, List.set_cons_succ, List.getElem_toArray, List.getElem_cons_zero, List.getElem_cons_succ]))
  (refine wpAnyH_take (i := 28) (v := ?_) rfl (by kernel_rfl) (by kernel_rfl) (by kernel_rfl) (fun _ _ _ h => h) (Or.inl ⟨by rfl, ?_⟩) hHeld ?_; rotate_left; (focus (intro w hSw; (try dsimp only at hSw); go_simp; try with_reducible rfl)); (try simp only [Act.put, List.setIfInBounds_toArray, List.set_cons_zero, List.set_cons_succ, List.getElem_toArray, List.getElem_cons_zero, List.getElem_cons_succ]))
  (refine wpAnyH_take (i := 29) (v := ?_) rfl (by kernel_rfl) (by kernel_rfl) (by kernel_rfl) (fun _ _ _ h => h) (Or.inl ⟨by rfl, ?_⟩) hHeld ?_; rotate_left; (focus (intro w hSw; (try dsimp only at hSw); go_simp; try with_reducible rfl)); (try simp only [Act.put, List.setIfInBounds_toArray, List.set_cons_zero, List.set_cons_succ, List.getElem_toArray, List.getElem_cons_zero, List.getElem_cons_succ]))
  exact m13 _ _ _ (by kernel_rfl) rfl hHeld
theorem of6R_any (v : Value) (l : List UInt8) (wm : World) (hv : Bytes wm v l) (hl : l.length ≤ 9000) : Calls Try.prog 15 #[v] wm (OfR l wm) := by
  rcases Nat.lt_or_ge l.length 54 with h | h
  · exact of6R_short v l wm hv h
  · exact of6R_long v l wm hv h hl
end Go.Proofs.Ytcahfapffhcceaa
