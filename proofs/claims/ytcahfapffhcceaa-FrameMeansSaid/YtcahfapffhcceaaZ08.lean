/- frame.Of: the walk. -/
import Derived.Test.YtcahfapffhcceaaZ07

set_option linter.unusedSimpArgs false
set_option linter.unusedVariables false
namespace Go.Proofs.Ytcahfapffhcceaa
open Go.RowKit
attribute [local go_sem ↓] Go.wp_at_zero Go.wp_at_succ
attribute [local go_sem] store_fn

/-- Nine stores into a block. -/
theorem BlkAt.set9 {t : TypeId} {g : Nat} {w : World} {c0 c1 c2 c3 c4 c5 c6 c7 c8 : Value} (h : BlkAt t g [c0, c1, c2, c3, c4, c5, c6, c7, c8] w) (x0 x1 x2 x3 x4 x5 x6 x7 x8 : Value) :
    BlkAt t g [x0, x1, x2, x3, x4, x5, x6, x7, x8] (((((((((w.setCell ⟨g, 0, none⟩ x0).setCell ⟨g, 1, none⟩ x1).setCell ⟨g, 2, none⟩ x2).setCell ⟨g, 3, none⟩ x3).setCell ⟨g, 4, none⟩ x4).setCell ⟨g, 5, none⟩ x5).setCell ⟨g, 6, none⟩ x6).setCell ⟨g, 7, none⟩ x7).setCell ⟨g, 8, none⟩ x8) ∧
    (∀ B, B ≤ g → Below B w (((((((((w.setCell ⟨g, 0, none⟩ x0).setCell ⟨g, 1, none⟩ x1).setCell ⟨g, 2, none⟩ x2).setCell ⟨g, 3, none⟩ x3).setCell ⟨g, 4, none⟩ x4).setCell ⟨g, 5, none⟩ x5).setCell ⟨g, 6, none⟩ x6).setCell ⟨g, 7, none⟩ x7).setCell ⟨g, 8, none⟩ x8)) ∧
    (∀ b, b ≠ g → (((((((((w.setCell ⟨g, 0, none⟩ x0).setCell ⟨g, 1, none⟩ x1).setCell ⟨g, 2, none⟩ x2).setCell ⟨g, 3, none⟩ x3).setCell ⟨g, 4, none⟩ x4).setCell ⟨g, 5, none⟩ x5).setCell ⟨g, 6, none⟩ x6).setCell ⟨g, 7, none⟩ x7).setCell ⟨g, 8, none⟩ x8).heap[b]? = w.heap[b]?) := by
  refine ⟨((((((((h.set 0 x0).set 1 x1).set 2 x2).set 3 x3).set 4 x4).set 5 x5).set 6 x6).set 7 x7).set 8 x8, fun B hB => ?_, fun b hb => ?_⟩
  · exact (((((((((Below.refl _ _).setCell (p := ⟨g, 0, none⟩) hB x0).setCell (p := ⟨g, 1, none⟩) hB x1).setCell (p := ⟨g, 2, none⟩) hB x2).setCell (p := ⟨g, 3, none⟩) hB x3).setCell (p := ⟨g, 4, none⟩) hB x4).setCell (p := ⟨g, 5, none⟩) hB x5).setCell (p := ⟨g, 6, none⟩) hB x6).setCell (p := ⟨g, 7, none⟩) hB x7).setCell (p := ⟨g, 8, none⟩) hB x8
  · rw [Below.heap_setCell _ _ _ _ (by simpa using hb), Below.heap_setCell _ _ _ _ (by simpa using hb), Below.heap_setCell _ _ _ _ (by simpa using hb), Below.heap_setCell _ _ _ _ (by simpa using hb), Below.heap_setCell _ _ _ _ (by simpa using hb), Below.heap_setCell _ _ _ _ (by simpa using hb), Below.heap_setCell _ _ _ _ (by simpa using hb), Below.heap_setCell _ _ _ _ (by simpa using hb), Below.heap_setCell _ _ _ _ (by simpa using hb)]
/-- What Of answers. -/
def oF (l : List UInt8) : Fr := if okF l = true then frP l else Fr.zero
def oB (l : List UInt8) : List UInt8 := if okF l = true then l.drop 54 else []
def oE (l : List UInt8) : Int := if okF l = true then 0 else 4
theorem o_no {l : List UInt8} (h : okF l = false) : oF l = Fr.zero ∧ oB l = [] ∧ oE l = 4 := by simp [oF, oB, oE, h]
theorem o_yes {l : List UInt8} (h : okF l = true) : oF l = frP l ∧ oB l = l.drop 54 ∧ oE l = 0 := by simp [oF, oB, oE, h]
def OfA (l : List UInt8) (wm : World) (e : Ending) (w' : World) : Prop :=
  ∃ u, e = .returned (.tuple #[.agg #[.int .i64 (oF l).k, .int .i64 (oF l).n, .int .u64 ((oF l).mb : Nat), .int .u64 ((oF l).mt : Nat), .int .u64 ((oF l).tb : Nat), .int .u64 ((oF l).tt : Nat), .int .u64 ((oF l).s : Nat), .int .u64 ((oF l).a : Nat), u], .int .i64 (oE l)]) ∧ OwnB w' wm.heap.size u (oB l) ∧ Below wm.heap.size wm w'
theorem of_zero {l : List UInt8} (h : okF l = false) : Ending.returned (.tuple #[.agg #[.int .i64 0, .int .i64 0, .int .u64 0, .int .u64 0, .int .u64 0, .int .u64 0, .int .u64 0, .int .u64 0, .slice none 0 0], .int .i64 4]) = .returned (.tuple #[.agg #[.int .i64 (oF l).k, .int .i64 (oF l).n, .int .u64 ((oF l).mb : Nat), .int .u64 ((oF l).mt : Nat), .int .u64 ((oF l).tb : Nat), .int .u64 ((oF l).tt : Nat), .int .u64 ((oF l).s : Nat), .int .u64 ((oF l).a : Nat), .slice none 0 0], .int .i64 (oE l)]) := by
  obtain ⟨e1, _, e3⟩ := o_no h
  rw [e1, e3]; rfl
set_option maxHeartbeats 8000000 in
set_option maxRecDepth 100000 in
theorem of6_short (v : Value) (l : List UInt8) (wm : World) (hv : Bytes wm v l) (h54 : l.length < 54) : Calls Try.prog 14 #[v] wm (OfA l wm) := by
  obtain ⟨a, c, rfl⟩ := hv.form
  have hno : okF l = false := by unfold okF; rw [decide_eq_false (by omega)]; rfl
  have HY := Lib.hid (of_zero hno)
  have HO : Hid (oB l = []) := (o_no hno).2.1
  have k1 : (l.length : Int) < 54 := by omega
  obtain ⟨n, hn⟩ : ∃ n, n = l.length := ⟨_, rfl⟩
  rw [← hn] at k1 ⊢
  clear hno hv h54 hn
  go_enter Try.func14, Try.ntmps14
  go_wp2_with fail
  exact bodyPost_ret (v := .tuple #[.agg #[.int .i64 0, .int .i64 0, .int .u64 0, .int .u64 0, .int .u64 0, .int .u64 0, .int .u64 0, .int .u64 0, .slice none 0 0], .int .i64 4]) (by simp [results, Try.results14, go_sem]) rfl ⟨_, HY.out, by rw [HO.out]; exact OwnB.nil _ _, by go_grown⟩

structure Fx where
  k0 : Nat
  n0 : Nat
  mb : Nat
  mt : Nat
  tb : Nat
  tt : Nat
  s : Nat
  a : Nat
def Fx.fr (x : Fx) : Fr := ⟨(x.k0 : Int), (x.n0 : Int), x.mb, x.mt, x.tb, x.tt, x.s, x.a⟩
theorem frP_ok (l : List UInt8) (h : 54 ≤ l.length) : (frP l).Ok := by
  have p8 : (256 : Nat) ^ 8 = 18446744073709551616 := rfl
  have f (i : Nat) (hi : i ≤ 46) : fld l i 8 < 18446744073709551616 := by have := fld_lt (l := l) (i := i) (k := 8) (by omega); rwa [p8] at this
  have g (i : Nat) (hi : i ≤ 46) : fld l i 1 < 256 := by have := fld_lt (l := l) (i := i) (k := 1) (by omega); simpa using this
  have g0 := g 0 (by omega)
  have g1 := g 1 (by omega)
  exact ⟨⟨by show -9223372036854775808 ≤ (fld l 0 1 : Int); omega, by show (fld l 0 1 : Int) < _; omega⟩, ⟨by show -9223372036854775808 ≤ (fld l 1 1 : Int); omega, by show (fld l 1 1 : Int) < _; omega⟩, f 2 (by omega), f 10 (by omega), f 18 (by omega), f 26 (by omega), f 34 (by omega), f 42 (by omega)⟩
theorem long_form {w : World} {v : Value} {l : List UInt8} (h : Bytes w v l) (hl : 0 < l.length) : ∃ b o c, v = .slice (some ⟨b, o, none⟩) l.length c ∧ b < w.heap.size ∧ l.length ≤ c := by
  rcases h with ⟨rfl, _⟩ | ⟨b, o, c, e, hb, hc, _⟩
  · simp at hl
  · exact ⟨b, o, c, e, hb, hc⟩

set_option maxHeartbeats 32000000 in
set_option maxRecDepth 100000 in
theorem of6_long (v : Value) (l : List UInt8) (wm : World) (hv : Bytes wm v l) (h54 : 54 ≤ l.length) (hl : l.length ≤ 9000) : Calls Try.prog 14 #[v] wm (OfA l wm) := by
  obtain ⟨b, o, c, rfl, hbl, hlc⟩ := long_form hv (by omega)
  obtain ⟨a5, hs5, hb5⟩ := hv.cut_l 54 54 rfl h54
  obtain ⟨x, hx⟩ : ∃ x : Fx, x.k0 = fld l 0 1 ∧ x.n0 = fld l 1 1 ∧ x.mb = fld l 2 8 ∧ x.mt = fld l (2 + 8) 8 ∧ x.tb = fld l 18 8 ∧ x.tt = fld l (18 + 8) 8 ∧ x.s = fld l 34 8 ∧ x.a = fld l 42 8 := ⟨⟨_, _, _, _, _, _, _, _⟩, rfl, rfl, rfl, rfl, rfl, rfl, rfl, rfl⟩
  have HX := Lib.hid hx
  have hfr : x.fr = frP l := by
    obtain ⟨e1, e2, e3, e4, e5, e6, e7, e8⟩ := hx
    show Fr.mk _ _ _ _ _ _ _ _ = Fr.mk _ _ _ _ _ _ _ _
    rw [e1, e2, e3, e4, e5, e6, e7, e8]
  have HK : Hid (x.k0 < 256 ∧ x.n0 < 256) := by
    have h0 := fld_lt (l := l) (i := 0) (k := 1) (by omega)
    have h1 := fld_lt (l := l) (i := 1) (k := 1) (by omega)
    show x.k0 < 256 ∧ x.n0 < 256
    rw [hx.1, hx.2.1]; simpa using ⟨h0, h1⟩
  have u1 : IntKind.i64.wrap (x.k0 : Int) = x.k0 := IntWalk.i64_in _ ⟨by omega, by have := HK.out; omega⟩
  have u2 : IntKind.i64.wrap (x.n0 : Int) = x.n0 := IntWalk.i64_in _ ⟨by omega, by have := HK.out; omega⟩
  have hdl : (l.drop 54).length ≤ 9000 := by simp; omega
  have HBD : Hid (∀ W, Below wm.heap.size wm W → Bytes W (.slice a5 (l.length - 54) (c - 54)) (l.drop 54)) := fun W hW => hb5.later hW
  have HBV : Hid (∀ W, Below wm.heap.size wm W → Bytes W (.slice (some ⟨b, o, none⟩) l.length c) l) := fun W hW => hv.later hW
  have HBN : Hid (mayF x.fr (l.drop 54) = false → ∀ W, Below wm.heap.size wm W → Calls Try.prog 9 #[.agg #[.int .i64 (x.k0 : Nat), .int .i64 (x.n0 : Nat), .int .u64 (x.mb : Nat), .int .u64 (x.mt : Nat), .int .u64 (x.tb : Nat), .int .u64 (x.tt : Nat), .int .u64 (x.s : Nat), .int .u64 (x.a : Nat), .slice a5 (l.length - 54) (c - 54)]] W fun e w' => e = .returned (.tuple #[.slice none 0 0, .int .i64 2]) ∧ Below W.heap.size W w') :=
    fun h W hW => bytesF_no x.fr _ (l.drop 54) W (hb5.later hW) hdl h
  have HBY : Hid (mayF x.fr (l.drop 54) = true → ∀ W, Below wm.heap.size wm W → Calls Try.prog 9 #[.agg #[.int .i64 (x.k0 : Nat), .int .i64 (x.n0 : Nat), .int .u64 (x.mb : Nat), .int .u64 (x.mt : Nat), .int .u64 (x.tb : Nat), .int .u64 (x.tt : Nat), .int .u64 (x.s : Nat), .int .u64 (x.a : Nat), .slice a5 (l.length - 54) (c - 54)]] W fun e w' => ∃ v, e = .returned (.tuple #[v, .int .i64 0]) ∧ OwnB w' W.heap.size v (frL x.fr (l.drop 54)) ∧ Below W.heap.size W w') :=
    fun h W hW => bytesF_yes x.fr (by rw [hfr]; exact frP_ok l h54) _ (l.drop 54) W (hb5.later hW) h
  have HD : Hid ((mayF x.fr (l.drop 54) = false ∧ okF l = false) ∨ (mayF x.fr (l.drop 54) = true ∧ (frL x.fr (l.drop 54) == l) = false ∧ okF l = false) ∨ (mayF x.fr (l.drop 54) = true ∧ (frL x.fr (l.drop 54) == l) = true ∧ okF l = true)) := by
    show _ ∨ _ ∨ _
    unfold okF
    rw [hfr, decide_eq_true h54]
    cases mayF (frP l) (l.drop 54) <;> cases (frL (frP l) (l.drop 54) == l) <;> simp
  have HOY : Hid (okF l = true → ∀ u, Ending.returned (.tuple #[.agg #[.int .i64 (x.k0 : Nat), .int .i64 (x.n0 : Nat), .int .u64 (x.mb : Nat), .int .u64 (x.mt : Nat), .int .u64 (x.tb : Nat), .int .u64 (x.tt : Nat), .int .u64 (x.s : Nat), .int .u64 (x.a : Nat), u], .int .i64 0]) = .returned (.tuple #[.agg #[.int .i64 (oF l).k, .int .i64 (oF l).n, .int .u64 ((oF l).mb : Nat), .int .u64 ((oF l).mt : Nat), .int .u64 ((oF l).tb : Nat), .int .u64 ((oF l).tt : Nat), .int .u64 ((oF l).s : Nat), .int .u64 ((oF l).a : Nat), u], .int .i64 (oE l)])) := fun h u => by
    obtain ⟨e1, _, e3⟩ := o_yes h
    rw [e1, e3, ← hfr]; rfl
  obtain ⟨n, hn⟩ : ∃ n, n = l.length := ⟨_, rfl⟩
  rw [← hn] at HBD HBV HBN HBY hs5 ⊢
  obtain ⟨wb, hwb⟩ : ∃ wb, wb = wm.alloc (.cells #[.int .i64 0, .int .i64 0, .int .u64 0, .int .u64 0, .int .u64 0, .int .u64 0, .int .u64 0, .int .u64 0, .slice none 0 0] 28) := ⟨_, rfl⟩
  have HM : Hid (Below wm.heap.size wm wb) := by rw [hwb]; exact (Below.refl _ _).alloc (Nat.le_refl _) _
  have HR0 : Hid (BlkAt 28 wm.heap.size [.int .i64 0, .int .i64 0, .int .u64 0, .int .u64 0, .int .u64 0, .int .u64 0, .int .u64 0, .int .u64 0, .slice none 0 0] wb) := by rw [hwb]; exact BlkAt.new wm _
  have k1 : (54 : Int) ≤ n := by omega
  have k2 : n ≤ c := by omega
  have HH0 : Hid (54 ≤ n ∧ n ≤ 9000 ∧ n = l.length ∧ n ≤ c ∧ b < wm.heap.size ∧ wm.heap.size < wb.heap.size) := ⟨by omega, by omega, hn, by omega, hbl, HR0.out.lt⟩
  clear hx hfr hdl hv hb5 h54 hl hlc hbl hn
  go_enter Try.func14, Try.ntmps14
  go_wp2_with fail
  rw [← hwb]
  clear hwb
  refine (numbersF_any _ _ _ _).mono ?_
  rintro e w3 ⟨rfl, hnm, hb3⟩
  obtain ⟨N, hN⟩ : ∃ N, N = wb.heap.size := ⟨_, rfl⟩
  rw [← hN] at hnm ⊢
  obtain ⟨G, hG0⟩ : ∃ G, G = w3.heap.size := ⟨_, rfl⟩
  obtain ⟨w5, hw5⟩ : ∃ w5, w5 = w3.alloc (.cells #[.func (.func 45) #[] #[.pointer (some ⟨N + 2, 0, none⟩)]] 61) := ⟨_, rfl⟩
  have hb35 : Below w3.heap.size w3 w5 := by rw [hw5]; exact (Below.refl _ _).alloc (Nat.le_refl _) _
  have HG : Hid (BlkAt 61 G [gtF N] w5) := by rw [hw5, hG0]; exact BlkAt.new w3 _
  have HM5 := Lib.hid (below_of (below_of HM.out hb3) hb35)
  have HR0 := Lib.hid ((BlkAt.later HR0.out hb3).later hb35)
  have HH : Hid (54 ≤ n ∧ G ≠ N + 1 ∧ N + 2 < w5.heap.size ∧ n ≤ 9000 ∧ n = l.length ∧ wm.heap.size < N ∧ b < N ∧ N + 2 < G ∧ G < w5.heap.size) := by
    have := HH0.out
    have h3 := hnm.lt
    have h5 := HG.out.lt
    exact ⟨by omega, by omega, by omega, by omega, by omega, by omega, by omega, by omega, by omega⟩
  have HS0 : Hid (RS N 0 b o n c l w5) := ⟨hnm.below hb35, HBV.out _ HM5.out, HH.out.2.2.2.2.2.2.1, HH.out.2.2.2.2.1, by have := HH.out; omega⟩
  clear hnm hb3 hN hb35 HM
  go_wp2_with fail
  rw [← hG0, ← hw5]
  clear hG0 hw5
  (refine wp_region_held_drew (S := (fun w' => Mv N w5 w')) (by kernel_rfl) ?_ (fun hHeld => ?_); (focus ((try dsimp only); (exact (Mv.refl _ _).drew))))
  (try dsimp only at hHeld)
  obtain ⟨w0, hw0⟩ : ∃ w4, w4 = World.drew w5 := ⟨_, rfl⟩
  have HS := Lib.hid (show RS N 0 b o n c l w0 by rw [hw0]; exact HS0.out.later (Below.refl _ _).drew)
  rw [← hw0]
  rw [← hw0] at hHeld
  clear hw0 HS0
  refine wpAnyH_cut #[true, true, true, true, true, true, true, true, true, true, true, true, true, true, true, true, true, true, false] 1 (fun A w1 => ∃ (g4 : Nat), A = ⟨#[.slice (some ⟨b, o, none⟩) n c, undef, .pointer (some ⟨wm.heap.size, 0, none⟩), .int .i64 0, .pointer (some ⟨G, 0, none⟩), .func (.func 47) #[] #[.pointer (some ⟨N + 2, 0, none⟩)], .func (.func 38) #[] #[.pointer (some ⟨G, 0, none⟩)], .pointer (some ⟨g4, 0, none⟩), undef, undef, .slice (some ⟨b, o, none⟩) n c, .int .i64 n, .bool (decide ((n : Int) < 54)), undef, .tuple #[.func (.func 45) #[] #[.pointer (some ⟨N + 2, 0, none⟩)], .func (.func 47) #[] #[.pointer (some ⟨N + 2, 0, none⟩)]], .slice (some ⟨b, o, none⟩) n c, .tuple #[.func (.func 45) #[] #[.pointer (some ⟨N + 2, 0, none⟩)], .func (.func 47) #[] #[.pointer (some ⟨N + 2, 0, none⟩)]], .func (.func 45) #[] #[.pointer (some ⟨N + 2, 0, none⟩)], .func (.func 47) #[] #[.pointer (some ⟨N + 2, 0, none⟩)], .func (.func 38) #[] #[.pointer (some ⟨G, 0, none⟩)], .func (.func 45) #[] #[.pointer (some ⟨N + 2, 0, none⟩)], .int .u64 (x.k0 : Nat), .int .i64 (x.k0 : Nat), .func (.func 45) #[] #[.pointer (some ⟨N + 2, 0, none⟩)], .int .u64 (x.n0 : Nat), .int .i64 (x.n0 : Nat), .func (.func 38) #[] #[.pointer (some ⟨G, 0, none⟩)], .agg #[.int .u64 (x.mb : Nat), .int .u64 (x.mt : Nat)], .func (.func 38) #[] #[.pointer (some ⟨G, 0, none⟩)], .agg #[.int .u64 (x.tb : Nat), .int .u64 (x.tt : Nat)], .func (.func 45) #[] #[.pointer (some ⟨N + 2, 0, none⟩)], .int .u64 (x.s : Nat), .func (.func 45) #[] #[.pointer (some ⟨N + 2, 0, none⟩)], .int .u64 (x.a : Nat), .slice (some ⟨b, o, none⟩) n c, .slice a5 (n - 54) (c - 54), .agg #[.int .i64 (x.k0 : Nat), .int .i64 (x.n0 : Nat), .int .u64 (x.mb : Nat), .int .u64 (x.mt : Nat), .int .u64 (x.tb : Nat), .int .u64 (x.tt : Nat), .int .u64 (x.s : Nat), .int .u64 (x.a : Nat), .slice a5 (n - 54) (c - 54)], undef, undef, undef, undef, undef, undef, undef, undef, undef, undef, undef, undef, undef, undef, undef, undef, undef, undef, undef, undef], []⟩ ∧ Hid (RS N 50 b o n c l w1) ∧ Hid (BlkG 28 w5 g4 [.int .i64 0, .int .i64 0, .int .u64 0, .int .u64 0, .int .u64 0, .int .u64 0, .int .u64 0, .int .u64 0, .slice none 0 0] w1)) ?_ (fun m0 => ?_)
  · rintro l' A w1 rfl ⟨g4, rfl, HS, HF⟩ hHeld
    refine wpAnyH_ready (rs := [18]) (by kernel_rfl) (by simp) ?_
    refine AllReadyH.cons rfl (fun K hK => ?_) AllReadyH.nil
    obtain ⟨c0, c1, c2, c3, c4, c5, c6, c7, c8⟩ := blk9 HF.out.1
    have hfz : ∀ j, w1.frozen? ⟨g4, j, none⟩ = false := fun j => BlkAt.frozen HF.out.1 j
    obtain ⟨s1, s2, s3⟩ := BlkAt.set9 HF.out.1 (.int .i64 (x.k0 : Nat)) (.int .i64 (x.n0 : Nat)) (.int .u64 (x.mb : Nat)) (.int .u64 (x.mt : Nat)) (.int .u64 (x.tb : Nat)) (.int .u64 (x.tt : Nat)) (.int .u64 (x.s : Nat)) (.int .u64 (x.a : Nat)) (.slice a5 (n - 54) (c - 54))
    have hmv : Mv N w5 _ := ⟨hHeld.low.trans (s2 _ (by have := HF.out.2; have := HH.out; omega)), fun b' hb hn => (s3 b' (by have := HF.out.2; omega)).trans (hHeld.rest b' hb hn)⟩
    have HMV := Lib.hid hmv
    have G1 := Lib.hid s1
    clear s1 s2 s3 hmv
    go_simp
    refine hK.out _ _ HMV.out (fun hHeldN => ?_)
    refine wpAnyH_done (by kernel_rfl) ?_ _
    clear hHeldN hHeld hK c0 c1 c2 c3 c4 c5 c6 c7 c8 hfz
    obtain ⟨w2, hw2⟩ : ∃ w2, w2 = (((((((((w1.setCell ⟨g4, 0, none⟩ (.int .i64 (x.k0 : Nat))).setCell ⟨g4, 1, none⟩ (.int .i64 (x.n0 : Nat))).setCell ⟨g4, 2, none⟩ (.int .u64 (x.mb : Nat))).setCell ⟨g4, 3, none⟩ (.int .u64 (x.mt : Nat))).setCell ⟨g4, 4, none⟩ (.int .u64 (x.tb : Nat))).setCell ⟨g4, 5, none⟩ (.int .u64 (x.tt : Nat))).setCell ⟨g4, 6, none⟩ (.int .u64 (x.s : Nat))).setCell ⟨g4, 7, none⟩ (.int .u64 (x.a : Nat))).setCell ⟨g4, 8, none⟩ (.slice a5 (n - 54) (c - 54))) := ⟨_, rfl⟩
    rw [← hw2] at HMV G1 ⊢
    clear hw2
    have HB2 : Hid (Below wm.heap.size wm w2) := HM5.out.trans (HMV.out.below (by have := HH.out; omega))
    have R2 : Hid (BlkAt 28 wm.heap.size [.int .i64 0, .int .i64 0, .int .u64 0, .int .u64 0, .int .u64 0, .int .u64 0, .int .u64 0, .int .u64 0, .slice none 0 0] w2) := HMV.out.blk HR0.out (by have := HH.out; omega)
    have HGN : Hid (wm.heap.size < g4 ∧ wm.heap.size < w2.heap.size) := ⟨by have := HF.out.2; have := HH.out; omega, R2.out.lt⟩
    clear HMV HF HS HR0 HG HM5
    obtain ⟨c0, c1, c2, c3, c4, c5, c6, c7, c8⟩ := blk9 G1.out
    go_wp2_with fail
    rcases HD.out with ⟨d1, d3⟩ | ⟨d1, d2, d3⟩ | ⟨d1, d2, d3⟩
    · have HZ := Lib.hid (of_zero d3)
      have HO : Hid (oB l = []) := (o_no d3).2.1
      refine (HBN.out d1 _ HB2.out).mono ?_
      rintro e w4 ⟨rfl, hb4⟩
      have HB4 := Lib.hid (below_of HB2.out hb4)
      have R4 := Lib.hid (R2.out.later hb4)
      clear hb4 d1 d3 c0 c1 c2 c3 c4 c5 c6 c7 c8
      obtain ⟨c0, c1, c2, c3, c4, c5, c6, c7, c8⟩ := blk9 R4.out
      have hfz : ∀ j, w4.frozen? ⟨wm.heap.size, j, none⟩ = false := fun j => BlkAt.frozen R4.out j
      obtain ⟨s1, s2, _⟩ := BlkAt.set9 R4.out (.int .i64 0) (.int .i64 0) (.int .u64 0) (.int .u64 0) (.int .u64 0) (.int .u64 0) (.int .u64 0) (.int .u64 0) (.slice none 0 0)
      have S1 := Lib.hid s1
      have S3 := Lib.hid (HB4.out.trans (s2 _ (Nat.le_refl _)))
      clear s1 s2
      go_wp2_with fail
      obtain ⟨d0, d1, d2, d3, d4, d5, d6, d7, d8⟩ := blk9 S1.out
      exact bodyPost_ret (v := .tuple #[.agg #[.int .i64 0, .int .i64 0, .int .u64 0, .int .u64 0, .int .u64 0, .int .u64 0, .int .u64 0, .int .u64 0, .slice none 0 0], .int .i64 4]) (by simp [results, Try.results14, go_sem, d0, d1, d2, d3, d4, d5, d6, d7, d8]) rfl ⟨_, HZ.out, by rw [HO.out]; exact OwnB.nil _ _, S3.out⟩
    · have HZ := Lib.hid (of_zero d3)
      have HO : Hid (oB l = []) := (o_no d3).2.1
      refine (HBY.out d1 _ HB2.out).mono ?_
      rintro e w4 ⟨x4, rfl, ho4, hb4⟩
      have HB4 := Lib.hid (below_of HB2.out hb4)
      have R4 := Lib.hid (R2.out.later hb4)
      have HE := Lib.hid (equal_by x4 _ _ l w4 ho4.bytes (HBV.out _ HB4.out))
      obtain ⟨xa, xc, rfl⟩ := ho4.form
      obtain ⟨xn, hxn⟩ : ∃ k, k = (frL x.fr (l.drop 54)).length := ⟨_, rfl⟩
      rw [d2] at HE
      rw [← hxn] at HE ⊢
      clear hb4 d1 d3 d2 c0 c1 c2 c3 c4 c5 c6 c7 c8 ho4 hxn
      go_wp2_with fail
      refine HE.out.mono ?_
      rintro e w6 ⟨rfl, rfl⟩
      obtain ⟨c0, c1, c2, c3, c4, c5, c6, c7, c8⟩ := blk9 R4.out
      have hfz : ∀ j, w6.frozen? ⟨wm.heap.size, j, none⟩ = false := fun j => BlkAt.frozen R4.out j
      obtain ⟨s1, s2, _⟩ := BlkAt.set9 R4.out (.int .i64 0) (.int .i64 0) (.int .u64 0) (.int .u64 0) (.int .u64 0) (.int .u64 0) (.int .u64 0) (.int .u64 0) (.slice none 0 0)
      have S1 := Lib.hid s1
      have S3 := Lib.hid (HB4.out.trans (s2 _ (Nat.le_refl _)))
      clear s1 s2
      go_wp2_with fail
      obtain ⟨d0, d1, d2, d3, d4, d5, d6, d7, d8⟩ := blk9 S1.out
      exact bodyPost_ret (v := .tuple #[.agg #[.int .i64 0, .int .i64 0, .int .u64 0, .int .u64 0, .int .u64 0, .int .u64 0, .int .u64 0, .int .u64 0, .slice none 0 0], .int .i64 4]) (by simp [results, Try.results14, go_sem, d0, d1, d2, d3, d4, d5, d6, d7, d8]) rfl ⟨_, HZ.out, by rw [HO.out]; exact OwnB.nil _ _, S3.out⟩
    · have HZ := Lib.hid (HOY.out d3)
      have HO : Hid (oB l = l.drop 54) := (o_yes d3).2.1
      refine (HBY.out d1 _ HB2.out).mono ?_
      rintro e w4 ⟨x4, rfl, ho4, hb4⟩
      have HB4 := Lib.hid (below_of HB2.out hb4)
      have R4 := Lib.hid (R2.out.later hb4)
      have G4 := Lib.hid (BlkAt.later G1.out hb4)
      have HE := Lib.hid (equal_by x4 _ _ l w4 ho4.bytes (HBV.out _ HB4.out))
      obtain ⟨xa, xc, rfl⟩ := ho4.form
      obtain ⟨xn, hxn⟩ : ∃ k, k = (frL x.fr (l.drop 54)).length := ⟨_, rfl⟩
      rw [d2] at HE
      rw [← hxn] at HE ⊢
      clear hb4 d1 d3 d2 c0 c1 c2 c3 c4 c5 c6 c7 c8 ho4 hxn
      go_wp2_with fail
      refine HE.out.mono ?_
      rintro e w6 ⟨rfl, rfl⟩
      obtain ⟨c0, c1, c2, c3, c4, c5, c6, c7, c8⟩ := blk9 G4.out
      have HJ := Lib.hid (joinW_own _ [l.drop 54] _ (lists_one (HBD.out w6 HB4.out)) (by simp) (by have := HH.out; simp; omega))
      go_wp2_with fail
      refine HJ.out.mono ?_
      rintro e w7 ⟨y, rfl, hoy, hb7⟩
      have hb7' : Below w6.heap.size w6 w7 := ((Below.refl _ _).alloc (Nat.le_refl _) _).trans (hb7.mono (by simp))
      have HOY2 : Hid (OwnB w7 wm.heap.size y (l.drop 54)) := by
        have h9 := OwnB.weak hoy (B := wm.heap.size) (by have := HB4.out.size; simp; omega)
        show OwnB w7 wm.heap.size y (l.drop 54)
        simpa using h9
      have HB7 := Lib.hid (below_of HB4.out hb7')
      have R7 := Lib.hid (BlkAt.later R4.out hb7')
      have G7 := Lib.hid (BlkAt.later G4.out hb7')
      obtain ⟨ya, yc, rfl⟩ := HOY2.out.form
      obtain ⟨yn, hyn⟩ : ∃ k, k = (l.drop 54).length := ⟨_, rfl⟩
      have HYN := Lib.hid hyn
      rw [← hyn]
      clear hoy hb7 hb7' c0 c1 c2 c3 c4 c5 c6 c7 c8 hyn
      obtain ⟨c0, c1, c2, c3, c4, c5, c6, c7, c8⟩ := blk9 G7.out
      obtain ⟨b0, b1, b2, b3, b4, b5, b6, b7, b8⟩ := blk9 R7.out
      have hfz : w7.frozen? ⟨g4, 8, none⟩ = false := BlkAt.frozen G7.out 8
      have hfz2 : ∀ j, w7.frozen? ⟨wm.heap.size, j, none⟩ = false := fun j => BlkAt.frozen R7.out j
      have hne : ¬ g4 = wm.heap.size := by have := HGN.out; omega
      have hne' : ¬ wm.heap.size = g4 := by have := HGN.out; omega
      have hr8 := BlkAt.other R7.out hne' 8 (.slice ya yn yc)
      have ho8 : OwnB (w7.setCell ⟨g4, 8, none⟩ (.slice ya yn yc)) wm.heap.size (.slice ya yn yc) (l.drop 54) := BlkAt.own G7.out (by decide) 8 _ (by rw [HYN.out]; exact HOY2.out)
      have hb8 : Below wm.heap.size wm (w7.setCell ⟨g4, 8, none⟩ (.slice ya yn yc)) := HB7.out.setCell (by have := HGN.out; simp; omega) _
      obtain ⟨s1, s2, s3⟩ := BlkAt.set9 hr8 (.int .i64 (x.k0 : Nat)) (.int .i64 (x.n0 : Nat)) (.int .u64 (x.mb : Nat)) (.int .u64 (x.mt : Nat)) (.int .u64 (x.tb : Nat)) (.int .u64 (x.tt : Nat)) (.int .u64 (x.s : Nat)) (.int .u64 (x.a : Nat)) (.slice ya yn yc)
      have ho9 := OwnB.kept ho8 (g := wm.heap.size) (fun k hk => s3 k hk) (fun b' hb => BlkAt.ne_own hr8 (by decide) ho8 hb)
      have S1 := Lib.hid s1
      have S3 := Lib.hid (hb8.trans (s2 _ (Nat.le_refl _)))
      have S9 := Lib.hid ho9
      clear s1 s2 s3 hr8 ho8 hb8 ho9
      go_wp2_with fail
      obtain ⟨d0, d1, d2, d3, d4, d5, d6, d7, d8⟩ := blk9 S1.out
      exact bodyPost_ret (v := .tuple #[.agg #[.int .i64 (x.k0 : Nat), .int .i64 (x.n0 : Nat), .int .u64 (x.mb : Nat), .int .u64 (x.mt : Nat), .int .u64 (x.tb : Nat), .int .u64 (x.tt : Nat), .int .u64 (x.s : Nat), .int .u64 (x.a : Nat), .slice ya yn yc], .int .i64 0]) (by simp [results, Try.results14, go_sem, d0, d1, d2, d3, d4, d5, d6, d7, d8]) rfl ⟨_, HZ.out _, by rw [HO.out]; exact S9.out, S3.out⟩
  refine wpAnyH_cut #[true, true, true, true, true, true, true, true, true, true, true, true, true, true, true, true, true, false, false] 2 (fun A w1 => A = ⟨#[.slice (some ⟨b, o, none⟩) n c, undef, .pointer (some ⟨wm.heap.size, 0, none⟩), .int .i64 0, .pointer (some ⟨G, 0, none⟩), .func (.func 47) #[] #[.pointer (some ⟨N + 2, 0, none⟩)], .func (.func 38) #[] #[.pointer (some ⟨G, 0, none⟩)], undef, undef, undef, .slice (some ⟨b, o, none⟩) n c, .int .i64 n, .bool (decide ((n : Int) < 54)), undef, .tuple #[.func (.func 45) #[] #[.pointer (some ⟨N + 2, 0, none⟩)], .func (.func 47) #[] #[.pointer (some ⟨N + 2, 0, none⟩)]], .slice (some ⟨b, o, none⟩) n c, .tuple #[.func (.func 45) #[] #[.pointer (some ⟨N + 2, 0, none⟩)], .func (.func 47) #[] #[.pointer (some ⟨N + 2, 0, none⟩)]], .func (.func 45) #[] #[.pointer (some ⟨N + 2, 0, none⟩)], .func (.func 47) #[] #[.pointer (some ⟨N + 2, 0, none⟩)], .func (.func 38) #[] #[.pointer (some ⟨G, 0, none⟩)], .func (.func 45) #[] #[.pointer (some ⟨N + 2, 0, none⟩)], .int .u64 (x.k0 : Nat), .int .i64 (x.k0 : Nat), .func (.func 45) #[] #[.pointer (some ⟨N + 2, 0, none⟩)], .int .u64 (x.n0 : Nat), .int .i64 (x.n0 : Nat), .func (.func 38) #[] #[.pointer (some ⟨G, 0, none⟩)], .agg #[.int .u64 (x.mb : Nat), .int .u64 (x.mt : Nat)], .func (.func 38) #[] #[.pointer (some ⟨G, 0, none⟩)], .agg #[.int .u64 (x.tb : Nat), .int .u64 (x.tt : Nat)], .func (.func 45) #[] #[.pointer (some ⟨N + 2, 0, none⟩)], .int .u64 (x.s : Nat), .func (.func 45) #[] #[.pointer (some ⟨N + 2, 0, none⟩)], .int .u64 (x.a : Nat), .slice (some ⟨b, o, none⟩) n c, .slice a5 (n - 54) (c - 54), .agg #[.int .i64 (x.k0 : Nat), .int .i64 (x.n0 : Nat), .int .u64 (x.mb : Nat), .int .u64 (x.mt : Nat), .int .u64 (x.tb : Nat), .int .u64 (x.tt : Nat), .int .u64 (x.s : Nat), .int .u64 (x.a : Nat), .slice a5 (n - 54) (c - 54)], undef, undef, undef, undef, undef, undef, undef, undef, undef, undef, undef, undef, undef, undef, undef, undef, undef, undef, undef, undef], []⟩ ∧ Hid (RS N 50 b o n c l w1)) ?_ (fun m1 => ?_)
  · rintro l' A w1 rfl ⟨rfl, HS⟩ hHeld
    refine wpAnyH_ready (rs := [17]) (by kernel_rfl) (by simp) ?_
    refine AllReadyH.cons rfl (fun K hK => ?_) AllReadyH.nil
    go_simp
    have hs : Below (World.heap w1).size w1 (w1.alloc (.cells #[.int .i64 0, .int .i64 0, .int .u64 0, .int .u64 0, .int .u64 0, .int .u64 0, .int .u64 0, .int .u64 0, .slice none 0 0] 28)) := (Below.refl _ _).alloc (Nat.le_refl _) _
    have hF : Hid (BlkG 28 w5 (World.heap w1).size [.int .i64 0, .int .i64 0, .int .u64 0, .int .u64 0, .int .u64 0, .int .u64 0, .int .u64 0, .int .u64 0, .slice none 0 0] (w1.alloc (.cells #[.int .i64 0, .int .i64 0, .int .u64 0, .int .u64 0, .int .u64 0, .int .u64 0, .int .u64 0, .int .u64 0, .slice none 0 0] 28))) := ⟨BlkAt.new w1 _, hHeld.size⟩
    have HS2 := Lib.hid (HS.out.later hs)
    refine hK.out _ _ (hHeld.trans (Mv.of_below hs (by have := HH.out; have := hHeld.size; omega))) (fun hHeldN => ?_)
    exact m0 _ _ _ (by kernel_rfl) ⟨_, rfl, HS2, hF⟩ hHeldN
  refine wpAnyH_cut #[true, true, true, true, true, true, true, true, true, true, true, true, true, false, true, true, false, true, false] 3 (fun A w1 => ∃ (g4 : Nat), A = ⟨#[.slice (some ⟨b, o, none⟩) n c, undef, .pointer (some ⟨wm.heap.size, 0, none⟩), .int .i64 0, .pointer (some ⟨G, 0, none⟩), .func (.func 47) #[] #[.pointer (some ⟨N + 2, 0, none⟩)], .func (.func 38) #[] #[.pointer (some ⟨G, 0, none⟩)], .pointer (some ⟨g4, 0, none⟩), undef, undef, .slice (some ⟨b, o, none⟩) n c, .int .i64 n, .bool (decide ((n : Int) < 54)), undef, .tuple #[.func (.func 45) #[] #[.pointer (some ⟨N + 2, 0, none⟩)], .func (.func 47) #[] #[.pointer (some ⟨N + 2, 0, none⟩)]], .slice (some ⟨b, o, none⟩) n c, .tuple #[.func (.func 45) #[] #[.pointer (some ⟨N + 2, 0, none⟩)], .func (.func 47) #[] #[.pointer (some ⟨N + 2, 0, none⟩)]], .func (.func 45) #[] #[.pointer (some ⟨N + 2, 0, none⟩)], .func (.func 47) #[] #[.pointer (some ⟨N + 2, 0, none⟩)], .func (.func 38) #[] #[.pointer (some ⟨G, 0, none⟩)], .func (.func 45) #[] #[.pointer (some ⟨N + 2, 0, none⟩)], .int .u64 (x.k0 : Nat), .int .i64 (x.k0 : Nat), .func (.func 45) #[] #[.pointer (some ⟨N + 2, 0, none⟩)], .int .u64 (x.n0 : Nat), .int .i64 (x.n0 : Nat), .func (.func 38) #[] #[.pointer (some ⟨G, 0, none⟩)], .agg #[.int .u64 (x.mb : Nat), .int .u64 (x.mt : Nat)], .func (.func 38) #[] #[.pointer (some ⟨G, 0, none⟩)], .agg #[.int .u64 (x.tb : Nat), .int .u64 (x.tt : Nat)], .func (.func 45) #[] #[.pointer (some ⟨N + 2, 0, none⟩)], .int .u64 (x.s : Nat), .func (.func 45) #[] #[.pointer (some ⟨N + 2, 0, none⟩)], undef, .slice (some ⟨b, o, none⟩) n c, .slice a5 (n - 54) (c - 54), undef, undef, undef, undef, undef, undef, undef, undef, undef, undef, undef, undef, undef, undef, undef, undef, undef, undef, undef, undef, undef], []⟩ ∧ Hid (RS N 42 b o n c l w1) ∧ Hid (BlkG 28 w5 g4 [.int .i64 0, .int .i64 0, .int .u64 0, .int .u64 0, .int .u64 0, .int .u64 0, .int .u64 0, .int .u64 0, .slice none 0 0] w1)) ?_ (fun m2 => ?_)
  · rintro l' A w1 rfl ⟨g4, rfl, HS, HF⟩ hHeld
    refine wpAnyH_ready (rs := [13]) (by kernel_rfl) (by simp) ?_
    refine AllReadyH.cons rfl (fun K hK => ?_) AllReadyH.nil
    go_simp
    refine (getS HS.out 8 (by omega) (by omega) (by have := HH.out; omega)).mono ?_
    rintro e w_n ⟨rfl, hs0, hm0⟩
    rw [← HX.out.2.2.2.2.2.2.2]
    simp only []
    have HS2 : Hid (RS N 50 b o n c l w_n) := hs0
    refine hK.out _ _ (hHeld.trans hm0) (fun hHeldN => ?_)
    try simp only [Act.put, List.setIfInBounds_toArray, List.set_cons_zero, List.set_cons_succ, List.getElem_toArray, List.getElem_cons_zero, List.getElem_cons_succ]
    have HF2 := Lib.hid (show BlkG 28 w5 g4 _ w_n from ⟨hm0.blk HF.out.1 (by have := HF.out.2; have := HH.out; omega), HF.out.2⟩)
    (have hHeldO := hHeld; clear hHeld; have hHeld := hHeldN)
    clear hs0 hm0
    (refine wpAnyH_take (i := 16) (v := ?_) rfl (by kernel_rfl) (by kernel_rfl) (by kernel_rfl) (fun _ _ _ h => h) (Or.inl ⟨by rfl, ?_⟩) hHeld ?_; rotate_left; (focus (intro w hSw; (try dsimp only at hSw); go_simp; try with_reducible rfl)); (try simp only [Act.put, List.setIfInBounds_toArray, List.set_cons_zero, List.set_cons_succ, List.getElem_toArray, List.getElem_cons_zero, List.getElem_cons_succ]))
    exact m0 _ _ _ (by kernel_rfl) ⟨_, rfl, HS2, HF2⟩ hHeld
  refine wpAnyH_cut #[true, true, true, true, true, true, true, true, true, true, true, true, true, false, true, true, false, false, false] 4 (fun A w1 => A = ⟨#[.slice (some ⟨b, o, none⟩) n c, undef, .pointer (some ⟨wm.heap.size, 0, none⟩), .int .i64 0, .pointer (some ⟨G, 0, none⟩), .func (.func 47) #[] #[.pointer (some ⟨N + 2, 0, none⟩)], .func (.func 38) #[] #[.pointer (some ⟨G, 0, none⟩)], undef, undef, undef, .slice (some ⟨b, o, none⟩) n c, .int .i64 n, .bool (decide ((n : Int) < 54)), undef, .tuple #[.func (.func 45) #[] #[.pointer (some ⟨N + 2, 0, none⟩)], .func (.func 47) #[] #[.pointer (some ⟨N + 2, 0, none⟩)]], .slice (some ⟨b, o, none⟩) n c, .tuple #[.func (.func 45) #[] #[.pointer (some ⟨N + 2, 0, none⟩)], .func (.func 47) #[] #[.pointer (some ⟨N + 2, 0, none⟩)]], .func (.func 45) #[] #[.pointer (some ⟨N + 2, 0, none⟩)], .func (.func 47) #[] #[.pointer (some ⟨N + 2, 0, none⟩)], .func (.func 38) #[] #[.pointer (some ⟨G, 0, none⟩)], .func (.func 45) #[] #[.pointer (some ⟨N + 2, 0, none⟩)], .int .u64 (x.k0 : Nat), .int .i64 (x.k0 : Nat), .func (.func 45) #[] #[.pointer (some ⟨N + 2, 0, none⟩)], .int .u64 (x.n0 : Nat), .int .i64 (x.n0 : Nat), .func (.func 38) #[] #[.pointer (some ⟨G, 0, none⟩)], .agg #[.int .u64 (x.mb : Nat), .int .u64 (x.mt : Nat)], .func (.func 38) #[] #[.pointer (some ⟨G, 0, none⟩)], .agg #[.int .u64 (x.tb : Nat), .int .u64 (x.tt : Nat)], .func (.func 45) #[] #[.pointer (some ⟨N + 2, 0, none⟩)], .int .u64 (x.s : Nat), .func (.func 45) #[] #[.pointer (some ⟨N + 2, 0, none⟩)], undef, .slice (some ⟨b, o, none⟩) n c, .slice a5 (n - 54) (c - 54), undef, undef, undef, undef, undef, undef, undef, undef, undef, undef, undef, undef, undef, undef, undef, undef, undef, undef, undef, undef, undef], []⟩ ∧ Hid (RS N 42 b o n c l w1)) ?_ (fun m3 => ?_)
  · rintro l' A w1 rfl ⟨rfl, HS⟩ hHeld
    refine wpAnyH_ready (rs := [13, 17]) (by kernel_rfl) (by simp) ?_
    refine AllReadyH.cons rfl (fun K hK => ?_) (AllReadyH.cons rfl (fun K hK => ?_) AllReadyH.nil)
    · go_simp
      refine (getS HS.out 8 (by omega) (by omega) (by have := HH.out; omega)).mono ?_
      rintro e w_n ⟨rfl, hs0, hm0⟩
      rw [← HX.out.2.2.2.2.2.2.2]
      simp only []
      have HS2 : Hid (RS N 50 b o n c l w_n) := hs0
      refine hK.out _ _ (hHeld.trans hm0) (fun hHeldN => ?_)
      try simp only [Act.put, List.setIfInBounds_toArray, List.set_cons_zero, List.set_cons_succ, List.getElem_toArray, List.getElem_cons_zero, List.getElem_cons_succ]
      (have hHeldO := hHeld; clear hHeld; have hHeld := hHeldN)
      clear hs0 hm0
      (refine wpAnyH_take (i := 16) (v := ?_) rfl (by kernel_rfl) (by kernel_rfl) (by kernel_rfl) (fun _ _ _ h => h) (Or.inl ⟨by rfl, ?_⟩) hHeld ?_; rotate_left; (focus (intro w hSw; (try dsimp only at hSw); go_simp; try with_reducible rfl)); (try simp only [Act.put, List.setIfInBounds_toArray, List.set_cons_zero, List.set_cons_succ, List.getElem_toArray, List.getElem_cons_zero, List.getElem_cons_succ]))
      exact m1 _ _ _ (by kernel_rfl) ⟨rfl, HS2⟩ hHeld
    · go_simp
      have hs : Below (World.heap w1).size w1 (w1.alloc (.cells #[.int .i64 0, .int .i64 0, .int .u64 0, .int .u64 0, .int .u64 0, .int .u64 0, .int .u64 0, .int .u64 0, .slice none 0 0] 28)) := (Below.refl _ _).alloc (Nat.le_refl _) _
      have hF : Hid (BlkG 28 w5 (World.heap w1).size [.int .i64 0, .int .i64 0, .int .u64 0, .int .u64 0, .int .u64 0, .int .u64 0, .int .u64 0, .int .u64 0, .slice none 0 0] (w1.alloc (.cells #[.int .i64 0, .int .i64 0, .int .u64 0, .int .u64 0, .int .u64 0, .int .u64 0, .int .u64 0, .int .u64 0, .slice none 0 0] 28))) := ⟨BlkAt.new w1 _, hHeld.size⟩
      have HS2 := Lib.hid (HS.out.later hs)
      refine hK.out _ _ (hHeld.trans (Mv.of_below hs (by have := HH.out; have := hHeld.size; omega))) (fun hHeldN => ?_)
      exact m2 _ _ _ (by kernel_rfl) ⟨_, rfl, HS2, hF⟩ hHeldN
  refine wpAnyH_cut #[true, true, true, true, true, true, true, true, true, true, true, false, true, false, true, true, false, true, false] 4 (fun A w1 => ∃ (g4 : Nat), A = ⟨#[.slice (some ⟨b, o, none⟩) n c, undef, .pointer (some ⟨wm.heap.size, 0, none⟩), .int .i64 0, .pointer (some ⟨G, 0, none⟩), .func (.func 47) #[] #[.pointer (some ⟨N + 2, 0, none⟩)], .func (.func 38) #[] #[.pointer (some ⟨G, 0, none⟩)], .pointer (some ⟨g4, 0, none⟩), undef, undef, .slice (some ⟨b, o, none⟩) n c, .int .i64 n, .bool (decide ((n : Int) < 54)), undef, .tuple #[.func (.func 45) #[] #[.pointer (some ⟨N + 2, 0, none⟩)], .func (.func 47) #[] #[.pointer (some ⟨N + 2, 0, none⟩)]], .slice (some ⟨b, o, none⟩) n c, .tuple #[.func (.func 45) #[] #[.pointer (some ⟨N + 2, 0, none⟩)], .func (.func 47) #[] #[.pointer (some ⟨N + 2, 0, none⟩)]], .func (.func 45) #[] #[.pointer (some ⟨N + 2, 0, none⟩)], .func (.func 47) #[] #[.pointer (some ⟨N + 2, 0, none⟩)], .func (.func 38) #[] #[.pointer (some ⟨G, 0, none⟩)], .func (.func 45) #[] #[.pointer (some ⟨N + 2, 0, none⟩)], .int .u64 (x.k0 : Nat), .int .i64 (x.k0 : Nat), .func (.func 45) #[] #[.pointer (some ⟨N + 2, 0, none⟩)], .int .u64 (x.n0 : Nat), .int .i64 (x.n0 : Nat), .func (.func 38) #[] #[.pointer (some ⟨G, 0, none⟩)], .agg #[.int .u64 (x.mb : Nat), .int .u64 (x.mt : Nat)], .func (.func 38) #[] #[.pointer (some ⟨G, 0, none⟩)], .agg #[.int .u64 (x.tb : Nat), .int .u64 (x.tt : Nat)], .func (.func 45) #[] #[.pointer (some ⟨N + 2, 0, none⟩)], undef, .func (.func 45) #[] #[.pointer (some ⟨N + 2, 0, none⟩)], undef, .slice (some ⟨b, o, none⟩) n c, .slice a5 (n - 54) (c - 54), undef, undef, undef, undef, undef, undef, undef, undef, undef, undef, undef, undef, undef, undef, undef, undef, undef, undef, undef, undef, undef], []⟩ ∧ Hid (RS N 34 b o n c l w1) ∧ Hid (BlkG 28 w5 g4 [.int .i64 0, .int .i64 0, .int .u64 0, .int .u64 0, .int .u64 0, .int .u64 0, .int .u64 0, .int .u64 0, .slice none 0 0] w1)) ?_ (fun m4 => ?_)
  · rintro l' A w1 rfl ⟨g4, rfl, HS, HF⟩ hHeld
    refine wpAnyH_ready (rs := [11]) (by kernel_rfl) (by simp) ?_
    refine AllReadyH.cons rfl (fun K hK => ?_) AllReadyH.nil
    go_simp
    refine (getS HS.out 8 (by omega) (by omega) (by have := HH.out; omega)).mono ?_
    rintro e w_n ⟨rfl, hs0, hm0⟩
    rw [← HX.out.2.2.2.2.2.2.1]
    simp only []
    have HS2 : Hid (RS N 42 b o n c l w_n) := hs0
    refine hK.out _ _ (hHeld.trans hm0) (fun hHeldN => ?_)
    try simp only [Act.put, List.setIfInBounds_toArray, List.set_cons_zero, List.set_cons_succ, List.getElem_toArray, List.getElem_cons_zero, List.getElem_cons_succ]
    have HF2 := Lib.hid (show BlkG 28 w5 g4 _ w_n from ⟨hm0.blk HF.out.1 (by have := HF.out.2; have := HH.out; omega), HF.out.2⟩)
    (have hHeldO := hHeld; clear hHeld; have hHeld := hHeldN)
    clear hs0 hm0
    exact m2 _ _ _ (by kernel_rfl) ⟨_, rfl, HS2, HF2⟩ hHeld
  refine wpAnyH_cut #[true, true, true, true, true, true, true, true, true, true, true, false, true, false, true, true, false, false, false] 5 (fun A w1 => A = ⟨#[.slice (some ⟨b, o, none⟩) n c, undef, .pointer (some ⟨wm.heap.size, 0, none⟩), .int .i64 0, .pointer (some ⟨G, 0, none⟩), .func (.func 47) #[] #[.pointer (some ⟨N + 2, 0, none⟩)], .func (.func 38) #[] #[.pointer (some ⟨G, 0, none⟩)], undef, undef, undef, .slice (some ⟨b, o, none⟩) n c, .int .i64 n, .bool (decide ((n : Int) < 54)), undef, .tuple #[.func (.func 45) #[] #[.pointer (some ⟨N + 2, 0, none⟩)], .func (.func 47) #[] #[.pointer (some ⟨N + 2, 0, none⟩)]], .slice (some ⟨b, o, none⟩) n c, .tuple #[.func (.func 45) #[] #[.pointer (some ⟨N + 2, 0, none⟩)], .func (.func 47) #[] #[.pointer (some ⟨N + 2, 0, none⟩)]], .func (.func 45) #[] #[.pointer (some ⟨N + 2, 0, none⟩)], .func (.func 47) #[] #[.pointer (some ⟨N + 2, 0, none⟩)], .func (.func 38) #[] #[.pointer (some ⟨G, 0, none⟩)], .func (.func 45) #[] #[.pointer (some ⟨N + 2, 0, none⟩)], .int .u64 (x.k0 : Nat), .int .i64 (x.k0 : Nat), .func (.func 45) #[] #[.pointer (some ⟨N + 2, 0, none⟩)], .int .u64 (x.n0 : Nat), .int .i64 (x.n0 : Nat), .func (.func 38) #[] #[.pointer (some ⟨G, 0, none⟩)], .agg #[.int .u64 (x.mb : Nat), .int .u64 (x.mt : Nat)], .func (.func 38) #[] #[.pointer (some ⟨G, 0, none⟩)], .agg #[.int .u64 (x.tb : Nat), .int .u64 (x.tt : Nat)], .func (.func 45) #[] #[.pointer (some ⟨N + 2, 0, none⟩)], undef, .func (.func 45) #[] #[.pointer (some ⟨N + 2, 0, none⟩)], undef, .slice (some ⟨b, o, none⟩) n c, .slice a5 (n - 54) (c - 54), undef, undef, undef, undef, undef, undef, undef, undef, undef, undef, undef, undef, undef, undef, undef, undef, undef, undef, undef, undef, undef], []⟩ ∧ Hid (RS N 34 b o n c l w1)) ?_ (fun m5 => ?_)
  · rintro l' A w1 rfl ⟨rfl, HS⟩ hHeld
    refine wpAnyH_ready (rs := [11, 17]) (by kernel_rfl) (by simp) ?_
    refine AllReadyH.cons rfl (fun K hK => ?_) (AllReadyH.cons rfl (fun K hK => ?_) AllReadyH.nil)
    · go_simp
      refine (getS HS.out 8 (by omega) (by omega) (by have := HH.out; omega)).mono ?_
      rintro e w_n ⟨rfl, hs0, hm0⟩
      rw [← HX.out.2.2.2.2.2.2.1]
      simp only []
      have HS2 : Hid (RS N 42 b o n c l w_n) := hs0
      refine hK.out _ _ (hHeld.trans hm0) (fun hHeldN => ?_)
      try simp only [Act.put, List.setIfInBounds_toArray, List.set_cons_zero, List.set_cons_succ, List.getElem_toArray, List.getElem_cons_zero, List.getElem_cons_succ]
      (have hHeldO := hHeld; clear hHeld; have hHeld := hHeldN)
      clear hs0 hm0
      exact m3 _ _ _ (by kernel_rfl) ⟨rfl, HS2⟩ hHeld
    · go_simp
      have hs : Below (World.heap w1).size w1 (w1.alloc (.cells #[.int .i64 0, .int .i64 0, .int .u64 0, .int .u64 0, .int .u64 0, .int .u64 0, .int .u64 0, .int .u64 0, .slice none 0 0] 28)) := (Below.refl _ _).alloc (Nat.le_refl _) _
      have hF : Hid (BlkG 28 w5 (World.heap w1).size [.int .i64 0, .int .i64 0, .int .u64 0, .int .u64 0, .int .u64 0, .int .u64 0, .int .u64 0, .int .u64 0, .slice none 0 0] (w1.alloc (.cells #[.int .i64 0, .int .i64 0, .int .u64 0, .int .u64 0, .int .u64 0, .int .u64 0, .int .u64 0, .int .u64 0, .slice none 0 0] 28))) := ⟨BlkAt.new w1 _, hHeld.size⟩
      have HS2 := Lib.hid (HS.out.later hs)
      refine hK.out _ _ (hHeld.trans (Mv.of_below hs (by have := HH.out; have := hHeld.size; omega))) (fun hHeldN => ?_)
      exact m4 _ _ _ (by kernel_rfl) ⟨_, rfl, HS2, hF⟩ hHeldN
  refine wpAnyH_cut #[true, true, true, true, true, true, true, true, true, false, true, false, true, false, true, true, false, true, false] 5 (fun A w1 => ∃ (g4 : Nat), A = ⟨#[.slice (some ⟨b, o, none⟩) n c, undef, .pointer (some ⟨wm.heap.size, 0, none⟩), .int .i64 0, .pointer (some ⟨G, 0, none⟩), .func (.func 47) #[] #[.pointer (some ⟨N + 2, 0, none⟩)], .func (.func 38) #[] #[.pointer (some ⟨G, 0, none⟩)], .pointer (some ⟨g4, 0, none⟩), undef, undef, .slice (some ⟨b, o, none⟩) n c, .int .i64 n, .bool (decide ((n : Int) < 54)), undef, .tuple #[.func (.func 45) #[] #[.pointer (some ⟨N + 2, 0, none⟩)], .func (.func 47) #[] #[.pointer (some ⟨N + 2, 0, none⟩)]], .slice (some ⟨b, o, none⟩) n c, .tuple #[.func (.func 45) #[] #[.pointer (some ⟨N + 2, 0, none⟩)], .func (.func 47) #[] #[.pointer (some ⟨N + 2, 0, none⟩)]], .func (.func 45) #[] #[.pointer (some ⟨N + 2, 0, none⟩)], .func (.func 47) #[] #[.pointer (some ⟨N + 2, 0, none⟩)], .func (.func 38) #[] #[.pointer (some ⟨G, 0, none⟩)], .func (.func 45) #[] #[.pointer (some ⟨N + 2, 0, none⟩)], .int .u64 (x.k0 : Nat), .int .i64 (x.k0 : Nat), .func (.func 45) #[] #[.pointer (some ⟨N + 2, 0, none⟩)], .int .u64 (x.n0 : Nat), .int .i64 (x.n0 : Nat), .func (.func 38) #[] #[.pointer (some ⟨G, 0, none⟩)], .agg #[.int .u64 (x.mb : Nat), .int .u64 (x.mt : Nat)], .func (.func 38) #[] #[.pointer (some ⟨G, 0, none⟩)], undef, .func (.func 45) #[] #[.pointer (some ⟨N + 2, 0, none⟩)], undef, .func (.func 45) #[] #[.pointer (some ⟨N + 2, 0, none⟩)], undef, .slice (some ⟨b, o, none⟩) n c, .slice a5 (n - 54) (c - 54), undef, undef, undef, undef, undef, undef, undef, undef, undef, undef, undef, undef, undef, undef, undef, undef, undef, undef, undef, undef, undef], []⟩ ∧ Hid (RS N 18 b o n c l w1) ∧ Hid (BlkG 28 w5 g4 [.int .i64 0, .int .i64 0, .int .u64 0, .int .u64 0, .int .u64 0, .int .u64 0, .int .u64 0, .int .u64 0, .slice none 0 0] w1)) ?_ (fun m6 => ?_)
  · rintro l' A w1 rfl ⟨g4, rfl, HS, HF⟩ hHeld
    refine wpAnyH_ready (rs := [9]) (by kernel_rfl) (by simp) ?_
    refine AllReadyH.cons rfl (fun K hK => ?_) AllReadyH.nil
    go_simp
    refine (tagS HS.out (by have := HH.out; omega) G (hHeld.blk HG.out HH.out.2.1)).mono ?_
    rintro e w_n ⟨rfl, hs0, hm0⟩
    rw [← HX.out.2.2.2.2.1, ← HX.out.2.2.2.2.2.1]
    simp only []
    have HS2 : Hid (RS N 34 b o n c l w_n) := hs0
    refine hK.out _ _ (hHeld.trans hm0) (fun hHeldN => ?_)
    try simp only [Act.put, List.setIfInBounds_toArray, List.set_cons_zero, List.set_cons_succ, List.getElem_toArray, List.getElem_cons_zero, List.getElem_cons_succ]
    have HF2 := Lib.hid (show BlkG 28 w5 g4 _ w_n from ⟨hm0.blk HF.out.1 (by have := HF.out.2; have := HH.out; omega), HF.out.2⟩)
    (have hHeldO := hHeld; clear hHeld; have hHeld := hHeldN)
    clear hs0 hm0
    exact m4 _ _ _ (by kernel_rfl) ⟨_, rfl, HS2, HF2⟩ hHeld
  refine wpAnyH_cut #[true, true, true, true, true, true, true, true, true, false, true, false, true, false, true, true, false, false, false] 6 (fun A w1 => A = ⟨#[.slice (some ⟨b, o, none⟩) n c, undef, .pointer (some ⟨wm.heap.size, 0, none⟩), .int .i64 0, .pointer (some ⟨G, 0, none⟩), .func (.func 47) #[] #[.pointer (some ⟨N + 2, 0, none⟩)], .func (.func 38) #[] #[.pointer (some ⟨G, 0, none⟩)], undef, undef, undef, .slice (some ⟨b, o, none⟩) n c, .int .i64 n, .bool (decide ((n : Int) < 54)), undef, .tuple #[.func (.func 45) #[] #[.pointer (some ⟨N + 2, 0, none⟩)], .func (.func 47) #[] #[.pointer (some ⟨N + 2, 0, none⟩)]], .slice (some ⟨b, o, none⟩) n c, .tuple #[.func (.func 45) #[] #[.pointer (some ⟨N + 2, 0, none⟩)], .func (.func 47) #[] #[.pointer (some ⟨N + 2, 0, none⟩)]], .func (.func 45) #[] #[.pointer (some ⟨N + 2, 0, none⟩)], .func (.func 47) #[] #[.pointer (some ⟨N + 2, 0, none⟩)], .func (.func 38) #[] #[.pointer (some ⟨G, 0, none⟩)], .func (.func 45) #[] #[.pointer (some ⟨N + 2, 0, none⟩)], .int .u64 (x.k0 : Nat), .int .i64 (x.k0 : Nat), .func (.func 45) #[] #[.pointer (some ⟨N + 2, 0, none⟩)], .int .u64 (x.n0 : Nat), .int .i64 (x.n0 : Nat), .func (.func 38) #[] #[.pointer (some ⟨G, 0, none⟩)], .agg #[.int .u64 (x.mb : Nat), .int .u64 (x.mt : Nat)], .func (.func 38) #[] #[.pointer (some ⟨G, 0, none⟩)], undef, .func (.func 45) #[] #[.pointer (some ⟨N + 2, 0, none⟩)], undef, .func (.func 45) #[] #[.pointer (some ⟨N + 2, 0, none⟩)], undef, .slice (some ⟨b, o, none⟩) n c, .slice a5 (n - 54) (c - 54), undef, undef, undef, undef, undef, undef, undef, undef, undef, undef, undef, undef, undef, undef, undef, undef, undef, undef, undef, undef, undef], []⟩ ∧ Hid (RS N 18 b o n c l w1)) ?_ (fun m7 => ?_)
  · rintro l' A w1 rfl ⟨rfl, HS⟩ hHeld
    refine wpAnyH_ready (rs := [9, 17]) (by kernel_rfl) (by simp) ?_
    refine AllReadyH.cons rfl (fun K hK => ?_) (AllReadyH.cons rfl (fun K hK => ?_) AllReadyH.nil)
    · go_simp
      refine (tagS HS.out (by have := HH.out; omega) G (hHeld.blk HG.out HH.out.2.1)).mono ?_
      rintro e w_n ⟨rfl, hs0, hm0⟩
      rw [← HX.out.2.2.2.2.1, ← HX.out.2.2.2.2.2.1]
      simp only []
      have HS2 : Hid (RS N 34 b o n c l w_n) := hs0
      refine hK.out _ _ (hHeld.trans hm0) (fun hHeldN => ?_)
      try simp only [Act.put, List.setIfInBounds_toArray, List.set_cons_zero, List.set_cons_succ, List.getElem_toArray, List.getElem_cons_zero, List.getElem_cons_succ]
      (have hHeldO := hHeld; clear hHeld; have hHeld := hHeldN)
      clear hs0 hm0
      exact m5 _ _ _ (by kernel_rfl) ⟨rfl, HS2⟩ hHeld
    · go_simp
      have hs : Below (World.heap w1).size w1 (w1.alloc (.cells #[.int .i64 0, .int .i64 0, .int .u64 0, .int .u64 0, .int .u64 0, .int .u64 0, .int .u64 0, .int .u64 0, .slice none 0 0] 28)) := (Below.refl _ _).alloc (Nat.le_refl _) _
      have hF : Hid (BlkG 28 w5 (World.heap w1).size [.int .i64 0, .int .i64 0, .int .u64 0, .int .u64 0, .int .u64 0, .int .u64 0, .int .u64 0, .int .u64 0, .slice none 0 0] (w1.alloc (.cells #[.int .i64 0, .int .i64 0, .int .u64 0, .int .u64 0, .int .u64 0, .int .u64 0, .int .u64 0, .int .u64 0, .slice none 0 0] 28))) := ⟨BlkAt.new w1 _, hHeld.size⟩
      have HS2 := Lib.hid (HS.out.later hs)
      refine hK.out _ _ (hHeld.trans (Mv.of_below hs (by have := HH.out; have := hHeld.size; omega))) (fun hHeldN => ?_)
      exact m6 _ _ _ (by kernel_rfl) ⟨_, rfl, HS2, hF⟩ hHeldN
  refine wpAnyH_cut #[true, true, true, true, true, true, true, false, true, false, true, false, true, false, true, true, false, true, false] 6 (fun A w1 => ∃ (g4 : Nat), A = ⟨#[.slice (some ⟨b, o, none⟩) n c, undef, .pointer (some ⟨wm.heap.size, 0, none⟩), .int .i64 0, .pointer (some ⟨G, 0, none⟩), .func (.func 47) #[] #[.pointer (some ⟨N + 2, 0, none⟩)], .func (.func 38) #[] #[.pointer (some ⟨G, 0, none⟩)], .pointer (some ⟨g4, 0, none⟩), undef, undef, .slice (some ⟨b, o, none⟩) n c, .int .i64 n, .bool (decide ((n : Int) < 54)), undef, .tuple #[.func (.func 45) #[] #[.pointer (some ⟨N + 2, 0, none⟩)], .func (.func 47) #[] #[.pointer (some ⟨N + 2, 0, none⟩)]], .slice (some ⟨b, o, none⟩) n c, .tuple #[.func (.func 45) #[] #[.pointer (some ⟨N + 2, 0, none⟩)], .func (.func 47) #[] #[.pointer (some ⟨N + 2, 0, none⟩)]], .func (.func 45) #[] #[.pointer (some ⟨N + 2, 0, none⟩)], .func (.func 47) #[] #[.pointer (some ⟨N + 2, 0, none⟩)], .func (.func 38) #[] #[.pointer (some ⟨G, 0, none⟩)], .func (.func 45) #[] #[.pointer (some ⟨N + 2, 0, none⟩)], .int .u64 (x.k0 : Nat), .int .i64 (x.k0 : Nat), .func (.func 45) #[] #[.pointer (some ⟨N + 2, 0, none⟩)], .int .u64 (x.n0 : Nat), .int .i64 (x.n0 : Nat), .func (.func 38) #[] #[.pointer (some ⟨G, 0, none⟩)], undef, .func (.func 38) #[] #[.pointer (some ⟨G, 0, none⟩)], undef, .func (.func 45) #[] #[.pointer (some ⟨N + 2, 0, none⟩)], undef, .func (.func 45) #[] #[.pointer (some ⟨N + 2, 0, none⟩)], undef, .slice (some ⟨b, o, none⟩) n c, .slice a5 (n - 54) (c - 54), undef, undef, undef, undef, undef, undef, undef, undef, undef, undef, undef, undef, undef, undef, undef, undef, undef, undef, undef, undef, undef], []⟩ ∧ Hid (RS N 2 b o n c l w1) ∧ Hid (BlkG 28 w5 g4 [.int .i64 0, .int .i64 0, .int .u64 0, .int .u64 0, .int .u64 0, .int .u64 0, .int .u64 0, .int .u64 0, .slice none 0 0] w1)) ?_ (fun m8 => ?_)
  · rintro l' A w1 rfl ⟨g4, rfl, HS, HF⟩ hHeld
    refine wpAnyH_ready (rs := [7]) (by kernel_rfl) (by simp) ?_
    refine AllReadyH.cons rfl (fun K hK => ?_) AllReadyH.nil
    go_simp
    refine (tagS HS.out (by have := HH.out; omega) G (hHeld.blk HG.out HH.out.2.1)).mono ?_
    rintro e w_n ⟨rfl, hs0, hm0⟩
    rw [← HX.out.2.2.1, ← HX.out.2.2.2.1]
    simp only []
    have HS2 : Hid (RS N 18 b o n c l w_n) := hs0
    refine hK.out _ _ (hHeld.trans hm0) (fun hHeldN => ?_)
    try simp only [Act.put, List.setIfInBounds_toArray, List.set_cons_zero, List.set_cons_succ, List.getElem_toArray, List.getElem_cons_zero, List.getElem_cons_succ]
    have HF2 := Lib.hid (show BlkG 28 w5 g4 _ w_n from ⟨hm0.blk HF.out.1 (by have := HF.out.2; have := HH.out; omega), HF.out.2⟩)
    (have hHeldO := hHeld; clear hHeld; have hHeld := hHeldN)
    clear hs0 hm0
    exact m6 _ _ _ (by kernel_rfl) ⟨_, rfl, HS2, HF2⟩ hHeld
  refine wpAnyH_cut #[true, true, true, true, true, true, true, false, true, false, true, false, true, false, true, true, false, false, false] 7 (fun A w1 => A = ⟨#[.slice (some ⟨b, o, none⟩) n c, undef, .pointer (some ⟨wm.heap.size, 0, none⟩), .int .i64 0, .pointer (some ⟨G, 0, none⟩), .func (.func 47) #[] #[.pointer (some ⟨N + 2, 0, none⟩)], .func (.func 38) #[] #[.pointer (some ⟨G, 0, none⟩)], undef, undef, undef, .slice (some ⟨b, o, none⟩) n c, .int .i64 n, .bool (decide ((n : Int) < 54)), undef, .tuple #[.func (.func 45) #[] #[.pointer (some ⟨N + 2, 0, none⟩)], .func (.func 47) #[] #[.pointer (some ⟨N + 2, 0, none⟩)]], .slice (some ⟨b, o, none⟩) n c, .tuple #[.func (.func 45) #[] #[.pointer (some ⟨N + 2, 0, none⟩)], .func (.func 47) #[] #[.pointer (some ⟨N + 2, 0, none⟩)]], .func (.func 45) #[] #[.pointer (some ⟨N + 2, 0, none⟩)], .func (.func 47) #[] #[.pointer (some ⟨N + 2, 0, none⟩)], .func (.func 38) #[] #[.pointer (some ⟨G, 0, none⟩)], .func (.func 45) #[] #[.pointer (some ⟨N + 2, 0, none⟩)], .int .u64 (x.k0 : Nat), .int .i64 (x.k0 : Nat), .func (.func 45) #[] #[.pointer (some ⟨N + 2, 0, none⟩)], .int .u64 (x.n0 : Nat), .int .i64 (x.n0 : Nat), .func (.func 38) #[] #[.pointer (some ⟨G, 0, none⟩)], undef, .func (.func 38) #[] #[.pointer (some ⟨G, 0, none⟩)], undef, .func (.func 45) #[] #[.pointer (some ⟨N + 2, 0, none⟩)], undef, .func (.func 45) #[] #[.pointer (some ⟨N + 2, 0, none⟩)], undef, .slice (some ⟨b, o, none⟩) n c, .slice a5 (n - 54) (c - 54), undef, undef, undef, undef, undef, undef, undef, undef, undef, undef, undef, undef, undef, undef, undef, undef, undef, undef, undef, undef, undef], []⟩ ∧ Hid (RS N 2 b o n c l w1)) ?_ (fun m9 => ?_)
  · rintro l' A w1 rfl ⟨rfl, HS⟩ hHeld
    refine wpAnyH_ready (rs := [7, 17]) (by kernel_rfl) (by simp) ?_
    refine AllReadyH.cons rfl (fun K hK => ?_) (AllReadyH.cons rfl (fun K hK => ?_) AllReadyH.nil)
    · go_simp
      refine (tagS HS.out (by have := HH.out; omega) G (hHeld.blk HG.out HH.out.2.1)).mono ?_
      rintro e w_n ⟨rfl, hs0, hm0⟩
      rw [← HX.out.2.2.1, ← HX.out.2.2.2.1]
      simp only []
      have HS2 : Hid (RS N 18 b o n c l w_n) := hs0
      refine hK.out _ _ (hHeld.trans hm0) (fun hHeldN => ?_)
      try simp only [Act.put, List.setIfInBounds_toArray, List.set_cons_zero, List.set_cons_succ, List.getElem_toArray, List.getElem_cons_zero, List.getElem_cons_succ]
      (have hHeldO := hHeld; clear hHeld; have hHeld := hHeldN)
      clear hs0 hm0
      exact m7 _ _ _ (by kernel_rfl) ⟨rfl, HS2⟩ hHeld
    · go_simp
      have hs : Below (World.heap w1).size w1 (w1.alloc (.cells #[.int .i64 0, .int .i64 0, .int .u64 0, .int .u64 0, .int .u64 0, .int .u64 0, .int .u64 0, .int .u64 0, .slice none 0 0] 28)) := (Below.refl _ _).alloc (Nat.le_refl _) _
      have hF : Hid (BlkG 28 w5 (World.heap w1).size [.int .i64 0, .int .i64 0, .int .u64 0, .int .u64 0, .int .u64 0, .int .u64 0, .int .u64 0, .int .u64 0, .slice none 0 0] (w1.alloc (.cells #[.int .i64 0, .int .i64 0, .int .u64 0, .int .u64 0, .int .u64 0, .int .u64 0, .int .u64 0, .int .u64 0, .slice none 0 0] 28))) := ⟨BlkAt.new w1 _, hHeld.size⟩
      have HS2 := Lib.hid (HS.out.later hs)
      refine hK.out _ _ (hHeld.trans (Mv.of_below hs (by have := HH.out; have := hHeld.size; omega))) (fun hHeldN => ?_)
      exact m8 _ _ _ (by kernel_rfl) ⟨_, rfl, HS2, hF⟩ hHeldN
  refine wpAnyH_cut #[true, true, true, true, false, false, true, false, true, false, true, false, true, false, true, true, false, true, false] 8 (fun A w1 => ∃ (g4 : Nat), A = ⟨#[.slice (some ⟨b, o, none⟩) n c, undef, .pointer (some ⟨wm.heap.size, 0, none⟩), .int .i64 0, .pointer (some ⟨G, 0, none⟩), .func (.func 47) #[] #[.pointer (some ⟨N + 2, 0, none⟩)], .func (.func 38) #[] #[.pointer (some ⟨G, 0, none⟩)], .pointer (some ⟨g4, 0, none⟩), undef, undef, .slice (some ⟨b, o, none⟩) n c, .int .i64 n, .bool (decide ((n : Int) < 54)), undef, .tuple #[.func (.func 45) #[] #[.pointer (some ⟨N + 2, 0, none⟩)], .func (.func 47) #[] #[.pointer (some ⟨N + 2, 0, none⟩)]], .slice (some ⟨b, o, none⟩) n c, .tuple #[.func (.func 45) #[] #[.pointer (some ⟨N + 2, 0, none⟩)], .func (.func 47) #[] #[.pointer (some ⟨N + 2, 0, none⟩)]], .func (.func 45) #[] #[.pointer (some ⟨N + 2, 0, none⟩)], .func (.func 47) #[] #[.pointer (some ⟨N + 2, 0, none⟩)], .func (.func 38) #[] #[.pointer (some ⟨G, 0, none⟩)], .func (.func 45) #[] #[.pointer (some ⟨N + 2, 0, none⟩)], .int .u64 (x.k0 : Nat), .int .i64 (x.k0 : Nat), .func (.func 45) #[] #[.pointer (some ⟨N + 2, 0, none⟩)], undef, undef, .func (.func 38) #[] #[.pointer (some ⟨G, 0, none⟩)], undef, .func (.func 38) #[] #[.pointer (some ⟨G, 0, none⟩)], undef, .func (.func 45) #[] #[.pointer (some ⟨N + 2, 0, none⟩)], undef, .func (.func 45) #[] #[.pointer (some ⟨N + 2, 0, none⟩)], undef, .slice (some ⟨b, o, none⟩) n c, .slice a5 (n - 54) (c - 54), undef, undef, undef, undef, undef, undef, undef, undef, undef, undef, undef, undef, undef, undef, undef, undef, undef, undef, undef, undef, undef], []⟩ ∧ Hid (RS N 1 b o n c l w1) ∧ Hid (BlkG 28 w5 g4 [.int .i64 0, .int .i64 0, .int .u64 0, .int .u64 0, .int .u64 0, .int .u64 0, .int .u64 0, .int .u64 0, .slice none 0 0] w1)) ?_ (fun m10 => ?_)
  · rintro l' A w1 rfl ⟨g4, rfl, HS, HF⟩ hHeld
    refine wpAnyH_ready (rs := [4]) (by kernel_rfl) (by simp) ?_
    refine AllReadyH.cons rfl (fun K hK => ?_) AllReadyH.nil
    go_simp
    refine (getS HS.out 1 (by omega) (by omega) (by have := HH.out; omega)).mono ?_
    rintro e w_n ⟨rfl, hs0, hm0⟩
    rw [← HX.out.2.1]
    simp only []
    have HS2 : Hid (RS N 2 b o n c l w_n) := hs0
    refine hK.out _ _ (hHeld.trans hm0) (fun hHeldN => ?_)
    try simp only [Act.put, List.setIfInBounds_toArray, List.set_cons_zero, List.set_cons_succ, List.getElem_toArray, List.getElem_cons_zero, List.getElem_cons_succ]
    have HF2 := Lib.hid (show BlkG 28 w5 g4 _ w_n from ⟨hm0.blk HF.out.1 (by have := HF.out.2; have := HH.out; omega), HF.out.2⟩)
    (have hHeldO := hHeld; clear hHeld; have hHeld := hHeldN)
    clear hs0 hm0
    (refine wpAnyH_take (i := 5) (v := ?_) rfl (by kernel_rfl) (by kernel_rfl) (by kernel_rfl) (fun _ _ _ h => h) (Or.inl ⟨by rfl, ?_⟩) hHeld ?_; rotate_left; (focus (intro w hSw; (try dsimp only at hSw); go_simp; try with_reducible rfl)); (try simp only [Act.put, List.setIfInBounds_toArray, List.set_cons_zero, List.set_cons_succ, List.getElem_toArray, List.getElem_cons_zero, List.getElem_cons_succ]))
    exact m8 _ _ _ (by kernel_rfl) ⟨_, rfl, HS2, HF2⟩ hHeld
  refine wpAnyH_cut #[true, true, true, true, false, false, true, false, true, false, true, false, true, false, true, true, false, false, false] 9 (fun A w1 => A = ⟨#[.slice (some ⟨b, o, none⟩) n c, undef, .pointer (some ⟨wm.heap.size, 0, none⟩), .int .i64 0, .pointer (some ⟨G, 0, none⟩), .func (.func 47) #[] #[.pointer (some ⟨N + 2, 0, none⟩)], .func (.func 38) #[] #[.pointer (some ⟨G, 0, none⟩)], undef, undef, undef, .slice (some ⟨b, o, none⟩) n c, .int .i64 n, .bool (decide ((n : Int) < 54)), undef, .tuple #[.func (.func 45) #[] #[.pointer (some ⟨N + 2, 0, none⟩)], .func (.func 47) #[] #[.pointer (some ⟨N + 2, 0, none⟩)]], .slice (some ⟨b, o, none⟩) n c, .tuple #[.func (.func 45) #[] #[.pointer (some ⟨N + 2, 0, none⟩)], .func (.func 47) #[] #[.pointer (some ⟨N + 2, 0, none⟩)]], .func (.func 45) #[] #[.pointer (some ⟨N + 2, 0, none⟩)], .func (.func 47) #[] #[.pointer (some ⟨N + 2, 0, none⟩)], .func (.func 38) #[] #[.pointer (some ⟨G, 0, none⟩)], .func (.func 45) #[] #[.pointer (some ⟨N + 2, 0, none⟩)], .int .u64 (x.k0 : Nat), .int .i64 (x.k0 : Nat), .func (.func 45) #[] #[.pointer (some ⟨N + 2, 0, none⟩)], undef, undef, .func (.func 38) #[] #[.pointer (some ⟨G, 0, none⟩)], undef, .func (.func 38) #[] #[.pointer (some ⟨G, 0, none⟩)], undef, .func (.func 45) #[] #[.pointer (some ⟨N + 2, 0, none⟩)], undef, .func (.func 45) #[] #[.pointer (some ⟨N + 2, 0, none⟩)], undef, .slice (some ⟨b, o, none⟩) n c, .slice a5 (n - 54) (c - 54), undef, undef, undef, undef, undef, undef, undef, undef, undef, undef, undef, undef, undef, undef, undef, undef, undef, undef, undef, undef, undef], []⟩ ∧ Hid (RS N 1 b o n c l w1)) ?_ (fun m11 => ?_)
  · rintro l' A w1 rfl ⟨rfl, HS⟩ hHeld
    refine wpAnyH_ready (rs := [4, 17]) (by kernel_rfl) (by simp) ?_
    refine AllReadyH.cons rfl (fun K hK => ?_) (AllReadyH.cons rfl (fun K hK => ?_) AllReadyH.nil)
    · go_simp
      refine (getS HS.out 1 (by omega) (by omega) (by have := HH.out; omega)).mono ?_
      rintro e w_n ⟨rfl, hs0, hm0⟩
      rw [← HX.out.2.1]
      simp only []
      have HS2 : Hid (RS N 2 b o n c l w_n) := hs0
      refine hK.out _ _ (hHeld.trans hm0) (fun hHeldN => ?_)
      try simp only [Act.put, List.setIfInBounds_toArray, List.set_cons_zero, List.set_cons_succ, List.getElem_toArray, List.getElem_cons_zero, List.getElem_cons_succ]
      (have hHeldO := hHeld; clear hHeld; have hHeld := hHeldN)
      clear hs0 hm0
      (refine wpAnyH_take (i := 5) (v := ?_) rfl (by kernel_rfl) (by kernel_rfl) (by kernel_rfl) (fun _ _ _ h => h) (Or.inl ⟨by rfl, ?_⟩) hHeld ?_; rotate_left; (focus (intro w hSw; (try dsimp only at hSw); go_simp; try with_reducible rfl)); (try simp only [Act.put, List.setIfInBounds_toArray, List.set_cons_zero, List.set_cons_succ, List.getElem_toArray, List.getElem_cons_zero, List.getElem_cons_succ]))
      exact m9 _ _ _ (by kernel_rfl) ⟨rfl, HS2⟩ hHeld
    · go_simp
      have hs : Below (World.heap w1).size w1 (w1.alloc (.cells #[.int .i64 0, .int .i64 0, .int .u64 0, .int .u64 0, .int .u64 0, .int .u64 0, .int .u64 0, .int .u64 0, .slice none 0 0] 28)) := (Below.refl _ _).alloc (Nat.le_refl _) _
      have hF : Hid (BlkG 28 w5 (World.heap w1).size [.int .i64 0, .int .i64 0, .int .u64 0, .int .u64 0, .int .u64 0, .int .u64 0, .int .u64 0, .int .u64 0, .slice none 0 0] (w1.alloc (.cells #[.int .i64 0, .int .i64 0, .int .u64 0, .int .u64 0, .int .u64 0, .int .u64 0, .int .u64 0, .int .u64 0, .slice none 0 0] 28))) := ⟨BlkAt.new w1 _, hHeld.size⟩
      have HS2 := Lib.hid (HS.out.later hs)
      refine hK.out _ _ (hHeld.trans (Mv.of_below hs (by have := HH.out; have := hHeld.size; omega))) (fun hHeldN => ?_)
      exact m10 _ _ _ (by kernel_rfl) ⟨_, rfl, HS2, hF⟩ hHeldN
  refine wpAnyH_cut #[true, false, false, true, false, false, true, false, true, false, true, false, true, false, true, true, false, true, false] 10 (fun A w1 => ∃ (g4 : Nat), A = ⟨#[.slice (some ⟨b, o, none⟩) n c, undef, .pointer (some ⟨wm.heap.size, 0, none⟩), .int .i64 0, .pointer (some ⟨G, 0, none⟩), .func (.func 47) #[] #[.pointer (some ⟨N + 2, 0, none⟩)], .func (.func 38) #[] #[.pointer (some ⟨G, 0, none⟩)], .pointer (some ⟨g4, 0, none⟩), undef, undef, .slice (some ⟨b, o, none⟩) n c, .int .i64 n, .bool (decide ((n : Int) < 54)), undef, .tuple #[.func (.func 45) #[] #[.pointer (some ⟨N + 2, 0, none⟩)], .func (.func 47) #[] #[.pointer (some ⟨N + 2, 0, none⟩)]], .slice (some ⟨b, o, none⟩) n c, .tuple #[.func (.func 45) #[] #[.pointer (some ⟨N + 2, 0, none⟩)], .func (.func 47) #[] #[.pointer (some ⟨N + 2, 0, none⟩)]], .func (.func 45) #[] #[.pointer (some ⟨N + 2, 0, none⟩)], .func (.func 47) #[] #[.pointer (some ⟨N + 2, 0, none⟩)], .func (.func 38) #[] #[.pointer (some ⟨G, 0, none⟩)], .func (.func 45) #[] #[.pointer (some ⟨N + 2, 0, none⟩)], undef, undef, .func (.func 45) #[] #[.pointer (some ⟨N + 2, 0, none⟩)], undef, undef, .func (.func 38) #[] #[.pointer (some ⟨G, 0, none⟩)], undef, .func (.func 38) #[] #[.pointer (some ⟨G, 0, none⟩)], undef, .func (.func 45) #[] #[.pointer (some ⟨N + 2, 0, none⟩)], undef, .func (.func 45) #[] #[.pointer (some ⟨N + 2, 0, none⟩)], undef, .slice (some ⟨b, o, none⟩) n c, .slice a5 (n - 54) (c - 54), undef, undef, undef, undef, undef, undef, undef, undef, undef, undef, undef, undef, undef, undef, undef, undef, undef, undef, undef, undef, undef], []⟩ ∧ Hid (RS N 0 b o n c l w1) ∧ Hid (BlkG 28 w5 g4 [.int .i64 0, .int .i64 0, .int .u64 0, .int .u64 0, .int .u64 0, .int .u64 0, .int .u64 0, .int .u64 0, .slice none 0 0] w1)) ?_ (fun m12 => ?_)
  · rintro l' A w1 rfl ⟨g4, rfl, HS, HF⟩ hHeld
    refine wpAnyH_ready (rs := [1]) (by kernel_rfl) (by simp) ?_
    refine AllReadyH.cons rfl (fun K hK => ?_) AllReadyH.nil
    go_simp
    refine (getS HS.out 1 (by omega) (by omega) (by have := HH.out; omega)).mono ?_
    rintro e w_n ⟨rfl, hs0, hm0⟩
    rw [← HX.out.1]
    simp only []
    have HS2 : Hid (RS N 1 b o n c l w_n) := hs0
    refine hK.out _ _ (hHeld.trans hm0) (fun hHeldN => ?_)
    try simp only [Act.put, List.setIfInBounds_toArray, List.set_cons_zero, List.set_cons_succ, List.getElem_toArray, List.getElem_cons_zero, List.getElem_cons_succ]
    have HF2 := Lib.hid (show BlkG 28 w5 g4 _ w_n from ⟨hm0.blk HF.out.1 (by have := HF.out.2; have := HH.out; omega), HF.out.2⟩)
    (have hHeldO := hHeld; clear hHeld; have hHeld := hHeldN)
    clear hs0 hm0
    (refine wpAnyH_take (i := 2) (v := ?_) rfl (by kernel_rfl) (by kernel_rfl) (by kernel_rfl) (fun _ _ _ h => h) (Or.inl ⟨by rfl, ?_⟩) hHeld ?_; rotate_left; (focus (intro w hSw; (try dsimp only at hSw); go_simp; try with_reducible rfl)); (try simp only [Act.put, List.setIfInBounds_toArray, List.set_cons_zero, List.set_cons_succ, List.getElem_toArray, List.getElem_cons_zero, List.getElem_cons_succ]))
    exact m10 _ _ _ (by kernel_rfl) ⟨_, rfl, HS2, HF2⟩ hHeld
  refine wpAnyH_cut #[true, false, false, true, false, false, true, false, true, false, true, false, true, false, true, true, false, false, false] 11 (fun A w1 => A = ⟨#[.slice (some ⟨b, o, none⟩) n c, undef, .pointer (some ⟨wm.heap.size, 0, none⟩), .int .i64 0, .pointer (some ⟨G, 0, none⟩), .func (.func 47) #[] #[.pointer (some ⟨N + 2, 0, none⟩)], .func (.func 38) #[] #[.pointer (some ⟨G, 0, none⟩)], undef, undef, undef, .slice (some ⟨b, o, none⟩) n c, .int .i64 n, .bool (decide ((n : Int) < 54)), undef, .tuple #[.func (.func 45) #[] #[.pointer (some ⟨N + 2, 0, none⟩)], .func (.func 47) #[] #[.pointer (some ⟨N + 2, 0, none⟩)]], .slice (some ⟨b, o, none⟩) n c, .tuple #[.func (.func 45) #[] #[.pointer (some ⟨N + 2, 0, none⟩)], .func (.func 47) #[] #[.pointer (some ⟨N + 2, 0, none⟩)]], .func (.func 45) #[] #[.pointer (some ⟨N + 2, 0, none⟩)], .func (.func 47) #[] #[.pointer (some ⟨N + 2, 0, none⟩)], .func (.func 38) #[] #[.pointer (some ⟨G, 0, none⟩)], .func (.func 45) #[] #[.pointer (some ⟨N + 2, 0, none⟩)], undef, undef, .func (.func 45) #[] #[.pointer (some ⟨N + 2, 0, none⟩)], undef, undef, .func (.func 38) #[] #[.pointer (some ⟨G, 0, none⟩)], undef, .func (.func 38) #[] #[.pointer (some ⟨G, 0, none⟩)], undef, .func (.func 45) #[] #[.pointer (some ⟨N + 2, 0, none⟩)], undef, .func (.func 45) #[] #[.pointer (some ⟨N + 2, 0, none⟩)], undef, .slice (some ⟨b, o, none⟩) n c, .slice a5 (n - 54) (c - 54), undef, undef, undef, undef, undef, undef, undef, undef, undef, undef, undef, undef, undef, undef, undef, undef, undef, undef, undef, undef, undef], []⟩ ∧ Hid (RS N 0 b o n c l w1)) ?_ (fun m13 => ?_)
  · rintro l' A w1 rfl ⟨rfl, HS⟩ hHeld
    refine wpAnyH_ready (rs := [1, 17]) (by kernel_rfl) (by simp) ?_
    refine AllReadyH.cons rfl (fun K hK => ?_) (AllReadyH.cons rfl (fun K hK => ?_) AllReadyH.nil)
    · go_simp
      refine (getS HS.out 1 (by omega) (by omega) (by have := HH.out; omega)).mono ?_
      rintro e w_n ⟨rfl, hs0, hm0⟩
      rw [← HX.out.1]
      simp only []
      have HS2 : Hid (RS N 1 b o n c l w_n) := hs0
      refine hK.out _ _ (hHeld.trans hm0) (fun hHeldN => ?_)
      try simp only [Act.put, List.setIfInBounds_toArray, List.set_cons_zero, List.set_cons_succ, List.getElem_toArray, List.getElem_cons_zero, List.getElem_cons_succ]
      (have hHeldO := hHeld; clear hHeld; have hHeld := hHeldN)
      clear hs0 hm0
      (refine wpAnyH_take (i := 2) (v := ?_) rfl (by kernel_rfl) (by kernel_rfl) (by kernel_rfl) (fun _ _ _ h => h) (Or.inl ⟨by rfl, ?_⟩) hHeld ?_; rotate_left; (focus (intro w hSw; (try dsimp only at hSw); go_simp; try with_reducible rfl)); (try simp only [Act.put, List.setIfInBounds_toArray, List.set_cons_zero, List.set_cons_succ, List.getElem_toArray, List.getElem_cons_zero, List.getElem_cons_succ]))
      exact m11 _ _ _ (by kernel_rfl) ⟨rfl, HS2⟩ hHeld
    · go_simp
      have hs : Below (World.heap w1).size w1 (w1.alloc (.cells #[.int .i64 0, .int .i64 0, .int .u64 0, .int .u64 0, .int .u64 0, .int .u64 0, .int .u64 0, .int .u64 0, .slice none 0 0] 28)) := (Below.refl _ _).alloc (Nat.le_refl _) _
      have hF : Hid (BlkG 28 w5 (World.heap w1).size [.int .i64 0, .int .i64 0, .int .u64 0, .int .u64 0, .int .u64 0, .int .u64 0, .int .u64 0, .int .u64 0, .slice none 0 0] (w1.alloc (.cells #[.int .i64 0, .int .i64 0, .int .u64 0, .int .u64 0, .int .u64 0, .int .u64 0, .int .u64 0, .int .u64 0, .slice none 0 0] 28))) := ⟨BlkAt.new w1 _, hHeld.size⟩
      have HS2 := Lib.hid (HS.out.later hs)
      refine hK.out _ _ (hHeld.trans (Mv.of_below hs (by have := HH.out; have := hHeld.size; omega))) (fun hHeldN => ?_)
      exact m12 _ _ _ (by kernel_rfl) ⟨_, rfl, HS2, hF⟩ hHeldN
  (refine wpAnyH_take (i := 0) (v := ?_) rfl (by kernel_rfl) (by kernel_rfl) (by kernel_rfl) (fun _ _ _ h => h) (Or.inl ⟨by rfl, ?_⟩) hHeld ?_; rotate_left; (focus (intro w hSw; (try dsimp only at hSw); go_simp; (have hcc := (hSw.blk HG.out HH.out.2.1).cell (j := 0) rfl; unfold gtF at hcc; go_simp; try with_reducible rfl))); (try simp only [Act.put, List.setIfInBounds_toArray, List.set_cons_zero, List.set_cons_succ, List.getElem_toArray, List.getElem_cons_zero]))
  (refine wpAnyH_take (i := 3) (v := ?_) rfl (by kernel_rfl) (by kernel_rfl) (by kernel_rfl) (fun _ _ _ h => h) (Or.inl ⟨by rfl, ?_⟩) hHeld ?_; rotate_left; (focus (intro w hSw; (try dsimp only at hSw); go_simp; (have hcc := (hSw.blk HG.out HH.out.2.1).cell (j := 0) rfl; unfold gtF at hcc; go_simp; try with_reducible rfl))); (try simp only [Act.put, List.setIfInBounds_toArray, List.set_cons_zero, List.set_cons_succ, List.getElem_toArray, List.getElem_cons_zero, List.getElem_cons_succ]))
  (refine wpAnyH_take (i := 10) (v := ?_) rfl (by kernel_rfl) (by kernel_rfl) (by kernel_rfl) (fun _ _ _ h => h) (Or.inl ⟨by rfl, ?_⟩) hHeld ?_; rotate_left; (focus (intro w hSw; (try dsimp only at hSw); go_simp; (have hcc := (hSw.blk HG.out HH.out.2.1).cell (j := 0) rfl; unfold gtF at hcc; go_simp; try with_reducible rfl))); (try simp only [Act.put, List.setIfInBounds_toArray, List.set_cons_zero, List.set_cons_succ, List.getElem_toArray, List.getElem_cons_zero, List.getElem_cons_succ]))
  (refine wpAnyH_take (i := 12) (v := ?_) rfl (by kernel_rfl) (by kernel_rfl) (by kernel_rfl) (fun _ _ _ h => h) (Or.inl ⟨by rfl, ?_⟩) hHeld ?_; rotate_left; (focus (intro w hSw; (try dsimp only at hSw); go_simp; (have hcc := (hSw.blk HG.out HH.out.2.1).cell (j := 0) rfl; unfold gtF at hcc; go_simp; try with_reducible rfl))); (try simp only [Act.put, List.setIfInBounds_toArray, List.set_cons_zero, List.set_cons_succ, List.getElem_toArray, List.getElem_cons_zero, List.getElem_cons_succ]))
  (refine wpAnyH_take (i := 6) (v := ?_) rfl (by kernel_rfl) (by kernel_rfl) (by kernel_rfl) (fun _ _ _ h => h) (Or.inl ⟨by rfl, ?_⟩) hHeld ?_; rotate_left; (focus (intro w hSw; (try dsimp only at hSw); go_simp; try with_reducible rfl)); (try simp only [Act.put, List.setIfInBounds_toArray, List.set_cons_zero, List.set_cons_succ, List.getElem_toArray, List.getElem_cons_zero, List.getElem_cons_succ])); (refine wpAnyH_take (i := 8) (v := ?_) rfl (by kernel_rfl) (by kernel_rfl) (by kernel_rfl) (fun _ _ _ h => h) (Or.inl ⟨by rfl, ?_⟩) hHeld ?_; rotate_left; (focus (intro w hSw; (try dsimp only at hSw); go_simp; try with_reducible rfl)); (try simp only [Act.put, List.setIfInBounds_toArray, List.set_cons_zero, List.set_cons_succ, List.getElem_toArray, List.getElem_cons_zero, List.getElem_cons_succ])); (refine wpAnyH_take (i := 14) (v := ?_) rfl (by kernel_rfl) (by kernel_rfl) (by kernel_rfl) (fun _ _ _ h => h) (Or.inl ⟨by rfl, ?_⟩) hHeld ?_; rotate_left; (focus (intro w hSw; (try dsimp only at hSw); go_simp; try with_reducible rfl)); (try simp only [Act.put, List.setIfInBounds_toArray, List.set_cons_zero, List.set_cons_succ, List.getElem_toArray, List.getElem_cons_zero, List.getElem_cons_succ])); (refine wpAnyH_take (i := 15) (v := ?_) rfl (by kernel_rfl) (by kernel_rfl) (by kernel_rfl) (fun _ _ _ h => h) (Or.inl ⟨by rfl, ?_⟩) hHeld ?_; rotate_left; (focus (intro w hSw; (try dsimp only at hSw); go_simp; try with_reducible rfl)); (try simp only [Act.put, List.setIfInBounds_toArray, List.set_cons_zero, List.set_cons_succ, List.getElem_toArray, List.getElem_cons_zero, List.getElem_cons_succ]))
  exact m13 _ _ _ (by kernel_rfl) ⟨rfl, HS⟩ hHeld
theorem of6W_any (v : Value) (l : List UInt8) (wm : World) (hv : Bytes wm v l) (hl : l.length ≤ 9000) : Calls Try.prog 14 #[v] wm (OfA l wm) := by
  rcases Nat.lt_or_ge l.length 54 with h | h
  · exact of6_short v l wm hv h
  · exact of6_long v l wm hv h hl
end Go.Proofs.Ytcahfapffhcceaa
